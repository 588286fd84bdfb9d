/- Puzzles read from a text, by the model. -/
import Derived.Test.YtahcfjpplkemdaaDoorPZQ
import Derived.Test.YtahcfjpplkemdaaDoorPZL
import Derived.Test.YtahcfjpplkemdaaDoorT3
import Derived.Deep.Cut
import Derived.Deep.CutRange
import Derived.Deep.RegionHeld
namespace Go.Proofs.YtahcfjpplkemdaaDoor
open Go.RowKit
set_option linter.unusedVariables false
set_option linter.unusedSimpArgs false
/-- what is kept of the boxes of the call: the result as it is at first, the puzzle that is read -/
def ZX (w : World) (wv : Int) (Q : Nat) (v : Value) (W : World) : Prop :=
  ((W.cell? ⟨w.heap.size, 0, none⟩ = some (.int .i64 0) ∧ W.cell? ⟨w.heap.size, 1, none⟩ = some (.slice none 0 0)) ∧
   (W.frozen? ⟨w.heap.size, 0, none⟩ = false ∧ W.frozen? ⟨w.heap.size, 1, none⟩ = false) ∧
   (W.cell? ⟨Q, 0, none⟩ = some (.int .i64 wv) ∧ W.cell? ⟨Q, 1, none⟩ = some v) ∧
   (W.frozen? ⟨Q, 0, none⟩ = false ∧ W.frozen? ⟨Q, 1, none⟩ = false)) ∧
  (w.heap.size < Q ∧ Q < W.heap.size) ∧ Below w.heap.size w W
theorem ZX.under {w u v : World} {wv : Int} {Q C : Nat} {x : Value} (hb : Below C u v) (hC : Q < C) (h : ZX w wv Q x u) : ZX w wv Q x v := by
  obtain ⟨⟨⟨b0, b1⟩, ⟨c0, c1⟩, ⟨d0, d1⟩, e0, e1⟩, ⟨f0, f1⟩, g⟩ := h
  have hc : ∀ b o, b < C → v.cell? ⟨b, o, none⟩ = u.cell? ⟨b, o, none⟩ := fun b o h => hb.cell (p := ⟨b, o, none⟩) h
  have hf : ∀ b o, b < C → v.frozen? ⟨b, o, none⟩ = u.frozen? ⟨b, o, none⟩ := fun b o h => hb.frozen (p := ⟨b, o, none⟩) h
  refine ⟨⟨⟨?_, ?_⟩, ⟨?_, ?_⟩, ⟨?_, ?_⟩, ?_, ?_⟩, ⟨f0, Nat.lt_of_lt_of_le f1 hb.size⟩, g.trans (hb.mono (by omega))⟩ <;> first | (rw [hc _ _ (by omega)]; assumption) | (rw [hf _ _ (by omega)]; assumption)
theorem ZX.after {w u v : World} {wv : Int} {Q : Nat} {x : Value} (hb : Below u.heap.size u v) (h : ZX w wv Q x u) : ZX w wv Q x v := h.under hb h.2.1.2
theorem ZX.drew {w u : World} {wv : Int} {Q : Nat} {x : Value} (h : ZX w wv Q x u) : ZX w wv Q x u.drew := h.after (Below.drew (Below.refl _ _))
theorem ZX.set {w u : World} {wv : Int} {Q : Nat} {x : Value} (y : Value) (h : ZX w wv Q x u) : ZX w wv Q y (u.setCell ⟨Q, 1, none⟩ y) := by
  obtain ⟨⟨⟨b0, b1⟩, ⟨c0, c1⟩, ⟨d0, d1⟩, e0, e1⟩, ⟨f0, f1⟩, g⟩ := h
  have hq : ¬ w.heap.size = Q := by omega
  have hq3 : ¬ Q = w.heap.size := by omega
  refine ⟨⟨⟨?_, ?_⟩, ⟨?_, ?_⟩, ⟨?_, ?_⟩, ?_, ?_⟩, ⟨f0, by simpa using f1⟩, bl_set g (by simp; omega) _⟩ <;> simp [go_sem, *]
/-- the last statement of a sequence, its end a variable -/
theorem wp_last {P : Program} {s : Code} {Q : Exit → Act → World → Prop} {a : Act} {w : World}
    (h : ∀ (K : Act → World → Prop), (∀ a' w', Q .normal a' w' → K a' w') → s.wp P (Exit.then K (fun _ _ _ => False)) a w) : s.wp P Q a w := by
  refine wp_mono (h (fun a' w' => Q .normal a' w') (fun _ _ h => h)) ?_
  intro e a' w' hq
  cases e with
  | normal => exact hq
  | exit id => exact hq.elim
  | goto l => exact hq.elim
  | ret => exact hq.elim
  | panic ch => exact hq.elim
  | outgrown => exact hq.elim
theorem pcs_le {b : UInt8} {l p : List UInt8} (h : p ∈ pcs b l) : p.length ≤ l.length := by
  have hg := pcs_glue b l
  have : ∀ (P : List (List UInt8)), p ∈ P → p.length ≤ (glue b P).length := by
    intro P
    induction P with
    | nil => intro h; cases h
    | cons x r ih =>
      intro h
      cases r with
      | nil =>
        rw [List.mem_singleton] at h
        rw [h]; exact Nat.le_refl _
      | cons y r =>
        rw [glue, List.length_append, List.length_cons]
        rcases List.mem_cons.1 h with h | h
        · rw [h]; omega
        · have := ih h; omega
  have := this _ h
  rwa [hg] at this
def RS (g4 : Nat) (x y z : Value) (u : World) : Prop := u.cell? ⟨g4, 0, none⟩ = some x ∧ u.cell? ⟨g4, 1, none⟩ = some y ∧ u.cell? ⟨g4, 2, none⟩ = some z
theorem RS.after {u v : World} {g4 : Nat} {x y z : Value} (hg : g4 < u.heap.size) (hb : Below u.heap.size u v) (h : RS g4 x y z u) : RS g4 x y z v := by
  obtain ⟨h0, h1, h2⟩ := h
  obtain ⟨hc, hf⟩ := bcell hb
  exact ⟨by rw [hc _ _ hg]; exact h0, by rw [hc _ _ hg]; exact h1, by rw [hc _ _ hg]; exact h2⟩
theorem RS.grown {u v : World} {g4 : Nat} {x y z a : Value} (h6 : g4 < u.heap.size) (hg : u.grownBy v a.ownBlock) (hne : ∀ g, a.ownBlock = some g → g ≠ g4) (h : RS g4 x y z u) : RS g4 x y z v := by
  obtain ⟨h0, h1, h2⟩ := h
  have b4 : v.heap[g4]? = u.heap[g4]? := hg.block g4 h6 fun e => hne g4 e.symm rfl
  have c4 : ∀ o, v.cell? ⟨g4, o, none⟩ = u.cell? ⟨g4, o, none⟩ := fun o => by simp only [World.cell?, b4]
  exact ⟨by rw [c4]; exact h0, by rw [c4]; exact h1, by rw [c4]; exact h2⟩
theorem RS.set {u : World} {g4 Q : Nat} {x y z q : Value} (hne : ¬ g4 = Q) (h : RS g4 x y z u) : RS g4 x y z (u.setCell ⟨Q, 1, none⟩ q) := by
  obtain ⟨h0, h1, h2⟩ := h
  have hne2 : ¬ Q = g4 := fun e => hne e.symm
  exact ⟨by simp [go_sem, h0, hne, hne2], by simp [go_sem, h1, hne, hne2], by simp [go_sem, h2, hne, hne2]⟩
def rb (z : ByteArray) : Int := rdV z.data.toList
/-- a text split into its pieces -/
theorem split_any (l : List UInt8) (b : UInt8) (n : Int) (hn : n = b.toNat) (hs : l.length ≤ 1048576) (w : World) :
    Calls Tryd.prog 39 #[.string ⟨l.toArray⟩, .int .u8 n] w fun e w' => ∃ g cap, e = .returned (.slice (some ⟨g, 0, none⟩) (pcs b l).length cap) ∧ (w.heap.size ≤ g ∧ g < w'.heap.size) ∧ (∀ j, j < (pcs b l).length → w'.cell? ⟨g, j, none⟩ = some (.string ⟨((pcs b l).getD j []).toArray⟩)) ∧ Below w.heap.size w w' := by
  have hqa : (⟨l.toArray⟩ : ByteArray).data.toList = l := by simp
  have hqz : (⟨l.toArray⟩ : ByteArray).size = l.length := by simp [ByteArray.size]
  have hpc : (sp b (⟨l.toArray⟩ : ByteArray).data.toList (⟨l.toArray⟩ : ByteArray).size).1 ++ [(sp b (⟨l.toArray⟩ : ByteArray).data.toList (⟨l.toArray⟩ : ByteArray).size).2] = pcs b l := by
    rw [hqa, hqz]; rfl
  refine (l1Split_any ⟨l.toArray⟩ b n hn (by rw [hqz]; exact hs) w).mono ?_
  rintro e w' ⟨v, rfl, hS, hb⟩
  rw [hpc] at hS
  obtain ⟨g, cap, rfl, hg, hg', hc⟩ := hS.open_ (List.length_pos_iff.2 (pcs_ne b l))
  exact ⟨g, cap, rfl, ⟨hg, hg'⟩, hc, hb⟩
theorem fS_0 (P : List (List UInt8)) (j : Nat) : fS P (j * 3) = sA (P.getD j []) := tri_0 _ _ _ _ _ _
theorem fS_1 (P : List (List UInt8)) (j : Nat) : fS P (j * 3 + 1) = sB (P.getD j []) := tri_1 _ _ _ _ _ _
theorem fS_2 (P : List (List UInt8)) (j : Nat) : fS P (j * 3 + 2) = sC (P.getD j []) := tri_2 _ _ _ _ _ _
set_option maxRecDepth 100000 in
set_option maxHeartbeats 16000000 in
theorem pzParse_list (l : List UInt8) (hs : l.length ≤ 1048576) (s : ByteArray) (hl : s = ⟨l.toArray⟩) (w : World) :
    Calls Tryd.prog 22 #[.string ⟨l.toArray⟩] w fun e w' => ∃ (wd : Int) (n : Nat) (f : Nat → Int) (u : Value), e = .returned (.tuple #[.agg #[.int .i64 wd, u], .bool (okZS s)]) ∧ OClu w' w.heap.size u n f ∧ (okZS s = true → wd = rdV (zx s) ∧ n = (PZs (zy s)).length ∧ f = fS (PZs (zy s))) ∧ Below w.heap.size w w' := by
  have HL := Lib.hid (show s.data.toList = l by rw [hl])
  have hss : (⟨l.toArray⟩ : ByteArray).size = s.size := by rw [hl]
  have HALL := Lib.hid (show okZS s = ((decide (s.size ≤ 100) && (pcs 119 l).length == 2) && ((PZs (zy s)).all sOK && okP (rdV (zx s)) (PZs (zy s)).length (fS (PZs (zy s))))) by unfold okZS; rw [HL.out])
  have hls : s.size = l.length := by rw [hl]; simp [ByteArray.size]
  rw [← hl]
  have HLS := Lib.hid hls
  clear hls
  have HSP := fun W => Lib.hid (show Calls Tryd.prog 39 #[.string s, .int .u8 119] W _ from by rw [hl]; exact split_any l 119 119 rfl hs W)
  clear hl hss
  go_enter Tryd.func22, Tryd.ntmps22
  go_wp2_with fail
  refine ((HSP _).out).mono ?_
  rintro e w1 ⟨g1, cap1, rfl, ⟨hg1b, hg1⟩, hc1, hbw1⟩
  obtain ⟨hcw1, hfw1⟩ := bcell hbw1
  have hzw1 := bsize hbw1
  (try simp only [World.size_alloc, World.size_setCell] at hzw1)
  have C1 := Lib.hid hc1
  clear hc1
  have kw1_0_0 : w1.cell? ⟨w.heap.size, 0, none⟩ = some (.int .i64 0) := by rw [hcw1 _ _ (by first | (simp; done) | omega | (simp; omega))]; first | assumption | (simp [go_sem]; done) | (simp [go_sem]; done) | (simp [go_sem, *]; done)
  have fw1_0_0 : w1.frozen? ⟨w.heap.size, 0, none⟩ = false := by rw [hfw1 _ _ (by first | (simp; done) | omega | (simp; omega))]; first | assumption | (simp [go_sem]; done) | (simp [go_sem]; done) | (simp [go_sem, *]; done)
  have kw1_0_1 : w1.cell? ⟨w.heap.size, 1, none⟩ = some (.slice none 0 0) := by rw [hcw1 _ _ (by first | (simp; done) | omega | (simp; omega))]; first | assumption | (simp [go_sem]; done) | (simp [go_sem]; done) | (simp [go_sem, *]; done)
  have fw1_0_1 : w1.frozen? ⟨w.heap.size, 1, none⟩ = false := by rw [hfw1 _ _ (by first | (simp; done) | omega | (simp; omega))]; first | assumption | (simp [go_sem]; done) | (simp [go_sem]; done) | (simp [go_sem, *]; done)
  have sw1_0 : w.heap.size < w1.heap.size := by first | omega | (simp at *; omega)
  have hBw1 : Below w.heap.size w w1 := (by repeat (first | exact Below.refl _ _ | refine bl_alloc ?_ _ | refine bl_drewN ?_ _ | refine bl_trans (by assumption) ?_ | refine bl_set ?_ (by first | omega | (simp; done) | (simp; omega)) _))
  have HBw1 := Lib.hid hBw1
  clear hBw1 hcw1 hfw1 hbw1
  have hbx := Lib.hid (⟨⟨kw1_0_0, kw1_0_1⟩, fw1_0_0, fw1_0_1⟩ : (w1.cell? ⟨w.heap.size, 0, none⟩ = some (.int .i64 0) ∧ w1.cell? ⟨w.heap.size, 1, none⟩ = some (.slice none 0 0)) ∧ w1.frozen? ⟨w.heap.size, 0, none⟩ = false ∧ w1.frozen? ⟨w.heap.size, 1, none⟩ = false)
  by_cases h100 : s.size ≤ 100
  case neg =>
    have h100' : (100 : Int) < (s.size : Int) := by omega
    have hK : okZS s = false := by rw [HALL.out, decide_eq_false h100]; rfl
    have HK := Lib.hid hK
    clear hK
    go_wp2
    exact bodyPost_ret (v := .tuple #[.agg #[.int .i64 0, .slice none 0 0], .bool false]) (by simp [results, Tryd.results22, go_sem, kw1_0_0, kw1_0_1, fw1_0_0, fw1_0_1]) rfl ⟨0, 0, fun _ => 0, .slice none 0 0, by rw [HK.out], OClu.nil _ _ _, fun h => (by rw [HK.out] at h; cases h), (by repeat (first | refine bl_alloc ?_ _ | refine bl_set ?_ (by first | omega | (simp; done) | (simp; omega)) _ | exact HBw1.out))⟩
  case pos =>
  have h100' : ¬ (100 : Int) < (s.size : Int) := by omega
  by_cases h2 : (pcs 119 l).length = 2
  case neg =>
    have h2' : ¬ ((pcs 119 l).length : Int) = 2 := by omega
    have hK : okZS s = false := by rw [HALL.out, show ((pcs 119 l).length == 2) = false from by simpa using h2, Bool.and_false, Bool.false_and]
    have h2b : (((pcs 119 l).length : Int) != 2) = true := by simp; omega
    generalize (pcs 119 l).length = L1 at *
    clear h2 h2'
    have HK := Lib.hid hK
    clear hK
    go_wp2
    exact bodyPost_ret (v := .tuple #[.agg #[.int .i64 0, .slice none 0 0], .bool false]) (by simp [results, Tryd.results22, go_sem, kw1_0_0, kw1_0_1, fw1_0_0, fw1_0_1]) rfl ⟨0, 0, fun _ => 0, .slice none 0 0, by rw [HK.out], OClu.nil _ _ _, fun h => (by rw [HK.out] at h; cases h), (by repeat (first | refine bl_alloc ?_ _ | refine bl_set ?_ (by first | omega | (simp; done) | (simp; omega)) _ | exact HBw1.out))⟩
  case pos =>
  have k0 := C1.out 0 (by omega)
  have k1 := C1.out 1 (by omega)
  have HALL2 := Lib.hid (show okZS s = ((PZs (zy s)).all sOK && okP (rdV (zx s)) (PZs (zy s)).length (fS (PZs (zy s)))) by rw [HALL.out, decide_eq_true h100, h2]; rfl)
  have hzx : zx s = (pcs 119 l).getD 0 [] := by unfold zx; rw [HL.out]
  have hzy : zy s = (pcs 119 l).getD 1 [] := by unfold zy; rw [HL.out]
  have hyl : (zy s).length ≤ 100 := by
    have hm : (pcs 119 l).getD 1 [] ∈ pcs 119 l := by
      have : (pcs 119 l).getD 1 [] = (pcs 119 l)[1]'(by omega) := by simp [List.getD, h2]
      rw [this]; exact List.getElem_mem _
    have := pcs_le hm
    have := HLS.out
    rw [hzy]; omega
  rw [← hzx] at k0
  rw [← hzy] at k1
  rw [h2]
  clear hzx hzy C1 h2
  generalize hzX : zx s = X at *
  generalize hzY : zy s = Y at *
  have HRD : ∀ (z : ByteArray) (W : World), Hid (Calls Tryd.prog 40 #[.string z] W fun e w' => e = .returned (.int .i64 (rb z)) ∧ W = w') := fun z W => Lib.hid (l1Read_any z W)
  have hrx : rb ⟨X.toArray⟩ = rdV X := by simp [rb]
  generalize hwv : rdV X = wv at *
  have HWV := Lib.hid hwv
  clear hwv
  go_wp2_with fail
  refine ((HRD _ _).out).mono ?_
  rintro e w' ⟨rfl, rfl⟩
  rw [hrx]
  have HX := Lib.hid hzX
  have HY := Lib.hid hzY
  clear hzX hzY hrx
  have HB1 := HBw1
  have ZZ := Lib.hid (show ZX w wv w1.heap.size (.slice none 0 0) (w1.alloc (.cells #[.int .i64 wv, .slice none 0 0] 30)) by
    obtain ⟨⟨a0, a1⟩, z0, z1⟩ := hbx.out
    have hk1 := bl_alloc (Below.refl w1.heap.size w1) (.cells #[.int .i64 wv, .slice none 0 0] 30)
    have hz : w.heap.size < w1.heap.size := by omega
    exact ⟨⟨⟨cell_after hk1 hz a0, cell_after hk1 hz a1⟩, ⟨frozen_after hk1 hz z0, frozen_after hk1 hz z1⟩, ⟨by simp, by simp⟩, by simp [go_sem], by simp [go_sem]⟩, ⟨hz, by simp⟩, bl_alloc HB1.out _⟩)
  have K1 := Lib.hid (show (w1.alloc (.cells #[.int .i64 wv, .slice none 0 0] 30)).cell? ⟨g1, 1, none⟩ = some (.string ⟨Y.toArray⟩) from cell_after (bl_alloc (Below.refl w1.heap.size w1) _) hg1 k1)
  have hQs : w1.heap.size < (w1.alloc (.cells #[.int .i64 wv, .slice none 0 0] 30)).heap.size := by simp
  have hg1s : g1 < (w1.alloc (.cells #[.int .i64 wv, .slice none 0 0] 30)).heap.size := by simp; omega
  have hbw : w.heap.size < w1.heap.size := by omega
  clear k0 k1 hbx HRD kw1_0_0 kw1_0_1 fw1_0_0 fw1_0_1
  go_upto_region 5 with fail
  generalize w1.alloc (.cells #[.int .i64 wv, .slice none 0 0] 30) = w2 at *
  generalize w1.heap.size = Q at *
  have k1 := K1.out
  by_cases hY : Y.length = 0
  case pos =>
    have hYe : Y = [] := List.length_eq_zero_iff.1 hY
    subst hYe
    have HOK0 := Lib.hid (show okZS s = okP wv 0 (fS (PZs [])) by rw [HALL2.out]; rfl)
    have hsz0 : (⟨([] : List UInt8).toArray⟩ : ByteArray).size = 0 := rfl
    have HO := Lib.hid (OClu.nil w2 (Q + 1) (fS (PZs [])))
    go_upto_region 14 with fail
    clear k1 K1
    cases hk : okP wv (0) (fS (PZs []))
    · have HK := Lib.hid (show okZS s = false by rw [HOK0.out, hk])
      go_wp2_with fail
      have ZZ := Lib.hid ZZ.out.drew
      have HO := Lib.hid (HO.out.keep (Below.drew (Below.refl _ _)))
      obtain ⟨⟨⟨b0, b1⟩, ⟨c0, c1⟩, ⟨d0, d1⟩, e0, e1⟩, ⟨f0, f1⟩, hB⟩ := ZZ.out
      have hqn : ¬ w.heap.size = Q := by omega
      have hqm : ¬ Q = w.heap.size := by omega
      first | (go_region_law (first | (go_simp; go_at_call 15; refine (pzGood_any wv _ (0) (fS (PZs [])) _ HO.out.toP).mono ?_; rintro e wa ⟨rfl, hba⟩; rw [hk]; have ZZ := Lib.hid (ZZ.out.after hba); have HO := Lib.hid (HO.out.keep hba); clear b0 b1 c0 c1 d0 d1 e0 e1 f0 f1 hB; obtain ⟨⟨⟨b0, b1⟩, ⟨c0, c1⟩, ⟨d0, d1⟩, e0, e1⟩, ⟨f0, f1⟩, hB⟩ := ZZ.out) | fail)) | fail
      all_goals
        go_wp2
        exact bodyPost_ret (v := .tuple #[.agg #[.int .i64 wv, .slice none (0) 0], .bool false]) (by simp [results, Tryd.results22, go_sem, b0, b1, c0, c1]) rfl ⟨wv, 0, fS (PZs []), .slice none (0) 0, by rw [HK.out], by exact ((HO.out.low (by simp; omega) _).low (by simp; omega) _).lower (by omega), fun h => (by rw [HK.out] at h; cases h), (by repeat (first | refine bl_set ?_ (by first | omega | (simp; done) | (simp; omega)) _ | exact hB))⟩
    · have hok : okZS s = true := by rw [HOK0.out, hk]
      have HK := Lib.hid hok
      have HTX := Lib.hid (show ptx (pre wv) (fS (PZs [])) (0) = s from by have h := text_back hok; rw [HY.out, HX.out, HWV.out] at h; exact h)
      have HKK := Lib.hid hk
      clear hok
      go_wp2_with fail
      have ZZ := Lib.hid ZZ.out.drew
      have HO := Lib.hid (HO.out.keep (Below.drew (Below.refl _ _)))
      obtain ⟨⟨⟨b0, b1⟩, ⟨c0, c1⟩, ⟨d0, d1⟩, e0, e1⟩, ⟨f0, f1⟩, hB⟩ := ZZ.out
      have hqn : ¬ w.heap.size = Q := by omega
      have hqm : ¬ Q = w.heap.size := by omega
      have hpt := fun (W : World) (h : PClu W (.slice none (0) 0) (0) (fS (PZs []))) => Lib.hid (show Calls Tryd.prog 16 #[.agg #[.int .i64 wv, .slice none (0) 0]] W fun e w' => e = .returned (.string s) ∧ Below W.heap.size W w' by have q := pzText_any wv _ _ _ W h HKK.out; rw [HTX.out] at q; exact q)
      first | (go_region_law (first | (go_simp; go_at_call 15; refine (pzGood_any wv _ (0) (fS (PZs [])) _ HO.out.toP).mono ?_; rintro e wa ⟨rfl, hba⟩; rw [hk]; have ZZ := Lib.hid (ZZ.out.after hba); have HO := Lib.hid (HO.out.keep hba); clear b0 b1 c0 c1 d0 d1 e0 e1 f0 f1 hB; obtain ⟨⟨⟨b0, b1⟩, ⟨c0, c1⟩, ⟨d0, d1⟩, e0, e1⟩, ⟨f0, f1⟩, hB⟩ := ZZ.out) | (go_simp; go_at_call 16; refine ((hpt _ HO.out.toP).out).mono ?_; rintro e wb ⟨rfl, hbb⟩; have ZZ := Lib.hid (ZZ.out.after hbb); have HO := Lib.hid (HO.out.keep hbb); clear b0 b1 c0 c1 d0 d1 e0 e1 f0 f1 hB; obtain ⟨⟨⟨b0, b1⟩, ⟨c0, c1⟩, ⟨d0, d1⟩, e0, e1⟩, ⟨f0, f1⟩, hB⟩ := ZZ.out) | fail)) | fail
      all_goals
        go_wp2
        exact bodyPost_ret (v := .tuple #[.agg #[.int .i64 wv, .slice none (0) 0], .bool true]) (by simp [results, Tryd.results22, go_sem, b0, b1, c0, c1]) rfl ⟨wv, 0, fS (PZs []), .slice none (0) 0, by rw [HK.out], by exact ((HO.out.low (by simp; omega) _).low (by simp; omega) _).lower (by omega), fun _ => ⟨by rw [HX.out]; exact HWV.out.symm, by rw [HY.out]; rfl, by rw [HY.out]⟩, (by repeat (first | refine bl_set ?_ (by first | omega | (simp; done) | (simp; omega)) _ | exact hB))⟩
  case neg =>
    have hYl : (0 : Int) < ((⟨Y.toArray⟩ : ByteArray).size : Int) := by simp [ByteArray.size]; omega
    have hPZ : PZs Y = pcs 44 Y := by unfold PZs; rw [if_neg hY]
    have hple := fun p (hp : p ∈ pcs 44 Y) => pcs_le hp
    have hpn := List.length_pos_iff.2 (pcs_ne 44 Y)
    have hpl := pcs_len 44 Y
    rw [hPZ] at HALL2
    have HPZ := Lib.hid hPZ
    have HPLE := Lib.hid hple
    clear hPZ hple
    go_upto_region 6 with fail
    go_wp2_with fail
    refine (split_any Y 44 44 rfl (by omega) _).mono ?_
    rintro e w3 ⟨g3, cap3, rfl, ⟨hg3b, hg3⟩, hc3, hb3⟩
    have HGQ := Lib.hid (show ¬ g3 = Q from fun e => by subst e; have h1 := hc3 0 hpn; rw [(bcell hb3).1 _ _ hQs] at h1; have h2 := ZZ.out.1.2.2.1.1; rw [h1] at h2; cases h2)
    have ZZ := Lib.hid (ZZ.out.after hb3)
    have HC3 := Lib.hid hc3
    have hQ3 : Q < w3.heap.size := ZZ.out.2.1.2
    clear hc3 hb3 k1 K1
    generalize hP : pcs 44 Y = P at *
    have HP := Lib.hid hP
    clear hP
    generalize hN : P.length = N at *
    have HN := Lib.hid hN
    clear hN
    go_wp2_with fail
    go_loopw [35] (fun i wr => ∃ (j : Nat) (v : Value), j ≤ N ∧ i = .int .i64 (j : Int) ∧ OClu wr w3.heap.size v j (fS P) ∧ (∀ i, i < j → sOK (P.getD i []) = true) ∧ (∀ i, i < N → wr.cell? ⟨g3, i, none⟩ = some (.string ⟨(P.getD i []).toArray⟩)) ∧ w3.heap.size ≤ wr.heap.size ∧ ZX w wv Q v wr) (fun i _ => N - (intOf i).toNat)
    case atStart => exact ⟨0, .slice none 0 0, Nat.zero_le _, rfl, OClu.nil _ _ _, fun i h => by omega, HC3.out, Nat.le_refl _, ZZ.out⟩
    case round =>
      clear ZZ
      obtain ⟨j, v, hj, rfl, hO, hok, hcs, hsz, hZ⟩ := hrel
      obtain ⟨av, cv, rfl⟩ := hO.toP.shape
      have HO := Lib.hid hO
      have ZZ := Lib.hid hZ
      have HOKJ := Lib.hid hok
      have HCS := Lib.hid hcs
      clear hO hZ hok
      by_cases hlt : j < N
      · have hlt' : (j : Int) < (N : Int) := by omega
        have hmem : P.getD j [] ∈ P := by
          have : P.getD j [] = P[j]'(by rw [HN.out]; exact hlt) := by simp [List.getD, HN.out, hlt]
          rw [this]; exact List.getElem_mem _
        have hq100 := HPLE.out _ hmem
        have p1 := hcs j hlt
        have HA := Lib.hid (fS_0 P j)
        have HB_ := Lib.hid (fS_1 P j)
        have HC_ := Lib.hid (fS_2 P j)
        have HF := Lib.hid (show sOK (P.getD j []) = false → okZS s = false from fun h => by
          rw [HALL2.out]
          have : P.all sOK = false := by
            rw [List.all_eq_false]
            exact ⟨_, hmem, by rw [h]; simp⟩
          rw [this, Bool.false_and])
        clear hcs hmem
        generalize hq : P.getD j [] = q at *
        have HQ := Lib.hid hq
        clear hq
        go_wp2_with fail
        refine (split_any q 46 46 rfl (by omega) _).mono ?_
        have hown4 := (World.ownsRow.lt HO.out)
        rintro e w4 ⟨g4, cap4, rfl, ⟨hg4b, hg4⟩, hc4, hb4⟩
        have HNE := Lib.hid (show ∀ g, (Value.slice av j cv).ownBlock = some g → g ≠ g4 ∧ g ≠ Q from fun g e => by have h1 := hown4 g e; omega)
        have hG4Q : ¬ g4 = Q := by have := ZZ.out.2.1.2; omega
        clear hown4
        have HO := Lib.hid (HO.out.keep hb4)
        have ZZ := Lib.hid (ZZ.out.after hb4)
        have HCS := Lib.hid (show ∀ i, i < N → w4.cell? ⟨g3, i, none⟩ = some (.string ⟨(P.getD i []).toArray⟩) from fun i hi => by rw [(bcell hb4).1 _ _ (by omega)]; exact HCS.out i hi)
        have hsz : w3.heap.size ≤ w4.heap.size := Nat.le_trans hsz hb4.size
        clear hb4 p1
        have hso : sOK q = ((pcs 46 q).length == 3) := rfl
        have HSA := Lib.hid (show sA q = rdV ((pcs 46 q).getD 0 []) from rfl)
        have HSB := Lib.hid (show sB q = rdV ((pcs 46 q).getD 1 []) from rfl)
        have HSC := Lib.hid (show sC q = rdV ((pcs 46 q).getD 2 []) from rfl)
        obtain ⟨⟨⟨b0, b1⟩, ⟨c0, c1⟩, ⟨d0, d1⟩, e0, e1⟩, ⟨f0, f1⟩, hB⟩ := ZZ.out
        have hqn : ¬ w.heap.size = Q := by omega
        have hqm : ¬ Q = w.heap.size := by omega
        have HBB := Lib.hid hB
        clear hB
        generalize pcs 46 q = P2 at *
        by_cases h3 : P2.length = 3
        case neg =>
          have h3' : ¬ (P2.length : Int) = 3 := by omega
          have hK := HF.out (by rw [hso]; simpa using h3)
          clear hso h3 hc4
          generalize P2.length = L2 at *
          have HK := Lib.hid hK
          clear hK
          go_wp2
          exact bodyPost_ret (v := .tuple #[.agg #[.int .i64 0, .slice none 0 0], .bool false]) (by simp [results, Tryd.results22, go_sem, b0, b1, c0, c1]) rfl ⟨0, 0, fun _ => 0, .slice none 0 0, by rw [HK.out], OClu.nil _ _ _, fun h => (by rw [HK.out] at h; cases h), (by repeat (first | refine bl_alloc ?_ _ | refine bl_set ?_ (by first | omega | (simp; done) | (simp; omega)) _ | exact HBB.out))⟩
        case pos =>
          have k0 := hc4 0 (by omega)
          have k1 := hc4 1 (by omega)
          have k2 := hc4 2 (by omega)
          have HIO := Lib.hid (show sOK q = true by rw [hso, h3]; rfl)
          rw [h3]
          clear hso h3 hc4
          generalize P2.getD 0 [] = xa at *
          generalize P2.getD 1 [] = xb at *
          generalize P2.getD 2 [] = xc at *
          have HRD : ∀ (z : ByteArray) (W : World), Hid (Calls Tryd.prog 40 #[.string z] W fun e w' => e = .returned (.int .i64 (rb z)) ∧ W = w') := fun z W => Lib.hid (l1Read_any z W)
          have ha : rb ⟨xa.toArray⟩ = rdV xa := by simp [rb]
          have hb_ : rb ⟨xb.toArray⟩ = rdV xb := by simp [rb]
          have hc_ : rb ⟨xc.toArray⟩ = rdV xc := by simp [rb]
          generalize (⟨xa.toArray⟩ : ByteArray) = ya at *
          generalize (⟨xb.toArray⟩ : ByteArray) = yb at *
          generalize (⟨xc.toArray⟩ : ByteArray) = yc at *
          have HXA := Lib.hid (HSA.out.trans ha.symm)
          have HXB := Lib.hid (HSB.out.trans hb_.symm)
          have HXC := Lib.hid (HSC.out.trans hc_.symm)
          clear ha hb_ hc_ HSA HSB HSC
          generalize hrb : rb = rb' at *
          clear hrb
          obtain ⟨i0, hi, hz0, hz1, hz2⟩ := info_parts infoClu
          have hOr := Lib.hid (show w4.ownsRow w3.heap.size 44 3 (.slice av j cv) j ((List.range (j * 3)).map fun i => Value.int .i64 (fS P i)) from HO.out)
          go_upto_region 12 with fail
          refine wp_last ?_
          intro KL hKL
          have HKL := Lib.hid hKL
          clear hKL
          go_cut [35] from 35 to 63 (fun s35 wx => s35 = .int .i64 (j : Int) ∧ ∃ v, OClu wx w3.heap.size v (j + 1) (fS P) ∧ (∀ i, i < N → wx.cell? ⟨g3, i, none⟩ = some (.string ⟨(P.getD i []).toArray⟩)) ∧ w3.heap.size ≤ wx.heap.size ∧ ZX w wv Q v wx)
          case first =>
            have k0 : w4.drew.cell? ⟨g4, 0, none⟩ = some (.string ya) := k0
            have k1 : w4.drew.cell? ⟨g4, 1, none⟩ = some (.string yb) := k1
            have k2 : w4.drew.cell? ⟨g4, 2, none⟩ = some (.string yc) := k2
            have hS5 : RS g4 (.string ya) (.string yb) (.string yc) w4.drew := ⟨k0, k1, k2⟩
            have d1 : w4.drew.cell? ⟨Q, 1, none⟩ = some (.slice av j cv) := d1
            have f2 : Q < w4.drew.heap.size := f1
            have hg4 : g4 < w4.drew.heap.size := hg4
            have hsz : w3.heap.size ≤ w4.drew.heap.size := hsz
            have HO := Lib.hid (show OClu w4.drew w3.heap.size (.slice av j cv) j (fS P) from HO.out)
            have ZZ := Lib.hid ZZ.out.drew
            have HCS := Lib.hid (show ∀ i, i < N → w4.drew.cell? ⟨g3, i, none⟩ = some (.string ⟨(P.getD i []).toArray⟩) from HCS.out)
            have hOr := Lib.hid (show w4.drew.ownsRow w3.heap.size 44 3 (.slice av j cv) j ((List.range (j * 3)).map fun i => Value.int .i64 (fS P i)) from HO.out)
            clear b0 b1 c0 c1 d0 e0 e1 f0 f1 k0 k1 k2
            refine wp_region_held_drew (S := RS g4 (.string ya) (.string yb) (.string yc)) (by kernel_rfl) hS5 (fun hHeld => ?_)
            generalize w4.drew = w5 at *
            refine' wpAnyH_take (i := 0) (oi := _) (v := _) ?xho1 (by kernel_rfl) (by kernel_rfl) (by kernel_rfl) ?xhQ1 ?xhy1 (by assumption) ?xrs1
            case xho1 => (simp only [List.getElem?_toArray, List.getElem?_cons_zero, List.getElem?_cons_succ]; rfl)
            case xhQ1 => exact fun _ _ _ h => h
            case xhy1 => (refine Or.inl ⟨by rfl, ?_⟩; intro wx hSw; obtain ⟨s0, s1, s2⟩ := hSw; go_simp; first | done | with_reducible rfl)
            try simp only [Act.put, List.setIfInBounds_toArray, List.set_cons_zero, List.set_cons_succ]
            refine' wpAnyH_take (i := 2) (oi := _) (v := _) ?xho2 (by kernel_rfl) (by kernel_rfl) (by kernel_rfl) ?xhQ2 ?xhy2 (by assumption) ?xrs2
            case xho2 => (simp only [List.getElem?_toArray, List.getElem?_cons_zero, List.getElem?_cons_succ]; rfl)
            case xhQ2 => exact fun _ _ _ h => h
            case xhy2 => (refine Or.inl ⟨by rfl, ?_⟩; intro wx hSw; obtain ⟨s0, s1, s2⟩ := hSw; go_simp; first | done | with_reducible rfl)
            try simp only [Act.put, List.setIfInBounds_toArray, List.set_cons_zero, List.set_cons_succ]
            refine' wpAnyH_take (i := 3) (oi := _) (v := _) ?xho3 (by kernel_rfl) (by kernel_rfl) (by kernel_rfl) ?xhQ3 ?xhy3 (by assumption) ?xrs3
            case xho3 => (simp only [List.getElem?_toArray, List.getElem?_cons_zero, List.getElem?_cons_succ]; rfl)
            case xhQ3 => exact fun _ _ _ h => h
            case xhy3 => (refine Or.inl ⟨by rfl, ?_⟩; intro wx hSw; obtain ⟨s0, s1, s2⟩ := hSw; go_simp; first | done | with_reducible rfl)
            try simp only [Act.put, List.setIfInBounds_toArray, List.set_cons_zero, List.set_cons_succ]
            refine' wpAnyH_take (i := 4) (oi := _) (v := _) ?xho4 (by kernel_rfl) (by kernel_rfl) (by kernel_rfl) ?xhQ4 ?xhy4 (by assumption) ?xrs4
            case xho4 => (simp only [List.getElem?_toArray, List.getElem?_cons_zero, List.getElem?_cons_succ]; rfl)
            case xhQ4 => exact fun _ _ _ h => h
            case xhy4 => (refine Or.inl ⟨by rfl, ?_⟩; intro wx hSw; obtain ⟨s0, s1, s2⟩ := hSw; go_simp; first | done | with_reducible rfl)
            try simp only [Act.put, List.setIfInBounds_toArray, List.set_cons_zero, List.set_cons_succ]
            refine' wpAnyH_take (i := 6) (oi := _) (v := _) ?xho5 (by kernel_rfl) (by kernel_rfl) (by kernel_rfl) ?xhQ5 ?xhy5 (by assumption) ?xrs5
            case xho5 => (simp only [List.getElem?_toArray, List.getElem?_cons_zero, List.getElem?_cons_succ]; rfl)
            case xhQ5 => exact fun _ _ _ h => h
            case xhy5 => (refine Or.inl ⟨by rfl, ?_⟩; intro wx hSw; obtain ⟨s0, s1, s2⟩ := hSw; go_simp; first | done | with_reducible rfl)
            try simp only [Act.put, List.setIfInBounds_toArray, List.set_cons_zero, List.set_cons_succ]
            refine' wpAnyH_take (i := 7) (oi := _) (v := _) ?xho6 (by kernel_rfl) (by kernel_rfl) (by kernel_rfl) ?xhQ6 ?xhy6 (by assumption) ?xrs6
            case xho6 => (simp only [List.getElem?_toArray, List.getElem?_cons_zero, List.getElem?_cons_succ]; rfl)
            case xhQ6 => exact fun _ _ _ h => h
            case xhy6 => (refine Or.inl ⟨by rfl, ?_⟩; intro wx hSw; obtain ⟨s0, s1, s2⟩ := hSw; go_simp; first | done | with_reducible rfl)
            try simp only [Act.put, List.setIfInBounds_toArray, List.set_cons_zero, List.set_cons_succ]
            refine' wpAnyH_take (i := 8) (oi := _) (v := _) ?xho7 (by kernel_rfl) (by kernel_rfl) (by kernel_rfl) ?xhQ7 ?xhy7 (by assumption) ?xrs7
            case xho7 => (simp only [List.getElem?_toArray, List.getElem?_cons_zero, List.getElem?_cons_succ]; rfl)
            case xhQ7 => exact fun _ _ _ h => h
            case xhy7 => (refine Or.inl ⟨by rfl, ?_⟩; intro wx hSw; obtain ⟨s0, s1, s2⟩ := hSw; go_simp; first | done | with_reducible rfl)
            try simp only [Act.put, List.setIfInBounds_toArray, List.set_cons_zero, List.set_cons_succ]
            refine' wpAnyH_take (i := 10) (oi := _) (v := _) ?xho8 (by kernel_rfl) (by kernel_rfl) (by kernel_rfl) ?xhQ8 ?xhy8 (by assumption) ?xrs8
            case xho8 => (simp only [List.getElem?_toArray, List.getElem?_cons_zero, List.getElem?_cons_succ]; rfl)
            case xhQ8 => exact fun _ _ _ h => h
            case xhy8 => (refine Or.inl ⟨by rfl, ?_⟩; intro wx hSw; obtain ⟨s0, s1, s2⟩ := hSw; go_simp; first | done | with_reducible rfl)
            try simp only [Act.put, List.setIfInBounds_toArray, List.set_cons_zero, List.set_cons_succ]
            refine' wpAnyH_take (i := 11) (oi := _) (v := _) ?xho9 (by kernel_rfl) (by kernel_rfl) (by kernel_rfl) ?xhQ9 ?xhy9 (by assumption) ?xrs9
            case xho9 => (simp only [List.getElem?_toArray, List.getElem?_cons_zero, List.getElem?_cons_succ]; rfl)
            case xhQ9 => exact fun _ _ _ h => h
            case xhy9 => (refine Or.inl ⟨by rfl, ?_⟩; intro wx hSw; obtain ⟨s0, s1, s2⟩ := hSw; go_simp; first | done | with_reducible rfl)
            try simp only [Act.put, List.setIfInBounds_toArray, List.set_cons_zero, List.set_cons_succ]
            refine' wpAnyH_take (i := 12) (oi := _) (v := _) ?xho10 (by kernel_rfl) (by kernel_rfl) (by kernel_rfl) ?xhQ10 ?xhy10 (by assumption) ?xrs10
            case xho10 => (simp only [List.getElem?_toArray, List.getElem?_cons_zero, List.getElem?_cons_succ]; rfl)
            case xhQ10 => exact fun _ _ _ h => h
            case xhy10 => (refine Or.inl ⟨by rfl, ?_⟩; intro wx hSw; obtain ⟨s0, s1, s2⟩ := hSw; go_simp; first | done | with_reducible rfl)
            try simp only [Act.put, List.setIfInBounds_toArray, List.set_cons_zero, List.set_cons_succ]
            refine wpAnyH_ready (rs := [1, 5]) (by kernel_rfl) (by simp) ?_
            refine' AllReadyH.cons (o := _) ?xho11 (fun K hK => ?xst11) ?xmo11
            case xho11 => (simp only [List.getElem?_toArray, List.getElem?_cons_zero, List.getElem?_cons_succ]; rfl)
            case xst11 =>
              go_simp
              refine hK.out _ _ hS5 (fun hHeld => ?_)
              clear hK K
              try simp only [Act.put, List.setIfInBounds_toArray, List.set_cons_zero, List.set_cons_succ]
              refine wpAnyH_ready (rs := [5]) (by kernel_rfl) (by simp) ?_
              refine' AllReadyH.cons (o := _) ?xho12 (fun K hK => ?xst12) ?xmo12
              case xho12 => (simp only [List.getElem?_toArray, List.getElem?_cons_zero, List.getElem?_cons_succ]; rfl)
              case xst12 =>
                go_simp
                go_at_call 40
                refine ((HRD _ _).out).mono ?_
                rintro e w' ⟨rfl, rfl⟩
                go_wp2_with fail
                refine hK.out _ _ hS5 (fun hHeld => ?_)
                clear hK K
                try simp only [Act.put, List.setIfInBounds_toArray, List.set_cons_zero, List.set_cons_succ]
                refine wpAnyH_ready (rs := [9]) (by kernel_rfl) (by simp) ?_
                refine' AllReadyH.cons (o := _) ?xho13 (fun K hK => ?xst13) ?xmo13
                case xho13 => (simp only [List.getElem?_toArray, List.getElem?_cons_zero, List.getElem?_cons_succ]; rfl)
                case xst13 =>
                  go_simp
                  go_at_call 40
                  refine ((HRD _ _).out).mono ?_
                  rintro e w' ⟨rfl, rfl⟩
                  go_wp2_with fail
                  refine hK.out _ _ hS5 (fun hHeld => ?_)
                  clear hK K
                  try simp only [Act.put, List.setIfInBounds_toArray, List.set_cons_zero, List.set_cons_succ]
                  refine wpAnyH_ready (rs := [13]) (by kernel_rfl) (by simp) ?_
                  refine' AllReadyH.cons (o := _) ?xho14 (fun K hK => ?xst14) ?xmo14
                  case xho14 => (simp only [List.getElem?_toArray, List.getElem?_cons_zero, List.getElem?_cons_succ]; rfl)
                  case xst14 =>
                    go_simp
                    go_at_call 40
                    refine ((HRD _ _).out).mono ?_
                    rintro e w' ⟨rfl, rfl⟩
                    go_wp2_with fail
                    refine hK.out _ _ hS5 (fun hHeld => ?_)
                    clear hK K
                    try simp only [Act.put, List.setIfInBounds_toArray, List.set_cons_zero, List.set_cons_succ]
                    refine' wpAnyH_take (i := 14) (oi := _) (v := _) ?xho15 (by kernel_rfl) (by kernel_rfl) (by kernel_rfl) ?xhQ15 ?xhy15 (by assumption) ?xrs15
                    case xho15 => (simp only [List.getElem?_toArray, List.getElem?_cons_zero, List.getElem?_cons_succ]; rfl)
                    case xhQ15 => exact fun _ _ _ h => h
                    case xhy15 => (refine Or.inl ⟨by rfl, ?_⟩; intro wx hSw; obtain ⟨s0, s1, s2⟩ := hSw; go_simp; first | done | with_reducible rfl)
                    try simp only [Act.put, List.setIfInBounds_toArray, List.set_cons_zero, List.set_cons_succ]
                    refine wpAnyH_ready (rs := [15]) (by kernel_rfl) (by simp) ?_
                    refine' AllReadyH.cons (o := _) ?xho16 (fun K hK => ?xst16) ?xmo16
                    case xho16 => (simp only [List.getElem?_toArray, List.getElem?_cons_zero, List.getElem?_cons_succ]; rfl)
                    case xst16 =>
                      go_simp
                      have hb6 := bl_alloc (Below.refl w5.heap.size w5) (.cells #[.int .i64 (rb' ya), .int .i64 (rb' yb), .int .i64 (rb' yc)] 44)
                      have d1 := cell_after hb6 f2 d1
                      have hS6 := RS.after hg4 hb6 hS5
                      clear hb6
                      refine hK.out _ _ hS6 (fun hHeld => ?_)
                      clear hK K
                      try simp only [Act.put, List.setIfInBounds_toArray, List.set_cons_zero, List.set_cons_succ]
                      refine wpAnyH_ready (rs := [16]) (by kernel_rfl) (by simp) ?_
                      refine' AllReadyH.cons (o := _) ?xho17 (fun K hK => ?xst17) ?xmo17
                      case xho17 => (simp only [List.getElem?_toArray, List.getElem?_cons_zero, List.getElem?_cons_succ]; rfl)
                      case xst17 =>
                        refine step_append_lies _ rfl _ _ 28 rfl w3.heap.size 44 i0 (.agg #[.int .i64 0, .int .i64 0, .int .i64 0]) 3 24 Tryd.underlying28 hi hz0 hz1 hz2 rfl (by decide) _ _ _ rfl (World.ownsRow.alloc (w := w5) hOr.out _) ⟨_, 0, none⟩ 1 1 [.int .i64 (rb' ya), .int .i64 (rb' yb), .int .i64 (rb' yc)] rfl rfl (cells3p _ _ _ _ _ _ rfl) (by simp [Value.oneCell']) (by decide) (by unfold maxLen; omega) (by omega) (by simp; omega) _ rfl ?_
                        intro g5 cp wn hown hgrow hat hlt2
                        have hgr : (w5.alloc (.cells #[.int .i64 (rb' ya), .int .i64 (rb' yb), .int .i64 (rb' yc)] 44)).grownBy wn (Value.slice av j cv).ownBlock := ⟨hgrow.os, hgrow.tape, hgrow.output, hgrow.size, hgrow.block⟩
                        have hS7 := RS.grown (a := .slice av j cv) (by simp; omega) hgr (fun g e => (HNE.out g e).1) hS6
                        rw [← HXA.out, ← HXB.out, ← HXC.out, ← HA.out, ← HB_.out, ← HC_.out] at hown
                        obtain ⟨r1, r2⟩ := OClu.push (W := w5) hsz HO.out hown hgrow
                        have Q1 := Lib.hid r1
                        have Q2 := Lib.hid r2
                        have Z5 := Lib.hid (ZZ.out.under r2 hQ3)
                        have S5 := r2.size
                        clear r1 r2 hown hgrow hat hlt2 d1 f2 hS6
                        obtain ⟨⟨⟨b0, b1⟩, ⟨c0, c1⟩, ⟨d0, d1⟩, e0, e1⟩, ⟨f0, f1⟩, hB⟩ := Z5.out
                        have HB5 := Lib.hid hB
                        clear hB
                        refine hK.out _ _ hS7 (fun hHeld => ?_)
                        clear hK K
                        try simp only [Act.put, List.setIfInBounds_toArray, List.set_cons_zero, List.set_cons_succ]
                        refine' wpAnyH_take (i := 17) (oi := _) (v := _) ?xho18 (by kernel_rfl) (by kernel_rfl) (by kernel_rfl) ?xhQ18 ?xhy18 (by assumption) ?xrs18
                        case xho18 => (simp only [List.getElem?_toArray, List.getElem?_cons_zero, List.getElem?_cons_succ]; rfl)
                        case xhQ18 => exact fun _ _ _ h => h
                        case xhy18 => (refine Or.inl ⟨by rfl, ?_⟩; intro wx hSw; obtain ⟨s0, s1, s2⟩ := hSw; go_simp; first | done | with_reducible rfl)
                        try simp only [Act.put, List.setIfInBounds_toArray, List.set_cons_zero, List.set_cons_succ]
                        refine wpAnyH_ready (rs := [18]) (by kernel_rfl) (by simp) ?_
                        refine' AllReadyH.cons (o := _) ?xho19 (fun K hK => ?xst19) ?xmo19
                        case xho19 => (simp only [List.getElem?_toArray, List.getElem?_cons_zero, List.getElem?_cons_succ]; rfl)
                        case xst19 =>
                          go_simp
                          refine hK.out _ _ (RS.set hG4Q hS7) (fun hHeld => ?_)
                          clear hK K
                          try simp only [Act.put, List.setIfInBounds_toArray, List.set_cons_zero, List.set_cons_succ]
                          refine wpAnyH_done (by kernel_rfl) ?_ _
                          go_wp2_with fail
                          go_meet
                          exact ⟨rfl, _, Q1.out.low hQ3 _, fun i hi => (by have h1 := (Q2.out.cell (p := ⟨g3, i, none⟩) hg3).trans (HCS.out i hi); have hne : ¬ g3 = Q := HGQ.out; have hne2 : ¬ Q = g3 := fun e => hne e.symm; simp [go_sem, h1, hne, hne2]), (by simp; exact Nat.le_trans hsz S5), Z5.out.set _⟩
                        exact AllReadyH.nil
                      exact AllReadyH.nil
                    exact AllReadyH.nil
                  exact AllReadyH.nil
                exact AllReadyH.nil
              exact AllReadyH.nil
            refine' AllReadyH.cons (o := _) ?xho20 (fun K hK => ?xst20) ?xmo20
            case xho20 => (simp only [List.getElem?_toArray, List.getElem?_cons_zero, List.getElem?_cons_succ]; rfl)
            case xst20 =>
              go_simp
              go_at_call 40
              refine ((HRD _ _).out).mono ?_
              rintro e w' ⟨rfl, rfl⟩
              go_wp2_with fail
              refine hK.out _ _ hS5 (fun hHeld => ?_)
              clear hK K
              try simp only [Act.put, List.setIfInBounds_toArray, List.set_cons_zero, List.set_cons_succ]
              refine wpAnyH_ready (rs := [1, 9]) (by kernel_rfl) (by simp) ?_
              refine' AllReadyH.cons (o := _) ?xho21 (fun K hK => ?xst21) ?xmo21
              case xho21 => (simp only [List.getElem?_toArray, List.getElem?_cons_zero, List.getElem?_cons_succ]; rfl)
              case xst21 =>
                go_simp
                refine hK.out _ _ hS5 (fun hHeld => ?_)
                clear hK K
                try simp only [Act.put, List.setIfInBounds_toArray, List.set_cons_zero, List.set_cons_succ]
                refine wpAnyH_ready (rs := [9]) (by kernel_rfl) (by simp) ?_
                refine' AllReadyH.cons (o := _) ?xho22 (fun K hK => ?xst22) ?xmo22
                case xho22 => (simp only [List.getElem?_toArray, List.getElem?_cons_zero, List.getElem?_cons_succ]; rfl)
                case xst22 =>
                  go_simp
                  go_at_call 40
                  refine ((HRD _ _).out).mono ?_
                  rintro e w' ⟨rfl, rfl⟩
                  go_wp2_with fail
                  refine hK.out _ _ hS5 (fun hHeld => ?_)
                  clear hK K
                  try simp only [Act.put, List.setIfInBounds_toArray, List.set_cons_zero, List.set_cons_succ]
                  refine wpAnyH_ready (rs := [13]) (by kernel_rfl) (by simp) ?_
                  refine' AllReadyH.cons (o := _) ?xho23 (fun K hK => ?xst23) ?xmo23
                  case xho23 => (simp only [List.getElem?_toArray, List.getElem?_cons_zero, List.getElem?_cons_succ]; rfl)
                  case xst23 =>
                    go_simp
                    go_at_call 40
                    refine ((HRD _ _).out).mono ?_
                    rintro e w' ⟨rfl, rfl⟩
                    go_wp2_with fail
                    refine hK.out _ _ hS5 (fun hHeld => ?_)
                    clear hK K
                    try simp only [Act.put, List.setIfInBounds_toArray, List.set_cons_zero, List.set_cons_succ]
                    refine' wpAnyH_take (i := 14) (oi := _) (v := _) ?xho24 (by kernel_rfl) (by kernel_rfl) (by kernel_rfl) ?xhQ24 ?xhy24 (by assumption) ?xrs24
                    case xho24 => (simp only [List.getElem?_toArray, List.getElem?_cons_zero, List.getElem?_cons_succ]; rfl)
                    case xhQ24 => exact fun _ _ _ h => h
                    case xhy24 => (refine Or.inl ⟨by rfl, ?_⟩; intro wx hSw; obtain ⟨s0, s1, s2⟩ := hSw; go_simp; first | done | with_reducible rfl)
                    try simp only [Act.put, List.setIfInBounds_toArray, List.set_cons_zero, List.set_cons_succ]
                    refine wpAnyH_ready (rs := [15]) (by kernel_rfl) (by simp) ?_
                    refine' AllReadyH.cons (o := _) ?xho25 (fun K hK => ?xst25) ?xmo25
                    case xho25 => (simp only [List.getElem?_toArray, List.getElem?_cons_zero, List.getElem?_cons_succ]; rfl)
                    case xst25 =>
                      go_simp
                      have hb6 := bl_alloc (Below.refl w5.heap.size w5) (.cells #[.int .i64 (rb' ya), .int .i64 (rb' yb), .int .i64 (rb' yc)] 44)
                      have d1 := cell_after hb6 f2 d1
                      have hS6 := RS.after hg4 hb6 hS5
                      clear hb6
                      refine hK.out _ _ hS6 (fun hHeld => ?_)
                      clear hK K
                      try simp only [Act.put, List.setIfInBounds_toArray, List.set_cons_zero, List.set_cons_succ]
                      refine wpAnyH_ready (rs := [16]) (by kernel_rfl) (by simp) ?_
                      refine' AllReadyH.cons (o := _) ?xho26 (fun K hK => ?xst26) ?xmo26
                      case xho26 => (simp only [List.getElem?_toArray, List.getElem?_cons_zero, List.getElem?_cons_succ]; rfl)
                      case xst26 =>
                        refine step_append_lies _ rfl _ _ 28 rfl w3.heap.size 44 i0 (.agg #[.int .i64 0, .int .i64 0, .int .i64 0]) 3 24 Tryd.underlying28 hi hz0 hz1 hz2 rfl (by decide) _ _ _ rfl (World.ownsRow.alloc (w := w5) hOr.out _) ⟨_, 0, none⟩ 1 1 [.int .i64 (rb' ya), .int .i64 (rb' yb), .int .i64 (rb' yc)] rfl rfl (cells3p _ _ _ _ _ _ rfl) (by simp [Value.oneCell']) (by decide) (by unfold maxLen; omega) (by omega) (by simp; omega) _ rfl ?_
                        intro g5 cp wn hown hgrow hat hlt2
                        have hgr : (w5.alloc (.cells #[.int .i64 (rb' ya), .int .i64 (rb' yb), .int .i64 (rb' yc)] 44)).grownBy wn (Value.slice av j cv).ownBlock := ⟨hgrow.os, hgrow.tape, hgrow.output, hgrow.size, hgrow.block⟩
                        have hS7 := RS.grown (a := .slice av j cv) (by simp; omega) hgr (fun g e => (HNE.out g e).1) hS6
                        rw [← HXA.out, ← HXB.out, ← HXC.out, ← HA.out, ← HB_.out, ← HC_.out] at hown
                        obtain ⟨r1, r2⟩ := OClu.push (W := w5) hsz HO.out hown hgrow
                        have Q1 := Lib.hid r1
                        have Q2 := Lib.hid r2
                        have Z5 := Lib.hid (ZZ.out.under r2 hQ3)
                        have S5 := r2.size
                        clear r1 r2 hown hgrow hat hlt2 d1 f2 hS6
                        obtain ⟨⟨⟨b0, b1⟩, ⟨c0, c1⟩, ⟨d0, d1⟩, e0, e1⟩, ⟨f0, f1⟩, hB⟩ := Z5.out
                        have HB5 := Lib.hid hB
                        clear hB
                        refine hK.out _ _ hS7 (fun hHeld => ?_)
                        clear hK K
                        try simp only [Act.put, List.setIfInBounds_toArray, List.set_cons_zero, List.set_cons_succ]
                        refine' wpAnyH_take (i := 17) (oi := _) (v := _) ?xho27 (by kernel_rfl) (by kernel_rfl) (by kernel_rfl) ?xhQ27 ?xhy27 (by assumption) ?xrs27
                        case xho27 => (simp only [List.getElem?_toArray, List.getElem?_cons_zero, List.getElem?_cons_succ]; rfl)
                        case xhQ27 => exact fun _ _ _ h => h
                        case xhy27 => (refine Or.inl ⟨by rfl, ?_⟩; intro wx hSw; obtain ⟨s0, s1, s2⟩ := hSw; go_simp; first | done | with_reducible rfl)
                        try simp only [Act.put, List.setIfInBounds_toArray, List.set_cons_zero, List.set_cons_succ]
                        refine wpAnyH_ready (rs := [18]) (by kernel_rfl) (by simp) ?_
                        refine' AllReadyH.cons (o := _) ?xho28 (fun K hK => ?xst28) ?xmo28
                        case xho28 => (simp only [List.getElem?_toArray, List.getElem?_cons_zero, List.getElem?_cons_succ]; rfl)
                        case xst28 =>
                          go_simp
                          refine hK.out _ _ (RS.set hG4Q hS7) (fun hHeld => ?_)
                          clear hK K
                          try simp only [Act.put, List.setIfInBounds_toArray, List.set_cons_zero, List.set_cons_succ]
                          refine wpAnyH_done (by kernel_rfl) ?_ _
                          go_wp2_with fail
                          go_meet
                          exact ⟨rfl, _, Q1.out.low hQ3 _, fun i hi => (by have h1 := (Q2.out.cell (p := ⟨g3, i, none⟩) hg3).trans (HCS.out i hi); have hne : ¬ g3 = Q := HGQ.out; have hne2 : ¬ Q = g3 := fun e => hne e.symm; simp [go_sem, h1, hne, hne2]), (by simp; exact Nat.le_trans hsz S5), Z5.out.set _⟩
                        exact AllReadyH.nil
                      exact AllReadyH.nil
                    exact AllReadyH.nil
                  exact AllReadyH.nil
                exact AllReadyH.nil
              refine' AllReadyH.cons (o := _) ?xho29 (fun K hK => ?xst29) ?xmo29
              case xho29 => (simp only [List.getElem?_toArray, List.getElem?_cons_zero, List.getElem?_cons_succ]; rfl)
              case xst29 =>
                go_simp
                go_at_call 40
                refine ((HRD _ _).out).mono ?_
                rintro e w' ⟨rfl, rfl⟩
                go_wp2_with fail
                refine hK.out _ _ hS5 (fun hHeld => ?_)
                clear hK K
                try simp only [Act.put, List.setIfInBounds_toArray, List.set_cons_zero, List.set_cons_succ]
                refine wpAnyH_ready (rs := [1, 13]) (by kernel_rfl) (by simp) ?_
                refine' AllReadyH.cons (o := _) ?xho30 (fun K hK => ?xst30) ?xmo30
                case xho30 => (simp only [List.getElem?_toArray, List.getElem?_cons_zero, List.getElem?_cons_succ]; rfl)
                case xst30 =>
                  go_simp
                  refine hK.out _ _ hS5 (fun hHeld => ?_)
                  clear hK K
                  try simp only [Act.put, List.setIfInBounds_toArray, List.set_cons_zero, List.set_cons_succ]
                  refine wpAnyH_ready (rs := [13]) (by kernel_rfl) (by simp) ?_
                  refine' AllReadyH.cons (o := _) ?xho31 (fun K hK => ?xst31) ?xmo31
                  case xho31 => (simp only [List.getElem?_toArray, List.getElem?_cons_zero, List.getElem?_cons_succ]; rfl)
                  case xst31 =>
                    go_simp
                    go_at_call 40
                    refine ((HRD _ _).out).mono ?_
                    rintro e w' ⟨rfl, rfl⟩
                    go_wp2_with fail
                    refine hK.out _ _ hS5 (fun hHeld => ?_)
                    clear hK K
                    try simp only [Act.put, List.setIfInBounds_toArray, List.set_cons_zero, List.set_cons_succ]
                    refine' wpAnyH_take (i := 14) (oi := _) (v := _) ?xho32 (by kernel_rfl) (by kernel_rfl) (by kernel_rfl) ?xhQ32 ?xhy32 (by assumption) ?xrs32
                    case xho32 => (simp only [List.getElem?_toArray, List.getElem?_cons_zero, List.getElem?_cons_succ]; rfl)
                    case xhQ32 => exact fun _ _ _ h => h
                    case xhy32 => (refine Or.inl ⟨by rfl, ?_⟩; intro wx hSw; obtain ⟨s0, s1, s2⟩ := hSw; go_simp; first | done | with_reducible rfl)
                    try simp only [Act.put, List.setIfInBounds_toArray, List.set_cons_zero, List.set_cons_succ]
                    refine wpAnyH_ready (rs := [15]) (by kernel_rfl) (by simp) ?_
                    refine' AllReadyH.cons (o := _) ?xho33 (fun K hK => ?xst33) ?xmo33
                    case xho33 => (simp only [List.getElem?_toArray, List.getElem?_cons_zero, List.getElem?_cons_succ]; rfl)
                    case xst33 =>
                      go_simp
                      have hb6 := bl_alloc (Below.refl w5.heap.size w5) (.cells #[.int .i64 (rb' ya), .int .i64 (rb' yb), .int .i64 (rb' yc)] 44)
                      have d1 := cell_after hb6 f2 d1
                      have hS6 := RS.after hg4 hb6 hS5
                      clear hb6
                      refine hK.out _ _ hS6 (fun hHeld => ?_)
                      clear hK K
                      try simp only [Act.put, List.setIfInBounds_toArray, List.set_cons_zero, List.set_cons_succ]
                      refine wpAnyH_ready (rs := [16]) (by kernel_rfl) (by simp) ?_
                      refine' AllReadyH.cons (o := _) ?xho34 (fun K hK => ?xst34) ?xmo34
                      case xho34 => (simp only [List.getElem?_toArray, List.getElem?_cons_zero, List.getElem?_cons_succ]; rfl)
                      case xst34 =>
                        refine step_append_lies _ rfl _ _ 28 rfl w3.heap.size 44 i0 (.agg #[.int .i64 0, .int .i64 0, .int .i64 0]) 3 24 Tryd.underlying28 hi hz0 hz1 hz2 rfl (by decide) _ _ _ rfl (World.ownsRow.alloc (w := w5) hOr.out _) ⟨_, 0, none⟩ 1 1 [.int .i64 (rb' ya), .int .i64 (rb' yb), .int .i64 (rb' yc)] rfl rfl (cells3p _ _ _ _ _ _ rfl) (by simp [Value.oneCell']) (by decide) (by unfold maxLen; omega) (by omega) (by simp; omega) _ rfl ?_
                        intro g5 cp wn hown hgrow hat hlt2
                        have hgr : (w5.alloc (.cells #[.int .i64 (rb' ya), .int .i64 (rb' yb), .int .i64 (rb' yc)] 44)).grownBy wn (Value.slice av j cv).ownBlock := ⟨hgrow.os, hgrow.tape, hgrow.output, hgrow.size, hgrow.block⟩
                        have hS7 := RS.grown (a := .slice av j cv) (by simp; omega) hgr (fun g e => (HNE.out g e).1) hS6
                        rw [← HXA.out, ← HXB.out, ← HXC.out, ← HA.out, ← HB_.out, ← HC_.out] at hown
                        obtain ⟨r1, r2⟩ := OClu.push (W := w5) hsz HO.out hown hgrow
                        have Q1 := Lib.hid r1
                        have Q2 := Lib.hid r2
                        have Z5 := Lib.hid (ZZ.out.under r2 hQ3)
                        have S5 := r2.size
                        clear r1 r2 hown hgrow hat hlt2 d1 f2 hS6
                        obtain ⟨⟨⟨b0, b1⟩, ⟨c0, c1⟩, ⟨d0, d1⟩, e0, e1⟩, ⟨f0, f1⟩, hB⟩ := Z5.out
                        have HB5 := Lib.hid hB
                        clear hB
                        refine hK.out _ _ hS7 (fun hHeld => ?_)
                        clear hK K
                        try simp only [Act.put, List.setIfInBounds_toArray, List.set_cons_zero, List.set_cons_succ]
                        refine' wpAnyH_take (i := 17) (oi := _) (v := _) ?xho35 (by kernel_rfl) (by kernel_rfl) (by kernel_rfl) ?xhQ35 ?xhy35 (by assumption) ?xrs35
                        case xho35 => (simp only [List.getElem?_toArray, List.getElem?_cons_zero, List.getElem?_cons_succ]; rfl)
                        case xhQ35 => exact fun _ _ _ h => h
                        case xhy35 => (refine Or.inl ⟨by rfl, ?_⟩; intro wx hSw; obtain ⟨s0, s1, s2⟩ := hSw; go_simp; first | done | with_reducible rfl)
                        try simp only [Act.put, List.setIfInBounds_toArray, List.set_cons_zero, List.set_cons_succ]
                        refine wpAnyH_ready (rs := [18]) (by kernel_rfl) (by simp) ?_
                        refine' AllReadyH.cons (o := _) ?xho36 (fun K hK => ?xst36) ?xmo36
                        case xho36 => (simp only [List.getElem?_toArray, List.getElem?_cons_zero, List.getElem?_cons_succ]; rfl)
                        case xst36 =>
                          go_simp
                          refine hK.out _ _ (RS.set hG4Q hS7) (fun hHeld => ?_)
                          clear hK K
                          try simp only [Act.put, List.setIfInBounds_toArray, List.set_cons_zero, List.set_cons_succ]
                          refine wpAnyH_done (by kernel_rfl) ?_ _
                          go_wp2_with fail
                          go_meet
                          exact ⟨rfl, _, Q1.out.low hQ3 _, fun i hi => (by have h1 := (Q2.out.cell (p := ⟨g3, i, none⟩) hg3).trans (HCS.out i hi); have hne : ¬ g3 = Q := HGQ.out; have hne2 : ¬ Q = g3 := fun e => hne e.symm; simp [go_sem, h1, hne, hne2]), (by simp; exact Nat.le_trans hsz S5), Z5.out.set _⟩
                        exact AllReadyH.nil
                      exact AllReadyH.nil
                    exact AllReadyH.nil
                  exact AllReadyH.nil
                refine' AllReadyH.cons (o := _) ?xho37 (fun K hK => ?xst37) ?xmo37
                case xho37 => (simp only [List.getElem?_toArray, List.getElem?_cons_zero, List.getElem?_cons_succ]; rfl)
                case xst37 =>
                  go_simp
                  go_at_call 40
                  refine ((HRD _ _).out).mono ?_
                  rintro e w' ⟨rfl, rfl⟩
                  go_wp2_with fail
                  refine hK.out _ _ hS5 (fun hHeld => ?_)
                  clear hK K
                  try simp only [Act.put, List.setIfInBounds_toArray, List.set_cons_zero, List.set_cons_succ]
                  refine' wpAnyH_take (i := 14) (oi := _) (v := _) ?xho38 (by kernel_rfl) (by kernel_rfl) (by kernel_rfl) ?xhQ38 ?xhy38 (by assumption) ?xrs38
                  case xho38 => (simp only [List.getElem?_toArray, List.getElem?_cons_zero, List.getElem?_cons_succ]; rfl)
                  case xhQ38 => exact fun _ _ _ h => h
                  case xhy38 => (refine Or.inl ⟨by rfl, ?_⟩; intro wx hSw; obtain ⟨s0, s1, s2⟩ := hSw; go_simp; first | done | with_reducible rfl)
                  try simp only [Act.put, List.setIfInBounds_toArray, List.set_cons_zero, List.set_cons_succ]
                  refine wpAnyH_ready (rs := [1, 15]) (by kernel_rfl) (by simp) ?_
                  refine' AllReadyH.cons (o := _) ?xho39 (fun K hK => ?xst39) ?xmo39
                  case xho39 => (simp only [List.getElem?_toArray, List.getElem?_cons_zero, List.getElem?_cons_succ]; rfl)
                  case xst39 =>
                    go_simp
                    refine hK.out _ _ hS5 (fun hHeld => ?_)
                    clear hK K
                    try simp only [Act.put, List.setIfInBounds_toArray, List.set_cons_zero, List.set_cons_succ]
                    refine wpAnyH_ready (rs := [15]) (by kernel_rfl) (by simp) ?_
                    refine' AllReadyH.cons (o := _) ?xho40 (fun K hK => ?xst40) ?xmo40
                    case xho40 => (simp only [List.getElem?_toArray, List.getElem?_cons_zero, List.getElem?_cons_succ]; rfl)
                    case xst40 =>
                      go_simp
                      have hb6 := bl_alloc (Below.refl w5.heap.size w5) (.cells #[.int .i64 (rb' ya), .int .i64 (rb' yb), .int .i64 (rb' yc)] 44)
                      have d1 := cell_after hb6 f2 d1
                      have hS6 := RS.after hg4 hb6 hS5
                      clear hb6
                      refine hK.out _ _ hS6 (fun hHeld => ?_)
                      clear hK K
                      try simp only [Act.put, List.setIfInBounds_toArray, List.set_cons_zero, List.set_cons_succ]
                      refine wpAnyH_ready (rs := [16]) (by kernel_rfl) (by simp) ?_
                      refine' AllReadyH.cons (o := _) ?xho41 (fun K hK => ?xst41) ?xmo41
                      case xho41 => (simp only [List.getElem?_toArray, List.getElem?_cons_zero, List.getElem?_cons_succ]; rfl)
                      case xst41 =>
                        refine step_append_lies _ rfl _ _ 28 rfl w3.heap.size 44 i0 (.agg #[.int .i64 0, .int .i64 0, .int .i64 0]) 3 24 Tryd.underlying28 hi hz0 hz1 hz2 rfl (by decide) _ _ _ rfl (World.ownsRow.alloc (w := w5) hOr.out _) ⟨_, 0, none⟩ 1 1 [.int .i64 (rb' ya), .int .i64 (rb' yb), .int .i64 (rb' yc)] rfl rfl (cells3p _ _ _ _ _ _ rfl) (by simp [Value.oneCell']) (by decide) (by unfold maxLen; omega) (by omega) (by simp; omega) _ rfl ?_
                        intro g5 cp wn hown hgrow hat hlt2
                        have hgr : (w5.alloc (.cells #[.int .i64 (rb' ya), .int .i64 (rb' yb), .int .i64 (rb' yc)] 44)).grownBy wn (Value.slice av j cv).ownBlock := ⟨hgrow.os, hgrow.tape, hgrow.output, hgrow.size, hgrow.block⟩
                        have hS7 := RS.grown (a := .slice av j cv) (by simp; omega) hgr (fun g e => (HNE.out g e).1) hS6
                        rw [← HXA.out, ← HXB.out, ← HXC.out, ← HA.out, ← HB_.out, ← HC_.out] at hown
                        obtain ⟨r1, r2⟩ := OClu.push (W := w5) hsz HO.out hown hgrow
                        have Q1 := Lib.hid r1
                        have Q2 := Lib.hid r2
                        have Z5 := Lib.hid (ZZ.out.under r2 hQ3)
                        have S5 := r2.size
                        clear r1 r2 hown hgrow hat hlt2 d1 f2 hS6
                        obtain ⟨⟨⟨b0, b1⟩, ⟨c0, c1⟩, ⟨d0, d1⟩, e0, e1⟩, ⟨f0, f1⟩, hB⟩ := Z5.out
                        have HB5 := Lib.hid hB
                        clear hB
                        refine hK.out _ _ hS7 (fun hHeld => ?_)
                        clear hK K
                        try simp only [Act.put, List.setIfInBounds_toArray, List.set_cons_zero, List.set_cons_succ]
                        refine' wpAnyH_take (i := 17) (oi := _) (v := _) ?xho42 (by kernel_rfl) (by kernel_rfl) (by kernel_rfl) ?xhQ42 ?xhy42 (by assumption) ?xrs42
                        case xho42 => (simp only [List.getElem?_toArray, List.getElem?_cons_zero, List.getElem?_cons_succ]; rfl)
                        case xhQ42 => exact fun _ _ _ h => h
                        case xhy42 => (refine Or.inl ⟨by rfl, ?_⟩; intro wx hSw; obtain ⟨s0, s1, s2⟩ := hSw; go_simp; first | done | with_reducible rfl)
                        try simp only [Act.put, List.setIfInBounds_toArray, List.set_cons_zero, List.set_cons_succ]
                        refine wpAnyH_ready (rs := [18]) (by kernel_rfl) (by simp) ?_
                        refine' AllReadyH.cons (o := _) ?xho43 (fun K hK => ?xst43) ?xmo43
                        case xho43 => (simp only [List.getElem?_toArray, List.getElem?_cons_zero, List.getElem?_cons_succ]; rfl)
                        case xst43 =>
                          go_simp
                          refine hK.out _ _ (RS.set hG4Q hS7) (fun hHeld => ?_)
                          clear hK K
                          try simp only [Act.put, List.setIfInBounds_toArray, List.set_cons_zero, List.set_cons_succ]
                          refine wpAnyH_done (by kernel_rfl) ?_ _
                          go_wp2_with fail
                          go_meet
                          exact ⟨rfl, _, Q1.out.low hQ3 _, fun i hi => (by have h1 := (Q2.out.cell (p := ⟨g3, i, none⟩) hg3).trans (HCS.out i hi); have hne : ¬ g3 = Q := HGQ.out; have hne2 : ¬ Q = g3 := fun e => hne e.symm; simp [go_sem, h1, hne, hne2]), (by simp; exact Nat.le_trans hsz S5), Z5.out.set _⟩
                        exact AllReadyH.nil
                      exact AllReadyH.nil
                    exact AllReadyH.nil
                  refine' AllReadyH.cons (o := _) ?xho44 (fun K hK => ?xst44) ?xmo44
                  case xho44 => (simp only [List.getElem?_toArray, List.getElem?_cons_zero, List.getElem?_cons_succ]; rfl)
                  case xst44 =>
                    go_simp
                    have hb6 := bl_alloc (Below.refl w5.heap.size w5) (.cells #[.int .i64 (rb' ya), .int .i64 (rb' yb), .int .i64 (rb' yc)] 44)
                    have d1 := cell_after hb6 f2 d1
                    have hS6 := RS.after hg4 hb6 hS5
                    clear hb6
                    refine hK.out _ _ hS6 (fun hHeld => ?_)
                    clear hK K
                    try simp only [Act.put, List.setIfInBounds_toArray, List.set_cons_zero, List.set_cons_succ]
                    refine wpAnyH_ready (rs := [1]) (by kernel_rfl) (by simp) ?_
                    refine' AllReadyH.cons (o := _) ?xho45 (fun K hK => ?xst45) ?xmo45
                    case xho45 => (simp only [List.getElem?_toArray, List.getElem?_cons_zero, List.getElem?_cons_succ]; rfl)
                    case xst45 =>
                      go_simp
                      refine hK.out _ _ hS6 (fun hHeld => ?_)
                      clear hK K
                      try simp only [Act.put, List.setIfInBounds_toArray, List.set_cons_zero, List.set_cons_succ]
                      refine wpAnyH_ready (rs := [16]) (by kernel_rfl) (by simp) ?_
                      refine' AllReadyH.cons (o := _) ?xho46 (fun K hK => ?xst46) ?xmo46
                      case xho46 => (simp only [List.getElem?_toArray, List.getElem?_cons_zero, List.getElem?_cons_succ]; rfl)
                      case xst46 =>
                        refine step_append_lies _ rfl _ _ 28 rfl w3.heap.size 44 i0 (.agg #[.int .i64 0, .int .i64 0, .int .i64 0]) 3 24 Tryd.underlying28 hi hz0 hz1 hz2 rfl (by decide) _ _ _ rfl (World.ownsRow.alloc (w := w5) hOr.out _) ⟨_, 0, none⟩ 1 1 [.int .i64 (rb' ya), .int .i64 (rb' yb), .int .i64 (rb' yc)] rfl rfl (cells3p _ _ _ _ _ _ rfl) (by simp [Value.oneCell']) (by decide) (by unfold maxLen; omega) (by omega) (by simp; omega) _ rfl ?_
                        intro g5 cp wn hown hgrow hat hlt2
                        have hgr : (w5.alloc (.cells #[.int .i64 (rb' ya), .int .i64 (rb' yb), .int .i64 (rb' yc)] 44)).grownBy wn (Value.slice av j cv).ownBlock := ⟨hgrow.os, hgrow.tape, hgrow.output, hgrow.size, hgrow.block⟩
                        have hS7 := RS.grown (a := .slice av j cv) (by simp; omega) hgr (fun g e => (HNE.out g e).1) hS6
                        rw [← HXA.out, ← HXB.out, ← HXC.out, ← HA.out, ← HB_.out, ← HC_.out] at hown
                        obtain ⟨r1, r2⟩ := OClu.push (W := w5) hsz HO.out hown hgrow
                        have Q1 := Lib.hid r1
                        have Q2 := Lib.hid r2
                        have Z5 := Lib.hid (ZZ.out.under r2 hQ3)
                        have S5 := r2.size
                        clear r1 r2 hown hgrow hat hlt2 d1 f2 hS6
                        obtain ⟨⟨⟨b0, b1⟩, ⟨c0, c1⟩, ⟨d0, d1⟩, e0, e1⟩, ⟨f0, f1⟩, hB⟩ := Z5.out
                        have HB5 := Lib.hid hB
                        clear hB
                        refine hK.out _ _ hS7 (fun hHeld => ?_)
                        clear hK K
                        try simp only [Act.put, List.setIfInBounds_toArray, List.set_cons_zero, List.set_cons_succ]
                        refine' wpAnyH_take (i := 17) (oi := _) (v := _) ?xho47 (by kernel_rfl) (by kernel_rfl) (by kernel_rfl) ?xhQ47 ?xhy47 (by assumption) ?xrs47
                        case xho47 => (simp only [List.getElem?_toArray, List.getElem?_cons_zero, List.getElem?_cons_succ]; rfl)
                        case xhQ47 => exact fun _ _ _ h => h
                        case xhy47 => (refine Or.inl ⟨by rfl, ?_⟩; intro wx hSw; obtain ⟨s0, s1, s2⟩ := hSw; go_simp; first | done | with_reducible rfl)
                        try simp only [Act.put, List.setIfInBounds_toArray, List.set_cons_zero, List.set_cons_succ]
                        refine wpAnyH_ready (rs := [18]) (by kernel_rfl) (by simp) ?_
                        refine' AllReadyH.cons (o := _) ?xho48 (fun K hK => ?xst48) ?xmo48
                        case xho48 => (simp only [List.getElem?_toArray, List.getElem?_cons_zero, List.getElem?_cons_succ]; rfl)
                        case xst48 =>
                          go_simp
                          refine hK.out _ _ (RS.set hG4Q hS7) (fun hHeld => ?_)
                          clear hK K
                          try simp only [Act.put, List.setIfInBounds_toArray, List.set_cons_zero, List.set_cons_succ]
                          refine wpAnyH_done (by kernel_rfl) ?_ _
                          go_wp2_with fail
                          go_meet
                          exact ⟨rfl, _, Q1.out.low hQ3 _, fun i hi => (by have h1 := (Q2.out.cell (p := ⟨g3, i, none⟩) hg3).trans (HCS.out i hi); have hne : ¬ g3 = Q := HGQ.out; have hne2 : ¬ Q = g3 := fun e => hne e.symm; simp [go_sem, h1, hne, hne2]), (by simp; exact Nat.le_trans hsz S5), Z5.out.set _⟩
                        exact AllReadyH.nil
                      exact AllReadyH.nil
                    exact AllReadyH.nil
                  exact AllReadyH.nil
                exact AllReadyH.nil
              exact AllReadyH.nil
            exact AllReadyH.nil
          case rest =>
            obtain ⟨rfl, v7, hO7, hcs7, hsz7, hZ7⟩ := hcut
            clear hOr HRD b0 b1 c0 c1 d0 d1 e0 e1
            refine HKL.out _ _ ?_
            clear HKL
            go_wp2_with fail
            go_roundw
            case rel =>
              refine ⟨j + 1, _, by omega, by go_num, hO7, fun i hi => ?_, hcs7, hsz7, hZ7⟩
              by_cases e : i = j
              · rw [e, HQ.out]; exact HIO.out
              · exact HOKJ.out i (by omega)
            case measure => simp only [intOf]; omega
      · obtain rfl : j = N := by omega
        have HOK0 := Lib.hid (show okZS s = okP wv j (fS P) by
          rw [HALL2.out]
          have : P.all sOK = true := by
            rw [List.all_eq_true]
            intro p hp
            obtain ⟨i, hi, rfl⟩ := List.getElem_of_mem hp
            have h1 := HOKJ.out i (by rw [HN.out] at hi; exact hi)
            have h2 : P.getD i [] = P[i] := by simp [List.getD, hi]
            rwa [h2] at h1
          rw [this, Bool.true_and])
        clear hcs HCS
        go_upto_region 14 with fail
        cases hk : okP wv (j) (fS P)
        · have HK := Lib.hid (show okZS s = false by rw [HOK0.out, hk])
          go_wp2_with fail
          have ZZ := Lib.hid ZZ.out.drew
          have HO := Lib.hid (HO.out.keep (Below.drew (Below.refl _ _)))
          obtain ⟨⟨⟨b0, b1⟩, ⟨c0, c1⟩, ⟨d0, d1⟩, e0, e1⟩, ⟨f0, f1⟩, hB⟩ := ZZ.out
          have hqn : ¬ w.heap.size = Q := by omega
          have hqm : ¬ Q = w.heap.size := by omega
          first | (go_region_law (first | (go_simp; go_at_call 15; refine (pzGood_any wv _ (j) (fS P) _ HO.out.toP).mono ?_; rintro e wa ⟨rfl, hba⟩; rw [hk]; have ZZ := Lib.hid (ZZ.out.after hba); have HO := Lib.hid (HO.out.keep hba); clear b0 b1 c0 c1 d0 d1 e0 e1 f0 f1 hB; obtain ⟨⟨⟨b0, b1⟩, ⟨c0, c1⟩, ⟨d0, d1⟩, e0, e1⟩, ⟨f0, f1⟩, hB⟩ := ZZ.out) | fail)) | fail
          all_goals
            go_wp2
            exact bodyPost_ret (v := .tuple #[.agg #[.int .i64 wv, .slice av (j) cv], .bool false]) (by simp [results, Tryd.results22, go_sem, b0, b1, c0, c1]) rfl ⟨wv, j, fS P, .slice av (j) cv, by rw [HK.out], by exact ((HO.out.low (by simp; omega) _).low (by simp; omega) _).lower (by omega), fun h => (by rw [HK.out] at h; cases h), (by repeat (first | refine bl_set ?_ (by first | omega | (simp; done) | (simp; omega)) _ | exact hB))⟩
        · have hok : okZS s = true := by rw [HOK0.out, hk]
          have HK := Lib.hid hok
          have HTX := Lib.hid (show ptx (pre wv) (fS P) (j) = s from by have h := text_back hok; rw [HY.out, HX.out, HWV.out, HPZ.out, HN.out] at h; exact h)
          have HKK := Lib.hid hk
          clear hok
          go_wp2_with fail
          have ZZ := Lib.hid ZZ.out.drew
          have HO := Lib.hid (HO.out.keep (Below.drew (Below.refl _ _)))
          obtain ⟨⟨⟨b0, b1⟩, ⟨c0, c1⟩, ⟨d0, d1⟩, e0, e1⟩, ⟨f0, f1⟩, hB⟩ := ZZ.out
          have hqn : ¬ w.heap.size = Q := by omega
          have hqm : ¬ Q = w.heap.size := by omega
          have hpt := fun (W : World) (h : PClu W (.slice av (j) cv) (j) (fS P)) => Lib.hid (show Calls Tryd.prog 16 #[.agg #[.int .i64 wv, .slice av (j) cv]] W fun e w' => e = .returned (.string s) ∧ Below W.heap.size W w' by have q := pzText_any wv _ _ _ W h HKK.out; rw [HTX.out] at q; exact q)
          first | (go_region_law (first | (go_simp; go_at_call 15; refine (pzGood_any wv _ (j) (fS P) _ HO.out.toP).mono ?_; rintro e wa ⟨rfl, hba⟩; rw [hk]; have ZZ := Lib.hid (ZZ.out.after hba); have HO := Lib.hid (HO.out.keep hba); clear b0 b1 c0 c1 d0 d1 e0 e1 f0 f1 hB; obtain ⟨⟨⟨b0, b1⟩, ⟨c0, c1⟩, ⟨d0, d1⟩, e0, e1⟩, ⟨f0, f1⟩, hB⟩ := ZZ.out) | (go_simp; go_at_call 16; refine ((hpt _ HO.out.toP).out).mono ?_; rintro e wb ⟨rfl, hbb⟩; have ZZ := Lib.hid (ZZ.out.after hbb); have HO := Lib.hid (HO.out.keep hbb); clear b0 b1 c0 c1 d0 d1 e0 e1 f0 f1 hB; obtain ⟨⟨⟨b0, b1⟩, ⟨c0, c1⟩, ⟨d0, d1⟩, e0, e1⟩, ⟨f0, f1⟩, hB⟩ := ZZ.out) | fail)) | fail
          all_goals
            go_wp2
            exact bodyPost_ret (v := .tuple #[.agg #[.int .i64 wv, .slice av (j) cv], .bool true]) (by simp [results, Tryd.results22, go_sem, b0, b1, c0, c1]) rfl ⟨wv, j, fS P, .slice av (j) cv, by rw [HK.out], by exact ((HO.out.low (by simp; omega) _).low (by simp; omega) _).lower (by omega), fun _ => ⟨by rw [HX.out]; exact HWV.out.symm, by rw [HY.out, HPZ.out, HN.out], by rw [HY.out, HPZ.out]⟩, (by repeat (first | refine bl_set ?_ (by first | omega | (simp; done) | (simp; omega)) _ | exact hB))⟩
end Go.Proofs.YtahcfjpplkemdaaDoor
