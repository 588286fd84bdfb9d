/- PlacesOfBeam: by the program and by the model alike. -/
import Derived.Test.YtnhjiipkekblfaaB8
import Derived.Test.YtnhjiipkekblfaaR2
namespace Go.Proofs.Ytnhjiipkekblfaa
open Go.RowKit Beam Go.Deep
set_option linter.unusedVariables false
set_option linter.unusedSimpArgs false
theorem own_mono {w : World} {B C : Nat} {T size : Nat} {v : Value} {n : Nat} {xs : List Value} (h : w.ownsRow C T size v n xs) (hb : B ≤ C) : w.ownsRow B T size v n xs := by
  obtain ⟨h1, h2⟩ := h
  refine ⟨h1, ?_⟩
  rcases h2 with h2 | ⟨g, cap, cur, e, hB, rest⟩
  · exact .inl h2
  · exact .inr ⟨g, cap, cur, e, Nat.le_trans hb hB, rest⟩
theorem RRow.mono {w : World} {B C : Nat} {v : Value} {rs : List (List Int)} (h : RRow w C v rs) (hb : B ≤ C) : RRow w B v rs := by
  obtain ⟨vs, h1, h3, h4⟩ := h
  exact ⟨vs, own_mono h1 hb, fun i hi => own_mono (h3 i hi) hb, h4⟩
theorem RRow.keep {w w' : World} {B : Nat} {v : Value} {rs : List (List Int)} (h : RRow w B v rs) (k : Below w.heap.size w w') : RRow w' B v rs := RRowF.keep h k
def plc (t : BWay) : Nat → List (List Int)
  | 0 => []
  | k + 1 => plc t k ++ [[((t.x k : Nat) : Int), ((t.y k : Nat) : Int)]]
theorem plc_len (t : BWay) (k : Nat) : (plc t k).length = k := by
  induction k with
  | zero => rfl
  | succ k ih => simp [plc, ih]
theorem plc_two (t : BWay) (k : Nat) : ∀ r ∈ plc t k, r.length ≤ 2 := by
  induction k with
  | zero => simp [plc]
  | succ k ih =>
    intro r hr
    simp only [plc, List.mem_append] at hr
    rcases hr with hr | hr
    · exact ih r hr
    · simp at hr; subst hr; simp
def plZ (a b x y : Int) (r u : Bool) (s : Int) : List (List Int) := if okBS 300 a b x y s then plc (wayI a b x y r u) ((wayI a b x y r u).made s.toNat + 1) else []
theorem plZ_tot (a b x y : Int) (r u : Bool) (s : Int) : tot (fun i => (plZ a b x y r u s).getD i []) (plZ a b x y r u s).length ≤ 4000000 := by
  unfold plZ
  cases h : okBS 300 a b x y s
  · simp [tot]
  · have h0 := h
    simp only [okBS, Bool.and_eq_true] at h0
    obtain ⟨s1, s2⟩ := within_true h0.2
    have hm := ((wayI a b x y r u).made_lt s.toNat).1
    have := rows_le (plc (wayI a b x y r u) ((wayI a b x y r u).made s.toNat + 1)) 2 301 (plc_two _ _) (by rw [plc_len]; omega)
    simp only [if_true]
    omega
/-- one place more -/
theorem place_push {wr w1 : World} {C : Nat} {v v' : Value} {t : BWay} {k : Nat} {box o2 : Obj} {vs : List Value} (hC : C ≤ wr.heap.size)
    (h1 : wr.ownsRow C 75 1 v k vs) (h3 : ∀ i, i < k → IRow wr C (vs.getD i (.bool false)) ((plc t k).getD i []))
    (h4 : ∀ i j, i < j → j < k → (vs.getD i (.bool false)).ownBlock = none ∨ (vs.getD i (.bool false)).ownBlock ≠ (vs.getD j (.bool false)).ownBlock)
    (hO : w1.ownsRow C 75 1 v' (k + 1) (vs ++ [.slice (some ⟨wr.heap.size + 1, 0, none⟩) 2 2]))
    (hg : (((wr.alloc box).alloc (.cells #[.int .i64 (t.x k : Nat), .int .i64 (t.y k : Nat)] 3)).alloc o2).grownBy w1 v.ownBlock) : RRow w1 C v' (plc t (k + 1)) ∧ Below C wr w1 := by
  have hl := plc_len t k
  have ea : Below wr.heap.size wr (wr.alloc box) := (Below.refl _ _).alloc (Nat.le_refl _) _
  have hs : (wr.alloc box).heap.size = wr.heap.size + 1 := by simp
  have hn := IRow.made (wr.alloc box) C [((t.x k : Nat) : Int), ((t.y k : Nat) : Int)] (by rw [hs]; omega) (by simp [maxLen])
  rw [← hs] at hO
  obtain ⟨q1, q2⟩ := RRow.push (rs := plc t k) (wr := wr.alloc box) (xs := [((t.x k : Nat) : Int), ((t.y k : Nat) : Int)]) (by rw [hs]; omega) (by rw [hl]; exact h1.alloc _) (by rw [hl]; exact fun i hi => (h3 i hi).keep ea) (by rw [hl]; exact h4) hn (by rw [hl]; exact hO) hg
  exact ⟨q1, (ea.mono hC).trans q2⟩
theorem cell_one_alloc (w : World) (x : Value) (t : TypeId) (n : Nat) (hn : n = w.heap.size) : ∀ j u, [x][j]? = some u → (w.alloc (.cells #[x] t)).cell? ((⟨n, 0, none⟩ : Addr).add j) = some u := by
  intro j u hj
  subst hn
  match j, hj with
  | 0, hj =>
    simp at hj
    subst hj
    simp [Addr.add]
set_option maxRecDepth 100000 in
set_option maxHeartbeats 2000000 in
theorem spec_PlacesOfBeam (a b x y : Int) (r u : Bool) (s : Int) (w : World) :
    Calls Try.prog 30 #[.agg #[.int .i64 a, .int .i64 b], .agg #[.int .i64 x, .int .i64 y, .bool r, .bool u], .int .i64 s] w fun e w' => ∃ v, e = .returned (.tuple #[v, .bool (okBS 300 a b x y s)]) ∧ RRow w' w.heap.size v (plZ a b x y r u s) ∧ Below w.heap.size w w' := by
  cases h : okBS 300 a b x y s
  · go_enter Try.func30, Try.ntmps30
    go_wp2_with fail
    refine (spec_beAsked _ _ _ _ _ _ _ _ _).mono ?_
    rintro e w1 ⟨rfl, hb1⟩
    obtain ⟨hc1, hf1⟩ := bcell hb1
    have hz1 := bsize hb1
    (try simp only [World.size_alloc, World.size_setCell] at hz1)
    have k1_0_0 : w1.cell? ⟨w.heap.size, 0, none⟩ = some (.int .i64 a) := by rw [hc1 _ _ (by first | (simp; done) | omega | (simp; omega))]; first | assumption | (simp [go_sem]; done) | (simp [go_sem]; done) | (simp [go_sem, *]; done)
    have k1_0_1 : w1.cell? ⟨w.heap.size, 1, none⟩ = some (.int .i64 b) := by rw [hc1 _ _ (by first | (simp; done) | omega | (simp; omega))]; first | assumption | (simp [go_sem]; done) | (simp [go_sem]; done) | (simp [go_sem, *]; done)
    have s1_0 : w.heap.size < w1.heap.size := by omega
    have k1_1_0 : w1.cell? ⟨w.heap.size + 1, 0, none⟩ = some (.int .i64 x) := by rw [hc1 _ _ (by first | (simp; done) | omega | (simp; omega))]; first | assumption | (simp [go_sem]; done) | (simp [go_sem]; done) | (simp [go_sem, *]; done)
    have k1_1_1 : w1.cell? ⟨w.heap.size + 1, 1, none⟩ = some (.int .i64 y) := by rw [hc1 _ _ (by first | (simp; done) | omega | (simp; omega))]; first | assumption | (simp [go_sem]; done) | (simp [go_sem]; done) | (simp [go_sem, *]; done)
    have k1_1_2 : w1.cell? ⟨w.heap.size + 1, 2, none⟩ = some (.bool r) := by rw [hc1 _ _ (by first | (simp; done) | omega | (simp; omega))]; first | assumption | (simp [go_sem]; done) | (simp [go_sem]; done) | (simp [go_sem, *]; done)
    have k1_1_3 : w1.cell? ⟨w.heap.size + 1, 3, none⟩ = some (.bool u) := by rw [hc1 _ _ (by first | (simp; done) | omega | (simp; omega))]; first | assumption | (simp [go_sem]; done) | (simp [go_sem]; done) | (simp [go_sem, *]; done)
    have s1_1 : w.heap.size + 1 < w1.heap.size := by omega
    have hB1 : Below w.heap.size w w1 := (by repeat (first | exact Below.refl _ _ | refine bl_alloc ?_ _ | refine bl_drewN ?_ _ | refine bl_trans (by assumption) ?_ | refine bl_set ?_ (by first | omega | (simp; done) | (simp; omega)) _))
    have HB1 := Lib.hid hB1
    clear hB1 hc1 hf1 hb1
    rw [h]
    go_wp2
    go_ret2
    exact ⟨_, rfl, by simp only [plZ, h]; exact RRow.nil _ _, HB1.out⟩
  have h0 := h
  simp only [okBS, Bool.and_eq_true] at h0
  obtain ⟨hB, hs⟩ := h0
  obtain ⟨s1, s2⟩ := within_true hs
  have hm := ((wayI a b x y r u).made_lt s.toNat).1
  have HW := fun W => Lib.hid (beRun_of hB r u s s1 (by omega) W)
  have HP := Lib.hid (show plZ a b x y r u s = plc (wayI a b x y r u) ((wayI a b x y r u).made s.toNat + 1) by simp [plZ, h])
  obtain ⟨i0, ji, iz0, iz1, iz2⟩ := info_parts infoIS
  have hn2 : (wayI a b x y r u).made s.toNat + 1 ≤ 301 := by omega
  clear hB hs hm
  generalize sidesS (wayI a b x y r u) ((wayI a b x y r u).made s.toNat) = sd at *
  generalize hN : (wayI a b x y r u).made s.toNat + 1 = n at *
  have hn1 : 1 ≤ n := by omega
  clear hN
  generalize (wayI a b x y r u) = t at *
  go_enter Try.func30, Try.ntmps30
  go_wp2_with fail
  refine (spec_beAsked _ _ _ _ _ _ _ _ _).mono ?_
  rintro e w1 ⟨rfl, hb1⟩
  obtain ⟨hc1, hf1⟩ := bcell hb1
  have hz1 := bsize hb1
  (try simp only [World.size_alloc, World.size_setCell] at hz1)
  have k1_0_0 : w1.cell? ⟨w.heap.size, 0, none⟩ = some (.int .i64 a) := by rw [hc1 _ _ (by first | (simp; done) | omega | (simp; omega))]; first | assumption | (simp [go_sem]; done) | (simp [go_sem]; done) | (simp [go_sem, *]; done)
  have k1_0_1 : w1.cell? ⟨w.heap.size, 1, none⟩ = some (.int .i64 b) := by rw [hc1 _ _ (by first | (simp; done) | omega | (simp; omega))]; first | assumption | (simp [go_sem]; done) | (simp [go_sem]; done) | (simp [go_sem, *]; done)
  have s1_0 : w.heap.size < w1.heap.size := by omega
  have k1_1_0 : w1.cell? ⟨w.heap.size + 1, 0, none⟩ = some (.int .i64 x) := by rw [hc1 _ _ (by first | (simp; done) | omega | (simp; omega))]; first | assumption | (simp [go_sem]; done) | (simp [go_sem]; done) | (simp [go_sem, *]; done)
  have k1_1_1 : w1.cell? ⟨w.heap.size + 1, 1, none⟩ = some (.int .i64 y) := by rw [hc1 _ _ (by first | (simp; done) | omega | (simp; omega))]; first | assumption | (simp [go_sem]; done) | (simp [go_sem]; done) | (simp [go_sem, *]; done)
  have k1_1_2 : w1.cell? ⟨w.heap.size + 1, 2, none⟩ = some (.bool r) := by rw [hc1 _ _ (by first | (simp; done) | omega | (simp; omega))]; first | assumption | (simp [go_sem]; done) | (simp [go_sem]; done) | (simp [go_sem, *]; done)
  have k1_1_3 : w1.cell? ⟨w.heap.size + 1, 3, none⟩ = some (.bool u) := by rw [hc1 _ _ (by first | (simp; done) | omega | (simp; omega))]; first | assumption | (simp [go_sem]; done) | (simp [go_sem]; done) | (simp [go_sem, *]; done)
  have s1_1 : w.heap.size + 1 < w1.heap.size := by omega
  have hB1 : Below w.heap.size w w1 := (by repeat (first | exact Below.refl _ _ | refine bl_alloc ?_ _ | refine bl_drewN ?_ _ | refine bl_trans (by assumption) ?_ | refine bl_set ?_ (by first | omega | (simp; done) | (simp; omega)) _))
  have HB1 := Lib.hid hB1
  clear hB1 hc1 hf1 hb1
  rw [h]
  have HBp2 := HB1
  go_wp2_with fail
  refine ((HW _).out).mono ?_
  rintro e w2 ⟨g, cap, rfl, hR, hb2⟩
  obtain ⟨hc2, hf2⟩ := bcell hb2
  have hz2 := bsize hb2
  (try simp only [World.size_alloc, World.size_setCell] at hz2)
  have k2_0_0 : w2.cell? ⟨w.heap.size, 0, none⟩ = some (.int .i64 a) := by rw [hc2 _ _ (by first | (simp; done) | omega | (simp; omega))]; first | assumption | (simp [go_sem]; done) | (simp [go_sem, k1_0_0, k1_0_1, k1_1_0, k1_1_1, k1_1_2, k1_1_3]; done) | (simp [go_sem, *]; done)
  have k2_0_1 : w2.cell? ⟨w.heap.size, 1, none⟩ = some (.int .i64 b) := by rw [hc2 _ _ (by first | (simp; done) | omega | (simp; omega))]; first | assumption | (simp [go_sem]; done) | (simp [go_sem, k1_0_0, k1_0_1, k1_1_0, k1_1_1, k1_1_2, k1_1_3]; done) | (simp [go_sem, *]; done)
  have s2_0 : w.heap.size < w2.heap.size := by omega
  have k2_1_0 : w2.cell? ⟨w.heap.size + 1, 0, none⟩ = some (.int .i64 x) := by rw [hc2 _ _ (by first | (simp; done) | omega | (simp; omega))]; first | assumption | (simp [go_sem]; done) | (simp [go_sem, k1_0_0, k1_0_1, k1_1_0, k1_1_1, k1_1_2, k1_1_3]; done) | (simp [go_sem, *]; done)
  have k2_1_1 : w2.cell? ⟨w.heap.size + 1, 1, none⟩ = some (.int .i64 y) := by rw [hc2 _ _ (by first | (simp; done) | omega | (simp; omega))]; first | assumption | (simp [go_sem]; done) | (simp [go_sem, k1_0_0, k1_0_1, k1_1_0, k1_1_1, k1_1_2, k1_1_3]; done) | (simp [go_sem, *]; done)
  have k2_1_2 : w2.cell? ⟨w.heap.size + 1, 2, none⟩ = some (.bool r) := by rw [hc2 _ _ (by first | (simp; done) | omega | (simp; omega))]; first | assumption | (simp [go_sem]; done) | (simp [go_sem, k1_0_0, k1_0_1, k1_1_0, k1_1_1, k1_1_2, k1_1_3]; done) | (simp [go_sem, *]; done)
  have k2_1_3 : w2.cell? ⟨w.heap.size + 1, 3, none⟩ = some (.bool u) := by rw [hc2 _ _ (by first | (simp; done) | omega | (simp; omega))]; first | assumption | (simp [go_sem]; done) | (simp [go_sem, k1_0_0, k1_0_1, k1_1_0, k1_1_1, k1_1_2, k1_1_3]; done) | (simp [go_sem, *]; done)
  have s2_1 : w.heap.size + 1 < w2.heap.size := by omega
  have hB2 : Below w.heap.size w w2 := (by repeat (first | exact Below.refl _ _ | exact HB1.out | refine bl_alloc ?_ _ | refine bl_drewN ?_ _ | refine bl_trans (by assumption) ?_ | refine bl_set ?_ (by first | omega | (simp; done) | (simp; omega)) _))
  have HB2 := Lib.hid hB2
  clear hB2 hc2 hf2 hb2 k1_0_0 k1_0_1 k1_1_0 k1_1_1 k1_1_2 k1_1_3
  have R0 := Lib.hid hR
  clear hR
  go_wp2_with fail
  go_loopw [10, 27] (fun v kk wr => ∃ k : Nat, k ≤ n ∧ kk = .int .i64 (k : Nat) ∧ RRow wr w2.heap.size v (plc t k) ∧ Below w2.heap.size w2 wr) (fun _ kk _ => n - (intOf kk).toNat)
  case atStart => exact ⟨0, Nat.zero_le _, rfl, RRow.nil _ _, Below.refl _ _⟩
  case round =>
    obtain ⟨k, hk, rfl, hR, hb⟩ := hrel
    by_cases hlt : k < n
    · obtain ⟨g', cap', e, _, hg', _, _, hcc⟩ := (R0.out.keep hb).open_ (by omega)
      simp only [Value.slice.injEq, Option.some.injEq, Addr.mk.injEq, and_true, true_and] at e
      obtain ⟨rfl, rfl⟩ := e
      obtain ⟨c0, c1, c2, c3⟩ := hcc k hlt
      simp only [bm, List.getElem?_cons_zero, List.getElem?_cons_succ] at c0 c1 c2 c3
      clear hcc
      have ix0 : (0 : Int) ≤ (k : Int) := by omega
      have ix1 : (k : Int) < (n : Int) := by omega
      have HCW : w2.heap.size ≤ wr.heap.size := hb.size
      obtain ⟨vs, h1, h3, h4⟩ := hR
      rw [plc_len] at h1 h3 h4
      have hO := Lib.hid h1
      have H3 := Lib.hid h3
      have H4 := Lib.hid h4
      have HB := Lib.hid hb
      clear h1 h3 h4 hb
      go_wp2_with (first | (at_builtin; refine wpList_append_own _ rfl _ _ 38 rfl w2.heap.size 75 i0 (.slice none 0 0) 1 24 Try.underlying38 ji iz0 iz1 iz2 rfl (by decide) _ _ _ rfl (((hO.out.alloc _).alloc _).alloc _) ⟨wr.heap.size + 1 + 1, 0, none⟩ 1 1 [.slice (some ⟨wr.heap.size + 1, 0, none⟩) 2 2] rfl rfl ?c1 ?c2 ?c3 ?c4 ?c5 ?_))
      all_goals (try exact cell_one_alloc _ _ _ _ (by simp))
      case c2 => simp [Value.oneCell']
      case c3 => unfold maxLen; omega
      case c4 => omega
      case c5 => first | omega | (simp; omega)
      intro v' wn hown1 hgrow1 _
      obtain ⟨q1, q2⟩ := place_push HCW hO.out H3.out H4.out hown1 hgrow1
      have Q1 := Lib.hid q1
      have Q2 := Lib.hid q2
      clear q1 q2 hown1 hgrow1
      go_wp2
      go_roundw
      case rel => exact ⟨k + 1, by omega, by go_num, Q1.out, HB.out.trans Q2.out⟩
      case measure => simp only [intOf]; omega
    · obtain rfl : k = n := by omega
      have HR := Lib.hid hR
      have HB := Lib.hid hb
      clear hR hb
      go_wp2
      go_ret2
      exact ⟨_, rfl, by rw [HP.out]; exact HR.out.mono (by omega), bl_trans HB.out HB2.out⟩
set_option maxRecDepth 100000 in
set_option maxHeartbeats 4000000 in
theorem impl_PlacesOfBeam (a b x y : Int) (r u : Bool) (s : Int) (w : World) :
    Calls Try.prog 31 #[.agg #[.int .i64 a, .int .i64 b], .agg #[.int .i64 x, .int .i64 y, .bool r, .bool u], .int .i64 s] w fun e w' => ∃ v, e = .returned (.tuple #[v, .bool (okBS 300 a b x y s)]) ∧ RRow w' w.heap.size v (plZ a b x y r u s) ∧ Below w.heap.size w w' := by
  cases h : okB a b x y
  · have HO := Lib.hid (show okBS 300 a b x y s = false by simp [okBS, h])
    go_enter Try.func31, Try.ntmps31
    go_wp2_with fail
    refine (impl_IsBeam _ _ _ _ _ _ _).mono ?_
    rintro e w1 ⟨rfl, hb1⟩
    obtain ⟨hc1, hf1⟩ := bcell hb1
    have hz1 := bsize hb1
    (try simp only [World.size_alloc, World.size_setCell] at hz1)
    have k1_0_0 : w1.cell? ⟨w.heap.size, 0, none⟩ = some (.int .i64 a) := by rw [hc1 _ _ (by first | (simp; done) | omega | (simp; omega))]; first | assumption | (simp [go_sem]; done) | (simp [go_sem]; done) | (simp [go_sem, *]; done)
    have k1_0_1 : w1.cell? ⟨w.heap.size, 1, none⟩ = some (.int .i64 b) := by rw [hc1 _ _ (by first | (simp; done) | omega | (simp; omega))]; first | assumption | (simp [go_sem]; done) | (simp [go_sem]; done) | (simp [go_sem, *]; done)
    have s1_0 : w.heap.size < w1.heap.size := by omega
    have k1_1_0 : w1.cell? ⟨w.heap.size + 1, 0, none⟩ = some (.int .i64 x) := by rw [hc1 _ _ (by first | (simp; done) | omega | (simp; omega))]; first | assumption | (simp [go_sem]; done) | (simp [go_sem]; done) | (simp [go_sem, *]; done)
    have k1_1_1 : w1.cell? ⟨w.heap.size + 1, 1, none⟩ = some (.int .i64 y) := by rw [hc1 _ _ (by first | (simp; done) | omega | (simp; omega))]; first | assumption | (simp [go_sem]; done) | (simp [go_sem]; done) | (simp [go_sem, *]; done)
    have k1_1_2 : w1.cell? ⟨w.heap.size + 1, 2, none⟩ = some (.bool r) := by rw [hc1 _ _ (by first | (simp; done) | omega | (simp; omega))]; first | assumption | (simp [go_sem]; done) | (simp [go_sem]; done) | (simp [go_sem, *]; done)
    have k1_1_3 : w1.cell? ⟨w.heap.size + 1, 3, none⟩ = some (.bool u) := by rw [hc1 _ _ (by first | (simp; done) | omega | (simp; omega))]; first | assumption | (simp [go_sem]; done) | (simp [go_sem]; done) | (simp [go_sem, *]; done)
    have s1_1 : w.heap.size + 1 < w1.heap.size := by omega
    have hB1 : Below w.heap.size w w1 := (by repeat (first | exact Below.refl _ _ | refine bl_alloc ?_ _ | refine bl_drewN ?_ _ | refine bl_trans (by assumption) ?_ | refine bl_set ?_ (by first | omega | (simp; done) | (simp; omega)) _))
    have HB1 := Lib.hid hB1
    clear hB1 hc1 hf1 hb1
    rw [h]
    go_wp2
    go_ret2
    exact ⟨_, by rw [HO.out]; rfl, by simp only [plZ, HO.out]; exact RRow.nil _ _, HB1.out⟩
  cases h1 : within s 0 300
  · have HO := Lib.hid (show okBS 300 a b x y s = false by simp [okBS, h, h1])
    go_enter Try.func31, Try.ntmps31
    go_wp2_with fail
    refine (impl_IsBeam _ _ _ _ _ _ _).mono ?_
    rintro e w1 ⟨rfl, hb1⟩
    obtain ⟨hc1, hf1⟩ := bcell hb1
    have hz1 := bsize hb1
    (try simp only [World.size_alloc, World.size_setCell] at hz1)
    have k1_0_0 : w1.cell? ⟨w.heap.size, 0, none⟩ = some (.int .i64 a) := by rw [hc1 _ _ (by first | (simp; done) | omega | (simp; omega))]; first | assumption | (simp [go_sem]; done) | (simp [go_sem]; done) | (simp [go_sem, *]; done)
    have k1_0_1 : w1.cell? ⟨w.heap.size, 1, none⟩ = some (.int .i64 b) := by rw [hc1 _ _ (by first | (simp; done) | omega | (simp; omega))]; first | assumption | (simp [go_sem]; done) | (simp [go_sem]; done) | (simp [go_sem, *]; done)
    have s1_0 : w.heap.size < w1.heap.size := by omega
    have k1_1_0 : w1.cell? ⟨w.heap.size + 1, 0, none⟩ = some (.int .i64 x) := by rw [hc1 _ _ (by first | (simp; done) | omega | (simp; omega))]; first | assumption | (simp [go_sem]; done) | (simp [go_sem]; done) | (simp [go_sem, *]; done)
    have k1_1_1 : w1.cell? ⟨w.heap.size + 1, 1, none⟩ = some (.int .i64 y) := by rw [hc1 _ _ (by first | (simp; done) | omega | (simp; omega))]; first | assumption | (simp [go_sem]; done) | (simp [go_sem]; done) | (simp [go_sem, *]; done)
    have k1_1_2 : w1.cell? ⟨w.heap.size + 1, 2, none⟩ = some (.bool r) := by rw [hc1 _ _ (by first | (simp; done) | omega | (simp; omega))]; first | assumption | (simp [go_sem]; done) | (simp [go_sem]; done) | (simp [go_sem, *]; done)
    have k1_1_3 : w1.cell? ⟨w.heap.size + 1, 3, none⟩ = some (.bool u) := by rw [hc1 _ _ (by first | (simp; done) | omega | (simp; omega))]; first | assumption | (simp [go_sem]; done) | (simp [go_sem]; done) | (simp [go_sem, *]; done)
    have s1_1 : w.heap.size + 1 < w1.heap.size := by omega
    have hB1 : Below w.heap.size w w1 := (by repeat (first | exact Below.refl _ _ | refine bl_alloc ?_ _ | refine bl_drewN ?_ _ | refine bl_trans (by assumption) ?_ | refine bl_set ?_ (by first | omega | (simp; done) | (simp; omega)) _))
    have HB1 := Lib.hid hB1
    clear hB1 hc1 hf1 hb1
    rw [h]
    go_wp2_with (go_at_call 67; refine (isWithin_any _ _ _ _).mono ?_; rintro e w' ⟨rfl, rfl⟩; rw [h1])
    go_ret2
    exact ⟨_, by rw [HO.out]; rfl, by simp only [plZ, HO.out]; exact RRow.nil _ _, HB1.out⟩
  obtain ⟨s1, s2⟩ := within_true h1
  have HO := Lib.hid (show okBS 300 a b x y s = true by simp [okBS, h, h1])
  have OK := Lib.hid (wayI_args h r u).1
  have hm := ((wayI a b x y r u).made_lt s.toNat).1
  have HW := fun W => Lib.hid (wayOf_of h r u W)
  have HP := Lib.hid (show plZ a b x y r u s = plc (wayI a b x y r u) ((wayI a b x y r u).made s.toNat + 1) by simp [plZ, HO.out])
  have hwl := wlen_pos (wayI_args h r u).1
  have HMD : (if (wayI a b x y r u).e then min s ((wlen (wayI a b x y r u) : Int) - 1) else s) = (((wayI a b x y r u).made s.toNat : Nat) : Int) := by
    cases he : (wayI a b x y r u).e
    · simp [BWay.made, he]; omega
    · simp [BWay.made, he, wlen]; omega
  have HSM := fun (g cap : Nat) W => Lib.hid (stepsMade_any g cap (wlen (wayI a b x y r u)) (wayI a b x y r u).e s hwl.1 (by omega) s1 (by omega) W)
  simp only [HMD] at HSM
  have HBA := fun (k : Nat) (hk : k ≤ 300) (v : World) (C g cap : Nat) hR => Lib.hid (behind_any (wayI a b x y r u) OK.out g cap C k (by omega) v hR)
  have HBV := Lib.hid (fun k (hk : k ≤ (wayI a b x y r u).made s.toNat) => (show bAt (wayI a b x y r u) k = .agg #[.int .i64 ((wayI a b x y r u).x k : Nat), .int .i64 ((wayI a b x y r u).y k : Nat), .bool ((wayI a b x y r u).kr k), .bool ((wayI a b x y r u).ku k)] by
    have e : (wayI a b x y r u).made k = k := by cases he : (wayI a b x y r u).e <;> simp only [BWay.made, he, if_true, Bool.false_eq_true, if_false] at hk ⊢ <;> omega
    unfold bAt; rw [e]))
  obtain ⟨i0, ji, iz0, iz1, iz2⟩ := info_parts infoIS
  clear HMD OK
  generalize (wayI a b x y r u).made s.toNat = m at *
  generalize wlen (wayI a b x y r u) = n at *
  generalize (wayI a b x y r u) = t at *
  generalize t.e = e0 at *
  obtain ⟨hn1, hn2⟩ := hwl
  go_enter Try.func31, Try.ntmps31
  go_wp2_with fail
  refine (impl_IsBeam _ _ _ _ _ _ _).mono ?_
  rintro e w1 ⟨rfl, hb1⟩
  obtain ⟨hc1, hf1⟩ := bcell hb1
  have hz1 := bsize hb1
  (try simp only [World.size_alloc, World.size_setCell] at hz1)
  have k1_0_0 : w1.cell? ⟨w.heap.size, 0, none⟩ = some (.int .i64 a) := by rw [hc1 _ _ (by first | (simp; done) | omega | (simp; omega))]; first | assumption | (simp [go_sem]; done) | (simp [go_sem]; done) | (simp [go_sem, *]; done)
  have k1_0_1 : w1.cell? ⟨w.heap.size, 1, none⟩ = some (.int .i64 b) := by rw [hc1 _ _ (by first | (simp; done) | omega | (simp; omega))]; first | assumption | (simp [go_sem]; done) | (simp [go_sem]; done) | (simp [go_sem, *]; done)
  have s1_0 : w.heap.size < w1.heap.size := by omega
  have k1_1_0 : w1.cell? ⟨w.heap.size + 1, 0, none⟩ = some (.int .i64 x) := by rw [hc1 _ _ (by first | (simp; done) | omega | (simp; omega))]; first | assumption | (simp [go_sem]; done) | (simp [go_sem]; done) | (simp [go_sem, *]; done)
  have k1_1_1 : w1.cell? ⟨w.heap.size + 1, 1, none⟩ = some (.int .i64 y) := by rw [hc1 _ _ (by first | (simp; done) | omega | (simp; omega))]; first | assumption | (simp [go_sem]; done) | (simp [go_sem]; done) | (simp [go_sem, *]; done)
  have k1_1_2 : w1.cell? ⟨w.heap.size + 1, 2, none⟩ = some (.bool r) := by rw [hc1 _ _ (by first | (simp; done) | omega | (simp; omega))]; first | assumption | (simp [go_sem]; done) | (simp [go_sem]; done) | (simp [go_sem, *]; done)
  have k1_1_3 : w1.cell? ⟨w.heap.size + 1, 3, none⟩ = some (.bool u) := by rw [hc1 _ _ (by first | (simp; done) | omega | (simp; omega))]; first | assumption | (simp [go_sem]; done) | (simp [go_sem]; done) | (simp [go_sem, *]; done)
  have s1_1 : w.heap.size + 1 < w1.heap.size := by omega
  have hB1 : Below w.heap.size w w1 := (by repeat (first | exact Below.refl _ _ | refine bl_alloc ?_ _ | refine bl_drewN ?_ _ | refine bl_trans (by assumption) ?_ | refine bl_set ?_ (by first | omega | (simp; done) | (simp; omega)) _))
  have HB1 := Lib.hid hB1
  clear hB1 hc1 hf1 hb1
  rw [h]
  go_wp2_with (go_at_call 67; refine (isWithin_any _ _ _ _).mono ?_; rintro e w' ⟨rfl, rfl⟩; rw [h1])
  have HBp2 := HB1
  go_wp2_with fail
  refine ((HW _).out).mono ?_
  rintro e w2 ⟨g, cap, rfl, hR, hb2⟩
  obtain ⟨hc2, hf2⟩ := bcell hb2
  have hz2 := bsize hb2
  (try simp only [World.size_alloc, World.size_setCell] at hz2)
  have k2_0_0 : w2.cell? ⟨w.heap.size, 0, none⟩ = some (.int .i64 a) := by rw [hc2 _ _ (by first | (simp; done) | omega | (simp; omega))]; first | assumption | (simp [go_sem]; done) | (simp [go_sem, k1_0_0, k1_0_1, k1_1_0, k1_1_1, k1_1_2, k1_1_3]; done) | (simp [go_sem, *]; done)
  have k2_0_1 : w2.cell? ⟨w.heap.size, 1, none⟩ = some (.int .i64 b) := by rw [hc2 _ _ (by first | (simp; done) | omega | (simp; omega))]; first | assumption | (simp [go_sem]; done) | (simp [go_sem, k1_0_0, k1_0_1, k1_1_0, k1_1_1, k1_1_2, k1_1_3]; done) | (simp [go_sem, *]; done)
  have s2_0 : w.heap.size < w2.heap.size := by omega
  have k2_1_0 : w2.cell? ⟨w.heap.size + 1, 0, none⟩ = some (.int .i64 x) := by rw [hc2 _ _ (by first | (simp; done) | omega | (simp; omega))]; first | assumption | (simp [go_sem]; done) | (simp [go_sem, k1_0_0, k1_0_1, k1_1_0, k1_1_1, k1_1_2, k1_1_3]; done) | (simp [go_sem, *]; done)
  have k2_1_1 : w2.cell? ⟨w.heap.size + 1, 1, none⟩ = some (.int .i64 y) := by rw [hc2 _ _ (by first | (simp; done) | omega | (simp; omega))]; first | assumption | (simp [go_sem]; done) | (simp [go_sem, k1_0_0, k1_0_1, k1_1_0, k1_1_1, k1_1_2, k1_1_3]; done) | (simp [go_sem, *]; done)
  have k2_1_2 : w2.cell? ⟨w.heap.size + 1, 2, none⟩ = some (.bool r) := by rw [hc2 _ _ (by first | (simp; done) | omega | (simp; omega))]; first | assumption | (simp [go_sem]; done) | (simp [go_sem, k1_0_0, k1_0_1, k1_1_0, k1_1_1, k1_1_2, k1_1_3]; done) | (simp [go_sem, *]; done)
  have k2_1_3 : w2.cell? ⟨w.heap.size + 1, 3, none⟩ = some (.bool u) := by rw [hc2 _ _ (by first | (simp; done) | omega | (simp; omega))]; first | assumption | (simp [go_sem]; done) | (simp [go_sem, k1_0_0, k1_0_1, k1_1_0, k1_1_1, k1_1_2, k1_1_3]; done) | (simp [go_sem, *]; done)
  have s2_1 : w.heap.size + 1 < w2.heap.size := by omega
  have hB2 : Below w.heap.size w w2 := (by repeat (first | exact Below.refl _ _ | exact HB1.out | refine bl_alloc ?_ _ | refine bl_drewN ?_ _ | refine bl_trans (by assumption) ?_ | refine bl_set ?_ (by first | omega | (simp; done) | (simp; omega)) _))
  have HB2 := Lib.hid hB2
  clear hB2 hc2 hf2 hb2 k1_0_0 k1_0_1 k1_1_0 k1_1_1 k1_1_2 k1_1_3
  have R0 := Lib.hid hR
  clear hR
  have HBp3 := HB2
  go_wp2_with fail
  refine ((HSM _ _ _).out).mono ?_
  rintro e w3 ⟨rfl, hb3⟩
  obtain ⟨hc3, hf3⟩ := bcell hb3
  have hz3 := bsize hb3
  (try simp only [World.size_alloc, World.size_setCell] at hz3)
  have k3_0_0 : w3.cell? ⟨w.heap.size, 0, none⟩ = some (.int .i64 a) := by rw [hc3 _ _ (by first | (simp; done) | omega | (simp; omega))]; first | assumption | (simp [go_sem]; done) | (simp [go_sem, k2_0_0, k2_0_1, k2_1_0, k2_1_1, k2_1_2, k2_1_3]; done) | (simp [go_sem, *]; done)
  have k3_0_1 : w3.cell? ⟨w.heap.size, 1, none⟩ = some (.int .i64 b) := by rw [hc3 _ _ (by first | (simp; done) | omega | (simp; omega))]; first | assumption | (simp [go_sem]; done) | (simp [go_sem, k2_0_0, k2_0_1, k2_1_0, k2_1_1, k2_1_2, k2_1_3]; done) | (simp [go_sem, *]; done)
  have s3_0 : w.heap.size < w3.heap.size := by omega
  have k3_1_0 : w3.cell? ⟨w.heap.size + 1, 0, none⟩ = some (.int .i64 x) := by rw [hc3 _ _ (by first | (simp; done) | omega | (simp; omega))]; first | assumption | (simp [go_sem]; done) | (simp [go_sem, k2_0_0, k2_0_1, k2_1_0, k2_1_1, k2_1_2, k2_1_3]; done) | (simp [go_sem, *]; done)
  have k3_1_1 : w3.cell? ⟨w.heap.size + 1, 1, none⟩ = some (.int .i64 y) := by rw [hc3 _ _ (by first | (simp; done) | omega | (simp; omega))]; first | assumption | (simp [go_sem]; done) | (simp [go_sem, k2_0_0, k2_0_1, k2_1_0, k2_1_1, k2_1_2, k2_1_3]; done) | (simp [go_sem, *]; done)
  have k3_1_2 : w3.cell? ⟨w.heap.size + 1, 2, none⟩ = some (.bool r) := by rw [hc3 _ _ (by first | (simp; done) | omega | (simp; omega))]; first | assumption | (simp [go_sem]; done) | (simp [go_sem, k2_0_0, k2_0_1, k2_1_0, k2_1_1, k2_1_2, k2_1_3]; done) | (simp [go_sem, *]; done)
  have k3_1_3 : w3.cell? ⟨w.heap.size + 1, 3, none⟩ = some (.bool u) := by rw [hc3 _ _ (by first | (simp; done) | omega | (simp; omega))]; first | assumption | (simp [go_sem]; done) | (simp [go_sem, k2_0_0, k2_0_1, k2_1_0, k2_1_1, k2_1_2, k2_1_3]; done) | (simp [go_sem, *]; done)
  have s3_1 : w.heap.size + 1 < w3.heap.size := by omega
  have k3_2_0 : w3.cell? ⟨w2.heap.size, 0, none⟩ = some (.slice (some ⟨g, 0, none⟩) n cap) := by rw [hc3 _ _ (by first | (simp; done) | omega | (simp; omega))]; first | assumption | (simp [go_sem]; done) | (simp [go_sem, k2_0_0, k2_0_1, k2_1_0, k2_1_1, k2_1_2, k2_1_3]; done) | (simp [go_sem, *]; done)
  have k3_2_1 : w3.cell? ⟨w2.heap.size, 1, none⟩ = some (.bool e0) := by rw [hc3 _ _ (by first | (simp; done) | omega | (simp; omega))]; first | assumption | (simp [go_sem]; done) | (simp [go_sem, k2_0_0, k2_0_1, k2_1_0, k2_1_1, k2_1_2, k2_1_3]; done) | (simp [go_sem, *]; done)
  have s3_2 : w2.heap.size < w3.heap.size := by omega
  have HB23 := Lib.hid (show Below w2.heap.size w2 w3 from bl_trans hb3 (bl_alloc (Below.refl _ _) _))
  have hB3 : Below w.heap.size w w3 := (by repeat (first | exact Below.refl _ _ | exact HB2.out | refine bl_alloc ?_ _ | refine bl_drewN ?_ _ | refine bl_trans (by assumption) ?_ | refine bl_set ?_ (by first | omega | (simp; done) | (simp; omega)) _))
  have HB3 := Lib.hid hB3
  clear hB3 hc3 hf3 hb3 k2_0_0 k2_0_1 k2_1_0 k2_1_1 k2_1_2 k2_1_3
  go_wp2_with fail
  go_loopw [9, 28] (fun v kk wr => ∃ k : Nat, k ≤ m + 1 ∧ kk = .int .i64 (k : Nat) ∧ RRow wr w3.heap.size v (plc t k) ∧ Below w3.heap.size w3 wr) (fun _ kk _ => m + 1 - (intOf kk).toNat)
  case atStart => exact ⟨0, Nat.zero_le _, rfl, RRow.nil _ _, Below.refl _ _⟩
  case round =>
    obtain ⟨k, hk, rfl, hR, hb⟩ := hrel
    by_cases hlt : k < m + 1
    · have ix0 : (0 : Int) ≤ (k : Int) := by omega
      have ix1 : (k : Int) < (m : Int) + 1 := by omega
      have W0 := Lib.hid (cell_after hb s3_2 k3_2_0)
      have W1 := Lib.hid (cell_after hb s3_2 k3_2_1)
      have w0 := W0.out
      have w1' := W1.out
      have RK := Lib.hid (R0.out.keep (bl_trans hb (show Below w2.heap.size w2 w3 from HB23.out)))
      have HBK := Lib.hid (HBV.out k (by omega))
      have R1 := Lib.hid hR
      have B1 := Lib.hid hb
      clear hR hb
      go_wp2_with fail
      refine ((HBA k (by omega) _ _ _ _ RK.out).out).mono ?_
      rintro e w9 ⟨rfl, hb9⟩
      rw [HBK.out]
      have hR := R1.out.keep hb9
      have hb := bl_trans hb9 B1.out
      have HCW : w3.heap.size ≤ w9.heap.size := hb.size
      have z9 := cell_after hb9 (Nat.lt_of_lt_of_le s3_2 B1.out.size) W0.out
      have z9' := cell_after hb9 (Nat.lt_of_lt_of_le s3_2 B1.out.size) W1.out
      clear w0 w1' R1 RK
      clear hb9
      obtain ⟨vs, h1, h3, h4⟩ := hR
      rw [plc_len] at h1 h3 h4
      have hO := Lib.hid h1
      have H3 := Lib.hid h3
      have H4 := Lib.hid h4
      have HB := Lib.hid hb
      clear h1 h3 h4 hb
      go_wp2_with (first | (at_builtin; refine wpList_append_own _ rfl _ _ 38 rfl w3.heap.size 75 i0 (.slice none 0 0) 1 24 Try.underlying38 ji iz0 iz1 iz2 rfl (by decide) _ _ _ rfl (((hO.out.alloc _).alloc _).alloc _) ⟨w9.heap.size + 1 + 1, 0, none⟩ 1 1 [.slice (some ⟨w9.heap.size + 1, 0, none⟩) 2 2] rfl rfl ?c1 ?c2 ?c3 ?c4 ?c5 ?_))
      all_goals (try exact cell_one_alloc _ _ _ _ (by simp))
      case c2 => simp [Value.oneCell']
      case c3 => unfold maxLen; omega
      case c4 => omega
      case c5 => first | omega | (simp; omega)
      intro v' wn hown1 hgrow1 _
      obtain ⟨q1, q2⟩ := place_push HCW hO.out H3.out H4.out hown1 hgrow1
      have Q1 := Lib.hid q1
      have Q2 := Lib.hid q2
      clear q1 q2 hown1 hgrow1
      go_wp2
      go_roundw
      case rel => exact ⟨k + 1, by omega, by go_num, Q1.out, HB.out.trans Q2.out⟩
      case measure => simp only [intOf]; omega
    · obtain rfl : k = m + 1 := by omega
      have HR := Lib.hid hR
      have HB := Lib.hid hb
      clear hR hb
      go_wp2
      go_ret2
      exact ⟨_, by rw [HO.out]; rfl, by rw [HP.out]; exact HR.out.mono (by omega), bl_trans HB.out HB3.out⟩
end Go.Proofs.Ytnhjiipkekblfaa
