/- Needless clues, and how many are left, by the program and by the model. -/
import Derived.Test.YtgghceckpdfogaaPZ9
import Derived.Deep.AppendLies
namespace Go.Proofs.Ytgghceckpdfogaa
open Go.RowKit
set_option linter.unusedVariables false
set_option linter.unusedSimpArgs false
theorem infoI : (Try.prog.info? 3).map (fun i => (i.zero, i.size, i.bytes)) = some (some (.int .i64 0), 1, 8) := by kernel_rfl
theorem cell_one_alloc (w : World) (x : Value) (t : TypeId) (n : Nat) (hn : n = w.heap.size) : ∀ j u, [x][j]? = some u → (w.alloc (.cells #[x] t)).cell? ((⟨n, 0, none⟩ : Addr).add j) = some u := by
  intro j u hj
  subst hn
  match j, hj with
  | 0, hj =>
    simp at hj
    subst hj
    simp [Addr.add]
theorem IRow.nil (w : World) (B : Nat) : IRow w B (.slice none 0 0) [] := World.ownsRow_nil w B _ 1
theorem IRow.push {W w1 : World} {B : Nat} {v v' : Value} {xs : List Int} {x : Int} {o : Obj} (hB : B ≤ W.heap.size) (h : IRow W B v xs)
    (hO : w1.ownsRow B 3 1 v' (xs.length + 1) (xs.map (Value.int .i64) ++ [.int .i64 x])) (hg : (W.alloc o).grownBy w1 v.ownBlock) : IRow w1 B v' (xs ++ [x]) ∧ Below B W w1 := by
  refine ⟨?_, ((Below.refl B W).alloc hB o).grown hg (by simp; omega) fun g e => (World.ownsRow.lt h g e).1⟩
  unfold IRow
  simpa using hO
theorem IRow.mono {w : World} {B C : Nat} {v : Value} {xs : List Int} (h : IRow w C v xs) (hB : B ≤ C) : IRow w B v xs := by
  obtain ⟨h1, hn | ⟨g, cap, cur, rfl, hC, rest⟩⟩ := h
  · exact ⟨h1, .inl hn⟩
  · exact ⟨h1, .inr ⟨g, cap, cur, rfl, by omega, rest⟩⟩
theorem NS_after {w u v : World} {x y : Value} (hb : Below u.heap.size u v) (h : u.cell? ⟨w.heap.size, 0, none⟩ = some x ∧ u.cell? ⟨w.heap.size, 1, none⟩ = some y ∧ w.heap.size < u.heap.size ∧ Below w.heap.size w u) :
    v.cell? ⟨w.heap.size, 0, none⟩ = some x ∧ v.cell? ⟨w.heap.size, 1, none⟩ = some y ∧ w.heap.size < v.heap.size ∧ Below w.heap.size w v :=
  ⟨cell_after hb h.2.2.1 h.1, cell_after hb h.2.2.1 h.2.1, size_after hb h.2.2.1, bl_trans hb h.2.2.2⟩
theorem NS_bel {w u : World} {x y : Value} (h : u.cell? ⟨w.heap.size, 0, none⟩ = some x ∧ u.cell? ⟨w.heap.size, 1, none⟩ = some y ∧ w.heap.size < u.heap.size ∧ Below w.heap.size w u) : Below w.heap.size w u := h.2.2.2
def ndl (wd : Int) (n : Nat) (f : Nat → Int) : List Int := if okP wd n f then needless n f wd n else []
theorem ndl_len (wd : Int) (n : Nat) (f : Nat → Int) : (ndl wd n f).length ≤ n := by
  unfold ndl
  split
  · exact needless_length n f wd n
  · simp
theorem nat_eqb (a b : Nat) : ((a : Int) == (b : Int)) = decide (a = b) := by rw [Bool.eq_iff_iff]; simp; omega
theorem lft_zero (f : Nat → Int) (wd : Int) : lefts f wd 0 = [] := rfl
theorem ndl_zero (n : Nat) (f : Nat → Int) (wd : Int) : needless n f wd 0 = [] := rfl
attribute [local irreducible] cnt needless lefts
set_option maxRecDepth 8000 in
set_option maxHeartbeats 1600000 in
theorem impl_NeedlessClues (wd : Int) (v : Value) (n : Nat) (f : Nat → Int) (w : World) (h : PClu w v n f) (hcap : Caps v) :
    Calls Try.prog 45 #[.agg #[.int .i64 wd, v]] w fun e w' => ∃ u, e = .returned (.tuple #[u, .bool (okP wd n f)]) ∧ IRow w' w.heap.size u (ndl wd n f) ∧ Below w.heap.size w w' := by
  obtain ⟨a, c, rfl⟩ := h.shape
  have HH := Lib.hid h
  have HC := Lib.hid hcap
  clear h hcap
  cases hk : okP wd n f
  · have e1 : ndl wd n f = [] := by rw [ndl, hk]; rfl
    rw [e1]
    clear e1
    go_enter Try.func45, Try.ntmps45
    go_wp2_with fail
    refine (impl_CountSolutions wd _ n f _ (HH.out.keep (by repeat (first | exact Below.refl _ _ | refine bl_alloc ?_ _ | refine bl_drewN ?_ _ | refine bl_trans (by assumption) ?_ | refine bl_set ?_ (by first | omega | (simp; done) | (simp; omega)) _)))).mono ?_
    rintro e w1 ⟨rfl, hbw1⟩
    obtain ⟨hcw1, hfw1⟩ := bcell hbw1
    have hzw1 := bsize hbw1
    (try simp only [World.size_alloc, World.size_setCell] at hzw1)
    have kw1_0_0 : w1.cell? ⟨w.heap.size, 0, none⟩ = some (.int .i64 wd) := by rw [hcw1 _ _ (by first | (simp; done) | omega | (simp; omega))]; first | assumption | (simp [go_sem]; done) | (simp [go_sem]; done) | (simp [go_sem, *]; done)
    have kw1_0_1 : w1.cell? ⟨w.heap.size, 1, none⟩ = some (.slice a n c) := by rw [hcw1 _ _ (by first | (simp; done) | omega | (simp; omega))]; first | assumption | (simp [go_sem]; done) | (simp [go_sem]; done) | (simp [go_sem, *]; done)
    have sw1_0 : w.heap.size < w1.heap.size := by first | omega | (simp at *; omega)
    have hBw1 : Below w.heap.size w w1 := (by repeat (first | exact Below.refl _ _ | refine bl_alloc ?_ _ | refine bl_drewN ?_ _ | refine bl_trans (by assumption) ?_ | refine bl_set ?_ (by first | omega | (simp; done) | (simp; omega)) _))
    have HBw1 := Lib.hid hBw1
    clear hBw1 hcw1 hfw1 hbw1
    rw [hk]
    go_wp2
    go_ret2
    exact ⟨_, rfl, IRow.nil _ _, HBw1.out⟩
  · have e1 : ndl wd n f = needless n f wd n := by rw [ndl, hk]; rfl
    obtain ⟨⟨k1, k2⟩, k3, k4⟩ := okP_true hk
    have K4 := Lib.hid k4
    have hcn := cnt_le n f wd
    rw [e1]
    clear e1 k4
    obtain ⟨i0, hi, hz0, hz1, hz2⟩ := info_parts infoI
    go_enter Try.func45, Try.ntmps45
    go_wp2_with fail
    refine (impl_CountSolutions wd _ n f _ (HH.out.keep (by repeat (first | exact Below.refl _ _ | refine bl_alloc ?_ _ | refine bl_drewN ?_ _ | refine bl_trans (by assumption) ?_ | refine bl_set ?_ (by first | omega | (simp; done) | (simp; omega)) _)))).mono ?_
    rintro e w1 ⟨rfl, hbw1⟩
    obtain ⟨hcw1, hfw1⟩ := bcell hbw1
    have hzw1 := bsize hbw1
    (try simp only [World.size_alloc, World.size_setCell] at hzw1)
    have kw1_0_0 : w1.cell? ⟨w.heap.size, 0, none⟩ = some (.int .i64 wd) := by rw [hcw1 _ _ (by first | (simp; done) | omega | (simp; omega))]; first | assumption | (simp [go_sem]; done) | (simp [go_sem]; done) | (simp [go_sem, *]; done)
    have kw1_0_1 : w1.cell? ⟨w.heap.size, 1, none⟩ = some (.slice a n c) := by rw [hcw1 _ _ (by first | (simp; done) | omega | (simp; omega))]; first | assumption | (simp [go_sem]; done) | (simp [go_sem]; done) | (simp [go_sem, *]; done)
    have sw1_0 : w.heap.size < w1.heap.size := by first | omega | (simp at *; omega)
    have hBw1 : Below w.heap.size w w1 := (by repeat (first | exact Below.refl _ _ | refine bl_alloc ?_ _ | refine bl_drewN ?_ _ | refine bl_trans (by assumption) ?_ | refine bl_set ?_ (by first | omega | (simp; done) | (simp; omega)) _))
    have HBw1 := Lib.hid hBw1
    clear hBw1 hcw1 hfw1 hbw1
    rw [hk, solN_yes hk]
    go_wp2_with fail
    go_loopw [6, 18] (fun sv kv wr => ∃ k : Nat, k ≤ n ∧ kv = .int .i64 (k : Int) ∧ IRow wr (w.heap.size + 1) sv (needless n f wd k) ∧ wr.cell? ⟨w.heap.size, 0, none⟩ = some (.int .i64 wd) ∧ wr.cell? ⟨w.heap.size, 1, none⟩ = some (.slice a n c) ∧ w.heap.size < wr.heap.size ∧ Below w.heap.size w wr) (fun _ kv _ => n - (intOf kv).toNat)
    case atStart => exact ⟨0, Nat.zero_le _, rfl, by rw [ndl_zero]; exact IRow.nil _ _, kw1_0_0, kw1_0_1, sw1_0, HBw1.out⟩
    case round =>
      obtain ⟨k, hkn, rfl, hR, c0, c1, hsz, hW⟩ := hrel
      have HR := Lib.hid hR
      have HW := Lib.hid hW
      clear hR
      by_cases hlt : k < n
      · have hlt' : (k : Int) < (n : Int) := by omega
        have HY := Lib.hid (@needless_yes n f wd k)
        have HN := Lib.hid (@needless_no n f wd k)
        have HO2 := Lib.hid (okCs_drop K4.out k hlt)
        have hq : cnt (n - 1) (dropF f k) wd ≤ 144 := cnt_le _ _ _
        have hqe := nat_eqb (cnt (n - 1) (dropF f k) wd) (cnt n f wd)
        have hS := And.intro c0 (And.intro c1 (And.intro hsz hW))
        have hnl := needless_length n f wd k
        clear hW
        by_cases hc1 : cnt (n - 1) (dropF f k) wd = cnt n f wd
        · have hc2 : decide (cnt (n - 1) (dropF f k) wd = cnt n f wd) = true := decide_eq_true hc1
          rw [hc2] at hqe
          have HY2 := Lib.hid (HY.out hc1)
          clear HY HN hc1 hc2
          go_wp2_with fail
          go_region_held3 (fun w' => w'.cell? ⟨w.heap.size, 0, none⟩ = some (.int .i64 wd) ∧ w'.cell? ⟨w.heap.size, 1, none⟩ = some (.slice a n c) ∧ w.heap.size < w'.heap.size ∧ Below w.heap.size w w') (first | exact NS_after hb4 (by assumption) | exact NS_after hb3 (by assumption) | exact NS_after (below_drewN (Below.refl _ _) _) (by assumption) | exact NS_after (Below.drew (Below.refl _ _)) (by assumption) | assumption) (first | (go_at_call 80; refine (cluesWithout_any _ n k f _ (HH.out.keep (NS_bel (by assumption))) HC.out hlt (by omega)).mono ?_; rintro e w3 ⟨u, rfl, hP3, hC3, hb3⟩) | (go_at_call 79; refine (countFit_any wd u (n - 1) (dropF f k) _ (by assumption) HO2.out k1 k2).mono ?_; rintro e w4 ⟨rfl, hb4⟩) | fail)
          rename_i hh
          have HQ := Lib.hid (show Below wr.heap.size wr w4 from (by repeat (first | exact Below.refl _ _ | exact Below.drew (Below.refl _ _) | refine bl_trans hb4 ?_ | refine bl_trans hb3 ?_ | refine bl_drewN ?_ _)))
          have HR4 := Lib.hid (HR.out.keep HQ.out)
          have hO : Hid (w4.ownsRow (w.heap.size + 1) 3 1 _ (needless n f wd k).length ((needless n f wd k).map (Value.int .i64))) := Lib.hid HR4.out
          obtain ⟨q0, q1, q2, q3⟩ := hh
          have Q3 := Lib.hid q3
          clear q3
          go_wp2_with (at_builtin; refine wpList_append_own _ rfl _ _ 60 rfl (w.heap.size + 1) 3 i0 (.int .i64 0) 1 8 Try.underlying60 hi hz0 hz1 hz2 rfl (by decide) _ _ _ rfl (hO.out.alloc _) ⟨w4.heap.size, 0, none⟩ 1 1 [.int .i64 (k : Int)] rfl rfl (cell_one_alloc _ _ _ _ rfl) (by simp [Value.oneCell']) (by unfold maxLen; omega) (by omega) (by first | omega | (simp; omega)) ?_; intro v' wn hown hgrow _)
          obtain ⟨r1, r2⟩ := IRow.push (by omega) HR4.out hown hgrow
          have R1 := Lib.hid r1
          have R2 := Lib.hid (Q3.out.trans (r2.mono (by omega)))
          have q0 : wn.cell? ⟨w.heap.size, 0, none⟩ = some (.int .i64 wd) := by rw [r2.cell (p := ⟨w.heap.size, 0, none⟩) (by simp)]; exact q0
          have q1 : wn.cell? ⟨w.heap.size, 1, none⟩ = some (.slice a n c) := by rw [r2.cell (p := ⟨w.heap.size, 1, none⟩) (by simp)]; exact q1
          have q2 : w.heap.size < wn.heap.size := Nat.lt_of_lt_of_le q2 r2.size
          clear r1 r2 hown hgrow HQ HR4 hO Q3
          go_wp2
          go_roundw
          case rel => exact ⟨k + 1, by omega, by go_num, by rw [HY2.out]; exact R1.out, q0, q1, q2, R2.out⟩
          case measure => simp only [intOf]; omega
        · have hc2 : decide (cnt (n - 1) (dropF f k) wd = cnt n f wd) = false := decide_eq_false hc1
          rw [hc2] at hqe
          have HN2 := Lib.hid (HN.out hc1)
          clear HY HN hc1 hc2
          go_wp2_with fail
          go_region_held3 (fun w' => w'.cell? ⟨w.heap.size, 0, none⟩ = some (.int .i64 wd) ∧ w'.cell? ⟨w.heap.size, 1, none⟩ = some (.slice a n c) ∧ w.heap.size < w'.heap.size ∧ Below w.heap.size w w') (first | exact NS_after hb4 (by assumption) | exact NS_after hb3 (by assumption) | exact NS_after (below_drewN (Below.refl _ _) _) (by assumption) | exact NS_after (Below.drew (Below.refl _ _)) (by assumption) | assumption) (first | (go_at_call 80; refine (cluesWithout_any _ n k f _ (HH.out.keep (NS_bel (by assumption))) HC.out hlt (by omega)).mono ?_; rintro e w3 ⟨u, rfl, hP3, hC3, hb3⟩) | (go_at_call 79; refine (countFit_any wd u (n - 1) (dropF f k) _ (by assumption) HO2.out k1 k2).mono ?_; rintro e w4 ⟨rfl, hb4⟩) | fail)
          rename_i hh
          have HQ := Lib.hid (show Below wr.heap.size wr w4 from (by repeat (first | exact Below.refl _ _ | exact Below.drew (Below.refl _ _) | refine bl_trans hb4 ?_ | refine bl_trans hb3 ?_ | refine bl_drewN ?_ _)))
          have HR4 := Lib.hid (HR.out.keep HQ.out)
          obtain ⟨q0, q1, q2, q3⟩ := hh
          have Q3 := Lib.hid q3
          clear q3
          go_wp2
          go_roundw
          case rel => exact ⟨k + 1, by omega, by go_num, by rw [HN2.out]; exact HR4.out, q0, q1, q2, Q3.out⟩
          case measure => simp only [intOf]; omega
      · obtain rfl : k = n := by omega
        have HR2 := HR
        go_wp2
        go_ret2
        exact ⟨_, rfl, HR.out.mono (by omega), HW.out⟩
set_option maxRecDepth 8000 in
set_option maxHeartbeats 1600000 in
theorem spec_NeedlessClues (wd : Int) (v : Value) (n : Nat) (f : Nat → Int) (w : World) (h : PClu w v n f) (hcap : Caps v) :
    Calls Try.prog 44 #[.agg #[.int .i64 wd, v]] w fun e w' => ∃ u, e = .returned (.tuple #[u, .bool (okP wd n f)]) ∧ IRow w' w.heap.size u (ndl wd n f) ∧ Below w.heap.size w w' := by
  obtain ⟨a, c, rfl⟩ := h.shape
  have HH := Lib.hid h
  have HC := Lib.hid hcap
  clear h hcap
  cases hk : okP wd n f
  · have e1 : ndl wd n f = [] := by rw [ndl, hk]; rfl
    rw [e1]
    clear e1
    go_enter Try.func44, Try.ntmps44
    go_wp2_with fail
    refine (pzGood_any wd _ n f _ (HH.out.keep (by repeat (first | exact Below.refl _ _ | refine bl_alloc ?_ _ | refine bl_drewN ?_ _ | refine bl_trans (by assumption) ?_ | refine bl_set ?_ (by first | omega | (simp; done) | (simp; omega)) _)))).mono ?_
    rintro e w1 ⟨rfl, hbw1⟩
    obtain ⟨hcw1, hfw1⟩ := bcell hbw1
    have hzw1 := bsize hbw1
    (try simp only [World.size_alloc, World.size_setCell] at hzw1)
    have kw1_0_0 : w1.cell? ⟨w.heap.size, 0, none⟩ = some (.int .i64 wd) := by rw [hcw1 _ _ (by first | (simp; done) | omega | (simp; omega))]; first | assumption | (simp [go_sem]; done) | (simp [go_sem]; done) | (simp [go_sem, *]; done)
    have kw1_0_1 : w1.cell? ⟨w.heap.size, 1, none⟩ = some (.slice a n c) := by rw [hcw1 _ _ (by first | (simp; done) | omega | (simp; omega))]; first | assumption | (simp [go_sem]; done) | (simp [go_sem]; done) | (simp [go_sem, *]; done)
    have sw1_0 : w.heap.size < w1.heap.size := by first | omega | (simp at *; omega)
    have hBw1 : Below w.heap.size w w1 := (by repeat (first | exact Below.refl _ _ | refine bl_alloc ?_ _ | refine bl_drewN ?_ _ | refine bl_trans (by assumption) ?_ | refine bl_set ?_ (by first | omega | (simp; done) | (simp; omega)) _))
    have HBw1 := Lib.hid hBw1
    clear hBw1 hcw1 hfw1 hbw1
    rw [hk]
    go_wp2
    go_ret2
    exact ⟨_, rfl, IRow.nil _ _, HBw1.out⟩
  · have e1 : ndl wd n f = needless n f wd n := by rw [ndl, hk]; rfl
    obtain ⟨⟨k1, k2⟩, k3, k4⟩ := okP_true hk
    have K4 := Lib.hid k4
    have hcn := cnt_le n f wd
    rw [e1]
    clear e1 k4
    obtain ⟨i0, hi, hz0, hz1, hz2⟩ := info_parts infoI
    go_enter Try.func44, Try.ntmps44
    go_wp2_with fail
    refine (pzGood_any wd _ n f _ (HH.out.keep (by repeat (first | exact Below.refl _ _ | refine bl_alloc ?_ _ | refine bl_drewN ?_ _ | refine bl_trans (by assumption) ?_ | refine bl_set ?_ (by first | omega | (simp; done) | (simp; omega)) _)))).mono ?_
    rintro e w1 ⟨rfl, hbw1⟩
    obtain ⟨hcw1, hfw1⟩ := bcell hbw1
    have hzw1 := bsize hbw1
    (try simp only [World.size_alloc, World.size_setCell] at hzw1)
    have kw1_0_0 : w1.cell? ⟨w.heap.size, 0, none⟩ = some (.int .i64 wd) := by rw [hcw1 _ _ (by first | (simp; done) | omega | (simp; omega))]; first | assumption | (simp [go_sem]; done) | (simp [go_sem]; done) | (simp [go_sem, *]; done)
    have kw1_0_1 : w1.cell? ⟨w.heap.size, 1, none⟩ = some (.slice a n c) := by rw [hcw1 _ _ (by first | (simp; done) | omega | (simp; omega))]; first | assumption | (simp [go_sem]; done) | (simp [go_sem]; done) | (simp [go_sem, *]; done)
    have sw1_0 : w.heap.size < w1.heap.size := by first | omega | (simp at *; omega)
    have hBw1 : Below w.heap.size w w1 := (by repeat (first | exact Below.refl _ _ | refine bl_alloc ?_ _ | refine bl_drewN ?_ _ | refine bl_trans (by assumption) ?_ | refine bl_set ?_ (by first | omega | (simp; done) | (simp; omega)) _))
    have HBw1 := Lib.hid hBw1
    clear hBw1 hcw1 hfw1 hbw1
    rw [hk]
    go_wp2_with fail
    refine (pzAll_any wd _ n f _ (HH.out.keep (by repeat (first | exact Below.refl _ _ | exact HBw1.out | refine bl_alloc ?_ _ | refine bl_drewN ?_ _ | refine bl_trans (by assumption) ?_ | refine bl_set ?_ (by first | omega | (simp; done) | (simp; omega)) _))) K4.out k1 k2).mono ?_
    rintro e w2 ⟨u, rfl, hR, hbw2⟩
    obtain ⟨hcw2, hfw2⟩ := bcell hbw2
    have hzw2 := bsize hbw2
    (try simp only [World.size_alloc, World.size_setCell] at hzw2)
    have hkw2 : Below w1.heap.size w1 w2 := (by repeat (first | exact Below.refl _ _ | refine bl_alloc ?_ _ | refine bl_drewN ?_ _ | refine bl_trans (by assumption) ?_ | refine bl_set ?_ (by first | omega | (simp; done) | (simp; omega)) _))
    obtain ⟨a1, c1, rfl⟩ := hR.shape
    clear hR
    have kw2_0_0 : w2.cell? ⟨w.heap.size, 0, none⟩ = some (.int .i64 wd) := cell_after hkw2 sw1_0 kw1_0_0
    have kw2_0_1 : w2.cell? ⟨w.heap.size, 1, none⟩ = some (.slice a n c) := cell_after hkw2 sw1_0 kw1_0_1
    have sw2_0 : w.heap.size < w2.heap.size := size_after hkw2 sw1_0
    have hBw2 : Below w.heap.size w w2 := (by repeat (first | exact HBw1.out | exact Below.refl _ _ | refine bl_alloc ?_ _ | refine bl_drewN ?_ _ | refine bl_trans (by assumption) ?_ | refine bl_set ?_ (by first | omega | (simp; done) | (simp; omega)) _))
    have HBw2 := Lib.hid hBw2
    clear hBw2 hcw2 hfw2 hbw2 hkw2 kw1_0_0 kw1_0_1 sw1_0
    go_wp2_with fail
    go_loopw [4, 19] (fun sv kv wr => ∃ k : Nat, k ≤ n ∧ kv = .int .i64 (k : Int) ∧ IRow wr (w.heap.size + 1) sv (needless n f wd k) ∧ wr.cell? ⟨w.heap.size, 0, none⟩ = some (.int .i64 wd) ∧ wr.cell? ⟨w.heap.size, 1, none⟩ = some (.slice a n c) ∧ w.heap.size < wr.heap.size ∧ Below w.heap.size w wr) (fun _ kv _ => n - (intOf kv).toNat)
    case atStart => exact ⟨0, Nat.zero_le _, rfl, by rw [ndl_zero]; exact IRow.nil _ _, kw2_0_0, kw2_0_1, sw2_0, HBw2.out⟩
    case round =>
      obtain ⟨k, hkn, rfl, hR, c0, c1, hsz, hW⟩ := hrel
      have HR := Lib.hid hR
      have HW := Lib.hid hW
      clear hR
      by_cases hlt : k < n
      · have hlt' : (k : Int) < (n : Int) := by omega
        have HY := Lib.hid (@needless_yes n f wd k)
        have HN := Lib.hid (@needless_no n f wd k)
        have HO2 := Lib.hid (okCs_drop K4.out k hlt)
        have hq : cnt (n - 1) (dropF f k) wd ≤ 144 := cnt_le _ _ _
        have hqe := nat_eqb (cnt (n - 1) (dropF f k) wd) (cnt n f wd)
        have hS := And.intro c0 (And.intro c1 (And.intro hsz hW))
        have hnl := needless_length n f wd k
        clear hW
        by_cases hc1 : cnt (n - 1) (dropF f k) wd = cnt n f wd
        · have hc2 : decide (cnt (n - 1) (dropF f k) wd = cnt n f wd) = true := decide_eq_true hc1
          rw [hc2] at hqe
          have HY2 := Lib.hid (HY.out hc1)
          clear HY HN hc1 hc2
          go_wp2_with fail
          go_region_held3 (fun w' => w'.cell? ⟨w.heap.size, 0, none⟩ = some (.int .i64 wd) ∧ w'.cell? ⟨w.heap.size, 1, none⟩ = some (.slice a n c) ∧ w.heap.size < w'.heap.size ∧ Below w.heap.size w w') (first | exact NS_after hb4 (by assumption) | exact NS_after hb3 (by assumption) | exact NS_after (below_drewN (Below.refl _ _) _) (by assumption) | exact NS_after (Below.drew (Below.refl _ _)) (by assumption) | assumption) (first | (go_at_call 78; refine (pzWithout_any _ n k f _ (HH.out.keep (NS_bel (by assumption))) HC.out hlt (by omega)).mono ?_; rintro e w3 ⟨u, rfl, hP3, hb3⟩) | (go_at_call 74; refine (pzAll_any wd u (n - 1) (dropF f k) _ (OClu.toP (by assumption)) HO2.out k1 k2).mono ?_; rintro e w4 ⟨u5, rfl, hR5, hb4⟩; obtain ⟨a5, c5, rfl⟩ := hR5.shape; clear hR5) | fail)
          rename_i hh
          have HQ := Lib.hid (show Below wr.heap.size wr w4 from (by repeat (first | exact Below.refl _ _ | exact Below.drew (Below.refl _ _) | refine bl_trans hb4 ?_ | refine bl_trans hb3 ?_ | refine bl_drewN ?_ _)))
          have HR4 := Lib.hid (HR.out.keep HQ.out)
          have hO : Hid (w4.ownsRow (w.heap.size + 1) 3 1 _ (needless n f wd k).length ((needless n f wd k).map (Value.int .i64))) := Lib.hid HR4.out
          obtain ⟨q0, q1, q2, q3⟩ := hh
          have Q3 := Lib.hid q3
          clear q3
          go_wp2_with (at_builtin; refine wpList_append_own _ rfl _ _ 60 rfl (w.heap.size + 1) 3 i0 (.int .i64 0) 1 8 Try.underlying60 hi hz0 hz1 hz2 rfl (by decide) _ _ _ rfl (hO.out.alloc _) ⟨w4.heap.size, 0, none⟩ 1 1 [.int .i64 (k : Int)] rfl rfl (cell_one_alloc _ _ _ _ rfl) (by simp [Value.oneCell']) (by unfold maxLen; omega) (by omega) (by first | omega | (simp; omega)) ?_; intro v' wn hown hgrow _)
          obtain ⟨r1, r2⟩ := IRow.push (by omega) HR4.out hown hgrow
          have R1 := Lib.hid r1
          have R2 := Lib.hid (Q3.out.trans (r2.mono (by omega)))
          have q0 : wn.cell? ⟨w.heap.size, 0, none⟩ = some (.int .i64 wd) := by rw [r2.cell (p := ⟨w.heap.size, 0, none⟩) (by simp)]; exact q0
          have q1 : wn.cell? ⟨w.heap.size, 1, none⟩ = some (.slice a n c) := by rw [r2.cell (p := ⟨w.heap.size, 1, none⟩) (by simp)]; exact q1
          have q2 : w.heap.size < wn.heap.size := Nat.lt_of_lt_of_le q2 r2.size
          clear r1 r2 hown hgrow HQ HR4 hO Q3
          go_wp2
          go_roundw
          case rel => exact ⟨k + 1, by omega, by go_num, by rw [HY2.out]; exact R1.out, q0, q1, q2, R2.out⟩
          case measure => simp only [intOf]; omega
        · have hc2 : decide (cnt (n - 1) (dropF f k) wd = cnt n f wd) = false := decide_eq_false hc1
          rw [hc2] at hqe
          have HN2 := Lib.hid (HN.out hc1)
          clear HY HN hc1 hc2
          go_wp2_with fail
          go_region_held3 (fun w' => w'.cell? ⟨w.heap.size, 0, none⟩ = some (.int .i64 wd) ∧ w'.cell? ⟨w.heap.size, 1, none⟩ = some (.slice a n c) ∧ w.heap.size < w'.heap.size ∧ Below w.heap.size w w') (first | exact NS_after hb4 (by assumption) | exact NS_after hb3 (by assumption) | exact NS_after (below_drewN (Below.refl _ _) _) (by assumption) | exact NS_after (Below.drew (Below.refl _ _)) (by assumption) | assumption) (first | (go_at_call 78; refine (pzWithout_any _ n k f _ (HH.out.keep (NS_bel (by assumption))) HC.out hlt (by omega)).mono ?_; rintro e w3 ⟨u, rfl, hP3, hb3⟩) | (go_at_call 74; refine (pzAll_any wd u (n - 1) (dropF f k) _ (OClu.toP (by assumption)) HO2.out k1 k2).mono ?_; rintro e w4 ⟨u5, rfl, hR5, hb4⟩; obtain ⟨a5, c5, rfl⟩ := hR5.shape; clear hR5) | fail)
          rename_i hh
          have HQ := Lib.hid (show Below wr.heap.size wr w4 from (by repeat (first | exact Below.refl _ _ | exact Below.drew (Below.refl _ _) | refine bl_trans hb4 ?_ | refine bl_trans hb3 ?_ | refine bl_drewN ?_ _)))
          have HR4 := Lib.hid (HR.out.keep HQ.out)
          obtain ⟨q0, q1, q2, q3⟩ := hh
          have Q3 := Lib.hid q3
          clear q3
          go_wp2
          go_roundw
          case rel => exact ⟨k + 1, by omega, by go_num, by rw [HN2.out]; exact HR4.out, q0, q1, q2, Q3.out⟩
          case measure => simp only [intOf]; omega
      · obtain rfl : k = n := by omega
        have HR2 := HR
        go_wp2
        go_ret2
        exact ⟨_, rfl, HR.out.mono (by omega), HW.out⟩
def lft (wd : Int) (n : Nat) (f : Nat → Int) : List Int := if okP wd n f then lefts f wd (n + 1) else []
theorem lft_len (wd : Int) (n : Nat) (f : Nat → Int) : (lft wd n f).length ≤ n + 1 := by
  unfold lft
  split
  · rw [lefts_length]; exact Nat.le_refl _
  · simp
theorem drew_trans {u W : World} (h : Below u.drew.heap.size u.drew W) : Below u.heap.size u W := bl_trans h (Below.drew (Below.refl _ _))
set_option maxRecDepth 8000 in
set_option maxHeartbeats 1600000 in
theorem impl_LeftByClues (wd : Int) (v : Value) (n : Nat) (f : Nat → Int) (w : World) (h : PClu w v n f) (hcap : Caps v) :
    Calls Try.prog 55 #[.agg #[.int .i64 wd, v]] w fun e w' => ∃ u, e = .returned (.tuple #[u, .bool (okP wd n f)]) ∧ IRow w' w.heap.size u (lft wd n f) ∧ Below w.heap.size w w' := by
  obtain ⟨a, c, rfl⟩ := h.shape
  have hnc : n ≤ c := hcap _ _ _ rfl
  have HH := Lib.hid h
  clear h hcap
  cases hk : okP wd n f
  · have e1 : lft wd n f = [] := by rw [lft, hk]; rfl
    rw [e1]
    clear e1
    go_enter Try.func55, Try.ntmps55
    go_wp2_with fail
    refine (impl_IsPuzzle wd _ n f _ (HH.out.keep (by repeat (first | exact Below.refl _ _ | refine bl_alloc ?_ _ | refine bl_drewN ?_ _ | refine bl_trans (by assumption) ?_ | refine bl_set ?_ (by first | omega | (simp; done) | (simp; omega)) _)))).mono ?_
    rintro e w1 ⟨rfl, hbw1⟩
    obtain ⟨hcw1, hfw1⟩ := bcell hbw1
    have hzw1 := bsize hbw1
    (try simp only [World.size_alloc, World.size_setCell] at hzw1)
    have kw1_0_0 : w1.cell? ⟨w.heap.size, 0, none⟩ = some (.int .i64 wd) := by rw [hcw1 _ _ (by first | (simp; done) | omega | (simp; omega))]; first | assumption | (simp [go_sem]; done) | (simp [go_sem]; done) | (simp [go_sem, *]; done)
    have kw1_0_1 : w1.cell? ⟨w.heap.size, 1, none⟩ = some (.slice a n c) := by rw [hcw1 _ _ (by first | (simp; done) | omega | (simp; omega))]; first | assumption | (simp [go_sem]; done) | (simp [go_sem]; done) | (simp [go_sem, *]; done)
    have sw1_0 : w.heap.size < w1.heap.size := by first | omega | (simp at *; omega)
    have hBw1 : Below w.heap.size w w1 := (by repeat (first | exact Below.refl _ _ | refine bl_alloc ?_ _ | refine bl_drewN ?_ _ | refine bl_trans (by assumption) ?_ | refine bl_set ?_ (by first | omega | (simp; done) | (simp; omega)) _))
    have HBw1 := Lib.hid hBw1
    clear hBw1 hcw1 hfw1 hbw1
    rw [hk]
    go_wp2
    go_ret2
    exact ⟨_, rfl, IRow.nil _ _, HBw1.out⟩
  · have e1 : lft wd n f = lefts f wd (n + 1) := by rw [lft, hk]; rfl
    obtain ⟨⟨k1, k2⟩, k3, k4⟩ := okP_true hk
    have K4 := Lib.hid k4
    rw [e1]
    clear e1 k4
    obtain ⟨i0, hi, hz0, hz1, hz2⟩ := info_parts infoI
    go_enter Try.func55, Try.ntmps55
    go_wp2_with fail
    refine (impl_IsPuzzle wd _ n f _ (HH.out.keep (by repeat (first | exact Below.refl _ _ | refine bl_alloc ?_ _ | refine bl_drewN ?_ _ | refine bl_trans (by assumption) ?_ | refine bl_set ?_ (by first | omega | (simp; done) | (simp; omega)) _)))).mono ?_
    rintro e w1 ⟨rfl, hbw1⟩
    obtain ⟨hcw1, hfw1⟩ := bcell hbw1
    have hzw1 := bsize hbw1
    (try simp only [World.size_alloc, World.size_setCell] at hzw1)
    have kw1_0_0 : w1.cell? ⟨w.heap.size, 0, none⟩ = some (.int .i64 wd) := by rw [hcw1 _ _ (by first | (simp; done) | omega | (simp; omega))]; first | assumption | (simp [go_sem]; done) | (simp [go_sem]; done) | (simp [go_sem, *]; done)
    have kw1_0_1 : w1.cell? ⟨w.heap.size, 1, none⟩ = some (.slice a n c) := by rw [hcw1 _ _ (by first | (simp; done) | omega | (simp; omega))]; first | assumption | (simp [go_sem]; done) | (simp [go_sem]; done) | (simp [go_sem, *]; done)
    have sw1_0 : w.heap.size < w1.heap.size := by first | omega | (simp at *; omega)
    have hBw1 : Below w.heap.size w w1 := (by repeat (first | exact Below.refl _ _ | refine bl_alloc ?_ _ | refine bl_drewN ?_ _ | refine bl_trans (by assumption) ?_ | refine bl_set ?_ (by first | omega | (simp; done) | (simp; omega)) _))
    have HBw1 := Lib.hid hBw1
    clear hBw1 hcw1 hfw1 hbw1
    rw [hk]
    go_wp2_with fail
    go_loopw [4, 13] (fun sv kv wr => ∃ k : Nat, k ≤ n + 1 ∧ kv = .int .i64 (k : Int) ∧ IRow wr (w.heap.size + 1) sv (lefts f wd k) ∧ wr.cell? ⟨w.heap.size, 0, none⟩ = some (.int .i64 wd) ∧ wr.cell? ⟨w.heap.size, 1, none⟩ = some (.slice a n c) ∧ w.heap.size < wr.heap.size ∧ Below w.heap.size w wr) (fun _ kv _ => n + 1 - (intOf kv).toNat)
    case atStart => exact ⟨0, Nat.zero_le _, rfl, by rw [lft_zero]; exact IRow.nil _ _, kw1_0_0, kw1_0_1, sw1_0, HBw1.out⟩
    case round =>
      obtain ⟨k, hkn, rfl, hR, c0, c1, hsz, hW⟩ := hrel
      have HR := Lib.hid hR
      have HW := Lib.hid hW
      clear hR
      by_cases hlt : k < n + 1
      · have hlt' : (k : Int) < (n : Int) + 1 := by omega
        have hkc : (k : Int) ≤ (c : Int) := by omega
        have hkn' : k ≤ n := by omega
        have HY := Lib.hid (lefts_succ f wd k)
        have HOk := Lib.hid (okCs_le K4.out hkn')
        have hnl := lefts_length f wd k
        have hq : cnt k f wd ≤ 144 := cnt_le _ _ _
        have HPk := Lib.hid (fun cc => (show PClu wr.drew (.slice a k cc) k f from ((HH.out.keep HW.out).first hkn' cc)))
        have HRk := Lib.hid (fun (W : World) (hb : Below wr.drew.heap.size wr.drew W) => (show W.ownsRow (w.heap.size + 1) 3 1 _ (lefts f wd k).length ((lefts f wd k).map (Value.int .i64)) from HR.out.keep (drew_trans hb)))
        clear hW
        go_wp2_with fail
        go_region_law (first | (go_simp; go_at_call 85; refine (firstClues_any _ _ _ _ _ (by omega) (by omega)).mono ?_; rintro e w5 ⟨rfl, rfl⟩) | (go_simp; go_at_call 79; refine (countFit_any wd _ k f _ (HPk.out k) HOk.out k1 k2).mono ?_; rintro e w4 ⟨rfl, hb4⟩) | (refine step_append_lies _ rfl _ _ 60 rfl (w.heap.size + 1) 3 i0 (.int .i64 0) 1 8 Try.underlying60 hi hz0 hz1 hz2 rfl (by decide) _ _ _ rfl (World.ownsRow.alloc (HRk.out w4 hb4) _) ⟨_, 0, none⟩ 1 1 [.int .i64 (cnt k f wd : Int)] rfl rfl (cell_one_alloc _ _ _ _ rfl) (by simp [Value.oneCell']) (by decide) (by unfold maxLen; omega) (by omega) (by have h1 := hb4.size; have h2 : wr.drew.heap.size = wr.heap.size := rfl; rw [World.size_alloc]; omega) _ rfl ?_; intro g3 cp wn hown hgrow hat hlt2; clear hat hlt2) | fail)
        all_goals
          have hb5 : Below wr.heap.size wr w4 := bl_trans hb4 (Below.drew (Below.refl _ _))
          have h4 : w.heap.size + 1 ≤ w4.heap.size := Nat.le_trans hsz hb5.size
          have hb6 : Below (w.heap.size + 1) w4 wn := ((Below.refl _ _).alloc h4 _).grown hgrow (by simp; omega) fun g e => (World.ownsRow.lt HR.out g e).1
          have r1 : IRow wn (w.heap.size + 1) (.slice (some ⟨g3, 0, none⟩) ((lefts f wd k).length + 1) cp) (lefts f wd (k + 1)) := by
            unfold IRow
            rw [HY.out, List.length_append, List.length_singleton, List.map_append]
            exact hown
          have R1 := Lib.hid r1
          have R2 := Lib.hid (show Below w.heap.size w wn from (bl_trans hb5 HW.out).trans (hb6.mono (by omega)))
          have q0 : wn.cell? ⟨w.heap.size, 0, none⟩ = some (.int .i64 wd) := by rw [hb6.cell (p := ⟨w.heap.size, 0, none⟩) (by simp), (bcell hb5).1 _ _ hsz]; exact c0
          have q1 : wn.cell? ⟨w.heap.size, 1, none⟩ = some (.slice a n c) := by rw [hb6.cell (p := ⟨w.heap.size, 1, none⟩) (by simp), (bcell hb5).1 _ _ hsz]; exact c1
          have q2 : w.heap.size < wn.heap.size := Nat.lt_of_lt_of_le (show w.heap.size < w4.heap.size by omega) hb6.size
          rw [hnl] at R1
          clear r1 hown hgrow hb4 hb5 hb6 c0 c1 HRk HPk
          go_wp2
          go_roundw
          case rel => exact ⟨k + 1, by omega, by go_num, R1.out, q0, q1, q2, R2.out⟩
          case measure => simp only [intOf]; omega
      · obtain rfl : k = n + 1 := by omega
        go_wp2
        go_ret2
        exact ⟨_, rfl, HR.out.mono (by omega), HW.out⟩
set_option maxRecDepth 8000 in
set_option maxHeartbeats 1600000 in
theorem spec_LeftByClues (wd : Int) (v : Value) (n : Nat) (f : Nat → Int) (w : World) (h : PClu w v n f) (hcap : Caps v) :
    Calls Try.prog 54 #[.agg #[.int .i64 wd, v]] w fun e w' => ∃ u, e = .returned (.tuple #[u, .bool (okP wd n f)]) ∧ IRow w' w.heap.size u (lft wd n f) ∧ Below w.heap.size w w' := by
  obtain ⟨a, c, rfl⟩ := h.shape
  have hnc : n ≤ c := hcap _ _ _ rfl
  have HH := Lib.hid h
  clear h hcap
  cases hk : okP wd n f
  · have e1 : lft wd n f = [] := by rw [lft, hk]; rfl
    rw [e1]
    clear e1
    go_enter Try.func54, Try.ntmps54
    go_wp2_with fail
    refine (pzGood_any wd _ n f _ (HH.out.keep (by repeat (first | exact Below.refl _ _ | refine bl_alloc ?_ _ | refine bl_drewN ?_ _ | refine bl_trans (by assumption) ?_ | refine bl_set ?_ (by first | omega | (simp; done) | (simp; omega)) _)))).mono ?_
    rintro e w1 ⟨rfl, hbw1⟩
    obtain ⟨hcw1, hfw1⟩ := bcell hbw1
    have hzw1 := bsize hbw1
    (try simp only [World.size_alloc, World.size_setCell] at hzw1)
    have kw1_0_0 : w1.cell? ⟨w.heap.size, 0, none⟩ = some (.int .i64 wd) := by rw [hcw1 _ _ (by first | (simp; done) | omega | (simp; omega))]; first | assumption | (simp [go_sem]; done) | (simp [go_sem]; done) | (simp [go_sem, *]; done)
    have kw1_0_1 : w1.cell? ⟨w.heap.size, 1, none⟩ = some (.slice a n c) := by rw [hcw1 _ _ (by first | (simp; done) | omega | (simp; omega))]; first | assumption | (simp [go_sem]; done) | (simp [go_sem]; done) | (simp [go_sem, *]; done)
    have sw1_0 : w.heap.size < w1.heap.size := by first | omega | (simp at *; omega)
    have hBw1 : Below w.heap.size w w1 := (by repeat (first | exact Below.refl _ _ | refine bl_alloc ?_ _ | refine bl_drewN ?_ _ | refine bl_trans (by assumption) ?_ | refine bl_set ?_ (by first | omega | (simp; done) | (simp; omega)) _))
    have HBw1 := Lib.hid hBw1
    clear hBw1 hcw1 hfw1 hbw1
    rw [hk]
    go_wp2
    go_ret2
    exact ⟨_, rfl, IRow.nil _ _, HBw1.out⟩
  · have e1 : lft wd n f = lefts f wd (n + 1) := by rw [lft, hk]; rfl
    obtain ⟨⟨k1, k2⟩, k3, k4⟩ := okP_true hk
    have K4 := Lib.hid k4
    rw [e1]
    clear e1 k4
    obtain ⟨i0, hi, hz0, hz1, hz2⟩ := info_parts infoI
    go_enter Try.func54, Try.ntmps54
    go_wp2_with fail
    refine (pzGood_any wd _ n f _ (HH.out.keep (by repeat (first | exact Below.refl _ _ | refine bl_alloc ?_ _ | refine bl_drewN ?_ _ | refine bl_trans (by assumption) ?_ | refine bl_set ?_ (by first | omega | (simp; done) | (simp; omega)) _)))).mono ?_
    rintro e w1 ⟨rfl, hbw1⟩
    obtain ⟨hcw1, hfw1⟩ := bcell hbw1
    have hzw1 := bsize hbw1
    (try simp only [World.size_alloc, World.size_setCell] at hzw1)
    have kw1_0_0 : w1.cell? ⟨w.heap.size, 0, none⟩ = some (.int .i64 wd) := by rw [hcw1 _ _ (by first | (simp; done) | omega | (simp; omega))]; first | assumption | (simp [go_sem]; done) | (simp [go_sem]; done) | (simp [go_sem, *]; done)
    have kw1_0_1 : w1.cell? ⟨w.heap.size, 1, none⟩ = some (.slice a n c) := by rw [hcw1 _ _ (by first | (simp; done) | omega | (simp; omega))]; first | assumption | (simp [go_sem]; done) | (simp [go_sem]; done) | (simp [go_sem, *]; done)
    have sw1_0 : w.heap.size < w1.heap.size := by first | omega | (simp at *; omega)
    have hBw1 : Below w.heap.size w w1 := (by repeat (first | exact Below.refl _ _ | refine bl_alloc ?_ _ | refine bl_drewN ?_ _ | refine bl_trans (by assumption) ?_ | refine bl_set ?_ (by first | omega | (simp; done) | (simp; omega)) _))
    have HBw1 := Lib.hid hBw1
    clear hBw1 hcw1 hfw1 hbw1
    rw [hk]
    go_wp2_with fail
    go_loopw [4, 5] (fun sv kv wr => ∃ k : Nat, k ≤ n + 1 ∧ kv = .int .i64 (k : Int) ∧ IRow wr (w.heap.size + 1) sv (lefts f wd k) ∧ wr.cell? ⟨w.heap.size, 0, none⟩ = some (.int .i64 wd) ∧ wr.cell? ⟨w.heap.size, 1, none⟩ = some (.slice a n c) ∧ w.heap.size < wr.heap.size ∧ Below w.heap.size w wr) (fun _ kv _ => n + 1 - (intOf kv).toNat)
    case atStart => exact ⟨0, Nat.zero_le _, rfl, by rw [lft_zero]; exact IRow.nil _ _, kw1_0_0, kw1_0_1, sw1_0, HBw1.out⟩
    case round =>
      obtain ⟨k, hkn, rfl, hR, c0, c1, hsz, hW⟩ := hrel
      have HR := Lib.hid hR
      have HW := Lib.hid hW
      clear hR
      by_cases hlt : k < n + 1
      · have hlt' : (k : Int) ≤ (n : Int) := by omega
        have hkc : (k : Int) ≤ (c : Int) := by omega
        have hkn' : k ≤ n := by omega
        have HY := Lib.hid (lefts_succ f wd k)
        have HOk := Lib.hid (okCs_le K4.out hkn')
        have hnl := lefts_length f wd k
        have hq : cnt k f wd ≤ 144 := cnt_le _ _ _
        have HPk := Lib.hid (fun cc => (show PClu wr.drew (.slice a k cc) k f from ((HH.out.keep HW.out).first hkn' cc)))
        have HRk := Lib.hid (fun (W : World) (hb : Below wr.drew.heap.size wr.drew W) => (show W.ownsRow (w.heap.size + 1) 3 1 _ (lefts f wd k).length ((lefts f wd k).map (Value.int .i64)) from HR.out.keep (drew_trans hb)))
        clear hW
        go_wp2_with fail
        go_region_law (first | (go_simp; go_at_call 74; refine (pzAll_any wd _ k f _ (HPk.out c) HOk.out k1 k2).mono ?_; rintro e w4 ⟨u5, rfl, hR5, hb4⟩; obtain ⟨a5, c5, rfl⟩ := hR5.shape; clear hR5) | (refine step_append_lies _ rfl _ _ 60 rfl (w.heap.size + 1) 3 i0 (.int .i64 0) 1 8 Try.underlying60 hi hz0 hz1 hz2 rfl (by decide) _ _ _ rfl (World.ownsRow.alloc (HRk.out w4 hb4) _) ⟨_, 0, none⟩ 1 1 [.int .i64 (cnt k f wd : Int)] rfl rfl (cell_one_alloc _ _ _ _ rfl) (by simp [Value.oneCell']) (by decide) (by unfold maxLen; omega) (by omega) (by have h1 := hb4.size; have h2 : wr.drew.heap.size = wr.heap.size := rfl; rw [World.size_alloc]; omega) _ rfl ?_; intro g3 cp wn hown hgrow hat hlt2; clear hat hlt2) | fail)
        all_goals
          have hb5 : Below wr.heap.size wr w4 := bl_trans hb4 (Below.drew (Below.refl _ _))
          have h4 : w.heap.size + 1 ≤ w4.heap.size := Nat.le_trans hsz hb5.size
          have hb6 : Below (w.heap.size + 1) w4 wn := ((Below.refl _ _).alloc h4 _).grown hgrow (by simp; omega) fun g e => (World.ownsRow.lt HR.out g e).1
          have r1 : IRow wn (w.heap.size + 1) (.slice (some ⟨g3, 0, none⟩) ((lefts f wd k).length + 1) cp) (lefts f wd (k + 1)) := by
            unfold IRow
            rw [HY.out, List.length_append, List.length_singleton, List.map_append]
            exact hown
          have R1 := Lib.hid r1
          have R2 := Lib.hid (show Below w.heap.size w wn from (bl_trans hb5 HW.out).trans (hb6.mono (by omega)))
          have q0 : wn.cell? ⟨w.heap.size, 0, none⟩ = some (.int .i64 wd) := by rw [hb6.cell (p := ⟨w.heap.size, 0, none⟩) (by simp), (bcell hb5).1 _ _ hsz]; exact c0
          have q1 : wn.cell? ⟨w.heap.size, 1, none⟩ = some (.slice a n c) := by rw [hb6.cell (p := ⟨w.heap.size, 1, none⟩) (by simp), (bcell hb5).1 _ _ hsz]; exact c1
          have q2 : w.heap.size < wn.heap.size := Nat.lt_of_lt_of_le (show w.heap.size < w4.heap.size by omega) hb6.size
          rw [hnl] at R1
          clear r1 hown hgrow hb4 hb5 hb6 c0 c1 HRk HPk
          go_wp2
          go_roundw
          case rel => exact ⟨k + 1, by omega, by go_num, R1.out, q0, q1, q2, R2.out⟩
          case measure => simp only [intOf]; omega
      · obtain rfl : k = n + 1 := by omega
        go_wp2
        go_ret2
        exact ⟨_, rfl, HR.out.mono (by omega), HW.out⟩
end Go.Proofs.Ytgghceckpdfogaa
