/- Best clues, by the program and by the model. -/
import Derived.Test.YtgghceckpdfogaaPZA
namespace Go.Proofs.Ytgghceckpdfogaa
open Go.RowKit
set_option linter.unusedVariables false
set_option linter.unusedSimpArgs false
def bok (wd : Int) (n : Nat) (f : Nat → Int) : Bool := okP wd n f && decide (0 < n)
def bcl (wd : Int) (n : Nat) (f : Nat → Int) : Nat := if bok wd n f then bst f wd n else 0
theorem bst_zero (f : Nat → Int) (wd : Int) : bst f wd 0 = 0 := rfl
theorem bst_yes {f : Nat → Int} {wd : Int} {j : Nat} (h : cnt 1 (fromF f j) wd < cnt 1 (fromF f (bst f wd j)) wd) : bst f wd (j + 1) = j := by rw [bst, if_pos h]
theorem bst_no {f : Nat → Int} {wd : Int} {j : Nat} (h : ¬ cnt 1 (fromF f j) wd < cnt 1 (fromF f (bst f wd j)) wd) : bst f wd (j + 1) = bst f wd j := by rw [bst, if_neg h]
theorem fromF_zero (f : Nat → Int) : fromF f 0 = f := by funext i; simp [fromF]
theorem PClu_from1 {w : World} {B cap k : Nat} {f : Nat → Int} (hB : B < w.heap.size) (h0 : w.cell? ⟨B, 0, none⟩ = some (.int .i64 (f (k * 3)))) (h1 : w.cell? ⟨B, 1, none⟩ = some (.int .i64 (f (k * 3 + 1)))) (h2 : w.cell? ⟨B, 2, none⟩ = some (.int .i64 (f (k * 3 + 2)))) :
    PClu w (.slice (some ⟨B, 0, none⟩) 1 cap) 1 (fromF f k) := by
  refine .inr ⟨by omega, B, 0, cap, rfl, by unfold maxLen; omega, hB, fun i hi => ?_⟩
  have : i = 0 ∨ i = 1 ∨ i = 2 := by omega
  rcases this with rfl | rfl | rfl
  · exact h0
  · exact h1
  · exact h2
attribute [local irreducible] cnt bst
set_option maxRecDepth 8000 in
set_option maxHeartbeats 1600000 in
theorem impl_BestClue (wd : Int) (v : Value) (n : Nat) (f : Nat → Int) (w : World) (h : PClu w v n f) (hcap : Caps v) :
    Calls Try.prog 57 #[.agg #[.int .i64 wd, v]] w fun e w' => e = .returned (.tuple #[.int .i64 (bcl wd n f : Nat), .bool (bok wd n f)]) ∧ Below w.heap.size w w' := by
  obtain ⟨a, c, rfl⟩ := h.shape
  have hnc : n ≤ c := hcap _ _ _ rfl
  have HH := Lib.hid h
  clear h hcap
  cases hk : okP wd n f
  · have e1 : bok wd n f = false := by rw [bok, hk]; rfl
    have e2 : bcl wd n f = 0 := by rw [bcl, e1]; rfl
    rw [e2, e1]
    clear e1 e2
    go_enter Try.func57, Try.ntmps57
    go_wp2_with fail
    refine (impl_IsPuzzle wd _ n f _ (HH.out.keep (by repeat (first | exact Below.refl _ _ | refine bl_alloc ?_ _ | refine bl_drewN ?_ _ | refine bl_trans (by assumption) ?_ | refine bl_set ?_ (by first | omega | (simp; done) | (simp; omega)) _)))).mono ?_
    rintro e w1 ⟨rfl, hbw1⟩
    obtain ⟨hcw1, hfw1⟩ := bcell hbw1
    have hzw1 := bsize hbw1
    (try simp only [World.size_alloc, World.size_setCell] at hzw1)
    have kw1_0_0 : w1.cell? ⟨w.heap.size, 0, none⟩ = some (.int .i64 wd) := by rw [hcw1 _ _ (by first | (simp; done) | omega | (simp; omega))]; first | assumption | (simp [go_sem]; done) | (simp [go_sem]; done) | (simp [go_sem, *]; done)
    have kw1_0_1 : w1.cell? ⟨w.heap.size, 1, none⟩ = some (.slice a n c) := by rw [hcw1 _ _ (by first | (simp; done) | omega | (simp; omega))]; first | assumption | (simp [go_sem]; done) | (simp [go_sem]; done) | (simp [go_sem, *]; done)
    have sw1_0 : w.heap.size < w1.heap.size := by first | omega | (simp at *; omega)
    have hBw1 : Below w.heap.size w w1 := (by repeat (first | exact Below.refl _ _ | refine bl_alloc ?_ _ | refine bl_drewN ?_ _ | refine bl_trans (by assumption) ?_ | refine bl_set ?_ (by first | omega | (simp; done) | (simp; omega)) _))
    have HBw1 := Lib.hid hBw1
    clear hBw1 hcw1 hfw1 hbw1
    rw [hk]
    go_wp2
    go_ret2
    exact ⟨rfl, HBw1.out⟩
  · by_cases hn : n = 0
    · subst hn
      have e1 : bok wd 0 f = false := by rw [bok]; simp
      have e2 : bcl wd 0 f = 0 := by rw [bcl, e1]; rfl
      rw [e2, e1]
      clear e1 e2
      go_enter Try.func57, Try.ntmps57
      go_wp2_with fail
      refine (impl_IsPuzzle wd _ 0 f _ (HH.out.keep (by repeat (first | exact Below.refl _ _ | refine bl_alloc ?_ _ | refine bl_drewN ?_ _ | refine bl_trans (by assumption) ?_ | refine bl_set ?_ (by first | omega | (simp; done) | (simp; omega)) _)))).mono ?_
      rintro e w1 ⟨rfl, hbw1⟩
      obtain ⟨hcw1, hfw1⟩ := bcell hbw1
      have hzw1 := bsize hbw1
      (try simp only [World.size_alloc, World.size_setCell] at hzw1)
      have kw1_0_0 : w1.cell? ⟨w.heap.size, 0, none⟩ = some (.int .i64 wd) := by rw [hcw1 _ _ (by first | (simp; done) | omega | (simp; omega))]; first | assumption | (simp [go_sem]; done) | (simp [go_sem]; done) | (simp [go_sem, *]; done)
      have kw1_0_1 : w1.cell? ⟨w.heap.size, 1, none⟩ = some (.slice a 0 c) := by rw [hcw1 _ _ (by first | (simp; done) | omega | (simp; omega))]; first | assumption | (simp [go_sem]; done) | (simp [go_sem]; done) | (simp [go_sem, *]; done)
      have sw1_0 : w.heap.size < w1.heap.size := by first | omega | (simp at *; omega)
      have hBw1 : Below w.heap.size w w1 := (by repeat (first | exact Below.refl _ _ | refine bl_alloc ?_ _ | refine bl_drewN ?_ _ | refine bl_trans (by assumption) ?_ | refine bl_set ?_ (by first | omega | (simp; done) | (simp; omega)) _))
      have HBw1 := Lib.hid hBw1
      clear hBw1 hcw1 hfw1 hbw1
      rw [hk]
      go_wp2
      go_ret2
      exact ⟨rfl, HBw1.out⟩
    · have e1 : bok wd n f = true := by rw [bok, hk]; simp; omega
      have E2 := Lib.hid (show bcl wd n f = bst f wd n by rw [bcl, e1]; rfl)
      obtain ⟨⟨k1, k2⟩, k3, k4⟩ := okP_true hk
      have K4 := Lib.hid k4
      have hn0 : ((n : Int) == 0) = false := by simp; omega
      rw [e1]
      clear e1 k4
      have HO1 := Lib.hid (okCs_le K4.out (show 1 ≤ n by omega))
      have hq1 := cnt_le 1 f wd
      go_enter Try.func57, Try.ntmps57
      go_wp2_with fail
      refine (impl_IsPuzzle wd _ n f _ (HH.out.keep (by repeat (first | exact Below.refl _ _ | refine bl_alloc ?_ _ | refine bl_drewN ?_ _ | refine bl_trans (by assumption) ?_ | refine bl_set ?_ (by first | omega | (simp; done) | (simp; omega)) _)))).mono ?_
      rintro e w1 ⟨rfl, hbw1⟩
      obtain ⟨hcw1, hfw1⟩ := bcell hbw1
      have hzw1 := bsize hbw1
      (try simp only [World.size_alloc, World.size_setCell] at hzw1)
      have kw1_0_0 : w1.cell? ⟨w.heap.size, 0, none⟩ = some (.int .i64 wd) := by rw [hcw1 _ _ (by first | (simp; done) | omega | (simp; omega))]; first | assumption | (simp [go_sem]; done) | (simp [go_sem]; done) | (simp [go_sem, *]; done)
      have kw1_0_1 : w1.cell? ⟨w.heap.size, 1, none⟩ = some (.slice a n c) := by rw [hcw1 _ _ (by first | (simp; done) | omega | (simp; omega))]; first | assumption | (simp [go_sem]; done) | (simp [go_sem]; done) | (simp [go_sem, *]; done)
      have sw1_0 : w.heap.size < w1.heap.size := by first | omega | (simp at *; omega)
      have hBw1 : Below w.heap.size w w1 := (by repeat (first | exact Below.refl _ _ | refine bl_alloc ?_ _ | refine bl_drewN ?_ _ | refine bl_trans (by assumption) ?_ | refine bl_set ?_ (by first | omega | (simp; done) | (simp; omega)) _))
      have HBw1 := Lib.hid hBw1
      clear hBw1 hcw1 hfw1 hbw1
      rw [hk]
      go_wp2_with fail
      have hS := And.intro kw1_0_0 (And.intro kw1_0_1 (And.intro sw1_0 HBw1.out))
      go_region_held3 (fun w' => w'.cell? ⟨w.heap.size, 0, none⟩ = some (.int .i64 wd) ∧ w'.cell? ⟨w.heap.size, 1, none⟩ = some (.slice a n c) ∧ w.heap.size < w'.heap.size ∧ Below w.heap.size w w') (first | exact NS_after hb4 (by assumption) | exact NS_after (below_drewN (Below.refl _ _) _) (by assumption) | exact NS_after (Below.drew (Below.refl _ _)) (by assumption) | assumption) (first | (go_at_call 85; refine (firstClues_any _ _ _ 1 _ (by omega) (by omega)).mono ?_; rintro e w3 ⟨rfl, rfl⟩) | (go_at_call 79; refine (countFit_any wd _ 1 f _ ((HH.out.keep (NS_bel (by assumption))).first (by omega) 1) HO1.out k1 k2).mono ?_; rintro e w4 ⟨rfl, hb4⟩) | fail)
      rename_i hh
      obtain ⟨q0, q1, q2, q3⟩ := hh
      have Q3 := Lib.hid q3
      clear q3
      go_wp2_with fail
      go_loopw [4, 5, 27] (fun bv fv kv wr => ∃ k : Nat, k ≤ n ∧ kv = .int .i64 (k : Int) ∧ bv = .int .i64 (bst f wd k : Nat) ∧ fv = .int .i64 (cnt 1 (fromF f (bst f wd k)) wd : Nat) ∧ wr.cell? ⟨w.heap.size, 0, none⟩ = some (.int .i64 wd) ∧ w.heap.size < wr.heap.size ∧ Below w.heap.size w wr) (fun _ _ kv _ => n - (intOf kv).toNat)
      case atStart => exact ⟨0, Nat.zero_le _, rfl, by rw [bst_zero]; rfl, by rw [bst_zero, fromF_zero], q0, q2, Q3.out⟩
      case round =>
        clear hS q0 q1 q2 Q3
        obtain ⟨k, hkn, rfl, rfl, rfl, c0, hsz, hW⟩ := hrel
        have HW := Lib.hid hW
        clear hW
        by_cases hlt : k < n
        · obtain ⟨b, off, cap, hv, hb, g1⟩ := (HH.out.keep HW.out).some_ (by omega)
          simp only [Value.slice.injEq, true_and] at hv
          obtain ⟨rfl, rfl⟩ := hv
          obtain ⟨p0, p1, p2⟩ := g1 k hlt
          have hlt' : (k : Int) < (n : Int) := by omega
          clear g1
          have HY := Lib.hid (@bst_yes f wd k)
          have HN := Lib.hid (@bst_no f wd k)
          have HOk := Lib.hid (okCs_from1 K4.out hlt)
          have hq := cnt_le 1 (fromF f k) wd
          have hq' := cnt_le 1 (fromF f (bst f wd k)) wd
          have d0 := fun o => cell_after (bl_alloc (Below.refl _ wr) o) hsz c0
          have HA := Lib.hid (fun o => bl_alloc HW.out o)
          by_cases hc1 : cnt 1 (fromF f k) wd < cnt 1 (fromF f (bst f wd k)) wd
          · have hc2 : ((cnt 1 (fromF f k) wd : Nat) : Int) < ((cnt 1 (fromF f (bst f wd k)) wd : Nat) : Int) := by omega
            have HY2 := Lib.hid (HY.out hc1)
            clear HY HN hc1
            go_wp2_with fail
            refine (countFit_any wd _ 1 (fromF f k) _ (PClu_from1 (by simp) (by simp [go_sem]) (by simp [go_sem]) (by simp [go_sem])) HOk.out k1 k2).mono ?_
            rintro e w5 ⟨rfl, hb5⟩
            have t0 : w5.cell? ⟨w.heap.size, 0, none⟩ = some (.int .i64 wd) := by rw [(bcell hb5).1 _ _ (by simp; omega)]; rw [(bcell (bl_alloc (bl_alloc (Below.refl _ wr) _) _)).1 _ _ hsz]; exact c0
            have t2 : w.heap.size < w5.heap.size := Nat.lt_of_lt_of_le (show w.heap.size < wr.heap.size + 1 + 1 by omega) (by have := hb5.size; simpa using this)
            have T3 := Lib.hid (show Below w.heap.size w w5 from bl_trans hb5 (bl_alloc (HA.out _) _))
            clear hb5 d0
            go_wp2
            go_roundw
            case rel => exact ⟨k + 1, by omega, by go_num, by rw [HY2.out], by rw [HY2.out], t0, t2, T3.out⟩
            case measure => simp only [intOf]; omega
          · have hc2 : ¬ ((cnt 1 (fromF f k) wd : Nat) : Int) < ((cnt 1 (fromF f (bst f wd k)) wd : Nat) : Int) := by omega
            have HN2 := Lib.hid (HN.out hc1)
            clear HY HN hc1
            go_wp2_with fail
            refine (countFit_any wd _ 1 (fromF f k) _ (PClu_from1 (by simp) (by simp [go_sem]) (by simp [go_sem]) (by simp [go_sem])) HOk.out k1 k2).mono ?_
            rintro e w5 ⟨rfl, hb5⟩
            have t0 : w5.cell? ⟨w.heap.size, 0, none⟩ = some (.int .i64 wd) := by rw [(bcell hb5).1 _ _ (by simp; omega)]; rw [(bcell (bl_alloc (bl_alloc (Below.refl _ wr) _) _)).1 _ _ hsz]; exact c0
            have t2 : w.heap.size < w5.heap.size := Nat.lt_of_lt_of_le (show w.heap.size < wr.heap.size + 1 + 1 by omega) (by have := hb5.size; simpa using this)
            have T3 := Lib.hid (show Below w.heap.size w w5 from bl_trans hb5 (bl_alloc (HA.out _) _))
            clear hb5 d0
            go_wp2
            go_roundw
            case rel => exact ⟨k + 1, by omega, by go_num, by rw [HN2.out], by rw [HN2.out], t0, t2, T3.out⟩
            case measure => simp only [intOf]; omega
        · obtain rfl : k = n := by omega
          go_wp2
          go_ret2
          exact ⟨by rw [E2.out]; rfl, HW.out⟩
set_option maxRecDepth 8000 in
set_option maxHeartbeats 1600000 in
theorem spec_BestClue (wd : Int) (v : Value) (n : Nat) (f : Nat → Int) (w : World) (h : PClu w v n f) (hcap : Caps v) :
    Calls Try.prog 56 #[.agg #[.int .i64 wd, v]] w fun e w' => e = .returned (.tuple #[.int .i64 (bcl wd n f : Nat), .bool (bok wd n f)]) ∧ Below w.heap.size w w' := by
  obtain ⟨a, c, rfl⟩ := h.shape
  have hnc : n ≤ c := hcap _ _ _ rfl
  have HH := Lib.hid h
  clear h hcap
  cases hk : okP wd n f
  · have e1 : bok wd n f = false := by rw [bok, hk]; rfl
    have e2 : bcl wd n f = 0 := by rw [bcl, e1]; rfl
    rw [e2, e1]
    clear e1 e2
    go_enter Try.func56, Try.ntmps56
    go_wp2_with fail
    refine (pzGood_any wd _ n f _ (HH.out.keep (by repeat (first | exact Below.refl _ _ | refine bl_alloc ?_ _ | refine bl_drewN ?_ _ | refine bl_trans (by assumption) ?_ | refine bl_set ?_ (by first | omega | (simp; done) | (simp; omega)) _)))).mono ?_
    rintro e w1 ⟨rfl, hbw1⟩
    obtain ⟨hcw1, hfw1⟩ := bcell hbw1
    have hzw1 := bsize hbw1
    (try simp only [World.size_alloc, World.size_setCell] at hzw1)
    have kw1_0_0 : w1.cell? ⟨w.heap.size, 0, none⟩ = some (.int .i64 wd) := by rw [hcw1 _ _ (by first | (simp; done) | omega | (simp; omega))]; first | assumption | (simp [go_sem]; done) | (simp [go_sem]; done) | (simp [go_sem, *]; done)
    have kw1_0_1 : w1.cell? ⟨w.heap.size, 1, none⟩ = some (.slice a n c) := by rw [hcw1 _ _ (by first | (simp; done) | omega | (simp; omega))]; first | assumption | (simp [go_sem]; done) | (simp [go_sem]; done) | (simp [go_sem, *]; done)
    have sw1_0 : w.heap.size < w1.heap.size := by first | omega | (simp at *; omega)
    have hBw1 : Below w.heap.size w w1 := (by repeat (first | exact Below.refl _ _ | refine bl_alloc ?_ _ | refine bl_drewN ?_ _ | refine bl_trans (by assumption) ?_ | refine bl_set ?_ (by first | omega | (simp; done) | (simp; omega)) _))
    have HBw1 := Lib.hid hBw1
    clear hBw1 hcw1 hfw1 hbw1
    rw [hk]
    go_wp2
    go_ret2
    exact ⟨rfl, HBw1.out⟩
  · by_cases hn : n = 0
    · subst hn
      have e1 : bok wd 0 f = false := by rw [bok]; simp
      have e2 : bcl wd 0 f = 0 := by rw [bcl, e1]; rfl
      rw [e2, e1]
      clear e1 e2
      go_enter Try.func56, Try.ntmps56
      go_wp2_with fail
      refine (pzGood_any wd _ 0 f _ (HH.out.keep (by repeat (first | exact Below.refl _ _ | refine bl_alloc ?_ _ | refine bl_drewN ?_ _ | refine bl_trans (by assumption) ?_ | refine bl_set ?_ (by first | omega | (simp; done) | (simp; omega)) _)))).mono ?_
      rintro e w1 ⟨rfl, hbw1⟩
      obtain ⟨hcw1, hfw1⟩ := bcell hbw1
      have hzw1 := bsize hbw1
      (try simp only [World.size_alloc, World.size_setCell] at hzw1)
      have kw1_0_0 : w1.cell? ⟨w.heap.size, 0, none⟩ = some (.int .i64 wd) := by rw [hcw1 _ _ (by first | (simp; done) | omega | (simp; omega))]; first | assumption | (simp [go_sem]; done) | (simp [go_sem]; done) | (simp [go_sem, *]; done)
      have kw1_0_1 : w1.cell? ⟨w.heap.size, 1, none⟩ = some (.slice a 0 c) := by rw [hcw1 _ _ (by first | (simp; done) | omega | (simp; omega))]; first | assumption | (simp [go_sem]; done) | (simp [go_sem]; done) | (simp [go_sem, *]; done)
      have sw1_0 : w.heap.size < w1.heap.size := by first | omega | (simp at *; omega)
      have hBw1 : Below w.heap.size w w1 := (by repeat (first | exact Below.refl _ _ | refine bl_alloc ?_ _ | refine bl_drewN ?_ _ | refine bl_trans (by assumption) ?_ | refine bl_set ?_ (by first | omega | (simp; done) | (simp; omega)) _))
      have HBw1 := Lib.hid hBw1
      clear hBw1 hcw1 hfw1 hbw1
      rw [hk]
      go_wp2
      go_ret2
      exact ⟨rfl, HBw1.out⟩
    · have e1 : bok wd n f = true := by rw [bok, hk]; simp; omega
      have E2 := Lib.hid (show bcl wd n f = bst f wd n by rw [bcl, e1]; rfl)
      obtain ⟨⟨k1, k2⟩, k3, k4⟩ := okP_true hk
      have K4 := Lib.hid k4
      have hn0 : ((n : Int) == 0) = false := by simp; omega
      rw [e1]
      clear e1 k4
      go_enter Try.func56, Try.ntmps56
      go_wp2_with fail
      refine (pzGood_any wd _ n f _ (HH.out.keep (by repeat (first | exact Below.refl _ _ | refine bl_alloc ?_ _ | refine bl_drewN ?_ _ | refine bl_trans (by assumption) ?_ | refine bl_set ?_ (by first | omega | (simp; done) | (simp; omega)) _)))).mono ?_
      rintro e w1 ⟨rfl, hbw1⟩
      obtain ⟨hcw1, hfw1⟩ := bcell hbw1
      have hzw1 := bsize hbw1
      (try simp only [World.size_alloc, World.size_setCell] at hzw1)
      have kw1_0_0 : w1.cell? ⟨w.heap.size, 0, none⟩ = some (.int .i64 wd) := by rw [hcw1 _ _ (by first | (simp; done) | omega | (simp; omega))]; first | assumption | (simp [go_sem]; done) | (simp [go_sem]; done) | (simp [go_sem, *]; done)
      have kw1_0_1 : w1.cell? ⟨w.heap.size, 1, none⟩ = some (.slice a n c) := by rw [hcw1 _ _ (by first | (simp; done) | omega | (simp; omega))]; first | assumption | (simp [go_sem]; done) | (simp [go_sem]; done) | (simp [go_sem, *]; done)
      have sw1_0 : w.heap.size < w1.heap.size := by first | omega | (simp at *; omega)
      have hBw1 : Below w.heap.size w w1 := (by repeat (first | exact Below.refl _ _ | refine bl_alloc ?_ _ | refine bl_drewN ?_ _ | refine bl_trans (by assumption) ?_ | refine bl_set ?_ (by first | omega | (simp; done) | (simp; omega)) _))
      have HBw1 := Lib.hid hBw1
      clear hBw1 hcw1 hfw1 hbw1
      rw [hk]
      go_wp2_with fail
      go_loopw [4, 5, 20] (fun bv fv kv wr => ∃ (k : Nat) (least : Int), k ≤ n ∧ kv = .int .i64 (k : Int) ∧ bv = .int .i64 (bst f wd k : Nat) ∧ fv = .int .i64 least ∧ (0 < k → least = (cnt 1 (fromF f (bst f wd k)) wd : Nat)) ∧ wr.cell? ⟨w.heap.size, 0, none⟩ = some (.int .i64 wd) ∧ wr.cell? ⟨w.heap.size, 1, none⟩ = some (.slice a n c) ∧ w.heap.size < wr.heap.size ∧ Below w.heap.size w wr) (fun _ _ kv _ => n - (intOf kv).toNat)
      case atStart => exact ⟨0, 0, Nat.zero_le _, rfl, by rw [bst_zero]; rfl, rfl, fun h => by omega, kw1_0_0, kw1_0_1, sw1_0, HBw1.out⟩
      case round =>
        obtain ⟨k, least, hkn, rfl, rfl, rfl, hle, c0, c1, hsz, hW⟩ := hrel
        have HL := Lib.hid hle
        have HW := Lib.hid hW
        clear hle
        by_cases hlt : k < n
        · obtain ⟨b, off, cap, hv, hb, g1⟩ := (HH.out.keep HW.out).some_ (by omega)
          simp only [Value.slice.injEq, true_and] at hv
          obtain ⟨rfl, rfl⟩ := hv
          have hlt' : (k : Int) < (n : Int) := by omega
          clear g1
          have HY := Lib.hid (@bst_yes f wd k)
          have HN := Lib.hid (@bst_no f wd k)
          have HOk := Lib.hid (okCs_from1 K4.out hlt)
          have hq := cnt_le 1 (fromF f k) wd
          have hq' := cnt_le 1 (fromF f (bst f wd k)) wd
          obtain ⟨K, hK⟩ : ∃ K, K = k + 1 := ⟨_, rfl⟩
          have hw1 : IntKind.i64.wrap ((k : Int) + 1) = (K : Int) := by rw [hK, IntWalk.i64_in _ (by omega)]; simp
          have g0 : (0 : Int) ≤ (K : Int) := by omega
          have g2 : (K : Int) ≤ (c : Int) := by omega
          have g3 : (0 : Int) ≤ (k : Int) := by omega
          have g4 : (k : Int) ≤ (K : Int) := by omega
          have g5 : K - k = 1 := by omega
          have g6 : ¬ c = k := by omega
          have HPk := Lib.hid (fun (W : World) (hW : Below w.heap.size w W) => (show PClu W (.slice (some ⟨b, off + k * 3, none⟩) 1 (c - k)) 1 (fromF f k) from (PClu.from_ (HH.out.keep hW) (by omega) _ 1 (by omega))))
          have HK := Lib.hid hK
          clear hK
          have hS := And.intro c0 (And.intro c1 (And.intro hsz hW))
          clear hW
          by_cases hc1 : k = 0 ∨ cnt 1 (fromF f k) wd < cnt 1 (fromF f (bst f wd k)) wd
          · have HY2 : Hid (bst f wd (k + 1) = k) := Lib.hid (by
              rcases hc1 with h | h
              · subst h; exact bst_one f wd
              · exact HY.out h)
            by_cases hk0 : k = 0
            · have hk0' : ((k : Int) == 0) = true := by simp; omega
              clear HY HN hc1 hk0
              go_wp2_with fail
              go_region_held3 (fun w' => w'.cell? ⟨w.heap.size, 0, none⟩ = some (.int .i64 wd) ∧ w'.cell? ⟨w.heap.size, 1, none⟩ = some (.slice (some ⟨b, off, none⟩) n c) ∧ w.heap.size < w'.heap.size ∧ Below w.heap.size w w') (first | exact NS_after hb4 (by assumption) | exact NS_after (below_drewN (Below.refl _ _) _) (by assumption) | exact NS_after (Below.drew (Below.refl _ _)) (by assumption) | assumption) (first | (go_at_call 74; refine (pzAll_any wd _ 1 (fromF f k) _ (HPk.out _ (NS_bel (by assumption))) HOk.out k1 k2).mono ?_; rintro e w4 ⟨u5, rfl, hR5, hb4⟩; obtain ⟨a5, c5, rfl⟩ := hR5.shape; clear hR5) | fail)
              rename_i hh
              obtain ⟨q0, q1, q2, q3⟩ := hh
              have Q3 := Lib.hid q3
              clear q3
              go_wp2
              go_roundw
              case rel => exact ⟨k + 1, _, by omega, by go_num, by rw [HY2.out], rfl, fun _ => by rw [HY2.out], q0, q1, q2, Q3.out⟩
              case measure => simp only [intOf]; omega
            · have hk0' : ((k : Int) == 0) = false := by simp; omega
              have hlq := HL.out (by omega)
              have hc2 : ((cnt 1 (fromF f k) wd : Nat) : Int) < least := by omega
              clear HY HN hc1 hk0 hlq
              go_wp2_with fail
              go_region_held3 (fun w' => w'.cell? ⟨w.heap.size, 0, none⟩ = some (.int .i64 wd) ∧ w'.cell? ⟨w.heap.size, 1, none⟩ = some (.slice (some ⟨b, off, none⟩) n c) ∧ w.heap.size < w'.heap.size ∧ Below w.heap.size w w') (first | exact NS_after hb4 (by assumption) | exact NS_after (below_drewN (Below.refl _ _) _) (by assumption) | exact NS_after (Below.drew (Below.refl _ _)) (by assumption) | assumption) (first | (go_at_call 74; refine (pzAll_any wd _ 1 (fromF f k) _ (HPk.out _ (NS_bel (by assumption))) HOk.out k1 k2).mono ?_; rintro e w4 ⟨u5, rfl, hR5, hb4⟩; obtain ⟨a5, c5, rfl⟩ := hR5.shape; clear hR5) | fail)
              rename_i hh
              obtain ⟨q0, q1, q2, q3⟩ := hh
              have Q3 := Lib.hid q3
              clear q3
              go_wp2
              go_roundw
              case rel => exact ⟨k + 1, _, by omega, by go_num, by rw [HY2.out], rfl, fun _ => by rw [HY2.out], q0, q1, q2, Q3.out⟩
              case measure => simp only [intOf]; omega
          · have hk0' : ((k : Int) == 0) = false := by simp; omega
            have hlq := HL.out (by omega)
            have hc2 : ¬ ((cnt 1 (fromF f k) wd : Nat) : Int) < least := by omega
            have HN2 := Lib.hid (HN.out (by omega))
            have HLQ := Lib.hid hlq
            clear HY HN hc1 hlq
            go_wp2_with fail
            go_region_held3 (fun w' => w'.cell? ⟨w.heap.size, 0, none⟩ = some (.int .i64 wd) ∧ w'.cell? ⟨w.heap.size, 1, none⟩ = some (.slice (some ⟨b, off, none⟩) n c) ∧ w.heap.size < w'.heap.size ∧ Below w.heap.size w w') (first | exact NS_after hb4 (by assumption) | exact NS_after (below_drewN (Below.refl _ _) _) (by assumption) | exact NS_after (Below.drew (Below.refl _ _)) (by assumption) | assumption) (first | (go_at_call 74; refine (pzAll_any wd _ 1 (fromF f k) _ (HPk.out _ (NS_bel (by assumption))) HOk.out k1 k2).mono ?_; rintro e w4 ⟨u5, rfl, hR5, hb4⟩; obtain ⟨a5, c5, rfl⟩ := hR5.shape; clear hR5) | fail)
            rename_i hh
            obtain ⟨q0, q1, q2, q3⟩ := hh
            have Q3 := Lib.hid q3
            clear q3
            go_wp2
            go_roundw
            case rel => exact ⟨k + 1, _, by omega, by go_num, by rw [HN2.out], rfl, fun _ => by rw [HN2.out]; exact HLQ.out, q0, q1, q2, Q3.out⟩
            case measure => simp only [intOf]; omega
        · obtain rfl : k = n := by omega
          go_wp2
          go_ret2
          exact ⟨by rw [E2.out]; rfl, HW.out⟩
end Go.Proofs.Ytgghceckpdfogaa
