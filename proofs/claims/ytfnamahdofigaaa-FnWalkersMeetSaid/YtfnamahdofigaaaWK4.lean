/- Chapter 6: what is told of a walker at a minute, by how much it changes, and when it is so much; by the program and by the model alike. -/
import Derived.Test.YtfnamahdofigaaaWK2
namespace Go.Proofs.Ytfnamahdofigaaa
open Go.RowKit
set_option linter.unusedVariables false
set_option linter.unusedSimpArgs false
set_option maxHeartbeats 400000 in
theorem l1Most_any (x y : Int) (w : World) :
    Calls Try.prog 42 #[.int .i64 x, .int .i64 y] w fun e w' => e = .returned (.int .i64 (max x y)) ∧ w = w' := by
  go_enter Try.func42, Try.ntmps42
  go_wp2
  all_goals (go_ret; exact ⟨ret_int (by show _ = max x y; omega), rfl⟩)
set_option maxHeartbeats 400000 in
theorem l1Least_any (x y : Int) (w : World) :
    Calls Try.prog 41 #[.int .i64 x, .int .i64 y] w fun e w' => e = .returned (.int .i64 (min x y)) ∧ w = w' := by
  go_enter Try.func41, Try.ntmps41
  go_wp2
  all_goals (go_ret; exact ⟨ret_int (by show _ = min x y; omega), rfl⟩)
set_option maxHeartbeats 1000000 in
theorem wkPlace_any (l h p s m : Int) (w : World) :
    Calls Try.prog 38 #[.int .i64 l, .agg #[.int .i64 h, .int .i64 p, .int .i64 s], .int .i64 m] w fun e w' => e = .returned (.tuple #[.int .i64 (Z (okAt l h p s m) (p + s * m)), .bool (okAt l h p s m)]) ∧ Below w.heap.size w w' := by
  have hA : okAt l h p s m = (okWk l h p s && (within m 0 60 && decide (0 ≤ p + s * m))) := rfl
  cases h1 : okWk l h p s
  · have HO := Lib.hid (show okAt l h p s m = false by rw [hA, h1]; rfl)
    clear hA
    go_enter Try.func38, Try.ntmps38
    go_wp2_with fail
    refine (spec_wkGood _ _ _ _ _).mono ?_
    rintro e w1 ⟨rfl, hbw1⟩
    obtain ⟨hcw1, hfw1⟩ := bcell hbw1
    have hzw1 := bsize hbw1
    (try simp only [World.size_alloc, World.size_setCell] at hzw1)
    have kw1_0_0 : w1.cell? ⟨w.heap.size, 0, none⟩ = some (.int .i64 h) := by rw [hcw1 _ _ (by first | (simp; done) | omega | (simp; omega))]; first | assumption | (simp [go_sem]; done) | (simp [go_sem]; done) | (simp [go_sem, *]; done)
    have kw1_0_1 : w1.cell? ⟨w.heap.size, 1, none⟩ = some (.int .i64 p) := by rw [hcw1 _ _ (by first | (simp; done) | omega | (simp; omega))]; first | assumption | (simp [go_sem]; done) | (simp [go_sem]; done) | (simp [go_sem, *]; done)
    have kw1_0_2 : w1.cell? ⟨w.heap.size, 2, none⟩ = some (.int .i64 s) := by rw [hcw1 _ _ (by first | (simp; done) | omega | (simp; omega))]; first | assumption | (simp [go_sem]; done) | (simp [go_sem]; done) | (simp [go_sem, *]; done)
    have sw1_0 : w.heap.size < w1.heap.size := by first | omega | (simp at *; omega)
    have hBw1 : Below w.heap.size w w1 := (by repeat (first | exact Below.refl _ _ | refine bl_alloc ?_ _ | refine bl_drewN ?_ _ | refine bl_trans (by assumption) ?_ | refine bl_set ?_ (by first | omega | (simp; done) | (simp; omega)) _))
    have HBw1 := Lib.hid hBw1
    clear hBw1 hcw1 hfw1 hbw1
    rw [h1]
    go_wp2
    go_ret2
    exact ⟨by simp [HO.out, Z], (by repeat (first | exact HBw1.out | exact Below.refl _ _ | refine bl_alloc ?_ _ | refine bl_drewN ?_ _ | refine bl_trans (by assumption) ?_ | refine bl_set ?_ (by first | omega | (simp; done) | (simp; omega)) _))⟩
  cases h2 : within m 0 60
  · have HO := Lib.hid (show okAt l h p s m = false by rw [hA, h1, h2]; rfl)
    clear hA
    go_enter Try.func38, Try.ntmps38
    go_wp2_with fail
    refine (spec_wkGood _ _ _ _ _).mono ?_
    rintro e w1 ⟨rfl, hbw1⟩
    obtain ⟨hcw1, hfw1⟩ := bcell hbw1
    have hzw1 := bsize hbw1
    (try simp only [World.size_alloc, World.size_setCell] at hzw1)
    have kw1_0_0 : w1.cell? ⟨w.heap.size, 0, none⟩ = some (.int .i64 h) := by rw [hcw1 _ _ (by first | (simp; done) | omega | (simp; omega))]; first | assumption | (simp [go_sem]; done) | (simp [go_sem]; done) | (simp [go_sem, *]; done)
    have kw1_0_1 : w1.cell? ⟨w.heap.size, 1, none⟩ = some (.int .i64 p) := by rw [hcw1 _ _ (by first | (simp; done) | omega | (simp; omega))]; first | assumption | (simp [go_sem]; done) | (simp [go_sem]; done) | (simp [go_sem, *]; done)
    have kw1_0_2 : w1.cell? ⟨w.heap.size, 2, none⟩ = some (.int .i64 s) := by rw [hcw1 _ _ (by first | (simp; done) | omega | (simp; omega))]; first | assumption | (simp [go_sem]; done) | (simp [go_sem]; done) | (simp [go_sem, *]; done)
    have sw1_0 : w.heap.size < w1.heap.size := by first | omega | (simp at *; omega)
    have hBw1 : Below w.heap.size w w1 := (by repeat (first | exact Below.refl _ _ | refine bl_alloc ?_ _ | refine bl_drewN ?_ _ | refine bl_trans (by assumption) ?_ | refine bl_set ?_ (by first | omega | (simp; done) | (simp; omega)) _))
    have HBw1 := Lib.hid hBw1
    clear hBw1 hcw1 hfw1 hbw1
    rw [h1]
    go_wp2_with fail
    refine (l1In_any _ _ _ _).mono ?_
    rintro e w' ⟨rfl, rfl⟩
    rw [h2]
    go_wp2
    go_ret2
    exact ⟨by simp [HO.out, Z], (by repeat (first | exact HBw1.out | exact Below.refl _ _ | refine bl_alloc ?_ _ | refine bl_drewN ?_ _ | refine bl_trans (by assumption) ?_ | refine bl_set ?_ (by first | omega | (simp; done) | (simp; omega)) _))⟩
  obtain ⟨⟨l1, l2⟩, ⟨g1, g2⟩, ⟨p1, p2⟩, s1, s2⟩ := okWk_true h1
  obtain ⟨m1, m2⟩ := within_true h2
  obtain ⟨f1, f2⟩ := mul_abs (a := s) (b := m) (m := 50) (k := 60) (by omega) (by omega) (by omega) (by omega)
  by_cases h3 : p + s * m < 0
  · have HO := Lib.hid (show okAt l h p s m = false by rw [hA, h1, h2, decide_eq_false (by omega)]; rfl)
    clear hA
    go_enter Try.func38, Try.ntmps38
    go_wp2_with fail
    refine (spec_wkGood _ _ _ _ _).mono ?_
    rintro e w1 ⟨rfl, hbw1⟩
    obtain ⟨hcw1, hfw1⟩ := bcell hbw1
    have hzw1 := bsize hbw1
    (try simp only [World.size_alloc, World.size_setCell] at hzw1)
    have kw1_0_0 : w1.cell? ⟨w.heap.size, 0, none⟩ = some (.int .i64 h) := by rw [hcw1 _ _ (by first | (simp; done) | omega | (simp; omega))]; first | assumption | (simp [go_sem]; done) | (simp [go_sem]; done) | (simp [go_sem, *]; done)
    have kw1_0_1 : w1.cell? ⟨w.heap.size, 1, none⟩ = some (.int .i64 p) := by rw [hcw1 _ _ (by first | (simp; done) | omega | (simp; omega))]; first | assumption | (simp [go_sem]; done) | (simp [go_sem]; done) | (simp [go_sem, *]; done)
    have kw1_0_2 : w1.cell? ⟨w.heap.size, 2, none⟩ = some (.int .i64 s) := by rw [hcw1 _ _ (by first | (simp; done) | omega | (simp; omega))]; first | assumption | (simp [go_sem]; done) | (simp [go_sem]; done) | (simp [go_sem, *]; done)
    have sw1_0 : w.heap.size < w1.heap.size := by first | omega | (simp at *; omega)
    have hBw1 : Below w.heap.size w w1 := (by repeat (first | exact Below.refl _ _ | refine bl_alloc ?_ _ | refine bl_drewN ?_ _ | refine bl_trans (by assumption) ?_ | refine bl_set ?_ (by first | omega | (simp; done) | (simp; omega)) _))
    have HBw1 := Lib.hid hBw1
    clear hBw1 hcw1 hfw1 hbw1
    rw [h1]
    go_wp2_with fail
    refine (l1In_any _ _ _ _).mono ?_
    rintro e w' ⟨rfl, rfl⟩
    rw [h2]
    go_wp2
    go_ret2
    exact ⟨by simp [HO.out, Z], (by repeat (first | exact HBw1.out | exact Below.refl _ _ | refine bl_alloc ?_ _ | refine bl_drewN ?_ _ | refine bl_trans (by assumption) ?_ | refine bl_set ?_ (by first | omega | (simp; done) | (simp; omega)) _))⟩
  · have HO := Lib.hid (show okAt l h p s m = true by rw [hA, h1, h2, decide_eq_true (by omega)]; rfl)
    clear hA
    go_enter Try.func38, Try.ntmps38
    go_wp2_with fail
    refine (spec_wkGood _ _ _ _ _).mono ?_
    rintro e w1 ⟨rfl, hbw1⟩
    obtain ⟨hcw1, hfw1⟩ := bcell hbw1
    have hzw1 := bsize hbw1
    (try simp only [World.size_alloc, World.size_setCell] at hzw1)
    have kw1_0_0 : w1.cell? ⟨w.heap.size, 0, none⟩ = some (.int .i64 h) := by rw [hcw1 _ _ (by first | (simp; done) | omega | (simp; omega))]; first | assumption | (simp [go_sem]; done) | (simp [go_sem]; done) | (simp [go_sem, *]; done)
    have kw1_0_1 : w1.cell? ⟨w.heap.size, 1, none⟩ = some (.int .i64 p) := by rw [hcw1 _ _ (by first | (simp; done) | omega | (simp; omega))]; first | assumption | (simp [go_sem]; done) | (simp [go_sem]; done) | (simp [go_sem, *]; done)
    have kw1_0_2 : w1.cell? ⟨w.heap.size, 2, none⟩ = some (.int .i64 s) := by rw [hcw1 _ _ (by first | (simp; done) | omega | (simp; omega))]; first | assumption | (simp [go_sem]; done) | (simp [go_sem]; done) | (simp [go_sem, *]; done)
    have sw1_0 : w.heap.size < w1.heap.size := by first | omega | (simp at *; omega)
    have hBw1 : Below w.heap.size w w1 := (by repeat (first | exact Below.refl _ _ | refine bl_alloc ?_ _ | refine bl_drewN ?_ _ | refine bl_trans (by assumption) ?_ | refine bl_set ?_ (by first | omega | (simp; done) | (simp; omega)) _))
    have HBw1 := Lib.hid hBw1
    clear hBw1 hcw1 hfw1 hbw1
    rw [h1]
    go_wp2_with fail
    refine (l1In_any _ _ _ _).mono ?_
    rintro e w' ⟨rfl, rfl⟩
    rw [h2]
    go_wp2
    go_ret2
    exact ⟨by rw [HO.out]; rfl, (by repeat (first | exact HBw1.out | exact Below.refl _ _ | refine bl_alloc ?_ _ | refine bl_drewN ?_ _ | refine bl_trans (by assumption) ?_ | refine bl_set ?_ (by first | omega | (simp; done) | (simp; omega)) _))⟩
theorem eqM_scaled {s d way : Int} (hd : 1 ≤ d) : eqM way (s * d) = (if s < 0 then -way else way) := by
  unfold eqM
  by_cases h : s < 0
  · rw [if_pos h, if_pos (by
      have := Int.mul_le_mul_of_nonneg_right (show s ≤ -1 by omega) (show 0 ≤ d by omega)
      omega)]
  · rw [if_neg h, if_neg (by
      have := Int.mul_nonneg (show 0 ≤ s by omega) (show 0 ≤ d by omega)
      omega)]
theorem eqG_scaled {s d : Int} (hd : 1 ≤ d) : eqG (s * d) = d * (if s < 0 then -s else s) := by
  unfold eqG
  by_cases h : s < 0
  · rw [if_pos h, if_pos (by
      have := Int.mul_le_mul_of_nonneg_right (show s ≤ -1 by omega) (show 0 ≤ d by omega)
      omega), Int.mul_neg, Int.mul_comm]
  · rw [if_neg h, if_neg (by
      have := Int.mul_nonneg (show 0 ≤ s by omega) (show 0 ≤ d by omega)
      omega), Int.mul_comm]
theorem ln_one (n : Int) : ln n 1 = n := by simp [ln]
theorem ld_one (n : Int) : ld n 1 = 1 := by simp [ld]
theorem lnI_one (n : Int) : lnI n 1 = n := by unfold lnI; rw [ln_one, ln_one]; split <;> omega
theorem ldI_one (n : Int) : ldI n 1 = 1 := by unfold ldI; rw [ld_one, ld_one]; split <;> rfl
theorem at_mul (p s m l : Int) : p * l + s * l * m = (p + s * m) * l := by rw [Int.add_mul, Int.mul_right_comm]
theorem tells_foot (h p s l : Int) (hk : okWk l h p s = true) : Tells 33 h p s l (p) (s) (1) := fun W => foot_any h p s l W
theorem fits_foot {l h p s : Int} (hk : okWk l h p s = true) : Fits p s 0 (p) (s) (1) := by
  obtain ⟨⟨l1, l2⟩, ⟨h1, h2⟩, ⟨p1, p2⟩, s1, s2⟩ := okWk_true hk
  obtain ⟨f1, f2⟩ := mul_bd2 (a := p) (b := l) (m := 500) (k := 200) (by omega) (by omega) (by omega) (by omega)
  obtain ⟨f3, f4⟩ := mul_abs (a := s) (b := l) (m := 50) (k := 200) (by omega) (by omega) (by omega) (by omega)
  constructor <;> omega
theorem tells_tip (h p s l : Int) (hk : okWk l h p s = true) : Tells 28 h p s l (p * l) (s * l) (l - h) := fun W => tip_any h p s l hk W
theorem fits_tip {l h p s : Int} (hk : okWk l h p s = true) : Fits p s 0 (p * l) (s * l) (l - h) := by
  obtain ⟨⟨l1, l2⟩, ⟨h1, h2⟩, ⟨p1, p2⟩, s1, s2⟩ := okWk_true hk
  obtain ⟨f1, f2⟩ := mul_bd2 (a := p) (b := l) (m := 500) (k := 200) (by omega) (by omega) (by omega) (by omega)
  obtain ⟨f3, f4⟩ := mul_abs (a := s) (b := l) (m := 50) (k := 200) (by omega) (by omega) (by omega) (by omega)
  constructor <;> omega
set_option maxHeartbeats 1000000 in
theorem impl_PlaceAt (l h p s m : Int) (w : World) :
    Calls Try.prog 23 #[.int .i64 l, .agg #[.int .i64 h, .int .i64 p, .int .i64 s], .int .i64 m] w fun e w' => e = .returned (.tuple #[.int .i64 (Z (okAt l h p s m) (p + s * m)), .bool (okAt l h p s m)]) ∧ Below w.heap.size w w' := by
  have hn : okAt l h p s m = true → 0 ≤ p + s * m := fun ho => by
    obtain ⟨hk, hm, h0, h1⟩ := okAt_true ho
    obtain ⟨⟨l1, l2⟩, ⟨g1, g2⟩, ⟨p1, p2⟩, s1, s2⟩ := okWk_true hk
    exact h0
  have HM := fun W => Lib.hid (measuredAt_any l h p s m 33 (fun _ _ => rfl) (p) (s) (1) (tells_foot h p s l) fits_foot hn W)
  rw [ln_one] at HM
  go_enter Try.func23, Try.ntmps23
  go_wp2_with fail
  refine ((HM _).out).mono ?_
  rintro e w1 ⟨rfl, hbw1⟩
  obtain ⟨hcw1, hfw1⟩ := bcell hbw1
  have hzw1 := bsize hbw1
  (try simp only [World.size_alloc, World.size_setCell] at hzw1)
  have kw1_0_0 : w1.cell? ⟨w.heap.size, 0, none⟩ = some (.int .i64 h) := by rw [hcw1 _ _ (by first | (simp; done) | omega | (simp; omega))]; first | assumption | (simp [go_sem]; done) | (simp [go_sem]; done) | (simp [go_sem, *]; done)
  have kw1_0_1 : w1.cell? ⟨w.heap.size, 1, none⟩ = some (.int .i64 p) := by rw [hcw1 _ _ (by first | (simp; done) | omega | (simp; omega))]; first | assumption | (simp [go_sem]; done) | (simp [go_sem]; done) | (simp [go_sem, *]; done)
  have kw1_0_2 : w1.cell? ⟨w.heap.size, 2, none⟩ = some (.int .i64 s) := by rw [hcw1 _ _ (by first | (simp; done) | omega | (simp; omega))]; first | assumption | (simp [go_sem]; done) | (simp [go_sem]; done) | (simp [go_sem, *]; done)
  have sw1_0 : w.heap.size < w1.heap.size := by first | omega | (simp at *; omega)
  have hBw1 : Below w.heap.size w w1 := (by repeat (first | exact Below.refl _ _ | refine bl_alloc ?_ _ | refine bl_drewN ?_ _ | refine bl_trans (by assumption) ?_ | refine bl_set ?_ (by first | omega | (simp; done) | (simp; omega)) _))
  have HBw1 := Lib.hid hBw1
  clear hBw1 hcw1 hfw1 hbw1
  go_wp2
  go_ret2
  exact ⟨rfl, (by repeat (first | exact HBw1.out | exact Below.refl _ _ | refine bl_alloc ?_ _ | refine bl_drewN ?_ _ | refine bl_trans (by assumption) ?_ | refine bl_set ?_ (by first | omega | (simp; done) | (simp; omega)) _))⟩
def okAL (l h p s : Int) : Bool := okWk l h p s && (p == 0 || eqOk (0 - p) s)
def alN (p s : Int) : Int := if p = 0 then 0 else ln (eqM (0 - p) s) (eqG s)
def alD (p s : Int) : Int := if p = 0 then 1 else ld (eqM (0 - p) s) (eqG s)
theorem eq_still {s : Int} (h : ¬ s = 0) : eqOk (0 * 1 - 0) s = true ∧ ln (eqM (0 * 1 - 0) s) (eqG s) = 0 ∧ ld (eqM (0 * 1 - 0) s) (eqG s) = 1 := by
  have hM : eqM (0 * 1 - 0) s = 0 := by unfold eqM; split <;> omega
  have hG : 1 ≤ eqG s := by unfold eqG; split <;> omega
  refine ⟨?_, ?_, ?_⟩
  · unfold eqOk; rw [hM]; simp; omega
  · rw [hM, ln_zero]
  · rw [hM, ld_zero hG]
end Go.Proofs.Ytfnamahdofigaaa
