/- Contracts of the functions of chapter 1 that take ladders: fractions. -/
import Derived.Test.YtohlbnfncllhoaaDoorC1
namespace Go.Proofs.YtohlbnfncllhoaaDoor
open Go.RowKit

theorem mul_bd {a b m : Int} (ha : 0 ≤ a) (hb : 0 ≤ b) (ha' : a ≤ m) (hb' : b ≤ m) : 0 ≤ a * b ∧ a * b ≤ m * m :=
  ⟨Int.mul_nonneg ha hb, Int.mul_le_mul ha' hb' hb (by omega)⟩
theorem mul_bd2 {a b m k : Int} (ha : 0 ≤ a) (hb : 0 ≤ b) (ha' : a ≤ m) (hb' : b ≤ k) : 0 ≤ a * b ∧ a * b ≤ m * k :=
  ⟨Int.mul_nonneg ha hb, Int.mul_le_mul ha' hb' hb (by omega)⟩
theorem sum_sq {b c : Int} (hb : 0 ≤ b) (hc : 0 ≤ c) : b * c ≤ (b + c) * (b + c) :=
  Int.mul_le_mul (by omega) (by omega) hc (by omega)
def CH (f : Int → Int → Int) (a b c : Int) : Int := if okL a b c then f (b * c) (b + c) else 0
set_option maxHeartbeats 400000 in
theorem impl_CrossHeight (a b c : Int) (w : World) :
    Calls Tryd.prog 7 #[.agg #[.int .i64 a, .int .i64 b, .int .i64 c]] w fun e w' => e = .returned (.tuple #[.int .i64 (CH ln a b c), .int .i64 (CH ld a b c), .bool (okL a b c)]) ∧ Below w.heap.size w w' := by
  cases h : okL a b c
  · go_enter Tryd.func7, Tryd.ntmps7
    go_wp2_with (go_at_call 21; refine (impl_AreLadders _ _ _ _).mono ?_; rintro e w1 ⟨rfl, hb⟩; obtain ⟨hc, hf⟩ := bcell hb; have hz := bsize hb; rw [h])
    go_ret3
    exact ⟨by simp [CH, h], (by repeat (first | exact Below.refl _ _ | refine bl_alloc ?_ _ | refine bl_drewN ?_ _ | refine bl_trans (by assumption) ?_))⟩
  · obtain ⟨⟨a0, a1⟩, ⟨b0, b1⟩, c0, c1⟩ := okL_true h
    obtain ⟨f1, f2⟩ := mul_bd (a := b) (b := c) (by omega) (by omega) b1 c1
    go_enter Tryd.func7, Tryd.ntmps7
    go_wp2_with (first | (go_at_call 21; refine (impl_AreLadders _ _ _ _).mono ?_; rintro e w1 ⟨rfl, hb⟩; obtain ⟨hc, hf⟩ := bcell hb; have hz := bsize hb; rw [h]) | (go_at_call 38; refine (toldFraction_any _ _ (by omega) (by omega) (by omega) (by omega) _).mono ?_; rintro e w' ⟨rfl, nn, rfl⟩))
    go_ret3
    exact ⟨by simp [CH, h], (by repeat (first | exact Below.refl _ _ | refine bl_alloc ?_ _ | refine bl_drewN ?_ _ | refine bl_trans (by assumption) ?_))⟩
set_option maxHeartbeats 400000 in
theorem spec_CrossHeight (a b c : Int) (w : World) :
    Calls Tryd.prog 8 #[.agg #[.int .i64 a, .int .i64 b, .int .i64 c]] w fun e w' => e = .returned (.tuple #[.int .i64 (CH ln a b c), .int .i64 (CH ld a b c), .bool (okL a b c)]) ∧ Below w.heap.size w w' := by
  cases h : okL a b c
  · go_enter Tryd.func8, Tryd.ntmps8
    go_wp2_with (go_at_call 39; refine (spec_clGood _ _ _ _).mono ?_; rintro e w1 ⟨rfl, hb⟩; obtain ⟨hc, hf⟩ := bcell hb; have hz := bsize hb; rw [h])
    go_ret3
    exact ⟨by simp [CH, h], (by repeat (first | exact Below.refl _ _ | refine bl_alloc ?_ _ | refine bl_drewN ?_ _ | refine bl_trans (by assumption) ?_))⟩
  · obtain ⟨⟨a0, a1⟩, ⟨b0, b1⟩, c0, c1⟩ := okL_true h
    obtain ⟨f1, f2⟩ := mul_bd (a := b) (b := c) (by omega) (by omega) b1 c1
    go_enter Tryd.func8, Tryd.ntmps8
    go_wp2_with (first | (go_at_call 39; refine (spec_clGood _ _ _ _).mono ?_; rintro e w1 ⟨rfl, hb⟩; obtain ⟨hc, hf⟩ := bcell hb; have hz := bsize hb; rw [h]) | (go_at_call 40; refine (clLow_any _ _ (by omega) (by omega) (by omega) (by omega) _).mono ?_; rintro e w' ⟨rfl, nn, rfl⟩))
    go_ret3
    exact ⟨by simp [CH, h], (by repeat (first | exact Below.refl _ _ | refine bl_alloc ?_ _ | refine bl_drewN ?_ _ | refine bl_trans (by assumption) ?_))⟩
def CP (f : Int → Int → Int) (a b c : Int) : Int := if okL a b c then f (a * b) (b + c) else 0
set_option maxHeartbeats 400000 in
theorem impl_CrossPlace (a b c : Int) (w : World) :
    Calls Tryd.prog 9 #[.agg #[.int .i64 a, .int .i64 b, .int .i64 c]] w fun e w' => e = .returned (.tuple #[.int .i64 (CP ln a b c), .int .i64 (CP ld a b c), .bool (okL a b c)]) ∧ Below w.heap.size w w' := by
  cases h : okL a b c
  · go_enter Tryd.func9, Tryd.ntmps9
    go_wp2_with (go_at_call 21; refine (impl_AreLadders _ _ _ _).mono ?_; rintro e w1 ⟨rfl, hb⟩; obtain ⟨hc, hf⟩ := bcell hb; have hz := bsize hb; rw [h])
    go_ret3
    exact ⟨by simp [CP, h], (by repeat (first | exact Below.refl _ _ | refine bl_alloc ?_ _ | refine bl_drewN ?_ _ | refine bl_trans (by assumption) ?_))⟩
  · obtain ⟨⟨a0, a1⟩, ⟨b0, b1⟩, c0, c1⟩ := okL_true h
    obtain ⟨f1, f2⟩ := mul_bd (a := a) (b := b) (by omega) (by omega) a1 b1
    go_enter Tryd.func9, Tryd.ntmps9
    go_wp2_with (first | (go_at_call 21; refine (impl_AreLadders _ _ _ _).mono ?_; rintro e w1 ⟨rfl, hb⟩; obtain ⟨hc, hf⟩ := bcell hb; have hz := bsize hb; rw [h]) | (go_at_call 38; refine (toldFraction_any _ _ (by omega) (by omega) (by omega) (by omega) _).mono ?_; rintro e w' ⟨rfl, nn, rfl⟩))
    go_ret3
    exact ⟨by simp [CP, h], (by repeat (first | exact Below.refl _ _ | refine bl_alloc ?_ _ | refine bl_drewN ?_ _ | refine bl_trans (by assumption) ?_))⟩
set_option maxHeartbeats 400000 in
theorem spec_CrossPlace (a b c : Int) (w : World) :
    Calls Tryd.prog 10 #[.agg #[.int .i64 a, .int .i64 b, .int .i64 c]] w fun e w' => e = .returned (.tuple #[.int .i64 (CP ln a b c), .int .i64 (CP ld a b c), .bool (okL a b c)]) ∧ Below w.heap.size w w' := by
  cases h : okL a b c
  · go_enter Tryd.func10, Tryd.ntmps10
    go_wp2_with (go_at_call 39; refine (spec_clGood _ _ _ _).mono ?_; rintro e w1 ⟨rfl, hb⟩; obtain ⟨hc, hf⟩ := bcell hb; have hz := bsize hb; rw [h])
    go_ret3
    exact ⟨by simp [CP, h], (by repeat (first | exact Below.refl _ _ | refine bl_alloc ?_ _ | refine bl_drewN ?_ _ | refine bl_trans (by assumption) ?_))⟩
  · obtain ⟨⟨a0, a1⟩, ⟨b0, b1⟩, c0, c1⟩ := okL_true h
    obtain ⟨f1, f2⟩ := mul_bd (a := a) (b := b) (by omega) (by omega) a1 b1
    go_enter Tryd.func10, Tryd.ntmps10
    go_wp2_with (first | (go_at_call 39; refine (spec_clGood _ _ _ _).mono ?_; rintro e w1 ⟨rfl, hb⟩; obtain ⟨hc, hf⟩ := bcell hb; have hz := bsize hb; rw [h]) | (go_at_call 40; refine (clLow_any _ _ (by omega) (by omega) (by omega) (by omega) _).mono ?_; rintro e w' ⟨rfl, nn, rfl⟩))
    go_ret3
    exact ⟨by simp [CP, h], (by repeat (first | exact Below.refl _ _ | refine bl_alloc ?_ _ | refine bl_drewN ?_ _ | refine bl_trans (by assumption) ?_))⟩
def AB (f : Int → Int → Int) (a b c : Int) : Int := if okL a b c then f (a * b * c) (2 * (b + c)) else 0
set_option maxHeartbeats 400000 in
theorem impl_AreaBelow (a b c : Int) (w : World) :
    Calls Tryd.prog 11 #[.agg #[.int .i64 a, .int .i64 b, .int .i64 c]] w fun e w' => e = .returned (.tuple #[.int .i64 (AB ln a b c), .int .i64 (AB ld a b c), .bool (okL a b c)]) ∧ Below w.heap.size w w' := by
  cases h : okL a b c
  · go_enter Tryd.func11, Tryd.ntmps11
    go_wp2_with (go_at_call 21; refine (impl_AreLadders _ _ _ _).mono ?_; rintro e w1 ⟨rfl, hb⟩; obtain ⟨hc, hf⟩ := bcell hb; have hz := bsize hb; rw [h])
    go_ret3
    exact ⟨by simp [AB, h], (by repeat (first | exact Below.refl _ _ | refine bl_alloc ?_ _ | refine bl_drewN ?_ _ | refine bl_trans (by assumption) ?_))⟩
  · obtain ⟨⟨a0, a1⟩, ⟨b0, b1⟩, c0, c1⟩ := okL_true h
    obtain ⟨f1, f2⟩ := mul_bd (a := a) (b := b) (by omega) (by omega) a1 b1
    obtain ⟨f3, f4⟩ := mul_bd2 (b := c) f1 (by omega) f2 c1
    go_enter Tryd.func11, Tryd.ntmps11
    go_wp2_with (first | (go_at_call 21; refine (impl_AreLadders _ _ _ _).mono ?_; rintro e w1 ⟨rfl, hb⟩; obtain ⟨hc, hf⟩ := bcell hb; have hz := bsize hb; rw [h]) | (go_at_call 38; refine (toldFraction_any _ _ (by omega) (by omega) (by omega) (by omega) _).mono ?_; rintro e w' ⟨rfl, nn, rfl⟩))
    go_ret3
    exact ⟨by simp [AB, h], (by repeat (first | exact Below.refl _ _ | refine bl_alloc ?_ _ | refine bl_drewN ?_ _ | refine bl_trans (by assumption) ?_))⟩
set_option maxHeartbeats 400000 in
theorem spec_AreaBelow (a b c : Int) (w : World) :
    Calls Tryd.prog 12 #[.agg #[.int .i64 a, .int .i64 b, .int .i64 c]] w fun e w' => e = .returned (.tuple #[.int .i64 (AB ln a b c), .int .i64 (AB ld a b c), .bool (okL a b c)]) ∧ Below w.heap.size w w' := by
  cases h : okL a b c
  · go_enter Tryd.func12, Tryd.ntmps12
    go_wp2_with (go_at_call 39; refine (spec_clGood _ _ _ _).mono ?_; rintro e w1 ⟨rfl, hb⟩; obtain ⟨hc, hf⟩ := bcell hb; have hz := bsize hb; rw [h])
    go_ret3
    exact ⟨by simp [AB, h], (by repeat (first | exact Below.refl _ _ | refine bl_alloc ?_ _ | refine bl_drewN ?_ _ | refine bl_trans (by assumption) ?_))⟩
  · obtain ⟨⟨a0, a1⟩, ⟨b0, b1⟩, c0, c1⟩ := okL_true h
    obtain ⟨f1, f2⟩ := mul_bd (a := a) (b := b) (by omega) (by omega) a1 b1
    obtain ⟨f3, f4⟩ := mul_bd2 (b := c) f1 (by omega) f2 c1
    go_enter Tryd.func12, Tryd.ntmps12
    go_wp2_with (first | (go_at_call 39; refine (spec_clGood _ _ _ _).mono ?_; rintro e w1 ⟨rfl, hb⟩; obtain ⟨hc, hf⟩ := bcell hb; have hz := bsize hb; rw [h]) | (go_at_call 40; refine (clLow_any _ _ (by omega) (by omega) (by omega) (by omega) _).mono ?_; rintro e w' ⟨rfl, nn, rfl⟩))
    go_ret3
    exact ⟨by simp [AB, h], (by repeat (first | exact Below.refl _ _ | refine bl_alloc ?_ _ | refine bl_drewN ?_ _ | refine bl_trans (by assumption) ?_))⟩
def AW (f : Int → Int → Int) (a b c : Int) : Int := if okL a b c then f (a * ((b + c) * (b + c) - b * c)) (2 * (b + c)) else 0
set_option maxHeartbeats 400000 in
theorem impl_AreaBetween (a b c : Int) (w : World) :
    Calls Tryd.prog 13 #[.agg #[.int .i64 a, .int .i64 b, .int .i64 c]] w fun e w' => e = .returned (.tuple #[.int .i64 (AW ln a b c), .int .i64 (AW ld a b c), .bool (okL a b c)]) ∧ Below w.heap.size w w' := by
  cases h : okL a b c
  · go_enter Tryd.func13, Tryd.ntmps13
    go_wp2_with (go_at_call 21; refine (impl_AreLadders _ _ _ _).mono ?_; rintro e w1 ⟨rfl, hb⟩; obtain ⟨hc, hf⟩ := bcell hb; have hz := bsize hb; rw [h])
    go_ret3
    exact ⟨by simp [AW, h], (by repeat (first | exact Below.refl _ _ | refine bl_alloc ?_ _ | refine bl_drewN ?_ _ | refine bl_trans (by assumption) ?_))⟩
  · obtain ⟨⟨a0, a1⟩, ⟨b0, b1⟩, c0, c1⟩ := okL_true h
    obtain ⟨f1, f2⟩ := mul_bd (a := b) (b := c) (by omega) (by omega) b1 c1
    obtain ⟨f3, f4⟩ := mul_bd (a := b + c) (b := b + c) (m := 2000) (by omega) (by omega) (by omega) (by omega)
    have f5 := sum_sq (b := b) (c := c) (by omega) (by omega)
    obtain ⟨f6, f7⟩ := mul_bd2 (a := a) (b := (b + c) * (b + c) - b * c) (m := 1000) (k := 4000000) (by omega) (by omega) a1 (by omega)
    go_enter Tryd.func13, Tryd.ntmps13
    go_wp2_with (first | (go_at_call 21; refine (impl_AreLadders _ _ _ _).mono ?_; rintro e w1 ⟨rfl, hb⟩; obtain ⟨hc, hf⟩ := bcell hb; have hz := bsize hb; rw [h]) | (go_at_call 38; refine (toldFraction_any _ _ (by omega) (by omega) (by omega) (by omega) _).mono ?_; rintro e w' ⟨rfl, nn, rfl⟩))
    go_ret3
    exact ⟨by simp [AW, h], (by repeat (first | exact Below.refl _ _ | refine bl_alloc ?_ _ | refine bl_drewN ?_ _ | refine bl_trans (by assumption) ?_))⟩
set_option maxHeartbeats 400000 in
theorem spec_AreaBetween (a b c : Int) (w : World) :
    Calls Tryd.prog 14 #[.agg #[.int .i64 a, .int .i64 b, .int .i64 c]] w fun e w' => e = .returned (.tuple #[.int .i64 (AW ln a b c), .int .i64 (AW ld a b c), .bool (okL a b c)]) ∧ Below w.heap.size w w' := by
  cases h : okL a b c
  · go_enter Tryd.func14, Tryd.ntmps14
    go_wp2_with (go_at_call 39; refine (spec_clGood _ _ _ _).mono ?_; rintro e w1 ⟨rfl, hb⟩; obtain ⟨hc, hf⟩ := bcell hb; have hz := bsize hb; rw [h])
    go_ret3
    exact ⟨by simp [AW, h], (by repeat (first | exact Below.refl _ _ | refine bl_alloc ?_ _ | refine bl_drewN ?_ _ | refine bl_trans (by assumption) ?_))⟩
  · obtain ⟨⟨a0, a1⟩, ⟨b0, b1⟩, c0, c1⟩ := okL_true h
    obtain ⟨f1, f2⟩ := mul_bd (a := b) (b := c) (by omega) (by omega) b1 c1
    obtain ⟨f3, f4⟩ := mul_bd (a := b + c) (b := b + c) (m := 2000) (by omega) (by omega) (by omega) (by omega)
    have f5 := sum_sq (b := b) (c := c) (by omega) (by omega)
    obtain ⟨f6, f7⟩ := mul_bd2 (a := a) (b := (b + c) * (b + c) - b * c) (m := 1000) (k := 4000000) (by omega) (by omega) a1 (by omega)
    go_enter Tryd.func14, Tryd.ntmps14
    go_wp2_with (first | (go_at_call 39; refine (spec_clGood _ _ _ _).mono ?_; rintro e w1 ⟨rfl, hb⟩; obtain ⟨hc, hf⟩ := bcell hb; have hz := bsize hb; rw [h]) | (go_at_call 40; refine (clLow_any _ _ (by omega) (by omega) (by omega) (by omega) _).mono ?_; rintro e w' ⟨rfl, nn, rfl⟩))
    go_ret3
    exact ⟨by simp [AW, h], (by repeat (first | exact Below.refl _ _ | refine bl_alloc ?_ _ | refine bl_drewN ?_ _ | refine bl_trans (by assumption) ?_))⟩
end Go.Proofs.YtohlbnfncllhoaaDoor
