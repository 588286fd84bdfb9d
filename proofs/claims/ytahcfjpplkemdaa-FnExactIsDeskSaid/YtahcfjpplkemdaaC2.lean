/- Contracts of the functions of chapter 1 that take ladders: fractions. -/
import Derived.Test.YtahcfjpplkemdaaC1
namespace Go.Proofs.Ytahcfjpplkemdaa
open Go.RowKit

theorem mul_bd {a b m : Int} (ha : 0 ≤ a) (hb : 0 ≤ b) (ha' : a ≤ m) (hb' : b ≤ m) : 0 ≤ a * b ∧ a * b ≤ m * m :=
  ⟨Int.mul_nonneg ha hb, Int.mul_le_mul ha' hb' hb (by omega)⟩
theorem mul_bd2 {a b m k : Int} (ha : 0 ≤ a) (hb : 0 ≤ b) (ha' : a ≤ m) (hb' : b ≤ k) : 0 ≤ a * b ∧ a * b ≤ m * k :=
  ⟨Int.mul_nonneg ha hb, Int.mul_le_mul ha' hb' hb (by omega)⟩
theorem sum_sq {b c : Int} (hb : 0 ≤ b) (hc : 0 ≤ c) : b * c ≤ (b + c) * (b + c) :=
  Int.mul_le_mul (by omega) (by omega) hc (by omega)
def CH (f : Int → Int → Int) (a b c : Int) : Int := if okL a b c then f (b * c) (b + c) else 0
set_option maxHeartbeats 400000 in
theorem impl_CrossHeight (a b c : Int) (w : World) :
    Calls Try.prog 77 #[.agg #[.int .i64 a, .int .i64 b, .int .i64 c]] w fun e w' => e = .returned (.tuple #[.int .i64 (CH ln a b c), .int .i64 (CH ld a b c), .bool (okL a b c)]) ∧ Below w.heap.size w w' := by
  cases h : okL a b c
  · go_enter Try.func77, Try.ntmps77
    go_wp2_with (go_at_call 38; refine (impl_AreLadders _ _ _ _).mono ?_; rintro e w1 ⟨rfl, hb⟩; obtain ⟨hc, hf⟩ := bcell hb; have hz := bsize hb; rw [h])
    go_ret3
    exact ⟨by simp [CH, h], (by repeat (first | exact Below.refl _ _ | refine bl_alloc ?_ _ | refine bl_drewN ?_ _ | refine bl_trans (by assumption) ?_))⟩
  · obtain ⟨⟨a0, a1⟩, ⟨b0, b1⟩, c0, c1⟩ := okL_true h
    obtain ⟨f1, f2⟩ := mul_bd (a := b) (b := c) (by omega) (by omega) b1 c1
    go_enter Try.func77, Try.ntmps77
    go_wp2_with (first | (go_at_call 38; refine (impl_AreLadders _ _ _ _).mono ?_; rintro e w1 ⟨rfl, hb⟩; obtain ⟨hc, hf⟩ := bcell hb; have hz := bsize hb; rw [h]) | (go_at_call 91; refine (toldFraction_any _ _ (by omega) (by omega) (by omega) (by omega) _).mono ?_; rintro e w' ⟨rfl, nn, rfl⟩))
    go_ret3
    exact ⟨by simp [CH, h], (by repeat (first | exact Below.refl _ _ | refine bl_alloc ?_ _ | refine bl_drewN ?_ _ | refine bl_trans (by assumption) ?_))⟩
def CP (f : Int → Int → Int) (a b c : Int) : Int := if okL a b c then f (a * b) (b + c) else 0
set_option maxHeartbeats 400000 in
theorem impl_CrossPlace (a b c : Int) (w : World) :
    Calls Try.prog 80 #[.agg #[.int .i64 a, .int .i64 b, .int .i64 c]] w fun e w' => e = .returned (.tuple #[.int .i64 (CP ln a b c), .int .i64 (CP ld a b c), .bool (okL a b c)]) ∧ Below w.heap.size w w' := by
  cases h : okL a b c
  · go_enter Try.func80, Try.ntmps80
    go_wp2_with (go_at_call 38; refine (impl_AreLadders _ _ _ _).mono ?_; rintro e w1 ⟨rfl, hb⟩; obtain ⟨hc, hf⟩ := bcell hb; have hz := bsize hb; rw [h])
    go_ret3
    exact ⟨by simp [CP, h], (by repeat (first | exact Below.refl _ _ | refine bl_alloc ?_ _ | refine bl_drewN ?_ _ | refine bl_trans (by assumption) ?_))⟩
  · obtain ⟨⟨a0, a1⟩, ⟨b0, b1⟩, c0, c1⟩ := okL_true h
    obtain ⟨f1, f2⟩ := mul_bd (a := a) (b := b) (by omega) (by omega) a1 b1
    go_enter Try.func80, Try.ntmps80
    go_wp2_with (first | (go_at_call 38; refine (impl_AreLadders _ _ _ _).mono ?_; rintro e w1 ⟨rfl, hb⟩; obtain ⟨hc, hf⟩ := bcell hb; have hz := bsize hb; rw [h]) | (go_at_call 91; refine (toldFraction_any _ _ (by omega) (by omega) (by omega) (by omega) _).mono ?_; rintro e w' ⟨rfl, nn, rfl⟩))
    go_ret3
    exact ⟨by simp [CP, h], (by repeat (first | exact Below.refl _ _ | refine bl_alloc ?_ _ | refine bl_drewN ?_ _ | refine bl_trans (by assumption) ?_))⟩
def AB (f : Int → Int → Int) (a b c : Int) : Int := if okL a b c then f (a * b * c) (2 * (b + c)) else 0
def AW (f : Int → Int → Int) (a b c : Int) : Int := if okL a b c then f (a * ((b + c) * (b + c) - b * c)) (2 * (b + c)) else 0
set_option maxHeartbeats 400000 in
theorem toLadders_any (a b c : Int) (w : World) :
    Calls Try.prog 25 #[.agg #[.int .i64 a, .int .i64 b, .int .i64 c]] w fun e w' => e = .returned (.agg #[.int .i64 a, .int .i64 b, .int .i64 c]) ∧ Below w.heap.size w w' := by
  go_enter Try.func25, Try.ntmps25
  go_wp2
  exact bodyPost_ret (v := .agg #[.int .i64 a, .int .i64 b, .int .i64 c]) (by simp [results, Try.results25, go_sem]) rfl ⟨rfl, (by repeat (first | exact Below.refl _ _ | refine bl_alloc ?_ _ | refine bl_drewN ?_ _ | refine bl_trans (by assumption) ?_))⟩
end Go.Proofs.Ytahcfjpplkemdaa
