/- Contracts of the functions of chapter 5 that take numbers and spots: squares, touches, corners. -/
import Derived.Test.YtppgcaennhghoaaDoorC1
import Derived.Deep.RegionHeld3
namespace Go.Proofs.YtppgcaennhghoaaDoor
open Go.RowKit
set_option linter.unusedVariables false
set_option linter.unusedSimpArgs false
theorem ret_int {k : IntKind} {a b : Int} (h : a = b) : Ending.returned (.int k a) = .returned (.int k b) := by rw [h]
theorem cell_after {u v : World} (hb : Below u.heap.size u v) {n o : Nat} {x : Value} (hn : n < u.heap.size) (hu : u.cell? ⟨n, o, none⟩ = some x) : v.cell? ⟨n, o, none⟩ = some x := by
  rw [(bcell hb).1 _ _ hn]; exact hu
theorem size_after {u v : World} (hb : Below u.heap.size u v) {n : Nat} (hn : n < u.heap.size) : n < v.heap.size := Nat.lt_of_lt_of_le hn hb.size
theorem mul_bd {a b m : Int} (ha : 0 ≤ a) (hb : 0 ≤ b) (ha' : a ≤ m) (hb' : b ≤ m) : 0 ≤ a * b ∧ a * b ≤ m * m :=
  ⟨Int.mul_nonneg ha hb, Int.mul_le_mul ha' hb' hb (by omega)⟩
theorem mul_bd2 {a b m k : Int} (ha : 0 ≤ a) (hb : 0 ≤ b) (ha' : a ≤ m) (hb' : b ≤ k) : 0 ≤ a * b ∧ a * b ≤ m * k :=
  ⟨Int.mul_nonneg ha hb, Int.mul_le_mul ha' hb' hb (by omega)⟩
theorem mul_abs {a b m k : Int} (ha : -m ≤ a) (ha' : a ≤ m) (hb : -k ≤ b) (hb' : b ≤ k) : -(m * k) ≤ a * b ∧ a * b ≤ m * k := by
  have hm : 0 ≤ m := by omega
  have hk : 0 ≤ k := by omega
  rcases Int.le_total 0 a with h | h <;> rcases Int.le_total 0 b with g | g
  · have := mul_bd2 h g ha' hb'; have := Int.mul_nonneg hm hk; omega
  · have := mul_bd2 (b := -b) h (by omega) ha' (by omega : -b ≤ k); rw [Int.mul_neg] at this; omega
  · have := mul_bd2 (a := -a) (by omega) g (by omega : -a ≤ m) hb'; rw [Int.neg_mul] at this; omega
  · have := mul_bd2 (a := -a) (b := -b) (by omega) (by omega) (by omega : -a ≤ m) (by omega : -b ≤ k); rw [Int.neg_mul_neg] at this; omega
theorem sq_bd {a m : Int} (ha : -m ≤ a) (ha' : a ≤ m) : 0 ≤ a * a ∧ a * a ≤ m * m := by
  rcases Int.le_total 0 a with h | h
  · exact mul_bd h h ha' ha'
  · have := mul_bd (a := -a) (b := -a) (by omega) (by omega) (by omega : -a ≤ m) (by omega); rw [Int.neg_mul_neg] at this; exact this
theorem sq_neg (a b : Int) : sq (-a) b = sq a b := by unfold sq; rw [Int.neg_mul_neg]
theorem sq_neg2 (a b : Int) : sq a (-b) = sq a b := by unfold sq; rw [Int.neg_mul_neg]
/-- two boxes of two cells, made first in a call -/
def CL4 (w w' : World) (a b c d : Int) : Prop := w'.cell? ⟨w.heap.size, 0, none⟩ = some (.int .i64 a) ∧ w'.cell? ⟨w.heap.size, 1, none⟩ = some (.int .i64 b) ∧ w'.cell? ⟨w.heap.size + 1, 0, none⟩ = some (.int .i64 c) ∧ w'.cell? ⟨w.heap.size + 1, 1, none⟩ = some (.int .i64 d) ∧ w.heap.size + 1 < w'.heap.size ∧ Below w.heap.size w w'
theorem S4_after {w u v : World} {x y z t : Value} (hb : Below u.heap.size u v) (h : u.cell? ⟨w.heap.size, 0, none⟩ = some x ∧ u.cell? ⟨w.heap.size, 1, none⟩ = some y ∧ u.cell? ⟨w.heap.size + 1, 0, none⟩ = some z ∧ u.cell? ⟨w.heap.size + 1, 1, none⟩ = some t ∧ w.heap.size + 1 < u.heap.size ∧ Below w.heap.size w u) :
    v.cell? ⟨w.heap.size, 0, none⟩ = some x ∧ v.cell? ⟨w.heap.size, 1, none⟩ = some y ∧ v.cell? ⟨w.heap.size + 1, 0, none⟩ = some z ∧ v.cell? ⟨w.heap.size + 1, 1, none⟩ = some t ∧ w.heap.size + 1 < v.heap.size ∧ Below w.heap.size w v :=
  ⟨cell_after hb (by omega) h.1, cell_after hb (by omega) h.2.1, cell_after hb (by omega) h.2.2.1, cell_after hb (by omega) h.2.2.2.1, size_after hb h.2.2.2.2.1, bl_trans hb h.2.2.2.2.2⟩
def Z (ok : Bool) (n : Int) : Int := if ok then n else 0
def okSp (a b : Int) : Bool := within a (-1000) 1000 && within b 1 1000
theorem okSp_true {a b : Int} (h : okSp a b = true) : (-1000 ≤ a ∧ a ≤ 1000) ∧ 1 ≤ b ∧ b ≤ 1000 := by
  simp only [okSp, Bool.and_eq_true] at h
  exact ⟨within_true h.1, within_true h.2⟩
def okSp2 (a b c d : Int) : Bool := okSp a b && okSp c d
set_option maxHeartbeats 400000 in
theorem isWithinSpots_any (n : Int) (w : World) :
    Calls Tryd.prog 22 #[.int .i64 n] w fun e w' => e = .returned (.bool (within n (-1000) 1000)) ∧ w = w' := by
  go_enter Tryd.func22, Tryd.ntmps22
  go_wp2_with (go_at_call 23; refine (isWithin_any _ _ _ _).mono ?_; rintro e w' ⟨rfl, rfl⟩)
  go_ret
  exact ⟨rfl, rfl⟩
set_option maxHeartbeats 400000 in
theorem impl_IsSpot (a b : Int) (w : World) :
    Calls Tryd.prog 13 #[.agg #[.int .i64 a, .int .i64 b]] w fun e w' => e = .returned (.bool (okSp a b)) ∧ Below w.heap.size w w' := by
  cases h1 : within a (-1000) 1000
  · go_enter Tryd.func13, Tryd.ntmps13
    go_wp2_with fail
    refine (isWithinSpots_any _ _).mono ?_
    rintro e w' ⟨rfl, rfl⟩
    rw [h1]
    go_wp2
    go_ret
    exact ⟨by simp [okSp, h1], (by repeat (first | exact Below.refl _ _ | refine bl_alloc ?_ _ | refine bl_drewN ?_ _ | refine bl_trans (by assumption) ?_ | refine bl_set ?_ (by first | omega | (simp; done) | (simp; omega)) _))⟩
  · go_enter Tryd.func13, Tryd.ntmps13
    go_wp2_with fail
    refine (isWithinSpots_any _ _).mono ?_
    rintro e w' ⟨rfl, rfl⟩
    rw [h1]
    go_wp2_with fail
    refine (isWithin_any _ _ _ _).mono ?_
    rintro e w' ⟨rfl, rfl⟩
    go_wp2
    go_ret
    exact ⟨by simp [okSp, h1], (by repeat (first | exact Below.refl _ _ | refine bl_alloc ?_ _ | refine bl_drewN ?_ _ | refine bl_trans (by assumption) ?_ | refine bl_set ?_ (by first | omega | (simp; done) | (simp; omega)) _))⟩
set_option maxHeartbeats 400000 in
theorem spec_lwSpot (a b : Int) (w : World) :
    Calls Tryd.prog 11 #[.agg #[.int .i64 a, .int .i64 b]] w fun e w' => e = .returned (.bool (okSp a b)) ∧ Below w.heap.size w w' := by
  cases h1 : within a (-1000) 1000
  · go_enter Tryd.func11, Tryd.ntmps11
    go_wp2_with fail
    refine (l1In_any _ _ _ _).mono ?_
    rintro e w' ⟨rfl, rfl⟩
    rw [h1]
    go_wp2
    go_ret
    exact ⟨by simp [okSp, h1], (by repeat (first | exact Below.refl _ _ | refine bl_alloc ?_ _ | refine bl_drewN ?_ _ | refine bl_trans (by assumption) ?_ | refine bl_set ?_ (by first | omega | (simp; done) | (simp; omega)) _))⟩
  · go_enter Tryd.func11, Tryd.ntmps11
    go_wp2_with fail
    refine (l1In_any _ _ _ _).mono ?_
    rintro e w' ⟨rfl, rfl⟩
    rw [h1]
    go_wp2_with fail
    refine (l1In_any _ _ _ _).mono ?_
    rintro e w' ⟨rfl, rfl⟩
    go_wp2
    go_ret
    exact ⟨by simp [okSp, h1], (by repeat (first | exact Below.refl _ _ | refine bl_alloc ?_ _ | refine bl_drewN ?_ _ | refine bl_trans (by assumption) ?_ | refine bl_set ?_ (by first | omega | (simp; done) | (simp; omega)) _))⟩
set_option maxHeartbeats 400000 in
theorem toSpot_any (a b : Int) (w : World) :
    Calls Tryd.prog 6 #[.agg #[.int .i64 a, .int .i64 b]] w fun e w' => e = .returned (.agg #[.int .i64 a, .int .i64 b]) ∧ Below w.heap.size w w' := by
  go_enter Tryd.func6, Tryd.ntmps6
  go_wp2
  exact bodyPost_ret (v := .agg #[.int .i64 a, .int .i64 b]) (by simp [results, Tryd.results6, go_sem]) rfl ⟨rfl, (by repeat (first | exact Below.refl _ _ | refine bl_alloc ?_ _ | refine bl_drewN ?_ _ | refine bl_trans (by assumption) ?_ | refine bl_set ?_ (by first | omega | (simp; done) | (simp; omega)) _))⟩
set_option maxHeartbeats 400000 in
theorem eqSpot_any (a b : Int) (w : World) :
    Calls Tryd.prog 10 #[.agg #[.int .i64 a, .int .i64 b], .agg #[.int .i64 a, .int .i64 b]] w fun e w' => e = .returned (.bool (true)) ∧ Below w.heap.size w w' := by
  go_enter Tryd.func10, Tryd.ntmps10
  go_wp2
  go_ret
  exact ⟨rfl, (by repeat (first | exact Below.refl _ _ | refine bl_alloc ?_ _ | refine bl_drewN ?_ _ | refine bl_trans (by assumption) ?_ | refine bl_set ?_ (by first | omega | (simp; done) | (simp; omega)) _))⟩
def okCs (a b : Int) : Bool := okSp a b && decide (1 ≤ a)
theorem okCs_true {a b : Int} (h : okCs a b = true) : (1 ≤ a ∧ a ≤ 1000) ∧ 1 ≤ b ∧ b ≤ 1000 := by
  simp only [okCs, Bool.and_eq_true, decide_eq_true_eq] at h
  have := okSp_true h.1
  omega
def okCs2 (a b c d : Int) : Bool := okCs a b && okCs c d
end Go.Proofs.YtppgcaennhghoaaDoor
