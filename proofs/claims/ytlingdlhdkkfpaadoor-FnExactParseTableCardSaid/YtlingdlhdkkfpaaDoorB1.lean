/- Contracts of the functions of chapter 3 that take tables and single beams. -/
import Derived.Test.YtlingdlhdkkfpaaDoorC1
import Derived.Deep.RegionHeld3
namespace Go.Proofs.YtlingdlhdkkfpaaDoor
open Go.RowKit
set_option linter.unusedVariables false
set_option linter.unusedSimpArgs false
theorem ret_int {k : IntKind} {a b : Int} (h : a = b) : Ending.returned (.int k a) = .returned (.int k b) := by rw [h]
theorem cell_after {u v : World} (hb : Below u.heap.size u v) {n o : Nat} {x : Value} (hn : n < u.heap.size) (hu : u.cell? ⟨n, o, none⟩ = some x) : v.cell? ⟨n, o, none⟩ = some x := by
  rw [(bcell hb).1 _ _ hn]; exact hu
theorem size_after {u v : World} (hb : Below u.heap.size u v) {n : Nat} (hn : n < u.heap.size) : n < v.heap.size := Nat.lt_of_lt_of_le hn hb.size
/-- two boxes, of two and of four cells, made first in a call -/
def CL6 (w w' : World) (a b x y : Int) (r u : Bool) : Prop := w'.cell? ⟨w.heap.size, 0, none⟩ = some (.int .i64 a) ∧ w'.cell? ⟨w.heap.size, 1, none⟩ = some (.int .i64 b) ∧ w'.cell? ⟨w.heap.size + 1, 0, none⟩ = some (.int .i64 x) ∧ w'.cell? ⟨w.heap.size + 1, 1, none⟩ = some (.int .i64 y) ∧ w'.cell? ⟨w.heap.size + 1, 2, none⟩ = some (.bool r) ∧ w'.cell? ⟨w.heap.size + 1, 3, none⟩ = some (.bool u) ∧ w.heap.size + 1 < w'.heap.size ∧ Below w.heap.size w w'
theorem S6_after {w u v : World} {a b x y c d : Value} (hb : Below u.heap.size u v) (h : u.cell? ⟨w.heap.size, 0, none⟩ = some a ∧ u.cell? ⟨w.heap.size, 1, none⟩ = some b ∧ u.cell? ⟨w.heap.size + 1, 0, none⟩ = some x ∧ u.cell? ⟨w.heap.size + 1, 1, none⟩ = some y ∧ u.cell? ⟨w.heap.size + 1, 2, none⟩ = some c ∧ u.cell? ⟨w.heap.size + 1, 3, none⟩ = some d ∧ w.heap.size + 1 < u.heap.size ∧ Below w.heap.size w u) :
    v.cell? ⟨w.heap.size, 0, none⟩ = some a ∧ v.cell? ⟨w.heap.size, 1, none⟩ = some b ∧ v.cell? ⟨w.heap.size + 1, 0, none⟩ = some x ∧ v.cell? ⟨w.heap.size + 1, 1, none⟩ = some y ∧ v.cell? ⟨w.heap.size + 1, 2, none⟩ = some c ∧ v.cell? ⟨w.heap.size + 1, 3, none⟩ = some d ∧ w.heap.size + 1 < v.heap.size ∧ Below w.heap.size w v :=
  ⟨cell_after hb (by omega) h.1, cell_after hb (by omega) h.2.1, cell_after hb (by omega) h.2.2.1, cell_after hb (by omega) h.2.2.2.1, cell_after hb (by omega) h.2.2.2.2.1, cell_after hb (by omega) h.2.2.2.2.2.1, size_after hb h.2.2.2.2.2.2.1, bl_trans hb h.2.2.2.2.2.2.2⟩
def okT (a b : Int) : Bool := within a 1 60 && within b 1 60
theorem okT_true {a b : Int} (h : okT a b = true) : (1 ≤ a ∧ a ≤ 60) ∧ 1 ≤ b ∧ b ≤ 60 := by
  simp only [okT, Bool.and_eq_true] at h
  exact ⟨within_true h.1, within_true h.2⟩
def okB (a b x y : Int) : Bool := okT a b && (within x 0 a && within y 0 b)
theorem okB_true {a b x y : Int} (h : okB a b x y = true) : ((1 ≤ a ∧ a ≤ 60) ∧ 1 ≤ b ∧ b ≤ 60) ∧ (0 ≤ x ∧ x ≤ a) ∧ 0 ≤ y ∧ y ≤ b := by
  simp only [okB, Bool.and_eq_true] at h
  exact ⟨okT_true h.1, within_true h.2.1, within_true h.2.2⟩
def Z (ok : Bool) (n : Int) : Int := if ok then n else 0
set_option maxHeartbeats 400000 in
theorem impl_IsTable (a b : Int) (w : World) :
    Calls Tryd.prog 26 #[.agg #[.int .i64 a, .int .i64 b]] w fun e w' => e = .returned (.bool (okT a b)) ∧ Below w.heap.size w w' := by
  cases h1 : within a 1 60 <;> cases h2 : within b 1 60
  all_goals
    go_enter Tryd.func26, Tryd.ntmps26
    go_wp2_with (go_at_call 36; refine (isWithin_any _ _ _ _).mono ?_; rintro e w' ⟨rfl, rfl⟩)
    go_ret
    exact ⟨by simp [okT, h1, h2], (by repeat (first | exact Below.refl _ _ | refine bl_alloc ?_ _ | refine bl_drewN ?_ _ | refine bl_trans (by assumption) ?_ | refine bl_set ?_ (by first | omega | (simp; done) | (simp; omega)) _))⟩
set_option maxHeartbeats 400000 in
theorem spec_beTable (a b : Int) (w : World) :
    Calls Tryd.prog 38 #[.agg #[.int .i64 a, .int .i64 b]] w fun e w' => e = .returned (.bool (okT a b)) ∧ Below w.heap.size w w' := by
  cases h1 : within a 1 60 <;> cases h2 : within b 1 60
  all_goals
    go_enter Tryd.func38, Tryd.ntmps38
    go_wp2_with (go_at_call 40; refine (l1In_any _ _ _ _).mono ?_; rintro e w' ⟨rfl, rfl⟩)
    go_ret
    exact ⟨by simp [okT, h1, h2], (by repeat (first | exact Below.refl _ _ | refine bl_alloc ?_ _ | refine bl_drewN ?_ _ | refine bl_trans (by assumption) ?_ | refine bl_set ?_ (by first | omega | (simp; done) | (simp; omega)) _))⟩
set_option maxHeartbeats 400000 in
theorem eqTable_any (a b : Int) (w : World) :
    Calls Tryd.prog 16 #[.agg #[.int .i64 a, .int .i64 b], .agg #[.int .i64 a, .int .i64 b]] w fun e w' => e = .returned (.bool (true)) ∧ Below w.heap.size w w' := by
  go_enter Tryd.func16, Tryd.ntmps16
  go_wp2
  go_ret
  exact ⟨rfl, (by repeat (first | exact Below.refl _ _ | refine bl_alloc ?_ _ | refine bl_drewN ?_ _ | refine bl_trans (by assumption) ?_ | refine bl_set ?_ (by first | omega | (simp; done) | (simp; omega)) _))⟩
def okBS (m a b x y s : Int) : Bool := okB a b x y && within s 0 m
def un (ok : Bool) (x s : Int) (r : Bool) : Int := if ok then (if r then x + s else x - s) else 0
def mb (a b : Int) : Int := if okT a b then ln a b - 1 else 0
theorem ln_low (x y : Nat) (hx : 1 ≤ x) (hy : 1 ≤ y) : 1 ≤ x / Nat.gcd x y ∧ x / Nat.gcd x y ≤ x ∧ 1 ≤ y / Nat.gcd x y ∧ y / Nat.gcd x y ≤ y := by
  have g : 1 ≤ Nat.gcd x y := Nat.gcd_pos_of_pos_left _ hx
  exact ⟨Nat.div_pos (Nat.gcd_le_left _ hx) g, Nat.div_le_self _ _, Nat.div_pos (Nat.gcd_le_right _ hy) g, Nat.div_le_self _ _⟩
end Go.Proofs.YtlingdlhdkkfpaaDoor
