/- Contracts of the functions of chapter 3 that take tables and single beams. -/
import Derived.Test.YtnhjiipkekblfaaC1
import Derived.Deep.RegionHeld3
namespace Go.Proofs.Ytnhjiipkekblfaa
open Go.RowKit
set_option linter.unusedVariables false
set_option linter.unusedSimpArgs false
theorem ret_int {k : IntKind} {a b : Int} (h : a = b) : Ending.returned (.int k a) = .returned (.int k b) := by rw [h]
theorem cell_after {u v : World} (hb : Below u.heap.size u v) {n o : Nat} {x : Value} (hn : n < u.heap.size) (hu : u.cell? ⟨n, o, none⟩ = some x) : v.cell? ⟨n, o, none⟩ = some x := by
  rw [(bcell hb).1 _ _ hn]; exact hu
theorem size_after {u v : World} (hb : Below u.heap.size u v) {n : Nat} (hn : n < u.heap.size) : n < v.heap.size := Nat.lt_of_lt_of_le hn hb.size
/-- two boxes, of two and of four cells, made first in a call -/
def CL6 (w w' : World) (a b x y : Int) (r u : Bool) : Prop := w'.cell? ⟨w.heap.size, 0, none⟩ = some (.int .i64 a) ∧ w'.cell? ⟨w.heap.size, 1, none⟩ = some (.int .i64 b) ∧ w'.cell? ⟨w.heap.size + 1, 0, none⟩ = some (.int .i64 x) ∧ w'.cell? ⟨w.heap.size + 1, 1, none⟩ = some (.int .i64 y) ∧ w'.cell? ⟨w.heap.size + 1, 2, none⟩ = some (.bool r) ∧ w'.cell? ⟨w.heap.size + 1, 3, none⟩ = some (.bool u) ∧ w.heap.size + 1 < w'.heap.size ∧ Below w.heap.size w w'
theorem S6_after {w u v : World} {a b x y c d : Value} (hb : Below u.heap.size u v) (h : u.cell? ⟨w.heap.size, 0, none⟩ = some a ∧ u.cell? ⟨w.heap.size, 1, none⟩ = some b ∧ u.cell? ⟨w.heap.size + 1, 0, none⟩ = some x ∧ u.cell? ⟨w.heap.size + 1, 1, none⟩ = some y ∧ u.cell? ⟨w.heap.size + 1, 2, none⟩ = some c ∧ u.cell? ⟨w.heap.size + 1, 3, none⟩ = some d ∧ w.heap.size + 1 < u.heap.size ∧ Below w.heap.size w u) :
    v.cell? ⟨w.heap.size, 0, none⟩ = some a ∧ v.cell? ⟨w.heap.size, 1, none⟩ = some b ∧ v.cell? ⟨w.heap.size + 1, 0, none⟩ = some x ∧ v.cell? ⟨w.heap.size + 1, 1, none⟩ = some y ∧ v.cell? ⟨w.heap.size + 1, 2, none⟩ = some c ∧ v.cell? ⟨w.heap.size + 1, 3, none⟩ = some d ∧ w.heap.size + 1 < v.heap.size ∧ Below w.heap.size w v :=
  ⟨cell_after hb (by omega) h.1, cell_after hb (by omega) h.2.1, cell_after hb (by omega) h.2.2.1, cell_after hb (by omega) h.2.2.2.1, cell_after hb (by omega) h.2.2.2.2.1, cell_after hb (by omega) h.2.2.2.2.2.1, size_after hb h.2.2.2.2.2.2.1, bl_trans hb h.2.2.2.2.2.2.2⟩
def okT (a b : Int) : Bool := within a 1 60 && within b 1 60
theorem okT_true {a b : Int} (h : okT a b = true) : (1 ≤ a ∧ a ≤ 60) ∧ 1 ≤ b ∧ b ≤ 60 := by
  simp only [okT, Bool.and_eq_true] at h
  exact ⟨within_true h.1, within_true h.2⟩
def okB (a b x y : Int) : Bool := okT a b && (within x 0 a && within y 0 b)
theorem okB_true {a b x y : Int} (h : okB a b x y = true) : ((1 ≤ a ∧ a ≤ 60) ∧ 1 ≤ b ∧ b ≤ 60) ∧ (0 ≤ x ∧ x ≤ a) ∧ 0 ≤ y ∧ y ≤ b := by
  simp only [okB, Bool.and_eq_true] at h
  exact ⟨okT_true h.1, within_true h.2.1, within_true h.2.2⟩
def Z (ok : Bool) (n : Int) : Int := if ok then n else 0
set_option maxHeartbeats 400000 in
theorem impl_IsTable (a b : Int) (w : World) :
    Calls Try.prog 23 #[.agg #[.int .i64 a, .int .i64 b]] w fun e w' => e = .returned (.bool (okT a b)) ∧ Below w.heap.size w w' := by
  cases h1 : within a 1 60 <;> cases h2 : within b 1 60
  all_goals
    go_enter Try.func23, Try.ntmps23
    go_wp2_with (go_at_call 67; refine (isWithin_any _ _ _ _).mono ?_; rintro e w' ⟨rfl, rfl⟩)
    go_ret
    exact ⟨by simp [okT, h1, h2], (by repeat (first | exact Below.refl _ _ | refine bl_alloc ?_ _ | refine bl_drewN ?_ _ | refine bl_trans (by assumption) ?_ | refine bl_set ?_ (by first | omega | (simp; done) | (simp; omega)) _))⟩
set_option maxHeartbeats 400000 in
theorem spec_beTable (a b : Int) (w : World) :
    Calls Try.prog 66 #[.agg #[.int .i64 a, .int .i64 b]] w fun e w' => e = .returned (.bool (okT a b)) ∧ Below w.heap.size w w' := by
  cases h1 : within a 1 60 <;> cases h2 : within b 1 60
  all_goals
    go_enter Try.func66, Try.ntmps66
    go_wp2_with (go_at_call 93; refine (l1In_any _ _ _ _).mono ?_; rintro e w' ⟨rfl, rfl⟩)
    go_ret
    exact ⟨by simp [okT, h1, h2], (by repeat (first | exact Below.refl _ _ | refine bl_alloc ?_ _ | refine bl_drewN ?_ _ | refine bl_trans (by assumption) ?_ | refine bl_set ?_ (by first | omega | (simp; done) | (simp; omega)) _))⟩
set_option maxHeartbeats 400000 in
theorem spec_IsTable (a b : Int) (w : World) :
    Calls Try.prog 21 #[.agg #[.int .i64 a, .int .i64 b]] w fun e w' => e = .returned (.bool (okT a b)) ∧ Below w.heap.size w w' := by
  go_enter Try.func21, Try.ntmps21
  go_wp2_with (go_at_call 66; refine (spec_beTable _ _ _).mono ?_; rintro e w1 ⟨rfl, hb⟩; obtain ⟨hc, hf⟩ := bcell hb; have hz := bsize hb; (try simp only [World.size_alloc] at hz); (try have hz0 : w.heap.size < w1.heap.size := by omega))
  go_ret
  exact ⟨rfl, (by repeat (first | exact Below.refl _ _ | refine bl_alloc ?_ _ | refine bl_drewN ?_ _ | refine bl_trans (by assumption) ?_ | refine bl_set ?_ (by first | omega | (simp; done) | (simp; omega)) _))⟩
set_option maxHeartbeats 400000 in
theorem impl_isOnTable (a b x y : Int) (w : World) :
    Calls Try.prog 69 #[.agg #[.int .i64 a, .int .i64 b], .int .i64 x, .int .i64 y] w fun e w' => e = .returned (.bool (okB a b x y)) ∧ Below w.heap.size w w' := by
  cases h : okT a b <;> cases h1 : within x 0 a <;> cases h2 : within y 0 b
  all_goals
    go_enter Try.func69, Try.ntmps69
    go_wp2_with (first | (go_at_call 23; refine (impl_IsTable _ _ _).mono ?_; rintro e w1 ⟨rfl, hb⟩; obtain ⟨hc, hf⟩ := bcell hb; have hz := bsize hb; (try simp only [World.size_alloc] at hz); (try have hz0 : w.heap.size < w1.heap.size := by omega); rw [h]) | (go_at_call 67; refine (isWithin_any _ _ _ _).mono ?_; rintro e w' ⟨rfl, rfl⟩))
    go_ret
    exact ⟨by simp [okB, h, h1, h2], (by repeat (first | exact Below.refl _ _ | refine bl_alloc ?_ _ | refine bl_drewN ?_ _ | refine bl_trans (by assumption) ?_ | refine bl_set ?_ (by first | omega | (simp; done) | (simp; omega)) _))⟩
set_option maxHeartbeats 400000 in
theorem spec_beGood (a b x y : Int) (r u : Bool) (w : World) :
    Calls Try.prog 68 #[.agg #[.int .i64 a, .int .i64 b], .agg #[.int .i64 x, .int .i64 y, .bool r, .bool u]] w fun e w' => e = .returned (.bool (okB a b x y)) ∧ Below w.heap.size w w' := by
  cases h : okT a b <;> cases h1 : within x 0 a <;> cases h2 : within y 0 b
  all_goals
    go_enter Try.func68, Try.ntmps68
    go_wp2_with (first | (go_at_call 66; refine (spec_beTable _ _ _).mono ?_; rintro e w1 ⟨rfl, hb⟩; obtain ⟨hc, hf⟩ := bcell hb; have hz := bsize hb; (try simp only [World.size_alloc] at hz); (try have hz0 : w.heap.size < w1.heap.size := by omega); (try have hz1 : w.heap.size + 1 < w1.heap.size := by omega); rw [h]) | (go_at_call 93; refine (l1In_any _ _ _ _).mono ?_; rintro e w' ⟨rfl, rfl⟩))
    go_ret
    exact ⟨by simp [okB, h, h1, h2], (by repeat (first | exact Below.refl _ _ | refine bl_alloc ?_ _ | refine bl_drewN ?_ _ | refine bl_trans (by assumption) ?_ | refine bl_set ?_ (by first | omega | (simp; done) | (simp; omega)) _))⟩
set_option maxHeartbeats 400000 in
theorem impl_IsBeam (a b x y : Int) (r u : Bool) (w : World) :
    Calls Try.prog 26 #[.agg #[.int .i64 a, .int .i64 b], .agg #[.int .i64 x, .int .i64 y, .bool r, .bool u]] w fun e w' => e = .returned (.bool (okB a b x y)) ∧ Below w.heap.size w w' := by
  go_enter Try.func26, Try.ntmps26
  go_wp2_with (go_at_call 69; refine (impl_isOnTable _ _ _ _ _).mono ?_; rintro e w1 ⟨rfl, hb⟩; obtain ⟨hc, hf⟩ := bcell hb; have hz := bsize hb; (try simp only [World.size_alloc] at hz); (try have hz0 : w.heap.size < w1.heap.size := by omega); (try have hz1 : w.heap.size + 1 < w1.heap.size := by omega))
  go_ret
  exact ⟨rfl, (by repeat (first | exact Below.refl _ _ | refine bl_alloc ?_ _ | refine bl_drewN ?_ _ | refine bl_trans (by assumption) ?_ | refine bl_set ?_ (by first | omega | (simp; done) | (simp; omega)) _))⟩
set_option maxHeartbeats 400000 in
theorem spec_IsBeam (a b x y : Int) (r u : Bool) (w : World) :
    Calls Try.prog 24 #[.agg #[.int .i64 a, .int .i64 b], .agg #[.int .i64 x, .int .i64 y, .bool r, .bool u]] w fun e w' => e = .returned (.bool (okB a b x y)) ∧ Below w.heap.size w w' := by
  go_enter Try.func24, Try.ntmps24
  go_wp2_with (go_at_call 68; refine (spec_beGood _ _ _ _ _ _ _).mono ?_; rintro e w1 ⟨rfl, hb⟩; obtain ⟨hc, hf⟩ := bcell hb; have hz := bsize hb; (try simp only [World.size_alloc] at hz); (try have hz0 : w.heap.size < w1.heap.size := by omega); (try have hz1 : w.heap.size + 1 < w1.heap.size := by omega))
  go_ret
  exact ⟨rfl, (by repeat (first | exact Below.refl _ _ | refine bl_alloc ?_ _ | refine bl_drewN ?_ _ | refine bl_trans (by assumption) ?_ | refine bl_set ?_ (by first | omega | (simp; done) | (simp; omega)) _))⟩
set_option maxHeartbeats 400000 in
theorem toTable_any (a b : Int) (w : World) :
    Calls Try.prog 22 #[.agg #[.int .i64 a, .int .i64 b]] w fun e w' => e = .returned (.agg #[.int .i64 a, .int .i64 b]) ∧ Below w.heap.size w w' := by
  go_enter Try.func22, Try.ntmps22
  go_wp2
  exact bodyPost_ret (v := .agg #[.int .i64 a, .int .i64 b]) (by simp [results, Try.results22, go_sem]) rfl ⟨rfl, (by repeat (first | exact Below.refl _ _ | refine bl_alloc ?_ _ | refine bl_drewN ?_ _ | refine bl_trans (by assumption) ?_ | refine bl_set ?_ (by first | omega | (simp; done) | (simp; omega)) _))⟩
set_option maxHeartbeats 400000 in
theorem toBeam_any (x y : Int) (r u : Bool) (w : World) :
    Calls Try.prog 25 #[.agg #[.int .i64 x, .int .i64 y, .bool r, .bool u]] w fun e w' => e = .returned (.agg #[.int .i64 x, .int .i64 y, .bool r, .bool u]) ∧ Below w.heap.size w w' := by
  go_enter Try.func25, Try.ntmps25
  go_wp2
  exact bodyPost_ret (v := .agg #[.int .i64 x, .int .i64 y, .bool r, .bool u]) (by simp [results, Try.results25, go_sem]) rfl ⟨rfl, (by repeat (first | exact Below.refl _ _ | refine bl_alloc ?_ _ | refine bl_drewN ?_ _ | refine bl_trans (by assumption) ?_ | refine bl_set ?_ (by first | omega | (simp; done) | (simp; omega)) _))⟩
set_option maxHeartbeats 400000 in
theorem eqBeam_any (x y : Int) (r u : Bool) (w : World) :
    Calls Try.prog 29 #[.agg #[.int .i64 x, .int .i64 y, .bool r, .bool u], .agg #[.int .i64 x, .int .i64 y, .bool r, .bool u]] w fun e w' => e = .returned (.bool (true)) ∧ Below w.heap.size w w' := by
  go_enter Try.func29, Try.ntmps29
  go_wp2
  go_ret
  exact ⟨rfl, (by repeat (first | exact Below.refl _ _ | refine bl_alloc ?_ _ | refine bl_drewN ?_ _ | refine bl_trans (by assumption) ?_ | refine bl_set ?_ (by first | omega | (simp; done) | (simp; omega)) _))⟩
set_option maxHeartbeats 400000 in
theorem eqTable_any (a b : Int) (w : World) :
    Calls Try.prog 95 #[.agg #[.int .i64 a, .int .i64 b], .agg #[.int .i64 a, .int .i64 b]] w fun e w' => e = .returned (.bool (true)) ∧ Below w.heap.size w w' := by
  go_enter Try.func95, Try.ntmps95
  go_wp2
  go_ret
  exact ⟨rfl, (by repeat (first | exact Below.refl _ _ | refine bl_alloc ?_ _ | refine bl_drewN ?_ _ | refine bl_trans (by assumption) ?_ | refine bl_set ?_ (by first | omega | (simp; done) | (simp; omega)) _))⟩
set_option maxHeartbeats 400000 in
theorem impl_BackBeam (a b x y : Int) (r u : Bool) (w : World) :
    Calls Try.prog 63 #[.agg #[.int .i64 a, .int .i64 b], .agg #[.int .i64 x, .int .i64 y, .bool r, .bool u]] w fun e w' => e = .returned (.tuple #[.agg #[.int .i64 (Z (okB a b x y) x), .int .i64 (Z (okB a b x y) y), .bool (okB a b x y && !r), .bool (okB a b x y && !u)], .bool (okB a b x y)]) ∧ Below w.heap.size w w' := by
  cases h : okB a b x y
  all_goals
    go_enter Try.func63, Try.ntmps63
    go_wp2_with (go_at_call 26; refine (impl_IsBeam _ _ _ _ _ _ _).mono ?_; rintro e w1 ⟨rfl, hb⟩; obtain ⟨hc, hf⟩ := bcell hb; have hz := bsize hb; (try simp only [World.size_alloc] at hz); (try have hz0 : w.heap.size < w1.heap.size := by omega); (try have hz1 : w.heap.size + 1 < w1.heap.size := by omega); rw [h])
    refine bodyPost_ret (v := .tuple #[.agg #[.int .i64 (Z (okB a b x y) x), .int .i64 (Z (okB a b x y) y), .bool (okB a b x y && !r), .bool (okB a b x y && !u)], .bool (okB a b x y)]) (by simp [results, Try.results63, go_sem, Z, *]) rfl ⟨by rw [h], (by repeat (first | exact Below.refl _ _ | refine bl_alloc ?_ _ | refine bl_drewN ?_ _ | refine bl_trans (by assumption) ?_ | refine bl_set ?_ (by first | omega | (simp; done) | (simp; omega)) _))⟩
set_option maxHeartbeats 400000 in
theorem spec_BackBeam (a b x y : Int) (r u : Bool) (w : World) :
    Calls Try.prog 62 #[.agg #[.int .i64 a, .int .i64 b], .agg #[.int .i64 x, .int .i64 y, .bool r, .bool u]] w fun e w' => e = .returned (.tuple #[.agg #[.int .i64 (Z (okB a b x y) x), .int .i64 (Z (okB a b x y) y), .bool (okB a b x y && !r), .bool (okB a b x y && !u)], .bool (okB a b x y)]) ∧ Below w.heap.size w w' := by
  cases h : okB a b x y
  all_goals
    go_enter Try.func62, Try.ntmps62
    go_wp2_with (go_at_call 68; refine (spec_beGood _ _ _ _ _ _ _).mono ?_; rintro e w1 ⟨rfl, hb⟩; obtain ⟨hc, hf⟩ := bcell hb; have hz := bsize hb; (try simp only [World.size_alloc] at hz); (try have hz0 : w.heap.size < w1.heap.size := by omega); (try have hz1 : w.heap.size + 1 < w1.heap.size := by omega); rw [h])
    refine bodyPost_ret (v := .tuple #[.agg #[.int .i64 (Z (okB a b x y) x), .int .i64 (Z (okB a b x y) y), .bool (okB a b x y && !r), .bool (okB a b x y && !u)], .bool (okB a b x y)]) (by simp [results, Try.results62, go_sem, Z, *]) rfl ⟨by rw [h], (by repeat (first | exact Below.refl _ _ | refine bl_alloc ?_ _ | refine bl_drewN ?_ _ | refine bl_trans (by assumption) ?_ | refine bl_set ?_ (by first | omega | (simp; done) | (simp; omega)) _))⟩
def okBS (m a b x y s : Int) : Bool := okB a b x y && within s 0 m
def un (ok : Bool) (x s : Int) (r : Bool) : Int := if ok then (if r then x + s else x - s) else 0
set_option maxHeartbeats 400000 in
theorem spec_beAsked (a b x y : Int) (r u : Bool) (s m : Int) (w : World) :
    Calls Try.prog 70 #[.agg #[.int .i64 a, .int .i64 b], .agg #[.int .i64 x, .int .i64 y, .bool r, .bool u], .int .i64 s, .int .i64 m] w fun e w' => e = .returned (.bool (okBS m a b x y s)) ∧ Below w.heap.size w w' := by
  cases h : okB a b x y <;> cases h1 : within s 0 m
  all_goals
    go_enter Try.func70, Try.ntmps70
    go_wp2_with (first | (go_at_call 68; refine (spec_beGood _ _ _ _ _ _ _).mono ?_; rintro e w1 ⟨rfl, hb⟩; obtain ⟨hc, hf⟩ := bcell hb; have hz := bsize hb; (try simp only [World.size_alloc] at hz); (try have hz0 : w.heap.size < w1.heap.size := by omega); (try have hz1 : w.heap.size + 1 < w1.heap.size := by omega); rw [h]) | (go_at_call 93; refine (l1In_any _ _ _ _).mono ?_; rintro e w' ⟨rfl, rfl⟩))
    go_ret
    exact ⟨by simp [okBS, h, h1], (by repeat (first | exact Below.refl _ _ | refine bl_alloc ?_ _ | refine bl_drewN ?_ _ | refine bl_trans (by assumption) ?_ | refine bl_set ?_ (by first | omega | (simp; done) | (simp; omega)) _))⟩
set_option maxHeartbeats 400000 in
theorem straightOn_any (x y : Int) (r u : Bool) (s : Int) (hx : -1000 ≤ x) (hx2 : x ≤ 1000) (hy : -1000 ≤ y) (hy2 : y ≤ 1000) (hs : 0 ≤ s) (hs2 : s ≤ 100000) (w : World) :
    Calls Try.prog 96 #[.agg #[.int .i64 x, .int .i64 y, .bool r, .bool u], .int .i64 s] w fun e w' => e = .returned (.agg #[.int .i64 (un true x s r), .int .i64 (un true y s u), .bool r, .bool u]) ∧ Below w.heap.size w w' := by
  cases r <;> cases u
  all_goals
    go_enter Try.func96, Try.ntmps96
    go_wp2
    refine bodyPost_ret (v := .agg #[.int .i64 (un true x s _), .int .i64 (un true y s _), .bool _, .bool _]) (by simp [results, Try.results96, go_sem, un]; try rfl) rfl ⟨rfl, (by repeat (first | exact Below.refl _ _ | refine bl_alloc ?_ _ | refine bl_drewN ?_ _ | refine bl_trans (by assumption) ?_ | refine bl_set ?_ (by first | omega | (simp; done) | (simp; omega)) _))⟩
set_option maxHeartbeats 800000 in
theorem impl_UnfoldedPlace (a b x y : Int) (r u : Bool) (s : Int) (w : World) :
    Calls Try.prog 65 #[.agg #[.int .i64 a, .int .i64 b], .agg #[.int .i64 x, .int .i64 y, .bool r, .bool u], .int .i64 s] w fun e w' => e = .returned (.tuple #[.int .i64 (un (okBS 100000 a b x y s) x s r), .int .i64 (un (okBS 100000 a b x y s) y s u), .bool (okBS 100000 a b x y s)]) ∧ Below w.heap.size w w' := by
  cases h : okB a b x y
  · go_enter Try.func65, Try.ntmps65
    go_wp2_with (first | (go_at_call 26; refine (impl_IsBeam _ _ _ _ _ _ _).mono ?_; rintro e w1 ⟨rfl, hb⟩; obtain ⟨hc, hf⟩ := bcell hb; have hz := bsize hb; (try simp only [World.size_alloc] at hz); (try have hz0 : w.heap.size < w1.heap.size := by omega); (try have hz1 : w.heap.size + 1 < w1.heap.size := by omega); rw [h]) | (go_at_call 67; refine (isWithin_any _ _ _ _).mono ?_; rintro e w' ⟨rfl, rfl⟩))
    go_ret3
    exact ⟨by simp [un, okBS, h], (by repeat (first | exact Below.refl _ _ | refine bl_alloc ?_ _ | refine bl_drewN ?_ _ | refine bl_trans (by assumption) ?_ | refine bl_set ?_ (by first | omega | (simp; done) | (simp; omega)) _))⟩
  cases h1 : within s 0 100000
  · go_enter Try.func65, Try.ntmps65
    go_wp2_with (first | (go_at_call 26; refine (impl_IsBeam _ _ _ _ _ _ _).mono ?_; rintro e w1 ⟨rfl, hb⟩; obtain ⟨hc, hf⟩ := bcell hb; have hz := bsize hb; (try simp only [World.size_alloc] at hz); (try have hz0 : w.heap.size < w1.heap.size := by omega); (try have hz1 : w.heap.size + 1 < w1.heap.size := by omega); rw [h]) | (go_at_call 67; refine (isWithin_any _ _ _ _).mono ?_; rintro e w' ⟨rfl, rfl⟩))
    go_ret3
    exact ⟨by simp [un, okBS, h, h1], (by repeat (first | exact Below.refl _ _ | refine bl_alloc ?_ _ | refine bl_drewN ?_ _ | refine bl_trans (by assumption) ?_ | refine bl_set ?_ (by first | omega | (simp; done) | (simp; omega)) _))⟩
  obtain ⟨⟨⟨t1, t2⟩, t3, t4⟩, ⟨t5, t6⟩, t7, t8⟩ := okB_true h
  obtain ⟨s1, s2⟩ := within_true h1
  have K := Lib.hid (show okBS 100000 a b x y s = true by simp [okBS, h, h1])
  go_enter Try.func65, Try.ntmps65
  go_wp2_with (first | (go_at_call 26; refine (impl_IsBeam _ _ _ _ _ _ _).mono ?_; rintro e w1 ⟨rfl, hb⟩; obtain ⟨hc, hf⟩ := bcell hb; have hz := bsize hb; (try simp only [World.size_alloc] at hz); (try have hz0 : w.heap.size < w1.heap.size := by omega); (try have hz1 : w.heap.size + 1 < w1.heap.size := by omega); rw [h]) | (go_at_call 67; refine (isWithin_any _ _ _ _).mono ?_; rintro e w' ⟨rfl, rfl⟩) | (go_at_call 96; refine (straightOn_any _ _ _ _ _ (by omega) (by omega) (by omega) (by omega) (by omega) (by omega) _).mono ?_; rintro e w2 ⟨rfl, hb2⟩; obtain ⟨hd, hf⟩ := bcell hb2; have hy := bsize hb2; (try simp only [World.size_alloc] at hy); (try have hy0 : w.heap.size < w2.heap.size := by omega); (try have hy1 : w.heap.size + 1 < w2.heap.size := by omega); (try have hy2 : w.heap.size + 1 + 1 < w2.heap.size := by omega)))
  go_quiet (fail)
  go_wp2
  go_ret3
  exact ⟨by rw [K.out]; rfl, (by repeat (first | exact Below.refl _ _ | refine bl_alloc ?_ _ | refine bl_drewN ?_ _ | refine bl_trans (by assumption) ?_ | refine bl_set ?_ (by first | omega | (simp; done) | (simp; omega)) _))⟩
set_option maxHeartbeats 800000 in
theorem spec_UnfoldedPlace (a b x y : Int) (r u : Bool) (s : Int) (w : World) :
    Calls Try.prog 64 #[.agg #[.int .i64 a, .int .i64 b], .agg #[.int .i64 x, .int .i64 y, .bool r, .bool u], .int .i64 s] w fun e w' => e = .returned (.tuple #[.int .i64 (un (okBS 100000 a b x y s) x s r), .int .i64 (un (okBS 100000 a b x y s) y s u), .bool (okBS 100000 a b x y s)]) ∧ Below w.heap.size w w' := by
  cases h : okBS 100000 a b x y s
  · go_enter Try.func64, Try.ntmps64
    go_wp2_with (go_at_call 70; refine (spec_beAsked _ _ _ _ _ _ _ _ _).mono ?_; rintro e w1 ⟨rfl, hb⟩; obtain ⟨hc, hf⟩ := bcell hb; have hz := bsize hb; (try simp only [World.size_alloc] at hz); (try have hz0 : w.heap.size < w1.heap.size := by omega); (try have hz1 : w.heap.size + 1 < w1.heap.size := by omega); rw [h])
    go_ret3
    exact ⟨by simp [un], (by repeat (first | exact Below.refl _ _ | refine bl_alloc ?_ _ | refine bl_drewN ?_ _ | refine bl_trans (by assumption) ?_ | refine bl_set ?_ (by first | omega | (simp; done) | (simp; omega)) _))⟩
  have hh := h
  simp only [okBS, Bool.and_eq_true] at hh
  obtain ⟨⟨⟨t1, t2⟩, t3, t4⟩, ⟨t5, t6⟩, t7, t8⟩ := okB_true hh.1
  obtain ⟨s1, s2⟩ := within_true hh.2
  clear hh
  have K1 := Lib.hid (IntWalk.wrap64_in (x - s) ⟨by omega, by omega⟩)
  have K2 := Lib.hid (IntWalk.wrap64_in (y - s) ⟨by omega, by omega⟩)
  cases r <;> cases u
  all_goals
    go_enter Try.func64, Try.ntmps64
    go_wp2_with (go_at_call 70; refine (spec_beAsked _ _ _ _ _ _ _ _ _).mono ?_; rintro e w1 ⟨rfl, hb⟩; obtain ⟨hc, hf⟩ := bcell hb; have hz := bsize hb; (try simp only [World.size_alloc] at hz); (try have hz0 : w.heap.size < w1.heap.size := by omega); (try have hz1 : w.heap.size + 1 < w1.heap.size := by omega); rw [h])
    go_quiet (fail)
    go_wp2
    go_ret3
    exact ⟨by simp [un, K1.out, K2.out], (by repeat (first | exact Below.refl _ _ | refine bl_alloc ?_ _ | refine bl_drewN ?_ _ | refine bl_trans (by assumption) ?_ | refine bl_set ?_ (by first | omega | (simp; done) | (simp; omega)) _))⟩
def mb (a b : Int) : Int := if okT a b then ln a b - 1 else 0
theorem ln_low (x y : Nat) (hx : 1 ≤ x) (hy : 1 ≤ y) : 1 ≤ x / Nat.gcd x y ∧ x / Nat.gcd x y ≤ x ∧ 1 ≤ y / Nat.gcd x y ∧ y / Nat.gcd x y ≤ y := by
  have g : 1 ≤ Nat.gcd x y := Nat.gcd_pos_of_pos_left _ hx
  exact ⟨Nat.div_pos (Nat.gcd_le_left _ hx) g, Nat.div_le_self _ _, Nat.div_pos (Nat.gcd_le_right _ hy) g, Nat.div_le_self _ _⟩
set_option maxHeartbeats 400000 in
theorem spec_beMain (a b : Int) (h1 : 1 ≤ a) (h2 : a ≤ 60) (h3 : 1 ≤ b) (h4 : b ≤ 60) (w : World) :
    Calls Try.prog 91 #[.agg #[.int .i64 a, .int .i64 b]] w fun e w' => e = .returned (.tuple #[.int .i64 (ln a b), .int .i64 (ld a b)]) ∧ Below w.heap.size w w' := by
  go_enter Try.func91, Try.ntmps91
  go_wp2_with (go_at_call 94; refine (clLow_any _ _ (by omega) (by omega) (by omega) (by omega) _).mono ?_; rintro e w' ⟨rfl, nn, rfl⟩)
  go_ret2
  exact ⟨rfl, (by repeat (first | exact Below.refl _ _ | refine bl_alloc ?_ _ | refine bl_drewN ?_ _ | refine bl_trans (by assumption) ?_ | refine bl_set ?_ (by first | omega | (simp; done) | (simp; omega)) _))⟩
set_option maxHeartbeats 800000 in
theorem spec_MainBounces (a b : Int) (w : World) :
    Calls Try.prog 53 #[.agg #[.int .i64 a, .int .i64 b]] w fun e w' => e = .returned (.tuple #[.int .i64 (Z (okT a b) (ld a b - 1)), .int .i64 (Z (okT a b) (ln a b - 1)), .bool (okT a b)]) ∧ Below w.heap.size w w' := by
  cases h : okT a b
  · go_enter Try.func53, Try.ntmps53
    go_wp2_with (go_at_call 66; refine (spec_beTable _ _ _).mono ?_; rintro e w1 ⟨rfl, hb⟩; obtain ⟨hc, hf⟩ := bcell hb; have hz := bsize hb; (try simp only [World.size_alloc] at hz); (try have hz0 : w.heap.size < w1.heap.size := by omega); rw [h])
    go_ret3
    exact ⟨by simp [Z], (by repeat (first | exact Below.refl _ _ | refine bl_alloc ?_ _ | refine bl_drewN ?_ _ | refine bl_trans (by assumption) ?_ | refine bl_set ?_ (by first | omega | (simp; done) | (simp; omega)) _))⟩
  obtain ⟨⟨t1, t2⟩, t3, t4⟩ := okT_true h
  obtain ⟨x, rfl⟩ := Int.eq_ofNat_of_zero_le (show 0 ≤ a by omega)
  obtain ⟨y, rfl⟩ := Int.eq_ofNat_of_zero_le (show 0 ≤ b by omega)
  have q := ln_low x y (by omega) (by omega)
  have q1 : 1 ≤ ln x y ∧ ln x y ≤ 60 ∧ 1 ≤ ld x y ∧ ld x y ≤ 60 := by rw [ln_nat, ld_nat]; omega
  obtain ⟨q1, q2, q3, q4⟩ := q1
  clear q
  go_enter Try.func53, Try.ntmps53
  go_wp2_with (first | (go_at_call 66; refine (spec_beTable _ _ _).mono ?_; rintro e w1 ⟨rfl, hb⟩; obtain ⟨hc, hf⟩ := bcell hb; have hz := bsize hb; (try simp only [World.size_alloc] at hz); (try have hz0 : w.heap.size < w1.heap.size := by omega); rw [h]) | (go_at_call 91; refine (spec_beMain _ _ (by omega) (by omega) (by omega) (by omega) _).mono ?_; rintro e w2 ⟨rfl, hb2⟩; obtain ⟨hd, hf⟩ := bcell hb2; have hy := bsize hb2; (try simp only [World.size_alloc] at hy); (try have hy0 : w.heap.size < w2.heap.size := by omega)))
  go_ret3
  exact ⟨by simp [Z], (by repeat (first | exact Below.refl _ _ | refine bl_alloc ?_ _ | refine bl_drewN ?_ _ | refine bl_trans (by assumption) ?_ | refine bl_set ?_ (by first | omega | (simp; done) | (simp; omega)) _))⟩
set_option maxHeartbeats 800000 in
theorem impl_MainBounces (a b : Int) (w : World) :
    Calls Try.prog 54 #[.agg #[.int .i64 a, .int .i64 b]] w fun e w' => e = .returned (.tuple #[.int .i64 (Z (okT a b) (ld a b - 1)), .int .i64 (Z (okT a b) (ln a b - 1)), .bool (okT a b)]) ∧ Below w.heap.size w w' := by
  cases h : okT a b
  · go_enter Try.func54, Try.ntmps54
    go_wp2_with (go_at_call 23; refine (impl_IsTable _ _ _).mono ?_; rintro e w1 ⟨rfl, hb⟩; obtain ⟨hc, hf⟩ := bcell hb; have hz := bsize hb; (try simp only [World.size_alloc] at hz); (try have hz0 : w.heap.size < w1.heap.size := by omega); rw [h])
    go_ret3
    exact ⟨by simp [Z], (by repeat (first | exact Below.refl _ _ | refine bl_alloc ?_ _ | refine bl_drewN ?_ _ | refine bl_trans (by assumption) ?_ | refine bl_set ?_ (by first | omega | (simp; done) | (simp; omega)) _))⟩
  obtain ⟨⟨t1, t2⟩, t3, t4⟩ := okT_true h
  obtain ⟨x, rfl⟩ := Int.eq_ofNat_of_zero_le (show 0 ≤ a by omega)
  obtain ⟨y, rfl⟩ := Int.eq_ofNat_of_zero_le (show 0 ≤ b by omega)
  obtain ⟨q1, q2, q3, q4⟩ := ln_low x y (by omega) (by omega)
  have h1 := Lib.hid (ln_nat x y)
  have h2 := Lib.hid (ld_nat x y)
  have hg : 1 ≤ Nat.gcd x y := Nat.gcd_pos_of_pos_right _ (by omega)
  have Hc := fun W => Lib.hid (gd_nat x y (by omega) (by omega) W)
  generalize Nat.gcd x y = z at *
  have hz : ((z : Int) == 0) = false := by simp; omega
  have d1 : 1 ≤ (x : Int) / (z : Int) ∧ (x : Int) / (z : Int) ≤ 60 := by
    have e : (x : Int) / (z : Int) = ((x / z : Nat) : Int) := by simp
    rw [e]; generalize x / z = k at *; omega
  have d2 : 1 ≤ (y : Int) / (z : Int) ∧ (y : Int) / (z : Int) ≤ 60 := by
    have e : (y : Int) / (z : Int) = ((y / z : Nat) : Int) := by simp
    rw [e]; generalize y / z = k at *; omega
  obtain ⟨d1, d1'⟩ := d1
  obtain ⟨d2, d2'⟩ := d2
  clear q1 q2 q3 q4
  go_enter Try.func54, Try.ntmps54
  go_wp2_with (first | (go_at_call 23; refine (impl_IsTable _ _ _).mono ?_; rintro e w1 ⟨rfl, hb⟩; obtain ⟨hc, hf⟩ := bcell hb; have hz := bsize hb; (try simp only [World.size_alloc] at hz); (try have hz0 : w.heap.size < w1.heap.size := by omega); rw [h]) | (go_at_call 92; refine ((Hc _).out).mono ?_; rintro e w' ⟨rfl, n, rfl⟩))
  go_quiet (fail)
  go_wp2
  go_ret3
  exact ⟨by rw [h1.out, h2.out]; simp [Z, wrap_div x z (by omega), wrap_div y z (by omega)], (by repeat (first | exact Below.refl _ _ | refine bl_alloc ?_ _ | refine bl_drewN ?_ _ | refine bl_trans (by assumption) ?_ | refine bl_set ?_ (by first | omega | (simp; done) | (simp; omega)) _))⟩
end Go.Proofs.Ytnhjiipkekblfaa
