/- Contracts of the functions of chapter 1 that take ladders and a place. -/
import Derived.Test.YtohlbnfncllhoaaDoorC2
import Derived.Deep.RegionHeld3
namespace Go.Proofs.YtohlbnfncllhoaaDoor
open Go.RowKit
theorem cell_after {u v : World} (hb : Below u.heap.size u v) {n o : Nat} {x : Value} (hn : n < u.heap.size) (hu : u.cell? ⟨n, o, none⟩ = some x) : v.cell? ⟨n, o, none⟩ = some x := by
  rw [(bcell hb).1 _ _ hn]; exact hu
theorem size_after {u v : World} (hb : Below u.heap.size u v) {n : Nat} (hn : n < u.heap.size) : n < v.heap.size := Nat.lt_of_lt_of_le hn hb.size
theorem S3_after {w u v : World} {x y z : Value} (hb : Below u.heap.size u v) (h : u.cell? ⟨w.heap.size, 0, none⟩ = some x ∧ u.cell? ⟨w.heap.size, 1, none⟩ = some y ∧ u.cell? ⟨w.heap.size, 2, none⟩ = some z ∧ w.heap.size < u.heap.size ∧ Below w.heap.size w u) :
    v.cell? ⟨w.heap.size, 0, none⟩ = some x ∧ v.cell? ⟨w.heap.size, 1, none⟩ = some y ∧ v.cell? ⟨w.heap.size, 2, none⟩ = some z ∧ w.heap.size < v.heap.size ∧ Below w.heap.size w v :=
  ⟨cell_after hb h.2.2.2.1 h.1, cell_after hb h.2.2.2.1 h.2.1, cell_after hb h.2.2.2.1 h.2.2.1, size_after hb h.2.2.2.1, bl_trans hb h.2.2.2.2⟩
theorem ret_int {k : IntKind} {a b : Int} (h : a = b) : Ending.returned (.int k a) = .returned (.int k b) := by rw [h]

def okH (a b c p : Int) : Bool := okL a b c && within p 0 a
def at_ (a b c : Int) (r : Bool) (p : Int) : Int := if r then c * p else b * (a - p)
def HA (f : Int → Int → Int) (a b c : Int) (r : Bool) (p : Int) : Int := if okH a b c p then f (at_ a b c r p) a else 0
def HI (f : Int → Int → Int) (a b c p : Int) : Int := if okH a b c p then f (max (at_ a b c false p) (at_ a b c true p)) a else 0
theorem okH_true {a b c p : Int} (h : okH a b c p = true) : okL a b c = true ∧ within p 0 a = true ∧ (1 ≤ a ∧ a ≤ 1000) ∧ (0 ≤ p ∧ p ≤ a) ∧ (0 ≤ c * p ∧ c * p ≤ 1000000) ∧ 0 ≤ b * (a - p) ∧ b * (a - p) ≤ 1000000 := by
  simp only [okH, Bool.and_eq_true] at h
  obtain ⟨h, g⟩ := h
  have := okL_true h
  have := within_true g
  exact ⟨h, g, by omega, by omega, mul_bd2 (m := 1000) (k := 1000) (by omega) (by omega) (by omega) (by omega), mul_bd2 (m := 1000) (k := 1000) (by omega) (by omega) (by omega) (by omega)⟩

set_option maxHeartbeats 400000 in
theorem l1Most_any (x y : Int) (w : World) : Calls Tryd.prog 52 #[.int .i64 x, .int .i64 y] w fun e w' => e = .returned (.int .i64 (max x y)) ∧ w = w' := by
  go_enter Tryd.func52, Tryd.ntmps52
  go_wp2
  all_goals (go_ret; exact ⟨ret_int (by show _ = max x y; omega), rfl⟩)

set_option maxHeartbeats 400000 in
theorem clAsked_any (a b c p : Int) (w : World) :
    Calls Tryd.prog 53 #[.agg #[.int .i64 a, .int .i64 b, .int .i64 c], .int .i64 p] w fun e w' => e = .returned (.bool (okH a b c p)) ∧ Below w.heap.size w w' := by
  cases h : okL a b c <;> cases g : within p 0 a
  all_goals
    go_enter Tryd.func53, Tryd.ntmps53
    go_wp2_with (first | (go_at_call 39; refine (spec_clGood _ _ _ _).mono ?_; rintro e w1 ⟨rfl, hb⟩; obtain ⟨hc, hf⟩ := bcell hb; have hz := bsize hb; (try simp only [World.size_alloc] at hz); (try have hz0 : w.heap.size < w1.heap.size := by omega); rw [h]) | (go_at_call 56; refine (l1In_any _ _ _ _).mono ?_; rintro e w' ⟨rfl, rfl⟩))
    go_ret
    exact ⟨by simp [okH, h, g], (by repeat (first | exact Below.refl _ _ | refine bl_alloc ?_ _ | refine bl_drewN ?_ _ | refine bl_trans (by assumption) ?_))⟩

set_option maxHeartbeats 400000 in
theorem clAt_any (a b c : Int) (r : Bool) (p : Int) (h : okH a b c p = true) (w : World) :
    Calls Tryd.prog 54 #[.agg #[.int .i64 a, .int .i64 b, .int .i64 c], .bool r, .int .i64 p] w fun e w' => e = .returned (.int .i64 (at_ a b c r p)) ∧ Below w.heap.size w w' := by
  obtain ⟨_, _, _, _, ⟨x0, x1⟩, y0, y1⟩ := okH_true h
  cases r
  all_goals
    go_enter Tryd.func54, Tryd.ntmps54
    go_wp2
    go_ret
    exact ⟨by simp [at_], (by repeat (first | exact Below.refl _ _ | refine bl_alloc ?_ _ | refine bl_drewN ?_ _ | refine bl_trans (by assumption) ?_))⟩

theorem at_bd {a b c p : Int} (h : okH a b c p = true) (r : Bool) : 0 ≤ at_ a b c r p ∧ at_ a b c r p ≤ 1000000 := by
  obtain ⟨_, _, _, _, ⟨x0, x1⟩, y0, y1⟩ := okH_true h
  cases r <;> simp [at_] <;> omega

set_option maxHeartbeats 400000 in
theorem spec_HeightAt (a b c : Int) (r : Bool) (p : Int) (w : World) :
    Calls Tryd.prog 29 #[.agg #[.int .i64 a, .int .i64 b, .int .i64 c], .bool r, .int .i64 p] w fun e w' => e = .returned (.tuple #[.int .i64 (HA ln a b c r p), .int .i64 (HA ld a b c r p), .bool (okH a b c p)]) ∧ Below w.heap.size w w' := by
  cases h : okH a b c p
  · go_enter Tryd.func29, Tryd.ntmps29
    go_wp2_with (go_at_call 53; refine (clAsked_any _ _ _ _ _).mono ?_; rintro e w1 ⟨rfl, hb⟩; obtain ⟨hc, hf⟩ := bcell hb; have hz := bsize hb; (try simp only [World.size_alloc] at hz); (try have hz0 : w.heap.size < w1.heap.size := by omega); rw [h])
    go_ret3
    exact ⟨by simp [HA, h], (by repeat (first | exact Below.refl _ _ | refine bl_alloc ?_ _ | refine bl_drewN ?_ _ | refine bl_trans (by assumption) ?_))⟩
  · obtain ⟨_, _, ⟨a0, a1⟩, _, _⟩ := okH_true h
    obtain ⟨z0, z1⟩ := at_bd h r
    go_enter Tryd.func29, Tryd.ntmps29
    go_wp2_with (go_at_call 53; refine (clAsked_any _ _ _ _ _).mono ?_; rintro e w1 ⟨rfl, hb⟩; obtain ⟨hc, hf⟩ := bcell hb; have hz := bsize hb; (try simp only [World.size_alloc] at hz); (try have hz0 : w.heap.size < w1.heap.size := by omega); rw [h])
    have hS : w1.cell? ⟨w.heap.size, 0, none⟩ = some (.int .i64 a) ∧ w1.cell? ⟨w.heap.size, 1, none⟩ = some (.int .i64 b) ∧ w1.cell? ⟨w.heap.size, 2, none⟩ = some (.int .i64 c) ∧ w.heap.size < w1.heap.size ∧ Below w.heap.size w w1 :=
      ⟨by simp [*], by simp [*], by simp [*], hz0, (by repeat (first | exact Below.refl _ _ | refine bl_alloc ?_ _ | refine bl_drewN ?_ _ | refine bl_trans (by assumption) ?_))⟩
    clear hc hf
    go_region_held3 (fun w' => w'.cell? ⟨w.heap.size, 0, none⟩ = some (.int .i64 a) ∧ w'.cell? ⟨w.heap.size, 1, none⟩ = some (.int .i64 b) ∧ w'.cell? ⟨w.heap.size, 2, none⟩ = some (.int .i64 c) ∧ w.heap.size < w'.heap.size ∧ Below w.heap.size w w') (first | exact S3_after hb2 (by assumption) | exact S3_after (below_drewN (Below.refl _ _) _) (by assumption) | exact S3_after (Below.drew (Below.refl _ _)) (by assumption) | assumption) (first | (go_at_call 54; refine (clAt_any _ _ _ _ _ h _).mono ?_; rintro e w2 ⟨rfl, hb2⟩) | (go_at_call 40; refine (clLow_any _ _ (by omega) (by omega) (by omega) (by omega) _).mono ?_; rintro e w2 ⟨rfl, nn, rfl⟩))
    go_wp2
    go_ret3
    exact ⟨by simp [HA, h], (by repeat (first | exact Below.refl _ _ | refine bl_alloc ?_ _ | refine bl_drewN ?_ _ | refine bl_trans (by assumption) ?_))⟩

set_option maxHeartbeats 400000 in
theorem impl_HeightAt (a b c : Int) (r : Bool) (p : Int) (w : World) :
    Calls Tryd.prog 28 #[.agg #[.int .i64 a, .int .i64 b, .int .i64 c], .bool r, .int .i64 p] w fun e w' => e = .returned (.tuple #[.int .i64 (HA ln a b c r p), .int .i64 (HA ld a b c r p), .bool (okH a b c p)]) ∧ Below w.heap.size w w' := by
  cases h : okH a b c p
  · cases h1 : okL a b c
    · go_enter Tryd.func28, Tryd.ntmps28
      go_wp2_with (first | (go_at_call 21; refine (impl_AreLadders _ _ _ _).mono ?_; rintro e w1 ⟨rfl, hb⟩; obtain ⟨hc, hf⟩ := bcell hb; have hz := bsize hb; (try simp only [World.size_alloc] at hz); (try have hz0 : w.heap.size < w1.heap.size := by omega); rw [h1]) | (go_at_call 45; refine (isWithin_any _ _ _ _).mono ?_; rintro e w' ⟨rfl, rfl⟩))
      go_ret3
      exact ⟨by simp [HA, h], (by repeat (first | exact Below.refl _ _ | refine bl_alloc ?_ _ | refine bl_drewN ?_ _ | refine bl_trans (by assumption) ?_))⟩
    · have h2 : within p 0 a = false := by simpa [okH, h1] using h
      go_enter Tryd.func28, Tryd.ntmps28
      go_wp2_with (first | (go_at_call 21; refine (impl_AreLadders _ _ _ _).mono ?_; rintro e w1 ⟨rfl, hb⟩; obtain ⟨hc, hf⟩ := bcell hb; have hz := bsize hb; (try simp only [World.size_alloc] at hz); (try have hz0 : w.heap.size < w1.heap.size := by omega); rw [h1]) | (go_at_call 45; refine (isWithin_any _ _ _ _).mono ?_; rintro e w' ⟨rfl, rfl⟩))
      go_ret3
      exact ⟨by simp [HA, h], (by repeat (first | exact Below.refl _ _ | refine bl_alloc ?_ _ | refine bl_drewN ?_ _ | refine bl_trans (by assumption) ?_))⟩
  · obtain ⟨h1, h2, ⟨a0, a1⟩, ⟨p0, p1⟩, ⟨x0, x1⟩, y0, y1⟩ := okH_true h
    cases r
    all_goals
      go_enter Tryd.func28, Tryd.ntmps28
      go_wp2_with (first | (go_at_call 21; refine (impl_AreLadders _ _ _ _).mono ?_; rintro e w1 ⟨rfl, hb⟩; obtain ⟨hc, hf⟩ := bcell hb; have hz := bsize hb; (try simp only [World.size_alloc] at hz); (try have hz0 : w.heap.size < w1.heap.size := by omega); rw [h1]) | (go_at_call 45; refine (isWithin_any _ _ _ _).mono ?_; rintro e w' ⟨rfl, rfl⟩) | (go_at_call 38; refine (toldFraction_any _ _ (by omega) (by omega) (by omega) (by omega) _).mono ?_; rintro e w' ⟨rfl, nn, rfl⟩))
      go_ret3
      exact ⟨by simp [HA, h, at_], (by repeat (first | exact Below.refl _ _ | refine bl_alloc ?_ _ | refine bl_drewN ?_ _ | refine bl_trans (by assumption) ?_))⟩

set_option maxHeartbeats 400000 in
theorem spec_HighestAt (a b c p : Int) (w : World) :
    Calls Tryd.prog 31 #[.agg #[.int .i64 a, .int .i64 b, .int .i64 c], .int .i64 p] w fun e w' => e = .returned (.tuple #[.int .i64 (HI ln a b c p), .int .i64 (HI ld a b c p), .bool (okH a b c p)]) ∧ Below w.heap.size w w' := by
  cases h : okH a b c p
  · go_enter Tryd.func31, Tryd.ntmps31
    go_wp2_with (go_at_call 53; refine (clAsked_any _ _ _ _ _).mono ?_; rintro e w1 ⟨rfl, hb⟩; obtain ⟨hc, hf⟩ := bcell hb; have hz := bsize hb; (try simp only [World.size_alloc] at hz); (try have hz0 : w.heap.size < w1.heap.size := by omega); rw [h])
    go_ret3
    exact ⟨by simp [HI, h], (by repeat (first | exact Below.refl _ _ | refine bl_alloc ?_ _ | refine bl_drewN ?_ _ | refine bl_trans (by assumption) ?_))⟩
  · obtain ⟨_, _, ⟨a0, a1⟩, _, _⟩ := okH_true h
    obtain ⟨z0, z1⟩ := at_bd h false
    obtain ⟨t0, t1⟩ := at_bd h true
    go_enter Tryd.func31, Tryd.ntmps31
    go_wp2_with (go_at_call 53; refine (clAsked_any _ _ _ _ _).mono ?_; rintro e w1 ⟨rfl, hb⟩; obtain ⟨hc, hf⟩ := bcell hb; have hz := bsize hb; (try simp only [World.size_alloc] at hz); (try have hz0 : w.heap.size < w1.heap.size := by omega); rw [h])
    have hS : w1.cell? ⟨w.heap.size, 0, none⟩ = some (.int .i64 a) ∧ w1.cell? ⟨w.heap.size, 1, none⟩ = some (.int .i64 b) ∧ w1.cell? ⟨w.heap.size, 2, none⟩ = some (.int .i64 c) ∧ w.heap.size < w1.heap.size ∧ Below w.heap.size w w1 :=
      ⟨by simp [*], by simp [*], by simp [*], hz0, (by repeat (first | exact Below.refl _ _ | refine bl_alloc ?_ _ | refine bl_drewN ?_ _ | refine bl_trans (by assumption) ?_))⟩
    clear hc hf
    go_region_held3 (fun w' => w'.cell? ⟨w.heap.size, 0, none⟩ = some (.int .i64 a) ∧ w'.cell? ⟨w.heap.size, 1, none⟩ = some (.int .i64 b) ∧ w'.cell? ⟨w.heap.size, 2, none⟩ = some (.int .i64 c) ∧ w.heap.size < w'.heap.size ∧ Below w.heap.size w w') (first | exact S3_after hb2 (by assumption) | exact S3_after (below_drewN (Below.refl _ _) _) (by assumption) | exact S3_after (Below.drew (Below.refl _ _)) (by assumption) | assumption) (first | (go_at_call 54; refine (clAt_any _ _ _ _ _ h _).mono ?_; rintro e w2 ⟨rfl, hb2⟩) | (go_at_call 52; refine (l1Most_any _ _ _).mono ?_; rintro e w2 ⟨rfl, rfl⟩) | (go_at_call 40; refine (clLow_any _ _ (by omega) (by omega) (by omega) (by omega) _).mono ?_; rintro e w2 ⟨rfl, nn, rfl⟩))
    go_wp2
    go_ret3
    exact ⟨by simp [HI, h], (by repeat (first | exact Below.refl _ _ | refine bl_alloc ?_ _ | refine bl_drewN ?_ _ | refine bl_trans (by assumption) ?_))⟩

set_option maxHeartbeats 400000 in
theorem impl_HighestAt (a b c p : Int) (w : World) :
    Calls Tryd.prog 30 #[.agg #[.int .i64 a, .int .i64 b, .int .i64 c], .int .i64 p] w fun e w' => e = .returned (.tuple #[.int .i64 (HI ln a b c p), .int .i64 (HI ld a b c p), .bool (okH a b c p)]) ∧ Below w.heap.size w w' := by
  cases h : okH a b c p
  · cases h1 : okL a b c
    · go_enter Tryd.func30, Tryd.ntmps30
      go_wp2_with (first | (go_at_call 21; refine (impl_AreLadders _ _ _ _).mono ?_; rintro e w1 ⟨rfl, hb⟩; obtain ⟨hc, hf⟩ := bcell hb; have hz := bsize hb; (try simp only [World.size_alloc] at hz); (try have hz0 : w.heap.size < w1.heap.size := by omega); rw [h1]) | (go_at_call 45; refine (isWithin_any _ _ _ _).mono ?_; rintro e w' ⟨rfl, rfl⟩))
      go_ret3
      exact ⟨by simp [HI, h], (by repeat (first | exact Below.refl _ _ | refine bl_alloc ?_ _ | refine bl_drewN ?_ _ | refine bl_trans (by assumption) ?_))⟩
    · have h2 : within p 0 a = false := by simpa [okH, h1] using h
      go_enter Tryd.func30, Tryd.ntmps30
      go_wp2_with (first | (go_at_call 21; refine (impl_AreLadders _ _ _ _).mono ?_; rintro e w1 ⟨rfl, hb⟩; obtain ⟨hc, hf⟩ := bcell hb; have hz := bsize hb; (try simp only [World.size_alloc] at hz); (try have hz0 : w.heap.size < w1.heap.size := by omega); rw [h1]) | (go_at_call 45; refine (isWithin_any _ _ _ _).mono ?_; rintro e w' ⟨rfl, rfl⟩))
      go_ret3
      exact ⟨by simp [HI, h], (by repeat (first | exact Below.refl _ _ | refine bl_alloc ?_ _ | refine bl_drewN ?_ _ | refine bl_trans (by assumption) ?_))⟩
  · obtain ⟨h1, h2, ⟨a0, a1⟩, ⟨p0, p1⟩, ⟨x0, x1⟩, y0, y1⟩ := okH_true h
    by_cases m : b * (a - p) < c * p
    · have M := Lib.hid (show max (b * (a - p)) (c * p) = c * p by omega)
      go_enter Tryd.func30, Tryd.ntmps30
      go_wp2_with (first | (go_at_call 21; refine (impl_AreLadders _ _ _ _).mono ?_; rintro e w1 ⟨rfl, hb⟩; obtain ⟨hc, hf⟩ := bcell hb; have hz := bsize hb; (try simp only [World.size_alloc] at hz); (try have hz0 : w.heap.size < w1.heap.size := by omega); rw [h1]) | (go_at_call 45; refine (isWithin_any _ _ _ _).mono ?_; rintro e w' ⟨rfl, rfl⟩) | (go_at_call 38; refine (toldFraction_any _ _ (by omega) (by omega) (by omega) (by omega) _).mono ?_; rintro e w' ⟨rfl, nn, rfl⟩))
      go_ret3
      exact ⟨by simp [HI, h, at_, M.out], (by repeat (first | exact Below.refl _ _ | refine bl_alloc ?_ _ | refine bl_drewN ?_ _ | refine bl_trans (by assumption) ?_))⟩
    · have M := Lib.hid (show max (b * (a - p)) (c * p) = b * (a - p) by omega)
      go_enter Tryd.func30, Tryd.ntmps30
      go_wp2_with (first | (go_at_call 21; refine (impl_AreLadders _ _ _ _).mono ?_; rintro e w1 ⟨rfl, hb⟩; obtain ⟨hc, hf⟩ := bcell hb; have hz := bsize hb; (try simp only [World.size_alloc] at hz); (try have hz0 : w.heap.size < w1.heap.size := by omega); rw [h1]) | (go_at_call 45; refine (isWithin_any _ _ _ _).mono ?_; rintro e w' ⟨rfl, rfl⟩) | (go_at_call 38; refine (toldFraction_any _ _ (by omega) (by omega) (by omega) (by omega) _).mono ?_; rintro e w' ⟨rfl, nn, rfl⟩))
      go_ret3
      exact ⟨by simp [HI, h, at_, M.out], (by repeat (first | exact Below.refl _ _ | refine bl_alloc ?_ _ | refine bl_drewN ?_ _ | refine bl_trans (by assumption) ?_))⟩

end Go.Proofs.YtohlbnfncllhoaaDoor
