/- Contracts of the functions of chapter 1 that return ladders. -/
import Derived.Test.YtohlbnfncllhoaaDoorC5
namespace Go.Proofs.YtohlbnfncllhoaaDoor
open Go.RowKit

theorem okM_of {a b c d : Int} (h : okL a b c = true) (g : within d (-1000) 1000 = true) : okL (a + d) b c = okM a b c d := by
  have h' := h
  simp only [okL, Bool.and_eq_true] at h'
  simp [okM, okL, h'.1.1, h'.1.2, h'.2, g]
set_option maxHeartbeats 400000 in
theorem impl_MoveWall (a b c d : Int) (w : World) :
    Calls Tryd.prog 35 #[.agg #[.int .i64 a, .int .i64 b, .int .i64 c], .int .i64 d] w fun e w' => e = .returned (.tuple #[.agg #[.int .i64 (Z (okM a b c d) (a + d)), .int .i64 (Z (okM a b c d) (b)), .int .i64 (Z (okM a b c d) (c))], .bool (okM a b c d)]) ∧ Below w.heap.size w w' := by
  cases h : okL a b c
  · have K : okM a b c d = false := by simp [okM, h]
    go_enter Tryd.func35, Tryd.ntmps35
    go_wp2_with (first | (go_at_call 21; refine (impl_AreLadders _ _ _ _).mono ?_; rintro e w1 ⟨rfl, hb⟩; obtain ⟨hc, hf⟩ := bcell hb; have hz := bsize hb; (try simp only [World.size_alloc] at hz); (try have hz0 : w.heap.size < w1.heap.size := by omega); (try have hz1 : w.heap.size + 1 < w1.heap.size := by omega); rw [h]) | (go_at_call 45; refine (isWithin_any _ _ _ _).mono ?_; rintro e w' ⟨rfl, rfl⟩))
    refine bodyPost_ret (v := .tuple #[.agg #[.int .i64 (Z (okM a b c d) (a + d)), .int .i64 (Z (okM a b c d) (b)), .int .i64 (Z (okM a b c d) (c))], .bool (okM a b c d)]) (by simp [results, Tryd.results35, go_sem, Z, *]) rfl ⟨by simp [Z, K], (by repeat (first | exact Below.refl _ _ | refine bl_alloc ?_ _ | refine bl_drewN ?_ _ | refine bl_trans (by assumption) ?_ | refine bl_set ?_ (by first | omega | (simp; done) | (simp; omega)) _))⟩
  cases g : within d (-1000) 1000
  · have K : okM a b c d = false := by simp [okM, g]
    go_enter Tryd.func35, Tryd.ntmps35
    go_wp2_with (first | (go_at_call 21; refine (impl_AreLadders _ _ _ _).mono ?_; rintro e w1 ⟨rfl, hb⟩; obtain ⟨hc, hf⟩ := bcell hb; have hz := bsize hb; (try simp only [World.size_alloc] at hz); (try have hz0 : w.heap.size < w1.heap.size := by omega); (try have hz1 : w.heap.size + 1 < w1.heap.size := by omega); rw [h]) | (go_at_call 45; refine (isWithin_any _ _ _ _).mono ?_; rintro e w' ⟨rfl, rfl⟩))
    refine bodyPost_ret (v := .tuple #[.agg #[.int .i64 (Z (okM a b c d) (a + d)), .int .i64 (Z (okM a b c d) (b)), .int .i64 (Z (okM a b c d) (c))], .bool (okM a b c d)]) (by simp [results, Tryd.results35, go_sem, Z, *]) rfl ⟨by simp [Z, K], (by repeat (first | exact Below.refl _ _ | refine bl_alloc ?_ _ | refine bl_drewN ?_ _ | refine bl_trans (by assumption) ?_ | refine bl_set ?_ (by first | omega | (simp; done) | (simp; omega)) _))⟩
  obtain ⟨⟨a0, a1⟩, ⟨b0, b1⟩, c0, c1⟩ := okL_true h
  obtain ⟨d0, d1⟩ := within_true g
  have K := Lib.hid (okM_of h g)
  go_enter Tryd.func35, Tryd.ntmps35
  go_wp2_with (first | (go_at_call 21; refine (impl_AreLadders _ _ _ _).mono ?_; rintro e w1 ⟨rfl, hb⟩; obtain ⟨hc, hf⟩ := bcell hb; have hz := bsize hb; (try simp only [World.size_alloc] at hz); (try have hz0 : w.heap.size < w1.heap.size := by omega); (try have hz1 : w.heap.size + 1 < w1.heap.size := by omega); rw [h]) | (go_at_call 45; refine (isWithin_any _ _ _ _).mono ?_; rintro e w' ⟨rfl, rfl⟩) | (go_at_call 44; refine (onlyLadders_any _ _ _ _).mono ?_; rintro e w1 ⟨rfl, hb⟩; obtain ⟨hc, hf⟩ := bcell hb; have hz := bsize hb; (try simp only [World.size_alloc] at hz); (try have hz0 : w.heap.size < w1.heap.size := by omega); (try have hz1 : w.heap.size + 1 < w1.heap.size := by omega); rw [K.out]))
  refine bodyPost_ret (v := .tuple #[.agg #[.int .i64 (Z (okM a b c d) (a + d)), .int .i64 (Z (okM a b c d) (b)), .int .i64 (Z (okM a b c d) (c))], .bool (okM a b c d)]) (by simp [results, Tryd.results35, go_sem, *]) rfl ⟨rfl, (by repeat (first | exact Below.refl _ _ | refine bl_alloc ?_ _ | refine bl_drewN ?_ _ | refine bl_trans (by assumption) ?_ | refine bl_set ?_ (by first | omega | (simp; done) | (simp; omega)) _))⟩
set_option maxHeartbeats 400000 in
theorem spec_MoveWall (a b c d : Int) (w : World) :
    Calls Tryd.prog 36 #[.agg #[.int .i64 a, .int .i64 b, .int .i64 c], .int .i64 d] w fun e w' => e = .returned (.tuple #[.agg #[.int .i64 (Z (okM a b c d) (a + d)), .int .i64 (Z (okM a b c d) (b)), .int .i64 (Z (okM a b c d) (c))], .bool (okM a b c d)]) ∧ Below w.heap.size w w' := by
  cases h : okL a b c
  · have K : okM a b c d = false := by simp [okM, h]
    go_enter Tryd.func36, Tryd.ntmps36
    go_wp2_with (first | (go_at_call 39; refine (spec_clGood _ _ _ _).mono ?_; rintro e w1 ⟨rfl, hb⟩; obtain ⟨hc, hf⟩ := bcell hb; have hz := bsize hb; (try simp only [World.size_alloc] at hz); (try have hz0 : w.heap.size < w1.heap.size := by omega); (try have hz1 : w.heap.size + 1 < w1.heap.size := by omega); rw [h]) | (go_at_call 56; refine (l1In_any _ _ _ _).mono ?_; rintro e w' ⟨rfl, rfl⟩))
    refine bodyPost_ret (v := .tuple #[.agg #[.int .i64 (Z (okM a b c d) (a + d)), .int .i64 (Z (okM a b c d) (b)), .int .i64 (Z (okM a b c d) (c))], .bool (okM a b c d)]) (by simp [results, Tryd.results36, go_sem, Z, *]) rfl ⟨by simp [Z, K], (by repeat (first | exact Below.refl _ _ | refine bl_alloc ?_ _ | refine bl_drewN ?_ _ | refine bl_trans (by assumption) ?_ | refine bl_set ?_ (by first | omega | (simp; done) | (simp; omega)) _))⟩
  cases g : within d (-1000) 1000
  · have K : okM a b c d = false := by simp [okM, g]
    go_enter Tryd.func36, Tryd.ntmps36
    go_wp2_with (first | (go_at_call 39; refine (spec_clGood _ _ _ _).mono ?_; rintro e w1 ⟨rfl, hb⟩; obtain ⟨hc, hf⟩ := bcell hb; have hz := bsize hb; (try simp only [World.size_alloc] at hz); (try have hz0 : w.heap.size < w1.heap.size := by omega); (try have hz1 : w.heap.size + 1 < w1.heap.size := by omega); rw [h]) | (go_at_call 56; refine (l1In_any _ _ _ _).mono ?_; rintro e w' ⟨rfl, rfl⟩))
    refine bodyPost_ret (v := .tuple #[.agg #[.int .i64 (Z (okM a b c d) (a + d)), .int .i64 (Z (okM a b c d) (b)), .int .i64 (Z (okM a b c d) (c))], .bool (okM a b c d)]) (by simp [results, Tryd.results36, go_sem, Z, *]) rfl ⟨by simp [Z, K], (by repeat (first | exact Below.refl _ _ | refine bl_alloc ?_ _ | refine bl_drewN ?_ _ | refine bl_trans (by assumption) ?_ | refine bl_set ?_ (by first | omega | (simp; done) | (simp; omega)) _))⟩
  obtain ⟨⟨a0, a1⟩, ⟨b0, b1⟩, c0, c1⟩ := okL_true h
  obtain ⟨d0, d1⟩ := within_true g
  cases g' : within (a + d) 1 1000
  all_goals
    have K : okM a b c d = within (a + d) 1 1000 := by simp [okM, h, g]
    rw [g'] at K
    go_enter Tryd.func36, Tryd.ntmps36
    go_wp2_with (first | (go_at_call 39; refine (spec_clGood _ _ _ _).mono ?_; rintro e w1 ⟨rfl, hb⟩; obtain ⟨hc, hf⟩ := bcell hb; have hz := bsize hb; (try simp only [World.size_alloc] at hz); (try have hz0 : w.heap.size < w1.heap.size := by omega); (try have hz1 : w.heap.size + 1 < w1.heap.size := by omega); rw [h]) | (go_at_call 56; refine (l1In_any _ _ _ _).mono ?_; rintro e w' ⟨rfl, rfl⟩))
    refine bodyPost_ret (v := .tuple #[.agg #[.int .i64 (Z (okM a b c d) (a + d)), .int .i64 (Z (okM a b c d) (b)), .int .i64 (Z (okM a b c d) (c))], .bool (okM a b c d)]) (by simp [results, Tryd.results36, go_sem, Z, *]) rfl ⟨by simp [Z, K], (by repeat (first | exact Below.refl _ _ | refine bl_alloc ?_ _ | refine bl_drewN ?_ _ | refine bl_trans (by assumption) ?_ | refine bl_set ?_ (by first | omega | (simp; done) | (simp; omega)) _))⟩
set_option maxHeartbeats 400000 in
theorem impl_MirrorLadders (a b c : Int) (w : World) :
    Calls Tryd.prog 19 #[.agg #[.int .i64 a, .int .i64 b, .int .i64 c]] w fun e w' => e = .returned (.tuple #[.agg #[.int .i64 (Z (okL a b c) (a)), .int .i64 (Z (okL a b c) (c)), .int .i64 (Z (okL a b c) (b))], .bool (okL a b c)]) ∧ Below w.heap.size w w' := by
  have K := Lib.hid (show okL a c b = okL a b c by simp only [okL]; cases within a 1 1000 <;> cases within b 1 1000 <;> cases within c 1 1000 <;> rfl)
  go_enter Tryd.func19, Tryd.ntmps19
  go_wp2_with (go_at_call 44; refine (onlyLadders_any _ _ _ _).mono ?_; rintro e w1 ⟨rfl, hb⟩; obtain ⟨hc, hf⟩ := bcell hb; have hz := bsize hb; (try simp only [World.size_alloc] at hz); (try have hz0 : w.heap.size < w1.heap.size := by omega); (try have hz1 : w.heap.size + 1 < w1.heap.size := by omega); rw [K.out])
  refine bodyPost_ret (v := .tuple #[.agg #[.int .i64 (Z (okL a b c) (a)), .int .i64 (Z (okL a b c) (c)), .int .i64 (Z (okL a b c) (b))], .bool (okL a b c)]) (by simp [results, Tryd.results19, go_sem, *]) rfl ⟨rfl, (by repeat (first | exact Below.refl _ _ | refine bl_alloc ?_ _ | refine bl_drewN ?_ _ | refine bl_trans (by assumption) ?_ | refine bl_set ?_ (by first | omega | (simp; done) | (simp; omega)) _))⟩
set_option maxHeartbeats 400000 in
theorem spec_MirrorLadders (a b c : Int) (w : World) :
    Calls Tryd.prog 20 #[.agg #[.int .i64 a, .int .i64 b, .int .i64 c]] w fun e w' => e = .returned (.tuple #[.agg #[.int .i64 (Z (okL a b c) (a)), .int .i64 (Z (okL a b c) (c)), .int .i64 (Z (okL a b c) (b))], .bool (okL a b c)]) ∧ Below w.heap.size w w' := by
  cases h : okL a b c
  all_goals
    go_enter Tryd.func20, Tryd.ntmps20
    go_wp2_with (go_at_call 39; refine (spec_clGood _ _ _ _).mono ?_; rintro e w1 ⟨rfl, hb⟩; obtain ⟨hc, hf⟩ := bcell hb; have hz := bsize hb; (try simp only [World.size_alloc] at hz); (try have hz0 : w.heap.size < w1.heap.size := by omega); (try have hz1 : w.heap.size + 1 < w1.heap.size := by omega); rw [h])
    refine bodyPost_ret (v := .tuple #[.agg #[.int .i64 (Z (okL a b c) (a)), .int .i64 (Z (okL a b c) (c)), .int .i64 (Z (okL a b c) (b))], .bool (okL a b c)]) (by simp [results, Tryd.results20, go_sem, Z, *]) rfl ⟨by rw [h], (by repeat (first | exact Below.refl _ _ | refine bl_alloc ?_ _ | refine bl_drewN ?_ _ | refine bl_trans (by assumption) ?_ | refine bl_set ?_ (by first | omega | (simp; done) | (simp; omega)) _))⟩

end Go.Proofs.YtohlbnfncllhoaaDoor
