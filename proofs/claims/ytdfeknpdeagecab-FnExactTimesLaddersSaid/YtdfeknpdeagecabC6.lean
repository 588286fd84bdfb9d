/- Contracts of the functions of chapter 1 that return ladders. -/
import Derived.Test.YtdfeknpdeagecabC5
namespace Go.Proofs.Ytdfeknpdeagecab
open Go.RowKit

theorem okM_of {a b c d : Int} (h : okL a b c = true) (g : within d (-1000) 1000 = true) : okL (a + d) b c = okM a b c d := by
  have h' := h
  simp only [okL, Bool.and_eq_true] at h'
  simp [okM, okL, h'.1.1, h'.1.2, h'.2, g]
set_option maxHeartbeats 400000 in
theorem impl_MoveWall (a b c d : Int) (w : World) :
    Calls Try.prog 36 #[.agg #[.int .i64 a, .int .i64 b, .int .i64 c], .int .i64 d] w fun e w' => e = .returned (.tuple #[.agg #[.int .i64 (Z (okM a b c d) (a + d)), .int .i64 (Z (okM a b c d) (b)), .int .i64 (Z (okM a b c d) (c))], .bool (okM a b c d)]) ∧ Below w.heap.size w w' := by
  cases h : okL a b c
  · have K : okM a b c d = false := by simp [okM, h]
    go_enter Try.func36, Try.ntmps36
    go_wp2_with (first | (go_at_call 51; refine (impl_AreLadders _ _ _ _).mono ?_; rintro e w1 ⟨rfl, hb⟩; obtain ⟨hc, hf⟩ := bcell hb; have hz := bsize hb; (try simp only [World.size_alloc] at hz); (try have hz0 : w.heap.size < w1.heap.size := by omega); (try have hz1 : w.heap.size + 1 < w1.heap.size := by omega); rw [h]) | (go_at_call 43; refine (isWithin_any _ _ _ _).mono ?_; rintro e w' ⟨rfl, rfl⟩))
    refine bodyPost_ret (v := .tuple #[.agg #[.int .i64 (Z (okM a b c d) (a + d)), .int .i64 (Z (okM a b c d) (b)), .int .i64 (Z (okM a b c d) (c))], .bool (okM a b c d)]) (by simp [results, Try.results36, go_sem, Z, *]) rfl ⟨by simp [Z, K], (by repeat (first | exact Below.refl _ _ | refine bl_alloc ?_ _ | refine bl_drewN ?_ _ | refine bl_trans (by assumption) ?_ | refine bl_set ?_ (by first | omega | (simp; done) | (simp; omega)) _))⟩
  cases g : within d (-1000) 1000
  · have K : okM a b c d = false := by simp [okM, g]
    go_enter Try.func36, Try.ntmps36
    go_wp2_with (first | (go_at_call 51; refine (impl_AreLadders _ _ _ _).mono ?_; rintro e w1 ⟨rfl, hb⟩; obtain ⟨hc, hf⟩ := bcell hb; have hz := bsize hb; (try simp only [World.size_alloc] at hz); (try have hz0 : w.heap.size < w1.heap.size := by omega); (try have hz1 : w.heap.size + 1 < w1.heap.size := by omega); rw [h]) | (go_at_call 43; refine (isWithin_any _ _ _ _).mono ?_; rintro e w' ⟨rfl, rfl⟩))
    refine bodyPost_ret (v := .tuple #[.agg #[.int .i64 (Z (okM a b c d) (a + d)), .int .i64 (Z (okM a b c d) (b)), .int .i64 (Z (okM a b c d) (c))], .bool (okM a b c d)]) (by simp [results, Try.results36, go_sem, Z, *]) rfl ⟨by simp [Z, K], (by repeat (first | exact Below.refl _ _ | refine bl_alloc ?_ _ | refine bl_drewN ?_ _ | refine bl_trans (by assumption) ?_ | refine bl_set ?_ (by first | omega | (simp; done) | (simp; omega)) _))⟩
  obtain ⟨⟨a0, a1⟩, ⟨b0, b1⟩, c0, c1⟩ := okL_true h
  obtain ⟨d0, d1⟩ := within_true g
  have K := Lib.hid (okM_of h g)
  go_enter Try.func36, Try.ntmps36
  go_wp2_with (first | (go_at_call 51; refine (impl_AreLadders _ _ _ _).mono ?_; rintro e w1 ⟨rfl, hb⟩; obtain ⟨hc, hf⟩ := bcell hb; have hz := bsize hb; (try simp only [World.size_alloc] at hz); (try have hz0 : w.heap.size < w1.heap.size := by omega); (try have hz1 : w.heap.size + 1 < w1.heap.size := by omega); rw [h]) | (go_at_call 43; refine (isWithin_any _ _ _ _).mono ?_; rintro e w' ⟨rfl, rfl⟩) | (go_at_call 58; refine (onlyLadders_any _ _ _ _).mono ?_; rintro e w1 ⟨rfl, hb⟩; obtain ⟨hc, hf⟩ := bcell hb; have hz := bsize hb; (try simp only [World.size_alloc] at hz); (try have hz0 : w.heap.size < w1.heap.size := by omega); (try have hz1 : w.heap.size + 1 < w1.heap.size := by omega); rw [K.out]))
  refine bodyPost_ret (v := .tuple #[.agg #[.int .i64 (Z (okM a b c d) (a + d)), .int .i64 (Z (okM a b c d) (b)), .int .i64 (Z (okM a b c d) (c))], .bool (okM a b c d)]) (by simp [results, Try.results36, go_sem, *]) rfl ⟨rfl, (by repeat (first | exact Below.refl _ _ | refine bl_alloc ?_ _ | refine bl_drewN ?_ _ | refine bl_trans (by assumption) ?_ | refine bl_set ?_ (by first | omega | (simp; done) | (simp; omega)) _))⟩
set_option maxHeartbeats 400000 in
theorem spec_MoveWall (a b c d : Int) (w : World) :
    Calls Try.prog 35 #[.agg #[.int .i64 a, .int .i64 b, .int .i64 c], .int .i64 d] w fun e w' => e = .returned (.tuple #[.agg #[.int .i64 (Z (okM a b c d) (a + d)), .int .i64 (Z (okM a b c d) (b)), .int .i64 (Z (okM a b c d) (c))], .bool (okM a b c d)]) ∧ Below w.heap.size w w' := by
  cases h : okL a b c
  · have K : okM a b c d = false := by simp [okM, h]
    go_enter Try.func35, Try.ntmps35
    go_wp2_with (first | (go_at_call 49; refine (spec_clGood _ _ _ _).mono ?_; rintro e w1 ⟨rfl, hb⟩; obtain ⟨hc, hf⟩ := bcell hb; have hz := bsize hb; (try simp only [World.size_alloc] at hz); (try have hz0 : w.heap.size < w1.heap.size := by omega); (try have hz1 : w.heap.size + 1 < w1.heap.size := by omega); rw [h]) | (go_at_call 41; refine (l1In_any _ _ _ _).mono ?_; rintro e w' ⟨rfl, rfl⟩))
    refine bodyPost_ret (v := .tuple #[.agg #[.int .i64 (Z (okM a b c d) (a + d)), .int .i64 (Z (okM a b c d) (b)), .int .i64 (Z (okM a b c d) (c))], .bool (okM a b c d)]) (by simp [results, Try.results35, go_sem, Z, *]) rfl ⟨by simp [Z, K], (by repeat (first | exact Below.refl _ _ | refine bl_alloc ?_ _ | refine bl_drewN ?_ _ | refine bl_trans (by assumption) ?_ | refine bl_set ?_ (by first | omega | (simp; done) | (simp; omega)) _))⟩
  cases g : within d (-1000) 1000
  · have K : okM a b c d = false := by simp [okM, g]
    go_enter Try.func35, Try.ntmps35
    go_wp2_with (first | (go_at_call 49; refine (spec_clGood _ _ _ _).mono ?_; rintro e w1 ⟨rfl, hb⟩; obtain ⟨hc, hf⟩ := bcell hb; have hz := bsize hb; (try simp only [World.size_alloc] at hz); (try have hz0 : w.heap.size < w1.heap.size := by omega); (try have hz1 : w.heap.size + 1 < w1.heap.size := by omega); rw [h]) | (go_at_call 41; refine (l1In_any _ _ _ _).mono ?_; rintro e w' ⟨rfl, rfl⟩))
    refine bodyPost_ret (v := .tuple #[.agg #[.int .i64 (Z (okM a b c d) (a + d)), .int .i64 (Z (okM a b c d) (b)), .int .i64 (Z (okM a b c d) (c))], .bool (okM a b c d)]) (by simp [results, Try.results35, go_sem, Z, *]) rfl ⟨by simp [Z, K], (by repeat (first | exact Below.refl _ _ | refine bl_alloc ?_ _ | refine bl_drewN ?_ _ | refine bl_trans (by assumption) ?_ | refine bl_set ?_ (by first | omega | (simp; done) | (simp; omega)) _))⟩
  obtain ⟨⟨a0, a1⟩, ⟨b0, b1⟩, c0, c1⟩ := okL_true h
  obtain ⟨d0, d1⟩ := within_true g
  cases g' : within (a + d) 1 1000
  all_goals
    have K : okM a b c d = within (a + d) 1 1000 := by simp [okM, h, g]
    rw [g'] at K
    go_enter Try.func35, Try.ntmps35
    go_wp2_with (first | (go_at_call 49; refine (spec_clGood _ _ _ _).mono ?_; rintro e w1 ⟨rfl, hb⟩; obtain ⟨hc, hf⟩ := bcell hb; have hz := bsize hb; (try simp only [World.size_alloc] at hz); (try have hz0 : w.heap.size < w1.heap.size := by omega); (try have hz1 : w.heap.size + 1 < w1.heap.size := by omega); rw [h]) | (go_at_call 41; refine (l1In_any _ _ _ _).mono ?_; rintro e w' ⟨rfl, rfl⟩))
    refine bodyPost_ret (v := .tuple #[.agg #[.int .i64 (Z (okM a b c d) (a + d)), .int .i64 (Z (okM a b c d) (b)), .int .i64 (Z (okM a b c d) (c))], .bool (okM a b c d)]) (by simp [results, Try.results35, go_sem, Z, *]) rfl ⟨by simp [Z, K], (by repeat (first | exact Below.refl _ _ | refine bl_alloc ?_ _ | refine bl_drewN ?_ _ | refine bl_trans (by assumption) ?_ | refine bl_set ?_ (by first | omega | (simp; done) | (simp; omega)) _))⟩
def okT (a b c d : Int) : Bool := (okL a b c && within d 1 1000) && okL (a * d) (b * d) (c * d)
set_option maxHeartbeats 400000 in
theorem impl_TimesLadders (a b c d : Int) (w : World) :
    Calls Try.prog 38 #[.agg #[.int .i64 a, .int .i64 b, .int .i64 c], .int .i64 d] w fun e w' => e = .returned (.tuple #[.agg #[.int .i64 (Z (okT a b c d) (a * d)), .int .i64 (Z (okT a b c d) (b * d)), .int .i64 (Z (okT a b c d) (c * d))], .bool (okT a b c d)]) ∧ Below w.heap.size w w' := by
  cases h : okL a b c
  · have K : okT a b c d = false := by simp [okT, h]
    go_enter Try.func38, Try.ntmps38
    go_wp2_with (first | (go_at_call 51; refine (impl_AreLadders _ _ _ _).mono ?_; rintro e w1 ⟨rfl, hb⟩; obtain ⟨hc, hf⟩ := bcell hb; have hz := bsize hb; (try simp only [World.size_alloc] at hz); (try have hz0 : w.heap.size < w1.heap.size := by omega); (try have hz1 : w.heap.size + 1 < w1.heap.size := by omega); rw [h]) | (go_at_call 43; refine (isWithin_any _ _ _ _).mono ?_; rintro e w' ⟨rfl, rfl⟩))
    refine bodyPost_ret (v := .tuple #[.agg #[.int .i64 (Z (okT a b c d) (a * d)), .int .i64 (Z (okT a b c d) (b * d)), .int .i64 (Z (okT a b c d) (c * d))], .bool (okT a b c d)]) (by simp [results, Try.results38, go_sem, Z, *]) rfl ⟨by simp [Z, K], (by repeat (first | exact Below.refl _ _ | refine bl_alloc ?_ _ | refine bl_drewN ?_ _ | refine bl_trans (by assumption) ?_ | refine bl_set ?_ (by first | omega | (simp; done) | (simp; omega)) _))⟩
  cases g : within d 1 1000
  · have K : okT a b c d = false := by simp [okT, g]
    go_enter Try.func38, Try.ntmps38
    go_wp2_with (first | (go_at_call 51; refine (impl_AreLadders _ _ _ _).mono ?_; rintro e w1 ⟨rfl, hb⟩; obtain ⟨hc, hf⟩ := bcell hb; have hz := bsize hb; (try simp only [World.size_alloc] at hz); (try have hz0 : w.heap.size < w1.heap.size := by omega); (try have hz1 : w.heap.size + 1 < w1.heap.size := by omega); rw [h]) | (go_at_call 43; refine (isWithin_any _ _ _ _).mono ?_; rintro e w' ⟨rfl, rfl⟩))
    refine bodyPost_ret (v := .tuple #[.agg #[.int .i64 (Z (okT a b c d) (a * d)), .int .i64 (Z (okT a b c d) (b * d)), .int .i64 (Z (okT a b c d) (c * d))], .bool (okT a b c d)]) (by simp [results, Try.results38, go_sem, Z, *]) rfl ⟨by simp [Z, K], (by repeat (first | exact Below.refl _ _ | refine bl_alloc ?_ _ | refine bl_drewN ?_ _ | refine bl_trans (by assumption) ?_ | refine bl_set ?_ (by first | omega | (simp; done) | (simp; omega)) _))⟩
  obtain ⟨⟨a0, a1⟩, ⟨b0, b1⟩, c0, c1⟩ := okL_true h
  obtain ⟨d0, d1⟩ := within_true g
  obtain ⟨m1, m2⟩ := mul_bd2 (a := a) (b := d) (m := 1000) (k := 1000) (by omega) (by omega) (by omega) (by omega)
  obtain ⟨m3, m4⟩ := mul_bd2 (a := b) (b := d) (m := 1000) (k := 1000) (by omega) (by omega) (by omega) (by omega)
  obtain ⟨m5, m6⟩ := mul_bd2 (a := c) (b := d) (m := 1000) (k := 1000) (by omega) (by omega) (by omega) (by omega)
  have K : okT a b c d = okL (a * d) (b * d) (c * d) := by simp [okT, h, g]
  have K' := Lib.hid K
  clear K
  go_enter Try.func38, Try.ntmps38
  go_wp2_with (first | (go_at_call 51; refine (impl_AreLadders _ _ _ _).mono ?_; rintro e w1 ⟨rfl, hb⟩; obtain ⟨hc, hf⟩ := bcell hb; have hz := bsize hb; (try simp only [World.size_alloc] at hz); (try have hz0 : w.heap.size < w1.heap.size := by omega); (try have hz1 : w.heap.size + 1 < w1.heap.size := by omega); rw [h]) | (go_at_call 43; refine (isWithin_any _ _ _ _).mono ?_; rintro e w' ⟨rfl, rfl⟩) | (go_at_call 58; refine (onlyLadders_any _ _ _ _).mono ?_; rintro e w1 ⟨rfl, hb⟩; obtain ⟨hc, hf⟩ := bcell hb; have hz := bsize hb; (try simp only [World.size_alloc] at hz); (try have hz0 : w.heap.size < w1.heap.size := by omega); (try have hz1 : w.heap.size + 1 < w1.heap.size := by omega); rw [← K'.out]))
  refine bodyPost_ret (v := .tuple #[.agg #[.int .i64 (Z (okT a b c d) (a * d)), .int .i64 (Z (okT a b c d) (b * d)), .int .i64 (Z (okT a b c d) (c * d))], .bool (okT a b c d)]) (by simp [results, Try.results38, go_sem, *]) rfl ⟨rfl, (by repeat (first | exact Below.refl _ _ | refine bl_alloc ?_ _ | refine bl_drewN ?_ _ | refine bl_trans (by assumption) ?_ | refine bl_set ?_ (by first | omega | (simp; done) | (simp; omega)) _))⟩
set_option maxHeartbeats 400000 in
theorem spec_TimesLadders (a b c d : Int) (w : World) :
    Calls Try.prog 37 #[.agg #[.int .i64 a, .int .i64 b, .int .i64 c], .int .i64 d] w fun e w' => e = .returned (.tuple #[.agg #[.int .i64 (Z (okT a b c d) (a * d)), .int .i64 (Z (okT a b c d) (b * d)), .int .i64 (Z (okT a b c d) (c * d))], .bool (okT a b c d)]) ∧ Below w.heap.size w w' := by
  cases h : okL a b c
  · have K : okT a b c d = false := by simp [okT, h]
    go_enter Try.func37, Try.ntmps37
    go_wp2_with (first | (go_at_call 49; refine (spec_clGood _ _ _ _).mono ?_; rintro e w1 ⟨rfl, hb⟩; obtain ⟨hc, hf⟩ := bcell hb; have hz := bsize hb; (try simp only [World.size_alloc] at hz); (try have hz0 : w.heap.size < w1.heap.size := by omega); (try have hz1 : w.heap.size + 1 < w1.heap.size := by omega); rw [h]) | (go_at_call 41; refine (l1In_any _ _ _ _).mono ?_; rintro e w' ⟨rfl, rfl⟩))
    refine bodyPost_ret (v := .tuple #[.agg #[.int .i64 (Z (okT a b c d) (a * d)), .int .i64 (Z (okT a b c d) (b * d)), .int .i64 (Z (okT a b c d) (c * d))], .bool (okT a b c d)]) (by simp [results, Try.results37, go_sem, Z, *]) rfl ⟨by simp [Z, K], (by repeat (first | exact Below.refl _ _ | refine bl_alloc ?_ _ | refine bl_drewN ?_ _ | refine bl_trans (by assumption) ?_ | refine bl_set ?_ (by first | omega | (simp; done) | (simp; omega)) _))⟩
  cases g : within d 1 1000
  · have K : okT a b c d = false := by simp [okT, g]
    go_enter Try.func37, Try.ntmps37
    go_wp2_with (first | (go_at_call 49; refine (spec_clGood _ _ _ _).mono ?_; rintro e w1 ⟨rfl, hb⟩; obtain ⟨hc, hf⟩ := bcell hb; have hz := bsize hb; (try simp only [World.size_alloc] at hz); (try have hz0 : w.heap.size < w1.heap.size := by omega); (try have hz1 : w.heap.size + 1 < w1.heap.size := by omega); rw [h]) | (go_at_call 41; refine (l1In_any _ _ _ _).mono ?_; rintro e w' ⟨rfl, rfl⟩))
    refine bodyPost_ret (v := .tuple #[.agg #[.int .i64 (Z (okT a b c d) (a * d)), .int .i64 (Z (okT a b c d) (b * d)), .int .i64 (Z (okT a b c d) (c * d))], .bool (okT a b c d)]) (by simp [results, Try.results37, go_sem, Z, *]) rfl ⟨by simp [Z, K], (by repeat (first | exact Below.refl _ _ | refine bl_alloc ?_ _ | refine bl_drewN ?_ _ | refine bl_trans (by assumption) ?_ | refine bl_set ?_ (by first | omega | (simp; done) | (simp; omega)) _))⟩
  obtain ⟨⟨a0, a1⟩, ⟨b0, b1⟩, c0, c1⟩ := okL_true h
  obtain ⟨d0, d1⟩ := within_true g
  obtain ⟨m1, m2⟩ := mul_bd2 (a := a) (b := d) (m := 1000) (k := 1000) (by omega) (by omega) (by omega) (by omega)
  obtain ⟨m3, m4⟩ := mul_bd2 (a := b) (b := d) (m := 1000) (k := 1000) (by omega) (by omega) (by omega) (by omega)
  obtain ⟨m5, m6⟩ := mul_bd2 (a := c) (b := d) (m := 1000) (k := 1000) (by omega) (by omega) (by omega) (by omega)
  have K : okT a b c d = okL (a * d) (b * d) (c * d) := by simp [okT, h, g]
  cases k : okL (a * d) (b * d) (c * d)
  all_goals
    rw [k] at K
    go_enter Try.func37, Try.ntmps37
    go_wp2_with fail
    refine (spec_clGood _ _ _ _).mono ?_
    rintro e w1 ⟨rfl, hb⟩
    obtain ⟨hc, hf⟩ := bcell hb
    have hz := bsize hb
    simp only [World.size_alloc] at hz
    have hz0 : w.heap.size < w1.heap.size := by omega
    have hz1 : w.heap.size + 1 < w1.heap.size := by omega
    rw [h]
    go_wp2_with (go_at_call 41; refine (l1In_any _ _ _ _).mono ?_; rintro e w' ⟨rfl, rfl⟩)
    refine (spec_clGood _ _ _ _).mono ?_
    rintro e w2 ⟨rfl, hb2⟩
    obtain ⟨hc2, hf2⟩ := bcell hb2
    have hz2 := bsize hb2
    simp only [World.size_alloc] at hz2
    have hy0 : w.heap.size < w2.heap.size := by omega
    have hy1 : w.heap.size + 1 < w2.heap.size := by omega
    have hy2 : w1.heap.size < w2.heap.size := by omega
    rw [k]
    go_wp2
    refine bodyPost_ret (v := .tuple #[.agg #[.int .i64 (Z (okT a b c d) (a * d)), .int .i64 (Z (okT a b c d) (b * d)), .int .i64 (Z (okT a b c d) (c * d))], .bool (okT a b c d)]) (by simp [results, Try.results37, go_sem, Z, *]) rfl ⟨by simp [Z, K], (by repeat (first | exact Below.refl _ _ | refine bl_alloc ?_ _ | refine bl_drewN ?_ _ | refine bl_trans (by assumption) ?_ | refine bl_set ?_ (by first | omega | (simp; done) | (simp; omega)) _))⟩
set_option maxHeartbeats 400000 in
theorem impl_MirrorLadders (a b c : Int) (w : World) :
    Calls Try.prog 40 #[.agg #[.int .i64 a, .int .i64 b, .int .i64 c]] w fun e w' => e = .returned (.tuple #[.agg #[.int .i64 (Z (okL a b c) (a)), .int .i64 (Z (okL a b c) (c)), .int .i64 (Z (okL a b c) (b))], .bool (okL a b c)]) ∧ Below w.heap.size w w' := by
  have K := Lib.hid (show okL a c b = okL a b c by simp only [okL]; cases within a 1 1000 <;> cases within b 1 1000 <;> cases within c 1 1000 <;> rfl)
  go_enter Try.func40, Try.ntmps40
  go_wp2_with (go_at_call 58; refine (onlyLadders_any _ _ _ _).mono ?_; rintro e w1 ⟨rfl, hb⟩; obtain ⟨hc, hf⟩ := bcell hb; have hz := bsize hb; (try simp only [World.size_alloc] at hz); (try have hz0 : w.heap.size < w1.heap.size := by omega); (try have hz1 : w.heap.size + 1 < w1.heap.size := by omega); rw [K.out])
  refine bodyPost_ret (v := .tuple #[.agg #[.int .i64 (Z (okL a b c) (a)), .int .i64 (Z (okL a b c) (c)), .int .i64 (Z (okL a b c) (b))], .bool (okL a b c)]) (by simp [results, Try.results40, go_sem, *]) rfl ⟨rfl, (by repeat (first | exact Below.refl _ _ | refine bl_alloc ?_ _ | refine bl_drewN ?_ _ | refine bl_trans (by assumption) ?_ | refine bl_set ?_ (by first | omega | (simp; done) | (simp; omega)) _))⟩
set_option maxHeartbeats 400000 in
theorem spec_MirrorLadders (a b c : Int) (w : World) :
    Calls Try.prog 39 #[.agg #[.int .i64 a, .int .i64 b, .int .i64 c]] w fun e w' => e = .returned (.tuple #[.agg #[.int .i64 (Z (okL a b c) (a)), .int .i64 (Z (okL a b c) (c)), .int .i64 (Z (okL a b c) (b))], .bool (okL a b c)]) ∧ Below w.heap.size w w' := by
  cases h : okL a b c
  all_goals
    go_enter Try.func39, Try.ntmps39
    go_wp2_with (go_at_call 49; refine (spec_clGood _ _ _ _).mono ?_; rintro e w1 ⟨rfl, hb⟩; obtain ⟨hc, hf⟩ := bcell hb; have hz := bsize hb; (try simp only [World.size_alloc] at hz); (try have hz0 : w.heap.size < w1.heap.size := by omega); (try have hz1 : w.heap.size + 1 < w1.heap.size := by omega); rw [h])
    refine bodyPost_ret (v := .tuple #[.agg #[.int .i64 (Z (okL a b c) (a)), .int .i64 (Z (okL a b c) (c)), .int .i64 (Z (okL a b c) (b))], .bool (okL a b c)]) (by simp [results, Try.results39, go_sem, Z, *]) rfl ⟨by rw [h], (by repeat (first | exact Below.refl _ _ | refine bl_alloc ?_ _ | refine bl_drewN ?_ _ | refine bl_trans (by assumption) ?_ | refine bl_set ?_ (by first | omega | (simp; done) | (simp; omega)) _))⟩
def cwB (b c : Int) : Bool := b * c % (b + c) == 0
def okC (a b c : Int) : Bool := okL a b c && (whole (sq a b) && whole (sq a c)) && cwB b c
set_option maxHeartbeats 400000 in
theorem crossWhole_any (b c : Int) (hb : 0 ≤ b) (hb' : b ≤ 1000000) (hc : 1 ≤ c) (hc' : c ≤ 1000000) (w : World) :
    Calls Try.prog 53 #[.int .i64 b, .int .i64 c] w fun e w' => e = .returned (.bool (cwB b c)) ∧ w = w' := by
  obtain ⟨f1, f2⟩ := mul_bd (a := b) (b := c) (by omega) (by omega) hb' hc'
  go_enter Try.func53, Try.ntmps53
  go_wp2
  go_ret
  exact ⟨rfl, rfl⟩
set_option maxHeartbeats 400000 in
theorem impl_IsWholeCrossing (a b c : Int) (w : World) :
    Calls Try.prog 24 #[.agg #[.int .i64 a, .int .i64 b, .int .i64 c]] w fun e w' => e = .returned (.tuple #[.bool (okC a b c), .bool (okL a b c)]) ∧ Below w.heap.size w w' := by
  cases h : okL a b c
  · go_enter Try.func24, Try.ntmps24
    go_wp2_with (go_at_call 51; refine (impl_AreLadders _ _ _ _).mono ?_; rintro e w1 ⟨rfl, hb⟩; obtain ⟨hc, hf⟩ := bcell hb; have hz := bsize hb; (try simp only [World.size_alloc] at hz); (try have hz0 : w.heap.size < w1.heap.size := by omega); rw [h])
    go_ret2
    exact ⟨by simp [okC, h], (by repeat (first | exact Below.refl _ _ | refine bl_alloc ?_ _ | refine bl_drewN ?_ _ | refine bl_trans (by assumption) ?_ | refine bl_set ?_ (by first | omega | (simp; done) | (simp; omega)) _))⟩
  obtain ⟨⟨a0, a1⟩, ⟨b0, b1⟩, c0, c1⟩ := okL_true h
  have K := Lib.hid (show okC a b c = (okW a b c && cwB b c) by simp [okC, okW])
  cases g : okW a b c
  all_goals
    go_enter Try.func24, Try.ntmps24
    go_wp2_with (first | (go_at_call 51; refine (impl_AreLadders _ _ _ _).mono ?_; rintro e w1 ⟨rfl, hb⟩; obtain ⟨hc, hf⟩ := bcell hb; have hz := bsize hb; (try simp only [World.size_alloc] at hz); (try have hz0 : w.heap.size < w1.heap.size := by omega); rw [h]) | (go_at_call 52; refine (impl_LengthsOf _ _ _ _).mono ?_; rintro e w1 ⟨rfl, hb⟩; obtain ⟨hc, hf⟩ := bcell hb; have hz := bsize hb; (try simp only [World.size_alloc] at hz); (try have hz0 : w.heap.size < w1.heap.size := by omega); rw [g]) | (go_at_call 53; refine (crossWhole_any _ _ (by omega) (by omega) (by omega) (by omega) _).mono ?_; rintro e w' ⟨rfl, rfl⟩))
    go_ret2
    exact ⟨by rw [K.out, g]; simp, (by repeat (first | exact Below.refl _ _ | refine bl_alloc ?_ _ | refine bl_drewN ?_ _ | refine bl_trans (by assumption) ?_ | refine bl_set ?_ (by first | omega | (simp; done) | (simp; omega)) _))⟩
set_option maxHeartbeats 400000 in
theorem clWhole_any (a b c : Int) (h : okL a b c = true) (w : World) :
    Calls Try.prog 50 #[.agg #[.int .i64 a, .int .i64 b, .int .i64 c]] w fun e w' => e = .returned (.bool (okC a b c)) ∧ Below w.heap.size w w' := by
  obtain ⟨⟨a0, a1⟩, ⟨b0, b1⟩, c0, c1⟩ := okL_true h
  obtain ⟨f1, f2⟩ := mul_bd (a := b) (b := c) (by omega) (by omega) b1 c1
  have K := Lib.hid (show okC a b c = ((whole (sq a b) && whole (sq a c)) && (b * c % (b + c) == 0)) by simp [okC, h, cwB])
  cases g : (whole (sq a b) && whole (sq a c))
  all_goals
    go_enter Try.func50, Try.ntmps50
    go_wp2_with (go_at_call 60; refine (clLengths_any _ _ _ h _).mono ?_; rintro e w1 ⟨rfl, hb⟩; obtain ⟨hc, hf⟩ := bcell hb; have hz := bsize hb; (try simp only [World.size_alloc] at hz); (try have hz0 : w.heap.size < w1.heap.size := by omega); rw [g])
    go_ret
    exact ⟨by rw [K.out, g]; simp, (by repeat (first | exact Below.refl _ _ | refine bl_alloc ?_ _ | refine bl_drewN ?_ _ | refine bl_trans (by assumption) ?_ | refine bl_set ?_ (by first | omega | (simp; done) | (simp; omega)) _))⟩
set_option maxHeartbeats 400000 in
theorem spec_IsWholeCrossing (a b c : Int) (w : World) :
    Calls Try.prog 22 #[.agg #[.int .i64 a, .int .i64 b, .int .i64 c]] w fun e w' => e = .returned (.tuple #[.bool (okC a b c), .bool (okL a b c)]) ∧ Below w.heap.size w w' := by
  cases h : okL a b c
  · go_enter Try.func22, Try.ntmps22
    go_wp2_with (go_at_call 49; refine (spec_clGood _ _ _ _).mono ?_; rintro e w1 ⟨rfl, hb⟩; obtain ⟨hc, hf⟩ := bcell hb; have hz := bsize hb; (try simp only [World.size_alloc] at hz); (try have hz0 : w.heap.size < w1.heap.size := by omega); rw [h])
    go_ret2
    exact ⟨by simp [okC, h], (by repeat (first | exact Below.refl _ _ | refine bl_alloc ?_ _ | refine bl_drewN ?_ _ | refine bl_trans (by assumption) ?_ | refine bl_set ?_ (by first | omega | (simp; done) | (simp; omega)) _))⟩
  · go_enter Try.func22, Try.ntmps22
    go_wp2_with (first | (go_at_call 49; refine (spec_clGood _ _ _ _).mono ?_; rintro e w1 ⟨rfl, hb⟩; obtain ⟨hc, hf⟩ := bcell hb; have hz := bsize hb; (try simp only [World.size_alloc] at hz); (try have hz0 : w.heap.size < w1.heap.size := by omega); rw [h]) | (go_at_call 50; refine (clWhole_any _ _ _ h _).mono ?_; rintro e w1 ⟨rfl, hb⟩; obtain ⟨hc, hf⟩ := bcell hb; have hz := bsize hb; (try simp only [World.size_alloc] at hz); (try have hz0 : w.heap.size < w1.heap.size := by omega)))
    go_ret2
    exact ⟨rfl, (by repeat (first | exact Below.refl _ _ | refine bl_alloc ?_ _ | refine bl_drewN ?_ _ | refine bl_trans (by assumption) ?_ | refine bl_set ?_ (by first | omega | (simp; done) | (simp; omega)) _))⟩
set_option maxHeartbeats 400000 in
theorem eqLadders_any (a b c : Int) (w : World) :
    Calls Try.prog 32 #[.agg #[.int .i64 a, .int .i64 b, .int .i64 c], .agg #[.int .i64 a, .int .i64 b, .int .i64 c]] w fun e w' => e = .returned (.bool true) ∧ Below w.heap.size w w' := by
  go_enter Try.func32, Try.ntmps32
  go_wp2
  go_ret
  exact ⟨rfl, (by repeat (first | exact Below.refl _ _ | refine bl_alloc ?_ _ | refine bl_drewN ?_ _ | refine bl_trans (by assumption) ?_ | refine bl_set ?_ (by first | omega | (simp; done) | (simp; omega)) _))⟩

end Go.Proofs.Ytdfeknpdeagecab
