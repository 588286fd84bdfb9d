/- Contracts of the functions of chapter 2 that hold two poles against each other. -/
import Derived.Test.YtcmoilacjpldbaaS1
namespace Go.Proofs.Ytcmoilacjpldbaa
open Go.RowKit

def CL4 (w w' : World) (a b c d : Int) : Prop := w'.cell? ⟨w.heap.size, 0, none⟩ = some (.int .i64 a) ∧ w'.cell? ⟨w.heap.size, 1, none⟩ = some (.int .i64 b) ∧ w'.cell? ⟨w.heap.size + 1, 0, none⟩ = some (.int .i64 c) ∧ w'.cell? ⟨w.heap.size + 1, 1, none⟩ = some (.int .i64 d) ∧ w.heap.size + 1 < w'.heap.size ∧ Below w.heap.size w w'
theorem S4_after {w u v : World} {x y z t : Value} (hb : Below u.heap.size u v) (h : u.cell? ⟨w.heap.size, 0, none⟩ = some x ∧ u.cell? ⟨w.heap.size, 1, none⟩ = some y ∧ u.cell? ⟨w.heap.size + 1, 0, none⟩ = some z ∧ u.cell? ⟨w.heap.size + 1, 1, none⟩ = some t ∧ w.heap.size + 1 < u.heap.size ∧ Below w.heap.size w u) :
    v.cell? ⟨w.heap.size, 0, none⟩ = some x ∧ v.cell? ⟨w.heap.size, 1, none⟩ = some y ∧ v.cell? ⟨w.heap.size + 1, 0, none⟩ = some z ∧ v.cell? ⟨w.heap.size + 1, 1, none⟩ = some t ∧ w.heap.size + 1 < v.heap.size ∧ Below w.heap.size w v :=
  ⟨cell_after hb (by omega) h.1, cell_after hb (by omega) h.2.1, cell_after hb (by omega) h.2.2.1, cell_after hb (by omega) h.2.2.2.1, size_after hb h.2.2.2.2.1, bl_trans hb h.2.2.2.2.2⟩
set_option maxHeartbeats 400000 in
theorem hides_any (l a b c d : Int) (h : okB l a b = true) (g : okB l c d = true) (w : World) :
    Calls Try.prog 75 #[.int .i64 l, .agg #[.int .i64 a, .int .i64 b], .agg #[.int .i64 c, .int .i64 d]] w fun e w' => e = .returned (.bool (hid_ l a b c d)) ∧ Below w.heap.size w w' := by
  obtain ⟨⟨l0, l1⟩, ⟨a0, a1⟩, ⟨b0, b1⟩, b2⟩ := okB_true h
  obtain ⟨_, ⟨c0, c1⟩, ⟨d0, d1⟩, d2⟩ := okB_true g
  obtain ⟨f1, f2⟩ := mul_bd (a := d) (b := a) (m := 500) (by omega) (by omega) (by omega) (by omega)
  obtain ⟨_, _, f5, f6⟩ := line_bd (x := c) h (by omega) (by omega)
  have HB := Lib.hid h
  have WR := Lib.hid (show IntKind.i64.wrap (d * a) = d * a from IntWalk.i64_in _ (by omega))
  by_cases m : a < c
  · have MM := Lib.hid m
    by_cases n : d * a ≤ line l a b c
    all_goals
      have NN := Lib.hid n
      go_enter Try.func75, Try.ntmps75
      go_wp2_with fail
      have hS : CL4 w ((w.alloc (.cells #[.int .i64 a, .int .i64 b] 26)).alloc (.cells #[.int .i64 c, .int .i64 d] 26)) a b c d := ⟨by simp, by simp, by simp, by simp, by simp, (by repeat (first | exact Below.refl _ _ | refine bl_alloc ?_ _ | refine bl_drewN ?_ _ | refine bl_trans (by assumption) ?_ | refine bl_set ?_ (by first | omega | (simp; done) | (simp; omega)) _))⟩
      unfold CL4 at hS
      go_region_held3 (fun w' => w'.cell? ⟨w.heap.size, 0, none⟩ = some (.int .i64 a) ∧ w'.cell? ⟨w.heap.size, 1, none⟩ = some (.int .i64 b) ∧ w'.cell? ⟨w.heap.size + 1, 0, none⟩ = some (.int .i64 c) ∧ w'.cell? ⟨w.heap.size + 1, 1, none⟩ = some (.int .i64 d) ∧ w.heap.size + 1 < w'.heap.size ∧ Below w.heap.size w w') (first | exact S4_after hb2 (by assumption) | exact S4_after (below_drewN (Below.refl _ _) _) (by assumption) | exact S4_after (Below.drew (Below.refl _ _)) (by assumption) | assumption) (first | (go_at_call 69; refine (lineTimesPlace_any _ _ _ _ HB.out (by omega) (by omega) _).mono ?_; rintro e w2 ⟨rfl, hb2⟩) | fail)
      go_wp2
      go_ret
      exact ⟨by simp [hid_, MM.out, NN.out, WR.out], (by repeat (first | exact Below.refl _ _ | refine bl_alloc ?_ _ | refine bl_drewN ?_ _ | refine bl_trans (by assumption) ?_ | refine bl_set ?_ (by first | omega | (simp; done) | (simp; omega)) _))⟩
  · have EE := Lib.hid (show hid_ l a b c d = false by unfold hid_; rw [decide_eq_false m]; rfl)
    have hd : decide (a < c) = false := decide_eq_false m
    all_goals
      go_enter Try.func75, Try.ntmps75
      go_wp2_with fail
      go_quiet (fail)
      go_wp2
      go_ret
      exact ⟨by simp [EE.out], (by repeat (first | exact Below.refl _ _ | refine bl_alloc ?_ _ | refine bl_drewN ?_ _ | refine bl_trans (by assumption) ?_ | refine bl_set ?_ (by first | omega | (simp; done) | (simp; omega)) _))⟩
set_option maxHeartbeats 400000 in
theorem swHides_any (l a b c d : Int) (h : okB l a b = true) (g : okB l c d = true) (w : World) :
    Calls Try.prog 74 #[.int .i64 l, .agg #[.int .i64 a, .int .i64 b], .agg #[.int .i64 c, .int .i64 d]] w fun e w' => e = .returned (.bool (hid_ l a b c d)) ∧ Below w.heap.size w w' := by
  obtain ⟨⟨l0, l1⟩, ⟨a0, a1⟩, ⟨b0, b1⟩, b2⟩ := okB_true h
  obtain ⟨_, ⟨c0, c1⟩, ⟨d0, d1⟩, d2⟩ := okB_true g
  have hh : 0 ≤ hgt l a b c := by unfold hgt; omega
  obtain ⟨x0, x1⟩ := ld_bd hh a0
  obtain ⟨f1, f2⟩ := mul_bd (a := d) (b := ld (hgt l a b c) a) (m := 500) (by omega) (by omega) (by omega) (by omega)
  have HB := Lib.hid h
  have FH := Lib.hid (frac_hid (l := l) (b := b) (x := c) a0 d0)
  have H2 := swHeight_any l a b c h (by omega) (by omega)
  clear hh
  generalize ld (hgt l a b c) a = D at *
  generalize ln (hgt l a b c) a = N at *
  by_cases m : a < c
  · have MM := Lib.hid m
    by_cases n : d * D ≤ N
    all_goals
      have NN := Lib.hid n
      go_enter Try.func74, Try.ntmps74
      go_wp2_with (go_at_call 67; refine (H2 _).mono ?_; rintro e w1 ⟨rfl, hb⟩; obtain ⟨hc, hf⟩ := bcell hb; have hz := bsize hb; (try simp only [World.size_alloc] at hz); (have hz0 : w.heap.size < w1.heap.size := by omega); (have hz1 : w.heap.size + 1 < w1.heap.size := by omega))
      go_ret
      exact ⟨by simp [hid_, MM.out, NN.out, ← FH.out], (by repeat (first | exact Below.refl _ _ | refine bl_alloc ?_ _ | refine bl_drewN ?_ _ | refine bl_trans (by assumption) ?_ | refine bl_set ?_ (by first | omega | (simp; done) | (simp; omega)) _))⟩
  · have EE := Lib.hid (show hid_ l a b c d = false by unfold hid_; rw [decide_eq_false m]; rfl)
    go_enter Try.func74, Try.ntmps74
    go_wp2_with (go_at_call 67; refine (H2 _).mono ?_; rintro e w1 ⟨rfl, hb⟩; obtain ⟨hc, hf⟩ := bcell hb; have hz := bsize hb; (try simp only [World.size_alloc] at hz); (have hz0 : w.heap.size < w1.heap.size := by omega); (have hz1 : w.heap.size + 1 < w1.heap.size := by omega))
    go_ret
    exact ⟨by simp [EE.out], (by repeat (first | exact Below.refl _ _ | refine bl_alloc ?_ _ | refine bl_drewN ?_ _ | refine bl_trans (by assumption) ?_ | refine bl_set ?_ (by first | omega | (simp; done) | (simp; omega)) _))⟩
set_option maxHeartbeats 400000 in
theorem impl_IsHidden (l a b c d : Int) (w : World) :
    Calls Try.prog 39 #[.int .i64 l, .agg #[.int .i64 a, .int .i64 b], .agg #[.int .i64 c, .int .i64 d]] w fun e w' => e = .returned (.tuple #[.bool (IH l a b c d), .bool (okI l a b c d)]) ∧ Below w.heap.size w w' := by
  have HI := Lib.hid (show IH l a b c d = (okI l a b c d && hid_ l a b c d) from rfl)
  have HO := Lib.hid (show okI l a b c d = (okB l a b && okB l c d) from rfl)
  cases h : okB l a b
  · go_enter Try.func39, Try.ntmps39
    go_wp2_with fail
    refine (impl_isPoleOf _ _ _ _).mono ?_
    rintro e w1 ⟨rfl, hb1⟩
    obtain ⟨hc1, hf1⟩ := bcell hb1
    have hz1 := bsize hb1
    simp only [World.size_alloc] at hz1
    have z1_0 : w.heap.size < w1.heap.size := by omega
    have z1_1 : w.heap.size + 1 < w1.heap.size := by omega
    rw [h]
    go_wp2
    go_ret2
    exact ⟨by simp [HI.out, HO.out, h], (by repeat (first | exact Below.refl _ _ | refine bl_alloc ?_ _ | refine bl_drewN ?_ _ | refine bl_trans (by assumption) ?_ | refine bl_set ?_ (by first | omega | (simp; done) | (simp; omega)) _))⟩
  · cases g : okB l c d
    · go_enter Try.func39, Try.ntmps39
      go_wp2_with fail
      refine (impl_isPoleOf _ _ _ _).mono ?_
      rintro e w1 ⟨rfl, hb1⟩
      obtain ⟨hc1, hf1⟩ := bcell hb1
      have hz1 := bsize hb1
      simp only [World.size_alloc] at hz1
      have z1_0 : w.heap.size < w1.heap.size := by omega
      have z1_1 : w.heap.size + 1 < w1.heap.size := by omega
      rw [h]
      go_wp2_with fail
      refine (impl_isPoleOf _ _ _ _).mono ?_
      rintro e w2 ⟨rfl, hb2⟩
      obtain ⟨hc2, hf2⟩ := bcell hb2
      have hz2 := bsize hb2
      have z2_0 : w.heap.size < w2.heap.size := by omega
      have z2_1 : w.heap.size + 1 < w2.heap.size := by omega
      rw [g]
      go_wp2
      go_ret2
      exact ⟨by simp [HI.out, HO.out, h, g], (by repeat (first | exact Below.refl _ _ | refine bl_alloc ?_ _ | refine bl_drewN ?_ _ | refine bl_trans (by assumption) ?_ | refine bl_set ?_ (by first | omega | (simp; done) | (simp; omega)) _))⟩
    · go_enter Try.func39, Try.ntmps39
      go_wp2_with fail
      refine (impl_isPoleOf _ _ _ _).mono ?_
      rintro e w1 ⟨rfl, hb1⟩
      obtain ⟨hc1, hf1⟩ := bcell hb1
      have hz1 := bsize hb1
      simp only [World.size_alloc] at hz1
      have z1_0 : w.heap.size < w1.heap.size := by omega
      have z1_1 : w.heap.size + 1 < w1.heap.size := by omega
      rw [h]
      go_wp2_with fail
      refine (impl_isPoleOf _ _ _ _).mono ?_
      rintro e w2 ⟨rfl, hb2⟩
      obtain ⟨hc2, hf2⟩ := bcell hb2
      have hz2 := bsize hb2
      have z2_0 : w.heap.size < w2.heap.size := by omega
      have z2_1 : w.heap.size + 1 < w2.heap.size := by omega
      rw [g]
      go_wp2_with fail
      refine (hides_any _ _ _ _ _ h g _).mono ?_
      rintro e w3 ⟨rfl, hb3⟩
      obtain ⟨hc3, hf3⟩ := bcell hb3
      go_wp2
      go_ret2
      exact ⟨by simp [HI.out, HO.out, h, g], (by repeat (first | exact Below.refl _ _ | refine bl_alloc ?_ _ | refine bl_drewN ?_ _ | refine bl_trans (by assumption) ?_ | refine bl_set ?_ (by first | omega | (simp; done) | (simp; omega)) _))⟩
set_option maxHeartbeats 400000 in
theorem spec_IsHidden (l a b c d : Int) (w : World) :
    Calls Try.prog 38 #[.int .i64 l, .agg #[.int .i64 a, .int .i64 b], .agg #[.int .i64 c, .int .i64 d]] w fun e w' => e = .returned (.tuple #[.bool (IH l a b c d), .bool (okI l a b c d)]) ∧ Below w.heap.size w w' := by
  have HI := Lib.hid (show IH l a b c d = (okI l a b c d && hid_ l a b c d) from rfl)
  have HO := Lib.hid (show okI l a b c d = (okB l a b && okB l c d) from rfl)
  cases h : okB l a b
  · go_enter Try.func38, Try.ntmps38
    go_wp2_with fail
    refine (spec_swBoth _ _ _ _).mono ?_
    rintro e w1 ⟨rfl, hb1⟩
    obtain ⟨hc1, hf1⟩ := bcell hb1
    have hz1 := bsize hb1
    simp only [World.size_alloc] at hz1
    have z1_0 : w.heap.size < w1.heap.size := by omega
    have z1_1 : w.heap.size + 1 < w1.heap.size := by omega
    rw [h]
    go_wp2
    go_ret2
    exact ⟨by simp [HI.out, HO.out, h], (by repeat (first | exact Below.refl _ _ | refine bl_alloc ?_ _ | refine bl_drewN ?_ _ | refine bl_trans (by assumption) ?_ | refine bl_set ?_ (by first | omega | (simp; done) | (simp; omega)) _))⟩
  · cases g : okB l c d
    · go_enter Try.func38, Try.ntmps38
      go_wp2_with fail
      refine (spec_swBoth _ _ _ _).mono ?_
      rintro e w1 ⟨rfl, hb1⟩
      obtain ⟨hc1, hf1⟩ := bcell hb1
      have hz1 := bsize hb1
      simp only [World.size_alloc] at hz1
      have z1_0 : w.heap.size < w1.heap.size := by omega
      have z1_1 : w.heap.size + 1 < w1.heap.size := by omega
      rw [h]
      go_wp2_with fail
      refine (spec_swBoth _ _ _ _).mono ?_
      rintro e w2 ⟨rfl, hb2⟩
      obtain ⟨hc2, hf2⟩ := bcell hb2
      have hz2 := bsize hb2
      have z2_0 : w.heap.size < w2.heap.size := by omega
      have z2_1 : w.heap.size + 1 < w2.heap.size := by omega
      rw [g]
      go_wp2
      go_ret2
      exact ⟨by simp [HI.out, HO.out, h, g], (by repeat (first | exact Below.refl _ _ | refine bl_alloc ?_ _ | refine bl_drewN ?_ _ | refine bl_trans (by assumption) ?_ | refine bl_set ?_ (by first | omega | (simp; done) | (simp; omega)) _))⟩
    · go_enter Try.func38, Try.ntmps38
      go_wp2_with fail
      refine (spec_swBoth _ _ _ _).mono ?_
      rintro e w1 ⟨rfl, hb1⟩
      obtain ⟨hc1, hf1⟩ := bcell hb1
      have hz1 := bsize hb1
      simp only [World.size_alloc] at hz1
      have z1_0 : w.heap.size < w1.heap.size := by omega
      have z1_1 : w.heap.size + 1 < w1.heap.size := by omega
      rw [h]
      go_wp2_with fail
      refine (spec_swBoth _ _ _ _).mono ?_
      rintro e w2 ⟨rfl, hb2⟩
      obtain ⟨hc2, hf2⟩ := bcell hb2
      have hz2 := bsize hb2
      have z2_0 : w.heap.size < w2.heap.size := by omega
      have z2_1 : w.heap.size + 1 < w2.heap.size := by omega
      rw [g]
      go_wp2_with fail
      refine (swHides_any _ _ _ _ _ h g _).mono ?_
      rintro e w3 ⟨rfl, hb3⟩
      obtain ⟨hc3, hf3⟩ := bcell hb3
      go_wp2
      go_ret2
      exact ⟨by simp [HI.out, HO.out, h, g], (by repeat (first | exact Below.refl _ _ | refine bl_alloc ?_ _ | refine bl_drewN ?_ _ | refine bl_trans (by assumption) ?_ | refine bl_set ?_ (by first | omega | (simp; done) | (simp; omega)) _))⟩
end Go.Proofs.Ytcmoilacjpldbaa
