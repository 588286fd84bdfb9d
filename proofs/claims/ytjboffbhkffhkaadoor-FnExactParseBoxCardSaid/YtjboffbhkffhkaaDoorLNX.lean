/- Texts of boxes. -/
import Derived.Test.YtjboffbhkffhkaaDoorT2
import Derived.Test.YtjboffbhkffhkaaDoorLN1
namespace Go.Proofs.YtjboffbhkffhkaaDoor
open Go.RowKit
set_option linter.unusedVariables false
set_option linter.unusedSimpArgs false
theorem itoa_S2 {w u : World} {x y : Value} (n : Int) (h0 : -9223372036854775808 ≤ n) (h1 : n ≤ 9223372036854775807) (T : Tab w) (h : u.cell? ⟨w.heap.size, 0, none⟩ = some x ∧ u.cell? ⟨w.heap.size, 1, none⟩ = some y ∧ w.heap.size < u.heap.size ∧ Below w.heap.size w u) :
    Calls Tryd.prog 14 #[.int .i64 n] u fun e w' => e = .returned (.string (dec n)) ∧ Below u.heap.size u w' := itoa_any n h0 h1 T h.2.2.2
def txB (a b : Int) : ByteArray := dec a ++ ⟨#[42]⟩ ++ dec b
def TB (a b : Int) : ByteArray := if okBx a b then txB a b else ⟨#[]⟩
set_option maxHeartbeats 1000000 in
theorem lnText_any (a b : Int) (h : okBx a b = true) (w : World) :
    Calls Tryd.prog 12 #[.agg #[.int .i64 a, .int .i64 b]] w fun e w' => e = .returned (.string (txB a b)) ∧ Below w.heap.size w w' := by
  obtain ⟨⟨a0, a1⟩, b0, b1⟩ := okBx_true h
  have s1 := dec_size a (by omega) (by omega)
  have s2 := dec_size b (by omega) (by omega)
  have n1 : ¬ 9223372036854775807 < (dec a).size + 1 := by omega
  have n2 : ¬ 9223372036854775807 < (dec a).size + 1 + (dec b).size := by omega
  clear s1 s2
  go_enter Tryd.func12, Tryd.ntmps12
  go_wp2
  have hS : (w.alloc (.cells #[.int .i64 a, .int .i64 b] 26)).cell? ⟨w.heap.size, 0, none⟩ = some (.int .i64 a) ∧ (w.alloc (.cells #[.int .i64 a, .int .i64 b] 26)).cell? ⟨w.heap.size, 1, none⟩ = some (.int .i64 b) ∧ w.heap.size < (w.alloc (.cells #[.int .i64 a, .int .i64 b] 26)).heap.size ∧ Below w.heap.size w (w.alloc (.cells #[.int .i64 a, .int .i64 b] 26)) :=
    ⟨by simp, by simp, by simp, (Below.refl _ _).alloc (Nat.le_refl _) _⟩
  go_region_held3 (fun w' => w'.cell? ⟨w.heap.size, 0, none⟩ = some (.int .i64 a) ∧ w'.cell? ⟨w.heap.size, 1, none⟩ = some (.int .i64 b) ∧ w.heap.size < w'.heap.size ∧ Below w.heap.size w w') (first | exact S2_after hb2 (by assumption) | exact S2_after (below_drewN (Below.refl _ _) _) (by assumption) | exact S2_after (Below.drew (Below.refl _ _)) (by assumption) | assumption) (first | (go_at_call 19; refine (l1Num_any _ (by omega) (by omega) _).mono ?_; rintro e w2 ⟨rfl, hb2⟩))
  go_wp2
  go_ret
  exact ⟨rfl, (by repeat (first | exact Below.refl _ _ | refine bl_alloc ?_ _ | refine bl_drewN ?_ _ | refine bl_trans (by assumption) ?_ | refine bl_set ?_ (by first | omega | (simp; done) | (simp; omega)) _))⟩
set_option maxHeartbeats 400000 in
theorem spec_BoxText (a b : Int) (w : World) :
    Calls Tryd.prog 5 #[.agg #[.int .i64 a, .int .i64 b]] w fun e w' => e = .returned (.tuple #[.string (TB a b), .bool (okBx a b)]) ∧ Below w.heap.size w w' := by
  cases h : okBx a b
  · go_enter Tryd.func5, Tryd.ntmps5
    go_wp2_with (go_at_call 11; refine (spec_lnBox _ _ _).mono ?_; rintro e w1 ⟨rfl, hb⟩; obtain ⟨hc, hf⟩ := bcell hb; have hz := bsize hb; (try simp only [World.size_alloc] at hz); (try have hz0 : w.heap.size < w1.heap.size := by omega); rw [h])
    go_ret2
    exact ⟨by simp [TB, h], (by repeat (first | exact Below.refl _ _ | refine bl_alloc ?_ _ | refine bl_drewN ?_ _ | refine bl_trans (by assumption) ?_ | refine bl_set ?_ (by first | omega | (simp; done) | (simp; omega)) _))⟩
  · go_enter Tryd.func5, Tryd.ntmps5
    go_wp2_with (first | (go_at_call 11; refine (spec_lnBox _ _ _).mono ?_; rintro e w1 ⟨rfl, hb⟩; obtain ⟨hc, hf⟩ := bcell hb; have hz := bsize hb; (try simp only [World.size_alloc] at hz); (try have hz0 : w.heap.size < w1.heap.size := by omega); rw [h]) | (go_at_call 12; refine (lnText_any _ _ h _).mono ?_; rintro e w1 ⟨rfl, hb⟩; obtain ⟨hc, hf⟩ := bcell hb; have hz := bsize hb; (try simp only [World.size_alloc] at hz); (try have hz0 : w.heap.size < w1.heap.size := by omega)))
    go_ret2
    exact ⟨by simp [TB, h], (by repeat (first | exact Below.refl _ _ | refine bl_alloc ?_ _ | refine bl_drewN ?_ _ | refine bl_trans (by assumption) ?_ | refine bl_set ?_ (by first | omega | (simp; done) | (simp; omega)) _))⟩
set_option maxHeartbeats 1000000 in
theorem impl_BoxText (a b : Int) (w : World) (T : Tab w) :
    Calls Tryd.prog 7 #[.agg #[.int .i64 a, .int .i64 b]] w fun e w' => e = .returned (.tuple #[.string (TB a b), .bool (okBx a b)]) ∧ Below w.heap.size w w' := by
  cases h : okBx a b
  · go_enter Tryd.func7, Tryd.ntmps7
    go_wp2_with (go_at_call 13; refine (impl_IsBox _ _ _).mono ?_; rintro e w1 ⟨rfl, hb⟩; obtain ⟨hc, hf⟩ := bcell hb; have hz := bsize hb; (try simp only [World.size_alloc] at hz); (try have hz0 : w.heap.size < w1.heap.size := by omega); rw [h])
    go_ret2
    exact ⟨by simp [TB, h], (by repeat (first | exact Below.refl _ _ | refine bl_alloc ?_ _ | refine bl_drewN ?_ _ | refine bl_trans (by assumption) ?_ | refine bl_set ?_ (by first | omega | (simp; done) | (simp; omega)) _))⟩
  · obtain ⟨⟨a0, a1⟩, b0, b1⟩ := okBx_true h
    have s1 := dec_size a (by omega) (by omega)
    have s2 := dec_size b (by omega) (by omega)
    have n1 : ¬ 9223372036854775807 < (dec a).size + 1 := by omega
    have n2 : ¬ 9223372036854775807 < (dec a).size + 1 + (dec b).size := by omega
    clear s1 s2
    go_enter Tryd.func7, Tryd.ntmps7
    go_wp2_with (go_at_call 13; refine (impl_IsBox _ _ _).mono ?_; rintro e w1 ⟨rfl, hb⟩; obtain ⟨hc, hf⟩ := bcell hb; have hz := bsize hb; (try simp only [World.size_alloc] at hz); (try have hz0 : w.heap.size < w1.heap.size := by omega); rw [h])
    have hS : w1.cell? ⟨w.heap.size, 0, none⟩ = some (.int .i64 a) ∧ w1.cell? ⟨w.heap.size, 1, none⟩ = some (.int .i64 b) ∧ w.heap.size < w1.heap.size ∧ Below w.heap.size w w1 :=
      ⟨by simp [*], by simp [*], hz0, (by repeat (first | exact Below.refl _ _ | refine bl_alloc ?_ _ | refine bl_drewN ?_ _ | refine bl_trans (by assumption) ?_ | refine bl_set ?_ (by first | omega | (simp; done) | (simp; omega)) _))⟩
    clear hc hf
    go_region_held3 (fun w' => w'.cell? ⟨w.heap.size, 0, none⟩ = some (.int .i64 a) ∧ w'.cell? ⟨w.heap.size, 1, none⟩ = some (.int .i64 b) ∧ w.heap.size < w'.heap.size ∧ Below w.heap.size w w') (first | exact S2_after hb2 (by assumption) | exact S2_after (below_drewN (Below.refl _ _) _) (by assumption) | exact S2_after (Below.drew (Below.refl _ _)) (by assumption) | assumption) (first | (go_at_call 14; refine (itoa_S2 _ (by omega) (by omega) T (by assumption)).mono ?_; rintro e w2 ⟨rfl, hb2⟩))
    go_wp2
    go_ret2
    exact ⟨by simp [TB, h]; rfl, (by repeat (first | exact Below.refl _ _ | refine bl_alloc ?_ _ | refine bl_drewN ?_ _ | refine bl_trans (by assumption) ?_ | refine bl_set ?_ (by first | omega | (simp; done) | (simp; omega)) _))⟩
end Go.Proofs.YtjboffbhkffhkaaDoor
