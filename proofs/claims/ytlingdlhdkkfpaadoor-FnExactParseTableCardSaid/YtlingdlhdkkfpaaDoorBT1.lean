/- Texts of tables. -/
import Derived.Test.YtlingdlhdkkfpaaDoorT2
import Derived.Test.YtlingdlhdkkfpaaDoorB1
namespace Go.Proofs.YtlingdlhdkkfpaaDoor
open Go.RowKit
set_option linter.unusedVariables false
set_option linter.unusedSimpArgs false
theorem S2_after {w u v : World} {x y : Value} (hb : Below u.heap.size u v) (h : u.cell? ⟨w.heap.size, 0, none⟩ = some x ∧ u.cell? ⟨w.heap.size, 1, none⟩ = some y ∧ w.heap.size < u.heap.size ∧ Below w.heap.size w u) :
    v.cell? ⟨w.heap.size, 0, none⟩ = some x ∧ v.cell? ⟨w.heap.size, 1, none⟩ = some y ∧ w.heap.size < v.heap.size ∧ Below w.heap.size w v :=
  ⟨by rw [(bcell hb).1 _ _ h.2.2.1]; exact h.1, by rw [(bcell hb).1 _ _ h.2.2.1]; exact h.2.1, Nat.lt_of_lt_of_le h.2.2.1 hb.size, bl_trans hb h.2.2.2⟩
theorem itoa_S2 {w u : World} {x y : Value} (n : Int) (h0 : -9223372036854775808 ≤ n) (h1 : n ≤ 9223372036854775807) (T : Tab w) (h : u.cell? ⟨w.heap.size, 0, none⟩ = some x ∧ u.cell? ⟨w.heap.size, 1, none⟩ = some y ∧ w.heap.size < u.heap.size ∧ Below w.heap.size w u) :
    Calls Tryd.prog 44 #[.int .i64 n] u fun e w' => e = .returned (.string (dec n)) ∧ Below u.heap.size u w' := itoa_any n h0 h1 T h.2.2.2
def txT (a b : Int) : ByteArray := dec a ++ ⟨#[120]⟩ ++ dec b
def TT (a b : Int) : ByteArray := if okT a b then txT a b else ⟨#[]⟩
set_option maxHeartbeats 1000000 in
theorem beText_any (a b : Int) (h : okT a b = true) (w : World) :
    Calls Tryd.prog 39 #[.agg #[.int .i64 a, .int .i64 b]] w fun e w' => e = .returned (.string (txT a b)) ∧ Below w.heap.size w w' := by
  obtain ⟨⟨a0, a1⟩, b0, b1⟩ := okT_true h
  have s1 := dec_size a (by omega) (by omega)
  have s2 := dec_size b (by omega) (by omega)
  have n1 : ¬ 9223372036854775807 < (dec a).size + 1 := by omega
  have n2 : ¬ 9223372036854775807 < (dec a).size + 1 + (dec b).size := by omega
  clear s1 s2
  go_enter Tryd.func39, Tryd.ntmps39
  go_wp2
  have hS : (w.alloc (.cells #[.int .i64 a, .int .i64 b] 34)).cell? ⟨w.heap.size, 0, none⟩ = some (.int .i64 a) ∧ (w.alloc (.cells #[.int .i64 a, .int .i64 b] 34)).cell? ⟨w.heap.size, 1, none⟩ = some (.int .i64 b) ∧ w.heap.size < (w.alloc (.cells #[.int .i64 a, .int .i64 b] 34)).heap.size ∧ Below w.heap.size w (w.alloc (.cells #[.int .i64 a, .int .i64 b] 34)) :=
    ⟨by simp, by simp, by simp, (Below.refl _ _).alloc (Nat.le_refl _) _⟩
  go_region_held3 (fun w' => w'.cell? ⟨w.heap.size, 0, none⟩ = some (.int .i64 a) ∧ w'.cell? ⟨w.heap.size, 1, none⟩ = some (.int .i64 b) ∧ w.heap.size < w'.heap.size ∧ Below w.heap.size w w') (first | exact S2_after hb2 (by assumption) | exact S2_after (below_drewN (Below.refl _ _) _) (by assumption) | exact S2_after (Below.drew (Below.refl _ _)) (by assumption) | assumption) (first | (go_at_call 41; refine (l1Num_any _ (by omega) (by omega) _).mono ?_; rintro e w2 ⟨rfl, hb2⟩))
  go_wp2
  go_ret
  exact ⟨rfl, (by repeat (first | exact Below.refl _ _ | refine bl_alloc ?_ _ | refine bl_drewN ?_ _ | refine bl_trans (by assumption) ?_ | refine bl_set ?_ (by first | omega | (simp; done) | (simp; omega)) _))⟩
end Go.Proofs.YtlingdlhdkkfpaaDoor
