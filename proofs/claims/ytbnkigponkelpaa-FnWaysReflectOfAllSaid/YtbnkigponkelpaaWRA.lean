/- Regions of the law FnWaysReflectOfAll, each a theorem of its own. -/
import Derived.Test.YtbnkigponkelpaaWRC
namespace Go.Proofs.Ytbnkigponkelpaa
open Go.RowKit
set_option linter.unusedVariables false
set_option linter.unusedSimpArgs false
attribute [local irreducible] Array.setIfInBounds
namespace FnWaysReflectOfAll
def path : Nat → List Nat
  | 9 => [1, 1, 1, 1, 1, 1, 1, 1, 1, 0, 0]
  | 36 => [1, 1, 1, 1, 1, 1, 1, 1, 1, 1, 1, 1, 1, 1, 1, 1, 1, 1, 1, 1, 0, 1, 0, 1, 1, 0, 0]
  | 40 => [1, 1, 1, 1, 1, 1, 1, 1, 1, 1, 1, 1, 1, 1, 1, 1, 1, 1, 1, 1, 1, 0, 0]
  | _ => []
noncomputable def reg (n : Nat) : Code := (Try.f4.body.map (follow (path n))).getD .skip
noncomputable def opl (n : Nat) : List Oper := match reg n with
  | .region _ ops _ => ops.toList
  | _ => []
set_option maxHeartbeats 8000000 in
set_option maxRecDepth 100000 in
theorem reg9_no_0 (a b c d N D M Qn x y : Int) (WH OK : Bool) (g1 g2 g3 g4 g5 : Nat) (BL : List (Nat × Int × Int)) (w : World) (HIA1 : ∀ W : World, Hid (Calls Try.prog 15 #[.agg #[.int .i64 a, .int .i64 b]] W fun e w' => e = .returned (.bool false) ∧ Below W.heap.size W w')) (HIA2 : ∀ W : World, Hid (Calls Try.prog 16 #[.agg #[.int .i64 a, .int .i64 b]] W fun e w' => e = .returned (.bool false) ∧ Below W.heap.size W w')) (HIB : ∀ W : World, Hid (Calls Try.prog 15 #[.agg #[.int .i64 c, .int .i64 d]] W fun e w' => e = .returned (.bool OK) ∧ Below W.heap.size W w')) (Q : Act → Prop) (T0 : Array Value) (hs0 : T0.size = 620) (q5_ : At T0 5 (.int .i64 x)) (q6_ : At T0 6 (.int .i64 y)) (q7_ : At T0 7 (.pointer (some ⟨g1, 0, none⟩))) (q8_ : At T0 8 (.pointer (some ⟨g2, 0, none⟩))) (q9_ : At T0 9 (.pointer (some ⟨g3, 0, none⟩))) (q10_ : At T0 10 (.pointer (some ⟨g4, 0, none⟩))) (q11_ : At T0 11 (.pointer (some ⟨g5, 0, none⟩))) (q15_ : At T0 15 (.int .i64 N)) (q16_ : At T0 16 (.int .i64 D)) (q17_ : At T0 17 (.bool false)) (q18_ : At T0 18 (.int .i64 N)) (q19_ : At T0 19 (.int .i64 D)) (q20_ : At T0 20 (.bool false)) (q21_ : At T0 21 (.int .i64 M)) (q22_ : At T0 22 (.bool false)) (q23_ : At T0 23 (.int .i64 M)) (q24_ : At T0 24 (.bool false)) (q25_ : At T0 25 (.int .i64 Qn)) (q26_ : At T0 26 (.bool false)) (q27_ : At T0 27 (.int .i64 Qn)) (q28_ : At T0 28 (.bool false)) (q29_ : At T0 29 (.bool WH)) (q30_ : At T0 30 (.bool false)) (q31_ : At T0 31 (.bool WH)) (q32_ : At T0 32 (.bool false))
    (hnext : ∀ T1 : Array Value, T1.size = 620 → At T1 5 (.int .i64 x) → At T1 6 (.int .i64 y) → At T1 7 (.pointer (some ⟨g1, 0, none⟩)) → At T1 8 (.pointer (some ⟨g2, 0, none⟩)) → At T1 9 (.pointer (some ⟨g3, 0, none⟩)) → At T1 10 (.pointer (some ⟨g4, 0, none⟩)) → At T1 11 (.pointer (some ⟨g5, 0, none⟩)) → At T1 15 (.int .i64 N) → At T1 16 (.int .i64 D) → At T1 17 (.bool false) → At T1 21 (.int .i64 M) → At T1 22 (.bool false) → At T1 25 (.int .i64 Qn) → At T1 26 (.bool false) → At T1 27 (.int .i64 Qn) → At T1 28 (.bool false) → At T1 29 (.bool WH) → At T1 30 (.bool false) → At T1 31 (.bool WH) → At T1 32 (.bool false) → At T1 140 (.bool false) → At T1 143 (.bool false) → wpQuiet Try.prog (opl 9).toArray (fun w' => w'.cell? ⟨g1, 0, none⟩ = some (.int .i64 a) ∧ w'.cell? ⟨g1, 1, none⟩ = some (.int .i64 b) ∧ w'.cell? ⟨g2, 0, none⟩ = some (.int .i64 c) ∧ w'.cell? ⟨g2, 1, none⟩ = some (.int .i64 d) ∧ g1 < w'.heap.size ∧ g2 < w'.heap.size ∧ Lay w ((g1, a, b) :: (g2, c, d) :: BL) w') Q ((opl 9).drop 22) ⟨T1, []⟩) :
    wpQuiet Try.prog (opl 9).toArray (fun w' => w'.cell? ⟨g1, 0, none⟩ = some (.int .i64 a) ∧ w'.cell? ⟨g1, 1, none⟩ = some (.int .i64 b) ∧ w'.cell? ⟨g2, 0, none⟩ = some (.int .i64 c) ∧ w'.cell? ⟨g2, 1, none⟩ = some (.int .i64 d) ∧ g1 < w'.heap.size ∧ g2 < w'.heap.size ∧ Lay w ((g1, a, b) :: (g2, c, d) :: BL) w') Q ((opl 9).drop 0) ⟨T0, []⟩ := by
  conv => arg 5; whnf
  have f5_ := fun hh => getq q5_ hh
  have f6_ := fun hh => getq q6_ hh
  have f7_ := fun hh => getq q7_ hh
  have f8_ := fun hh => getq q8_ hh
  have f9_ := fun hh => getq q9_ hh
  have f10_ := fun hh => getq q10_ hh
  have f11_ := fun hh => getq q11_ hh
  have f15_ := fun hh => getq q15_ hh
  have f16_ := fun hh => getq q16_ hh
  have f17_ := fun hh => getq q17_ hh
  have f18_ := fun hh => getq q18_ hh
  have f19_ := fun hh => getq q19_ hh
  have f20_ := fun hh => getq q20_ hh
  have f21_ := fun hh => getq q21_ hh
  have f22_ := fun hh => getq q22_ hh
  have f23_ := fun hh => getq q23_ hh
  have f24_ := fun hh => getq q24_ hh
  have f25_ := fun hh => getq q25_ hh
  have f26_ := fun hh => getq q26_ hh
  have f27_ := fun hh => getq q27_ hh
  have f28_ := fun hh => getq q28_ hh
  have f29_ := fun hh => getq q29_ hh
  have f30_ := fun hh => getq q30_ hh
  have f31_ := fun hh => getq q31_ hh
  have f32_ := fun hh => getq q32_ hh
  refine q_take (.bool false) rfl (q_free rfl _) (fun _ _ => by go_simp) ?_
  refine q_take (.bool false) rfl (q_free rfl _) (fun _ _ => by go_simp) ?_
  refine q_take (.bool false) rfl (q_free rfl _) (fun _ _ => by go_simp) ?_
  refine q_take (.bool false) rfl (q_free rfl _) (fun _ _ => by go_simp) ?_
  refine q_take (.int .i64 N) rfl (q_gr1 (d := 125) rfl (by kernel_rfl) (by go_simp)) (fun _ _ => by go_simp) ?_
  refine q_take (.int .i64 N) rfl (q_gr1 (d := 125) rfl (by kernel_rfl) (by go_simp)) (fun _ _ => by go_simp) ?_
  refine q_take (.bool false) rfl (q_gr1 (d := 125) rfl (by kernel_rfl) (by go_simp)) (fun _ _ => by go_simp) ?_
  refine q_take (.bool false) rfl (q_free rfl _) (fun _ _ => by go_simp) ?_
  refine q_take (.bool false) rfl (q_free rfl _) (fun _ _ => by go_simp) ?_
  refine q_take (.int .i64 D) rfl (q_gr1 (d := 130) rfl (by kernel_rfl) (by go_simp)) (fun _ _ => by go_simp) ?_
  refine q_take (.int .i64 D) rfl (q_gr1 (d := 130) rfl (by kernel_rfl) (by go_simp)) (fun _ _ => by go_simp) ?_
  refine q_take (.bool false) rfl (q_gr1 (d := 130) rfl (by kernel_rfl) (by go_simp)) (fun _ _ => by go_simp) ?_
  refine q_take (.bool false) rfl (q_free rfl _) (fun _ _ => by go_simp) ?_
  refine q_take (.bool false) rfl (q_free rfl _) (fun _ _ => by go_simp) ?_
  refine q_take (.bool false) rfl (q_gr1 (d := 135) rfl (by kernel_rfl) (by go_simp)) (fun _ _ => by go_simp) ?_
  refine q_take (.bool false) rfl (q_gr1 (d := 135) rfl (by kernel_rfl) (by go_simp)) (fun _ _ => by go_simp) ?_
  refine q_take (.bool false) rfl (q_gr1 (d := 135) rfl (by kernel_rfl) (by go_simp)) (fun _ _ => by go_simp) ?_
  refine q_take (.bool false) rfl (q_free rfl _) (fun _ _ => by go_simp) ?_
  refine q_take (.bool false) rfl (q_free rfl _) (fun _ _ => by go_simp) ?_
  refine q_take (.int .i64 M) rfl (q_gr1 (d := 140) rfl (by kernel_rfl) (by go_simp)) (fun _ _ => by go_simp) ?_
  refine q_take (.int .i64 M) rfl (q_gr1 (d := 140) rfl (by kernel_rfl) (by go_simp)) (fun _ _ => by go_simp) ?_
  refine q_take (.bool false) rfl (q_gr1 (d := 140) rfl (by kernel_rfl) (by go_simp)) (fun _ _ => by go_simp) ?_
  exact (hnext _ (by simp [hs0]) (by first | (simp only [At, ↓Array.getElem?_setIfInBounds_ne, ne_eq, Nat.reduceEqDiff, not_false_eq_true, q5_]; done) | simp [At, hs0, f5_, f6_, f7_, f8_, f9_, f10_, f11_, f15_, f16_, f17_, f18_, f19_, f20_, f21_, f22_, f23_, f24_, f25_, f26_, f27_, f28_, f29_, f30_, f31_, f32_]) (by first | (simp only [At, ↓Array.getElem?_setIfInBounds_ne, ne_eq, Nat.reduceEqDiff, not_false_eq_true, q6_]; done) | simp [At, hs0, f5_, f6_, f7_, f8_, f9_, f10_, f11_, f15_, f16_, f17_, f18_, f19_, f20_, f21_, f22_, f23_, f24_, f25_, f26_, f27_, f28_, f29_, f30_, f31_, f32_]) (by first | (simp only [At, ↓Array.getElem?_setIfInBounds_ne, ne_eq, Nat.reduceEqDiff, not_false_eq_true, q7_]; done) | simp [At, hs0, f5_, f6_, f7_, f8_, f9_, f10_, f11_, f15_, f16_, f17_, f18_, f19_, f20_, f21_, f22_, f23_, f24_, f25_, f26_, f27_, f28_, f29_, f30_, f31_, f32_]) (by first | (simp only [At, ↓Array.getElem?_setIfInBounds_ne, ne_eq, Nat.reduceEqDiff, not_false_eq_true, q8_]; done) | simp [At, hs0, f5_, f6_, f7_, f8_, f9_, f10_, f11_, f15_, f16_, f17_, f18_, f19_, f20_, f21_, f22_, f23_, f24_, f25_, f26_, f27_, f28_, f29_, f30_, f31_, f32_]) (by first | (simp only [At, ↓Array.getElem?_setIfInBounds_ne, ne_eq, Nat.reduceEqDiff, not_false_eq_true, q9_]; done) | simp [At, hs0, f5_, f6_, f7_, f8_, f9_, f10_, f11_, f15_, f16_, f17_, f18_, f19_, f20_, f21_, f22_, f23_, f24_, f25_, f26_, f27_, f28_, f29_, f30_, f31_, f32_]) (by first | (simp only [At, ↓Array.getElem?_setIfInBounds_ne, ne_eq, Nat.reduceEqDiff, not_false_eq_true, q10_]; done) | simp [At, hs0, f5_, f6_, f7_, f8_, f9_, f10_, f11_, f15_, f16_, f17_, f18_, f19_, f20_, f21_, f22_, f23_, f24_, f25_, f26_, f27_, f28_, f29_, f30_, f31_, f32_]) (by first | (simp only [At, ↓Array.getElem?_setIfInBounds_ne, ne_eq, Nat.reduceEqDiff, not_false_eq_true, q11_]; done) | simp [At, hs0, f5_, f6_, f7_, f8_, f9_, f10_, f11_, f15_, f16_, f17_, f18_, f19_, f20_, f21_, f22_, f23_, f24_, f25_, f26_, f27_, f28_, f29_, f30_, f31_, f32_]) (by first | (simp only [At, ↓Array.getElem?_setIfInBounds_ne, ne_eq, Nat.reduceEqDiff, not_false_eq_true, q15_]; done) | simp [At, hs0, f5_, f6_, f7_, f8_, f9_, f10_, f11_, f15_, f16_, f17_, f18_, f19_, f20_, f21_, f22_, f23_, f24_, f25_, f26_, f27_, f28_, f29_, f30_, f31_, f32_]) (by first | (simp only [At, ↓Array.getElem?_setIfInBounds_ne, ne_eq, Nat.reduceEqDiff, not_false_eq_true, q16_]; done) | simp [At, hs0, f5_, f6_, f7_, f8_, f9_, f10_, f11_, f15_, f16_, f17_, f18_, f19_, f20_, f21_, f22_, f23_, f24_, f25_, f26_, f27_, f28_, f29_, f30_, f31_, f32_]) (by first | (simp only [At, ↓Array.getElem?_setIfInBounds_ne, ne_eq, Nat.reduceEqDiff, not_false_eq_true, q17_]; done) | simp [At, hs0, f5_, f6_, f7_, f8_, f9_, f10_, f11_, f15_, f16_, f17_, f18_, f19_, f20_, f21_, f22_, f23_, f24_, f25_, f26_, f27_, f28_, f29_, f30_, f31_, f32_]) (by first | (simp only [At, ↓Array.getElem?_setIfInBounds_ne, ne_eq, Nat.reduceEqDiff, not_false_eq_true, q21_]; done) | simp [At, hs0, f5_, f6_, f7_, f8_, f9_, f10_, f11_, f15_, f16_, f17_, f18_, f19_, f20_, f21_, f22_, f23_, f24_, f25_, f26_, f27_, f28_, f29_, f30_, f31_, f32_]) (by first | (simp only [At, ↓Array.getElem?_setIfInBounds_ne, ne_eq, Nat.reduceEqDiff, not_false_eq_true, q22_]; done) | simp [At, hs0, f5_, f6_, f7_, f8_, f9_, f10_, f11_, f15_, f16_, f17_, f18_, f19_, f20_, f21_, f22_, f23_, f24_, f25_, f26_, f27_, f28_, f29_, f30_, f31_, f32_]) (by first | (simp only [At, ↓Array.getElem?_setIfInBounds_ne, ne_eq, Nat.reduceEqDiff, not_false_eq_true, q25_]; done) | simp [At, hs0, f5_, f6_, f7_, f8_, f9_, f10_, f11_, f15_, f16_, f17_, f18_, f19_, f20_, f21_, f22_, f23_, f24_, f25_, f26_, f27_, f28_, f29_, f30_, f31_, f32_]) (by first | (simp only [At, ↓Array.getElem?_setIfInBounds_ne, ne_eq, Nat.reduceEqDiff, not_false_eq_true, q26_]; done) | simp [At, hs0, f5_, f6_, f7_, f8_, f9_, f10_, f11_, f15_, f16_, f17_, f18_, f19_, f20_, f21_, f22_, f23_, f24_, f25_, f26_, f27_, f28_, f29_, f30_, f31_, f32_]) (by first | (simp only [At, ↓Array.getElem?_setIfInBounds_ne, ne_eq, Nat.reduceEqDiff, not_false_eq_true, q27_]; done) | simp [At, hs0, f5_, f6_, f7_, f8_, f9_, f10_, f11_, f15_, f16_, f17_, f18_, f19_, f20_, f21_, f22_, f23_, f24_, f25_, f26_, f27_, f28_, f29_, f30_, f31_, f32_]) (by first | (simp only [At, ↓Array.getElem?_setIfInBounds_ne, ne_eq, Nat.reduceEqDiff, not_false_eq_true, q28_]; done) | simp [At, hs0, f5_, f6_, f7_, f8_, f9_, f10_, f11_, f15_, f16_, f17_, f18_, f19_, f20_, f21_, f22_, f23_, f24_, f25_, f26_, f27_, f28_, f29_, f30_, f31_, f32_]) (by first | (simp only [At, ↓Array.getElem?_setIfInBounds_ne, ne_eq, Nat.reduceEqDiff, not_false_eq_true, q29_]; done) | simp [At, hs0, f5_, f6_, f7_, f8_, f9_, f10_, f11_, f15_, f16_, f17_, f18_, f19_, f20_, f21_, f22_, f23_, f24_, f25_, f26_, f27_, f28_, f29_, f30_, f31_, f32_]) (by first | (simp only [At, ↓Array.getElem?_setIfInBounds_ne, ne_eq, Nat.reduceEqDiff, not_false_eq_true, q30_]; done) | simp [At, hs0, f5_, f6_, f7_, f8_, f9_, f10_, f11_, f15_, f16_, f17_, f18_, f19_, f20_, f21_, f22_, f23_, f24_, f25_, f26_, f27_, f28_, f29_, f30_, f31_, f32_]) (by first | (simp only [At, ↓Array.getElem?_setIfInBounds_ne, ne_eq, Nat.reduceEqDiff, not_false_eq_true, q31_]; done) | simp [At, hs0, f5_, f6_, f7_, f8_, f9_, f10_, f11_, f15_, f16_, f17_, f18_, f19_, f20_, f21_, f22_, f23_, f24_, f25_, f26_, f27_, f28_, f29_, f30_, f31_, f32_]) (by first | (simp only [At, ↓Array.getElem?_setIfInBounds_ne, ne_eq, Nat.reduceEqDiff, not_false_eq_true, q32_]; done) | simp [At, hs0, f5_, f6_, f7_, f8_, f9_, f10_, f11_, f15_, f16_, f17_, f18_, f19_, f20_, f21_, f22_, f23_, f24_, f25_, f26_, f27_, f28_, f29_, f30_, f31_, f32_]) (by first | (simp only [At, ↓Array.getElem?_setIfInBounds_ne, ne_eq, Nat.reduceEqDiff, not_false_eq_true]; done) | simp [At, hs0, f5_, f6_, f7_, f8_, f9_, f10_, f11_, f15_, f16_, f17_, f18_, f19_, f20_, f21_, f22_, f23_, f24_, f25_, f26_, f27_, f28_, f29_, f30_, f31_, f32_]) (by first | (simp only [At, ↓Array.getElem?_setIfInBounds_ne, ne_eq, Nat.reduceEqDiff, not_false_eq_true]; done) | simp [At, hs0, f5_, f6_, f7_, f8_, f9_, f10_, f11_, f15_, f16_, f17_, f18_, f19_, f20_, f21_, f22_, f23_, f24_, f25_, f26_, f27_, f28_, f29_, f30_, f31_, f32_]))
set_option maxHeartbeats 8000000 in
set_option maxRecDepth 100000 in
theorem reg9_no_1 (a b c d N D M Qn x y : Int) (WH OK : Bool) (g1 g2 g3 g4 g5 : Nat) (BL : List (Nat × Int × Int)) (w : World) (HIA1 : ∀ W : World, Hid (Calls Try.prog 15 #[.agg #[.int .i64 a, .int .i64 b]] W fun e w' => e = .returned (.bool false) ∧ Below W.heap.size W w')) (HIA2 : ∀ W : World, Hid (Calls Try.prog 16 #[.agg #[.int .i64 a, .int .i64 b]] W fun e w' => e = .returned (.bool false) ∧ Below W.heap.size W w')) (HIB : ∀ W : World, Hid (Calls Try.prog 15 #[.agg #[.int .i64 c, .int .i64 d]] W fun e w' => e = .returned (.bool OK) ∧ Below W.heap.size W w')) (Q : Act → Prop) (T0 : Array Value) (hs0 : T0.size = 620) (q5_ : At T0 5 (.int .i64 x)) (q6_ : At T0 6 (.int .i64 y)) (q7_ : At T0 7 (.pointer (some ⟨g1, 0, none⟩))) (q8_ : At T0 8 (.pointer (some ⟨g2, 0, none⟩))) (q9_ : At T0 9 (.pointer (some ⟨g3, 0, none⟩))) (q10_ : At T0 10 (.pointer (some ⟨g4, 0, none⟩))) (q11_ : At T0 11 (.pointer (some ⟨g5, 0, none⟩))) (q15_ : At T0 15 (.int .i64 N)) (q16_ : At T0 16 (.int .i64 D)) (q17_ : At T0 17 (.bool false)) (q21_ : At T0 21 (.int .i64 M)) (q22_ : At T0 22 (.bool false)) (q25_ : At T0 25 (.int .i64 Qn)) (q26_ : At T0 26 (.bool false)) (q27_ : At T0 27 (.int .i64 Qn)) (q28_ : At T0 28 (.bool false)) (q29_ : At T0 29 (.bool WH)) (q30_ : At T0 30 (.bool false)) (q31_ : At T0 31 (.bool WH)) (q32_ : At T0 32 (.bool false)) (q140_ : At T0 140 (.bool false)) (q143_ : At T0 143 (.bool false))
    (hnext : ∀ T1 : Array Value, T1.size = 620 → At T1 5 (.int .i64 x) → At T1 6 (.int .i64 y) → At T1 7 (.pointer (some ⟨g1, 0, none⟩)) → At T1 8 (.pointer (some ⟨g2, 0, none⟩)) → At T1 9 (.pointer (some ⟨g3, 0, none⟩)) → At T1 10 (.pointer (some ⟨g4, 0, none⟩)) → At T1 11 (.pointer (some ⟨g5, 0, none⟩)) → At T1 15 (.int .i64 N) → At T1 16 (.int .i64 D) → At T1 17 (.bool false) → At T1 21 (.int .i64 M) → At T1 22 (.bool false) → At T1 25 (.int .i64 Qn) → At T1 26 (.bool false) → At T1 29 (.bool WH) → At T1 30 (.bool false) → At T1 165 (.bool false) → wpQuiet Try.prog (opl 9).toArray (fun w' => w'.cell? ⟨g1, 0, none⟩ = some (.int .i64 a) ∧ w'.cell? ⟨g1, 1, none⟩ = some (.int .i64 b) ∧ w'.cell? ⟨g2, 0, none⟩ = some (.int .i64 c) ∧ w'.cell? ⟨g2, 1, none⟩ = some (.int .i64 d) ∧ g1 < w'.heap.size ∧ g2 < w'.heap.size ∧ Lay w ((g1, a, b) :: (g2, c, d) :: BL) w') Q ((opl 9).drop 44) ⟨T1, []⟩) :
    wpQuiet Try.prog (opl 9).toArray (fun w' => w'.cell? ⟨g1, 0, none⟩ = some (.int .i64 a) ∧ w'.cell? ⟨g1, 1, none⟩ = some (.int .i64 b) ∧ w'.cell? ⟨g2, 0, none⟩ = some (.int .i64 c) ∧ w'.cell? ⟨g2, 1, none⟩ = some (.int .i64 d) ∧ g1 < w'.heap.size ∧ g2 < w'.heap.size ∧ Lay w ((g1, a, b) :: (g2, c, d) :: BL) w') Q ((opl 9).drop 22) ⟨T0, []⟩ := by
  conv => arg 5; whnf
  have f5_ := fun hh => getq q5_ hh
  have f6_ := fun hh => getq q6_ hh
  have f7_ := fun hh => getq q7_ hh
  have f8_ := fun hh => getq q8_ hh
  have f9_ := fun hh => getq q9_ hh
  have f10_ := fun hh => getq q10_ hh
  have f11_ := fun hh => getq q11_ hh
  have f15_ := fun hh => getq q15_ hh
  have f16_ := fun hh => getq q16_ hh
  have f17_ := fun hh => getq q17_ hh
  have f21_ := fun hh => getq q21_ hh
  have f22_ := fun hh => getq q22_ hh
  have f25_ := fun hh => getq q25_ hh
  have f26_ := fun hh => getq q26_ hh
  have f27_ := fun hh => getq q27_ hh
  have f28_ := fun hh => getq q28_ hh
  have f29_ := fun hh => getq q29_ hh
  have f30_ := fun hh => getq q30_ hh
  have f31_ := fun hh => getq q31_ hh
  have f32_ := fun hh => getq q32_ hh
  have f140_ := fun hh => getq q140_ hh
  have f143_ := fun hh => getq q143_ hh
  refine q_take (.bool false) rfl (q_free rfl _) (fun _ _ => by go_simp) ?_
  refine q_take (.bool false) rfl (q_free rfl _) (fun _ _ => by go_simp) ?_
  refine q_take (.bool false) rfl (q_gr1 (d := 145) rfl (by kernel_rfl) (by go_simp)) (fun _ _ => by go_simp) ?_
  refine q_take (.bool false) rfl (q_gr1 (d := 145) rfl (by kernel_rfl) (by go_simp)) (fun _ _ => by go_simp) ?_
  refine q_take (.bool false) rfl (q_gr1 (d := 145) rfl (by kernel_rfl) (by go_simp)) (fun _ _ => by go_simp) ?_
  refine q_take (.bool false) rfl (q_free rfl _) (fun _ _ => by go_simp) ?_
  refine q_take (.bool false) rfl (q_free rfl _) (fun _ _ => by go_simp) ?_
  refine q_take (.int .i64 Qn) rfl (q_gr1 (d := 150) rfl (by kernel_rfl) (by go_simp)) (fun _ _ => by go_simp) ?_
  refine q_take (.int .i64 Qn) rfl (q_gr1 (d := 150) rfl (by kernel_rfl) (by go_simp)) (fun _ _ => by go_simp) ?_
  refine q_take (.bool false) rfl (q_gr1 (d := 150) rfl (by kernel_rfl) (by go_simp)) (fun _ _ => by go_simp) ?_
  refine q_take (.bool false) rfl (q_free rfl _) (fun _ _ => by go_simp) ?_
  refine q_take (.bool false) rfl (q_free rfl _) (fun _ _ => by go_simp) ?_
  refine q_take (.bool false) rfl (q_gr1 (d := 155) rfl (by kernel_rfl) (by go_simp)) (fun _ _ => by go_simp) ?_
  refine q_take (.bool false) rfl (q_gr1 (d := 155) rfl (by kernel_rfl) (by go_simp)) (fun _ _ => by go_simp) ?_
  refine q_take (.bool false) rfl (q_gr1 (d := 155) rfl (by kernel_rfl) (by go_simp)) (fun _ _ => by go_simp) ?_
  refine q_take (.bool false) rfl (q_free rfl _) (fun _ _ => by go_simp) ?_
  refine q_take (.bool false) rfl (q_free rfl _) (fun _ _ => by go_simp) ?_
  refine q_take (.bool WH) rfl (q_gr1 (d := 160) rfl (by kernel_rfl) (by go_simp)) (fun _ _ => by go_simp) ?_
  refine q_take (.bool WH) rfl (q_gr1 (d := 160) rfl (by kernel_rfl) (by go_simp)) (fun _ _ => by go_simp) ?_
  refine q_take (.bool false) rfl (q_gr1 (d := 160) rfl (by kernel_rfl) (by go_simp)) (fun _ _ => by go_simp) ?_
  refine q_take (.bool false) rfl (q_free rfl _) (fun _ _ => by go_simp) ?_
  refine q_take (.bool false) rfl (q_free rfl _) (fun _ _ => by go_simp) ?_
  exact (hnext _ (by simp [hs0]) (by first | (simp only [At, ↓Array.getElem?_setIfInBounds_ne, ne_eq, Nat.reduceEqDiff, not_false_eq_true, q5_]; done) | simp [At, hs0, f5_, f6_, f7_, f8_, f9_, f10_, f11_, f15_, f16_, f17_, f21_, f22_, f25_, f26_, f27_, f28_, f29_, f30_, f31_, f32_, f140_, f143_]) (by first | (simp only [At, ↓Array.getElem?_setIfInBounds_ne, ne_eq, Nat.reduceEqDiff, not_false_eq_true, q6_]; done) | simp [At, hs0, f5_, f6_, f7_, f8_, f9_, f10_, f11_, f15_, f16_, f17_, f21_, f22_, f25_, f26_, f27_, f28_, f29_, f30_, f31_, f32_, f140_, f143_]) (by first | (simp only [At, ↓Array.getElem?_setIfInBounds_ne, ne_eq, Nat.reduceEqDiff, not_false_eq_true, q7_]; done) | simp [At, hs0, f5_, f6_, f7_, f8_, f9_, f10_, f11_, f15_, f16_, f17_, f21_, f22_, f25_, f26_, f27_, f28_, f29_, f30_, f31_, f32_, f140_, f143_]) (by first | (simp only [At, ↓Array.getElem?_setIfInBounds_ne, ne_eq, Nat.reduceEqDiff, not_false_eq_true, q8_]; done) | simp [At, hs0, f5_, f6_, f7_, f8_, f9_, f10_, f11_, f15_, f16_, f17_, f21_, f22_, f25_, f26_, f27_, f28_, f29_, f30_, f31_, f32_, f140_, f143_]) (by first | (simp only [At, ↓Array.getElem?_setIfInBounds_ne, ne_eq, Nat.reduceEqDiff, not_false_eq_true, q9_]; done) | simp [At, hs0, f5_, f6_, f7_, f8_, f9_, f10_, f11_, f15_, f16_, f17_, f21_, f22_, f25_, f26_, f27_, f28_, f29_, f30_, f31_, f32_, f140_, f143_]) (by first | (simp only [At, ↓Array.getElem?_setIfInBounds_ne, ne_eq, Nat.reduceEqDiff, not_false_eq_true, q10_]; done) | simp [At, hs0, f5_, f6_, f7_, f8_, f9_, f10_, f11_, f15_, f16_, f17_, f21_, f22_, f25_, f26_, f27_, f28_, f29_, f30_, f31_, f32_, f140_, f143_]) (by first | (simp only [At, ↓Array.getElem?_setIfInBounds_ne, ne_eq, Nat.reduceEqDiff, not_false_eq_true, q11_]; done) | simp [At, hs0, f5_, f6_, f7_, f8_, f9_, f10_, f11_, f15_, f16_, f17_, f21_, f22_, f25_, f26_, f27_, f28_, f29_, f30_, f31_, f32_, f140_, f143_]) (by first | (simp only [At, ↓Array.getElem?_setIfInBounds_ne, ne_eq, Nat.reduceEqDiff, not_false_eq_true, q15_]; done) | simp [At, hs0, f5_, f6_, f7_, f8_, f9_, f10_, f11_, f15_, f16_, f17_, f21_, f22_, f25_, f26_, f27_, f28_, f29_, f30_, f31_, f32_, f140_, f143_]) (by first | (simp only [At, ↓Array.getElem?_setIfInBounds_ne, ne_eq, Nat.reduceEqDiff, not_false_eq_true, q16_]; done) | simp [At, hs0, f5_, f6_, f7_, f8_, f9_, f10_, f11_, f15_, f16_, f17_, f21_, f22_, f25_, f26_, f27_, f28_, f29_, f30_, f31_, f32_, f140_, f143_]) (by first | (simp only [At, ↓Array.getElem?_setIfInBounds_ne, ne_eq, Nat.reduceEqDiff, not_false_eq_true, q17_]; done) | simp [At, hs0, f5_, f6_, f7_, f8_, f9_, f10_, f11_, f15_, f16_, f17_, f21_, f22_, f25_, f26_, f27_, f28_, f29_, f30_, f31_, f32_, f140_, f143_]) (by first | (simp only [At, ↓Array.getElem?_setIfInBounds_ne, ne_eq, Nat.reduceEqDiff, not_false_eq_true, q21_]; done) | simp [At, hs0, f5_, f6_, f7_, f8_, f9_, f10_, f11_, f15_, f16_, f17_, f21_, f22_, f25_, f26_, f27_, f28_, f29_, f30_, f31_, f32_, f140_, f143_]) (by first | (simp only [At, ↓Array.getElem?_setIfInBounds_ne, ne_eq, Nat.reduceEqDiff, not_false_eq_true, q22_]; done) | simp [At, hs0, f5_, f6_, f7_, f8_, f9_, f10_, f11_, f15_, f16_, f17_, f21_, f22_, f25_, f26_, f27_, f28_, f29_, f30_, f31_, f32_, f140_, f143_]) (by first | (simp only [At, ↓Array.getElem?_setIfInBounds_ne, ne_eq, Nat.reduceEqDiff, not_false_eq_true, q25_]; done) | simp [At, hs0, f5_, f6_, f7_, f8_, f9_, f10_, f11_, f15_, f16_, f17_, f21_, f22_, f25_, f26_, f27_, f28_, f29_, f30_, f31_, f32_, f140_, f143_]) (by first | (simp only [At, ↓Array.getElem?_setIfInBounds_ne, ne_eq, Nat.reduceEqDiff, not_false_eq_true, q26_]; done) | simp [At, hs0, f5_, f6_, f7_, f8_, f9_, f10_, f11_, f15_, f16_, f17_, f21_, f22_, f25_, f26_, f27_, f28_, f29_, f30_, f31_, f32_, f140_, f143_]) (by first | (simp only [At, ↓Array.getElem?_setIfInBounds_ne, ne_eq, Nat.reduceEqDiff, not_false_eq_true, q29_]; done) | simp [At, hs0, f5_, f6_, f7_, f8_, f9_, f10_, f11_, f15_, f16_, f17_, f21_, f22_, f25_, f26_, f27_, f28_, f29_, f30_, f31_, f32_, f140_, f143_]) (by first | (simp only [At, ↓Array.getElem?_setIfInBounds_ne, ne_eq, Nat.reduceEqDiff, not_false_eq_true, q30_]; done) | simp [At, hs0, f5_, f6_, f7_, f8_, f9_, f10_, f11_, f15_, f16_, f17_, f21_, f22_, f25_, f26_, f27_, f28_, f29_, f30_, f31_, f32_, f140_, f143_]) (by first | (simp only [At, ↓Array.getElem?_setIfInBounds_ne, ne_eq, Nat.reduceEqDiff, not_false_eq_true]; done) | simp [At, hs0, f5_, f6_, f7_, f8_, f9_, f10_, f11_, f15_, f16_, f17_, f21_, f22_, f25_, f26_, f27_, f28_, f29_, f30_, f31_, f32_, f140_, f143_]))
set_option maxHeartbeats 8000000 in
set_option maxRecDepth 100000 in
theorem reg9_no_2 (a b c d N D M Qn x y : Int) (WH OK : Bool) (g1 g2 g3 g4 g5 : Nat) (BL : List (Nat × Int × Int)) (w : World) (HIA1 : ∀ W : World, Hid (Calls Try.prog 15 #[.agg #[.int .i64 a, .int .i64 b]] W fun e w' => e = .returned (.bool false) ∧ Below W.heap.size W w')) (HIA2 : ∀ W : World, Hid (Calls Try.prog 16 #[.agg #[.int .i64 a, .int .i64 b]] W fun e w' => e = .returned (.bool false) ∧ Below W.heap.size W w')) (HIB : ∀ W : World, Hid (Calls Try.prog 15 #[.agg #[.int .i64 c, .int .i64 d]] W fun e w' => e = .returned (.bool OK) ∧ Below W.heap.size W w')) (Q : Act → Prop) (T0 : Array Value) (hs0 : T0.size = 620) (q5_ : At T0 5 (.int .i64 x)) (q6_ : At T0 6 (.int .i64 y)) (q7_ : At T0 7 (.pointer (some ⟨g1, 0, none⟩))) (q8_ : At T0 8 (.pointer (some ⟨g2, 0, none⟩))) (q9_ : At T0 9 (.pointer (some ⟨g3, 0, none⟩))) (q10_ : At T0 10 (.pointer (some ⟨g4, 0, none⟩))) (q11_ : At T0 11 (.pointer (some ⟨g5, 0, none⟩))) (q15_ : At T0 15 (.int .i64 N)) (q16_ : At T0 16 (.int .i64 D)) (q17_ : At T0 17 (.bool false)) (q21_ : At T0 21 (.int .i64 M)) (q22_ : At T0 22 (.bool false)) (q25_ : At T0 25 (.int .i64 Qn)) (q26_ : At T0 26 (.bool false)) (q29_ : At T0 29 (.bool WH)) (q30_ : At T0 30 (.bool false)) (q165_ : At T0 165 (.bool false))
    (hnext : ∀ T1 : Array Value, T1.size = 620 → At T1 5 (.int .i64 x) → At T1 6 (.int .i64 y) → At T1 7 (.pointer (some ⟨g1, 0, none⟩)) → At T1 8 (.pointer (some ⟨g2, 0, none⟩)) → At T1 9 (.pointer (some ⟨g3, 0, none⟩)) → At T1 10 (.pointer (some ⟨g4, 0, none⟩)) → At T1 11 (.pointer (some ⟨g5, 0, none⟩)) → At T1 15 (.int .i64 N) → At T1 16 (.int .i64 D) → At T1 17 (.bool false) → At T1 21 (.int .i64 M) → At T1 25 (.int .i64 Qn) → At T1 26 (.bool false) → At T1 29 (.bool WH) → At T1 30 (.bool false) → At T1 187 (.bool false) → wpQuiet Try.prog (opl 9).toArray (fun w' => w'.cell? ⟨g1, 0, none⟩ = some (.int .i64 a) ∧ w'.cell? ⟨g1, 1, none⟩ = some (.int .i64 b) ∧ w'.cell? ⟨g2, 0, none⟩ = some (.int .i64 c) ∧ w'.cell? ⟨g2, 1, none⟩ = some (.int .i64 d) ∧ g1 < w'.heap.size ∧ g2 < w'.heap.size ∧ Lay w ((g1, a, b) :: (g2, c, d) :: BL) w') Q ((opl 9).drop 66) ⟨T1, []⟩) :
    wpQuiet Try.prog (opl 9).toArray (fun w' => w'.cell? ⟨g1, 0, none⟩ = some (.int .i64 a) ∧ w'.cell? ⟨g1, 1, none⟩ = some (.int .i64 b) ∧ w'.cell? ⟨g2, 0, none⟩ = some (.int .i64 c) ∧ w'.cell? ⟨g2, 1, none⟩ = some (.int .i64 d) ∧ g1 < w'.heap.size ∧ g2 < w'.heap.size ∧ Lay w ((g1, a, b) :: (g2, c, d) :: BL) w') Q ((opl 9).drop 44) ⟨T0, []⟩ := by
  conv => arg 5; whnf
  have f5_ := fun hh => getq q5_ hh
  have f6_ := fun hh => getq q6_ hh
  have f7_ := fun hh => getq q7_ hh
  have f8_ := fun hh => getq q8_ hh
  have f9_ := fun hh => getq q9_ hh
  have f10_ := fun hh => getq q10_ hh
  have f11_ := fun hh => getq q11_ hh
  have f15_ := fun hh => getq q15_ hh
  have f16_ := fun hh => getq q16_ hh
  have f17_ := fun hh => getq q17_ hh
  have f21_ := fun hh => getq q21_ hh
  have f22_ := fun hh => getq q22_ hh
  have f25_ := fun hh => getq q25_ hh
  have f26_ := fun hh => getq q26_ hh
  have f29_ := fun hh => getq q29_ hh
  have f30_ := fun hh => getq q30_ hh
  have f165_ := fun hh => getq q165_ hh
  refine q_take (.bool false) rfl (q_gr1 (d := 165) rfl (by kernel_rfl) (by go_simp)) (fun _ _ => by go_simp) ?_
  refine q_take (.agg #[.int .i64 a, .int .i64 b]) rfl (q_gr1 (d := 165) rfl (by kernel_rfl) (by go_simp)) (fun w' hw' => by obtain ⟨k0, k1, k2, k3, _⟩ := hw'; go_simp) ?_
  refine q_call (f := 15) (args := #[.agg #[.int .i64 a, .int .i64 b]]) (.bool false) rfl (q_gr1 (d := 165) rfl (by kernel_rfl) (by go_simp)) (fun w' hw' => ((HIA1 _).out).mono (fun e w'' h => ⟨h.1, two_after h.2 hw'⟩)) (fun _ _ => by go_simp) ?_
  refine q_take (.bool false) rfl (q_gr1 (d := 165) rfl (by kernel_rfl) (by go_simp)) (fun _ _ => by go_simp) ?_
  refine q_not rfl (q_gr0 (d := 169) rfl (by kernel_rfl) (by go_simp)) ?_
  refine q_not rfl (q_gr0 (d := 169) rfl (by kernel_rfl) (by go_simp)) ?_
  refine q_take (.bool false) rfl (q_gr1 (d := 165) rfl (by kernel_rfl) (by go_simp)) (fun _ _ => by go_simp) ?_
  refine q_take (.bool false) rfl (q_gr1 (d := 165) rfl (by kernel_rfl) (by go_simp)) (fun _ _ => by go_simp) ?_
  refine q_take (.bool false) rfl (q_free rfl _) (fun _ _ => by go_simp) ?_
  refine q_take (.bool false) rfl (q_free rfl _) (fun _ _ => by go_simp) ?_
  refine q_take (.agg #[.int .i64 a, .int .i64 b]) rfl (q_gr1 (d := 175) rfl (by kernel_rfl) (by go_simp)) (fun w' hw' => by obtain ⟨k0, k1, k2, k3, _⟩ := hw'; go_simp) ?_
  refine q_call (f := 15) (args := #[.agg #[.int .i64 a, .int .i64 b]]) (.bool false) rfl (q_gr1 (d := 175) rfl (by kernel_rfl) (by go_simp)) (fun w' hw' => ((HIA1 _).out).mono (fun e w'' h => ⟨h.1, two_after h.2 hw'⟩)) (fun _ _ => by go_simp) ?_
  refine q_take (.agg #[.int .i64 a, .int .i64 b]) rfl (q_gr1 (d := 175) rfl (by kernel_rfl) (by go_simp)) (fun w' hw' => by obtain ⟨k0, k1, k2, k3, _⟩ := hw'; go_simp) ?_
  refine q_call (f := 16) (args := #[.agg #[.int .i64 a, .int .i64 b]]) (.bool false) rfl (q_gr1 (d := 175) rfl (by kernel_rfl) (by go_simp)) (fun w' hw' => ((HIA2 _).out).mono (fun e w'' h => ⟨h.1, two_after h.2 hw'⟩)) (fun _ _ => by go_simp) ?_
  refine q_take (.bool false) rfl (q_gr1 (d := 175) rfl (by kernel_rfl) (by go_simp)) (fun _ _ => by go_simp) ?_
  refine q_take (.bool false) rfl (q_free rfl _) (fun _ _ => by go_simp) ?_
  refine q_take (.bool false) rfl (q_free rfl _) (fun _ _ => by go_simp) ?_
  refine q_take (.bool false) rfl (q_gr1 (d := 182) rfl (by kernel_rfl) (by go_simp)) (fun _ _ => by go_simp) ?_
  refine q_take (.bool false) rfl (q_gr1 (d := 182) rfl (by kernel_rfl) (by go_simp)) (fun _ _ => by go_simp) ?_
  refine q_take (.bool false) rfl (q_gr1 (d := 182) rfl (by kernel_rfl) (by go_simp)) (fun _ _ => by go_simp) ?_
  refine q_take (.bool false) rfl (q_free rfl _) (fun _ _ => by go_simp) ?_
  refine q_take (.bool false) rfl (q_free rfl _) (fun _ _ => by go_simp) ?_
  exact (hnext _ (by simp [hs0]) (by first | (simp only [At, ↓Array.getElem?_setIfInBounds_ne, ne_eq, Nat.reduceEqDiff, not_false_eq_true, q5_]; done) | simp [At, hs0, f5_, f6_, f7_, f8_, f9_, f10_, f11_, f15_, f16_, f17_, f21_, f22_, f25_, f26_, f29_, f30_, f165_]) (by first | (simp only [At, ↓Array.getElem?_setIfInBounds_ne, ne_eq, Nat.reduceEqDiff, not_false_eq_true, q6_]; done) | simp [At, hs0, f5_, f6_, f7_, f8_, f9_, f10_, f11_, f15_, f16_, f17_, f21_, f22_, f25_, f26_, f29_, f30_, f165_]) (by first | (simp only [At, ↓Array.getElem?_setIfInBounds_ne, ne_eq, Nat.reduceEqDiff, not_false_eq_true, q7_]; done) | simp [At, hs0, f5_, f6_, f7_, f8_, f9_, f10_, f11_, f15_, f16_, f17_, f21_, f22_, f25_, f26_, f29_, f30_, f165_]) (by first | (simp only [At, ↓Array.getElem?_setIfInBounds_ne, ne_eq, Nat.reduceEqDiff, not_false_eq_true, q8_]; done) | simp [At, hs0, f5_, f6_, f7_, f8_, f9_, f10_, f11_, f15_, f16_, f17_, f21_, f22_, f25_, f26_, f29_, f30_, f165_]) (by first | (simp only [At, ↓Array.getElem?_setIfInBounds_ne, ne_eq, Nat.reduceEqDiff, not_false_eq_true, q9_]; done) | simp [At, hs0, f5_, f6_, f7_, f8_, f9_, f10_, f11_, f15_, f16_, f17_, f21_, f22_, f25_, f26_, f29_, f30_, f165_]) (by first | (simp only [At, ↓Array.getElem?_setIfInBounds_ne, ne_eq, Nat.reduceEqDiff, not_false_eq_true, q10_]; done) | simp [At, hs0, f5_, f6_, f7_, f8_, f9_, f10_, f11_, f15_, f16_, f17_, f21_, f22_, f25_, f26_, f29_, f30_, f165_]) (by first | (simp only [At, ↓Array.getElem?_setIfInBounds_ne, ne_eq, Nat.reduceEqDiff, not_false_eq_true, q11_]; done) | simp [At, hs0, f5_, f6_, f7_, f8_, f9_, f10_, f11_, f15_, f16_, f17_, f21_, f22_, f25_, f26_, f29_, f30_, f165_]) (by first | (simp only [At, ↓Array.getElem?_setIfInBounds_ne, ne_eq, Nat.reduceEqDiff, not_false_eq_true, q15_]; done) | simp [At, hs0, f5_, f6_, f7_, f8_, f9_, f10_, f11_, f15_, f16_, f17_, f21_, f22_, f25_, f26_, f29_, f30_, f165_]) (by first | (simp only [At, ↓Array.getElem?_setIfInBounds_ne, ne_eq, Nat.reduceEqDiff, not_false_eq_true, q16_]; done) | simp [At, hs0, f5_, f6_, f7_, f8_, f9_, f10_, f11_, f15_, f16_, f17_, f21_, f22_, f25_, f26_, f29_, f30_, f165_]) (by first | (simp only [At, ↓Array.getElem?_setIfInBounds_ne, ne_eq, Nat.reduceEqDiff, not_false_eq_true, q17_]; done) | simp [At, hs0, f5_, f6_, f7_, f8_, f9_, f10_, f11_, f15_, f16_, f17_, f21_, f22_, f25_, f26_, f29_, f30_, f165_]) (by first | (simp only [At, ↓Array.getElem?_setIfInBounds_ne, ne_eq, Nat.reduceEqDiff, not_false_eq_true, q21_]; done) | simp [At, hs0, f5_, f6_, f7_, f8_, f9_, f10_, f11_, f15_, f16_, f17_, f21_, f22_, f25_, f26_, f29_, f30_, f165_]) (by first | (simp only [At, ↓Array.getElem?_setIfInBounds_ne, ne_eq, Nat.reduceEqDiff, not_false_eq_true, q25_]; done) | simp [At, hs0, f5_, f6_, f7_, f8_, f9_, f10_, f11_, f15_, f16_, f17_, f21_, f22_, f25_, f26_, f29_, f30_, f165_]) (by first | (simp only [At, ↓Array.getElem?_setIfInBounds_ne, ne_eq, Nat.reduceEqDiff, not_false_eq_true, q26_]; done) | simp [At, hs0, f5_, f6_, f7_, f8_, f9_, f10_, f11_, f15_, f16_, f17_, f21_, f22_, f25_, f26_, f29_, f30_, f165_]) (by first | (simp only [At, ↓Array.getElem?_setIfInBounds_ne, ne_eq, Nat.reduceEqDiff, not_false_eq_true, q29_]; done) | simp [At, hs0, f5_, f6_, f7_, f8_, f9_, f10_, f11_, f15_, f16_, f17_, f21_, f22_, f25_, f26_, f29_, f30_, f165_]) (by first | (simp only [At, ↓Array.getElem?_setIfInBounds_ne, ne_eq, Nat.reduceEqDiff, not_false_eq_true, q30_]; done) | simp [At, hs0, f5_, f6_, f7_, f8_, f9_, f10_, f11_, f15_, f16_, f17_, f21_, f22_, f25_, f26_, f29_, f30_, f165_]) (by first | (simp only [At, ↓Array.getElem?_setIfInBounds_ne, ne_eq, Nat.reduceEqDiff, not_false_eq_true]; done) | simp [At, hs0, f5_, f6_, f7_, f8_, f9_, f10_, f11_, f15_, f16_, f17_, f21_, f22_, f25_, f26_, f29_, f30_, f165_]))
set_option maxHeartbeats 8000000 in
set_option maxRecDepth 100000 in
theorem reg9_no_3 (a b c d N D M Qn x y : Int) (WH OK : Bool) (g1 g2 g3 g4 g5 : Nat) (BL : List (Nat × Int × Int)) (w : World) (HIA1 : ∀ W : World, Hid (Calls Try.prog 15 #[.agg #[.int .i64 a, .int .i64 b]] W fun e w' => e = .returned (.bool false) ∧ Below W.heap.size W w')) (HIA2 : ∀ W : World, Hid (Calls Try.prog 16 #[.agg #[.int .i64 a, .int .i64 b]] W fun e w' => e = .returned (.bool false) ∧ Below W.heap.size W w')) (HIB : ∀ W : World, Hid (Calls Try.prog 15 #[.agg #[.int .i64 c, .int .i64 d]] W fun e w' => e = .returned (.bool OK) ∧ Below W.heap.size W w')) (Q : Act → Prop) (T0 : Array Value) (hs0 : T0.size = 620) (q5_ : At T0 5 (.int .i64 x)) (q6_ : At T0 6 (.int .i64 y)) (q7_ : At T0 7 (.pointer (some ⟨g1, 0, none⟩))) (q8_ : At T0 8 (.pointer (some ⟨g2, 0, none⟩))) (q9_ : At T0 9 (.pointer (some ⟨g3, 0, none⟩))) (q10_ : At T0 10 (.pointer (some ⟨g4, 0, none⟩))) (q11_ : At T0 11 (.pointer (some ⟨g5, 0, none⟩))) (q15_ : At T0 15 (.int .i64 N)) (q16_ : At T0 16 (.int .i64 D)) (q17_ : At T0 17 (.bool false)) (q21_ : At T0 21 (.int .i64 M)) (q25_ : At T0 25 (.int .i64 Qn)) (q26_ : At T0 26 (.bool false)) (q29_ : At T0 29 (.bool WH)) (q30_ : At T0 30 (.bool false)) (q187_ : At T0 187 (.bool false))
    (hnext : ∀ T1 : Array Value, T1.size = 620 → At T1 5 (.int .i64 x) → At T1 6 (.int .i64 y) → At T1 7 (.pointer (some ⟨g1, 0, none⟩)) → At T1 8 (.pointer (some ⟨g2, 0, none⟩)) → At T1 9 (.pointer (some ⟨g3, 0, none⟩)) → At T1 10 (.pointer (some ⟨g4, 0, none⟩)) → At T1 11 (.pointer (some ⟨g5, 0, none⟩)) → At T1 15 (.int .i64 N) → At T1 16 (.int .i64 D) → At T1 17 (.bool false) → At T1 21 (.int .i64 M) → At T1 25 (.int .i64 Qn) → At T1 29 (.bool WH) → At T1 196 (.bool false) → Q ⟨T1, []⟩) :
    wpQuiet Try.prog (opl 9).toArray (fun w' => w'.cell? ⟨g1, 0, none⟩ = some (.int .i64 a) ∧ w'.cell? ⟨g1, 1, none⟩ = some (.int .i64 b) ∧ w'.cell? ⟨g2, 0, none⟩ = some (.int .i64 c) ∧ w'.cell? ⟨g2, 1, none⟩ = some (.int .i64 d) ∧ g1 < w'.heap.size ∧ g2 < w'.heap.size ∧ Lay w ((g1, a, b) :: (g2, c, d) :: BL) w') Q ((opl 9).drop 66) ⟨T0, []⟩ := by
  conv => arg 5; whnf
  have f5_ := fun hh => getq q5_ hh
  have f6_ := fun hh => getq q6_ hh
  have f7_ := fun hh => getq q7_ hh
  have f8_ := fun hh => getq q8_ hh
  have f9_ := fun hh => getq q9_ hh
  have f10_ := fun hh => getq q10_ hh
  have f11_ := fun hh => getq q11_ hh
  have f15_ := fun hh => getq q15_ hh
  have f16_ := fun hh => getq q16_ hh
  have f17_ := fun hh => getq q17_ hh
  have f21_ := fun hh => getq q21_ hh
  have f25_ := fun hh => getq q25_ hh
  have f26_ := fun hh => getq q26_ hh
  have f29_ := fun hh => getq q29_ hh
  have f30_ := fun hh => getq q30_ hh
  have f187_ := fun hh => getq q187_ hh
  refine q_take (.bool false) rfl (q_gr1 (d := 187) rfl (by kernel_rfl) (by go_simp)) (fun _ _ => by go_simp) ?_
  refine q_take (.bool false) rfl (q_gr1 (d := 187) rfl (by kernel_rfl) (by go_simp)) (fun _ _ => by go_simp) ?_
  refine q_take (.bool false) rfl (q_gr1 (d := 187) rfl (by kernel_rfl) (by go_simp)) (fun _ _ => by go_simp) ?_
  refine q_take (.bool false) rfl (q_free rfl _) (fun _ _ => by go_simp) ?_
  refine q_take (.bool false) rfl (q_free rfl _) (fun _ _ => by go_simp) ?_
  refine q_take (.bool false) rfl (q_gr1 (d := 192) rfl (by kernel_rfl) (by go_simp)) (fun _ _ => by go_simp) ?_
  refine q_take (.bool false) rfl (q_gr1 (d := 192) rfl (by kernel_rfl) (by go_simp)) (fun _ _ => by go_simp) ?_
  refine q_take (.bool false) rfl (q_gr1 (d := 192) rfl (by kernel_rfl) (by go_simp)) (fun _ _ => by go_simp) ?_
  refine q_take (.bool false) rfl (q_free rfl _) (fun _ _ => by go_simp) ?_
  refine wpQuiet_nil (hnext _ (by simp [hs0]) (by first | (simp only [At, ↓Array.getElem?_setIfInBounds_ne, ne_eq, Nat.reduceEqDiff, not_false_eq_true, q5_]; done) | simp [At, hs0, f5_, f6_, f7_, f8_, f9_, f10_, f11_, f15_, f16_, f17_, f21_, f25_, f26_, f29_, f30_, f187_]) (by first | (simp only [At, ↓Array.getElem?_setIfInBounds_ne, ne_eq, Nat.reduceEqDiff, not_false_eq_true, q6_]; done) | simp [At, hs0, f5_, f6_, f7_, f8_, f9_, f10_, f11_, f15_, f16_, f17_, f21_, f25_, f26_, f29_, f30_, f187_]) (by first | (simp only [At, ↓Array.getElem?_setIfInBounds_ne, ne_eq, Nat.reduceEqDiff, not_false_eq_true, q7_]; done) | simp [At, hs0, f5_, f6_, f7_, f8_, f9_, f10_, f11_, f15_, f16_, f17_, f21_, f25_, f26_, f29_, f30_, f187_]) (by first | (simp only [At, ↓Array.getElem?_setIfInBounds_ne, ne_eq, Nat.reduceEqDiff, not_false_eq_true, q8_]; done) | simp [At, hs0, f5_, f6_, f7_, f8_, f9_, f10_, f11_, f15_, f16_, f17_, f21_, f25_, f26_, f29_, f30_, f187_]) (by first | (simp only [At, ↓Array.getElem?_setIfInBounds_ne, ne_eq, Nat.reduceEqDiff, not_false_eq_true, q9_]; done) | simp [At, hs0, f5_, f6_, f7_, f8_, f9_, f10_, f11_, f15_, f16_, f17_, f21_, f25_, f26_, f29_, f30_, f187_]) (by first | (simp only [At, ↓Array.getElem?_setIfInBounds_ne, ne_eq, Nat.reduceEqDiff, not_false_eq_true, q10_]; done) | simp [At, hs0, f5_, f6_, f7_, f8_, f9_, f10_, f11_, f15_, f16_, f17_, f21_, f25_, f26_, f29_, f30_, f187_]) (by first | (simp only [At, ↓Array.getElem?_setIfInBounds_ne, ne_eq, Nat.reduceEqDiff, not_false_eq_true, q11_]; done) | simp [At, hs0, f5_, f6_, f7_, f8_, f9_, f10_, f11_, f15_, f16_, f17_, f21_, f25_, f26_, f29_, f30_, f187_]) (by first | (simp only [At, ↓Array.getElem?_setIfInBounds_ne, ne_eq, Nat.reduceEqDiff, not_false_eq_true, q15_]; done) | simp [At, hs0, f5_, f6_, f7_, f8_, f9_, f10_, f11_, f15_, f16_, f17_, f21_, f25_, f26_, f29_, f30_, f187_]) (by first | (simp only [At, ↓Array.getElem?_setIfInBounds_ne, ne_eq, Nat.reduceEqDiff, not_false_eq_true, q16_]; done) | simp [At, hs0, f5_, f6_, f7_, f8_, f9_, f10_, f11_, f15_, f16_, f17_, f21_, f25_, f26_, f29_, f30_, f187_]) (by first | (simp only [At, ↓Array.getElem?_setIfInBounds_ne, ne_eq, Nat.reduceEqDiff, not_false_eq_true, q17_]; done) | simp [At, hs0, f5_, f6_, f7_, f8_, f9_, f10_, f11_, f15_, f16_, f17_, f21_, f25_, f26_, f29_, f30_, f187_]) (by first | (simp only [At, ↓Array.getElem?_setIfInBounds_ne, ne_eq, Nat.reduceEqDiff, not_false_eq_true, q21_]; done) | simp [At, hs0, f5_, f6_, f7_, f8_, f9_, f10_, f11_, f15_, f16_, f17_, f21_, f25_, f26_, f29_, f30_, f187_]) (by first | (simp only [At, ↓Array.getElem?_setIfInBounds_ne, ne_eq, Nat.reduceEqDiff, not_false_eq_true, q25_]; done) | simp [At, hs0, f5_, f6_, f7_, f8_, f9_, f10_, f11_, f15_, f16_, f17_, f21_, f25_, f26_, f29_, f30_, f187_]) (by first | (simp only [At, ↓Array.getElem?_setIfInBounds_ne, ne_eq, Nat.reduceEqDiff, not_false_eq_true, q29_]; done) | simp [At, hs0, f5_, f6_, f7_, f8_, f9_, f10_, f11_, f15_, f16_, f17_, f21_, f25_, f26_, f29_, f30_, f187_]) (by first | (simp only [At, ↓Array.getElem?_setIfInBounds_ne, ne_eq, Nat.reduceEqDiff, not_false_eq_true]; done) | simp [At, hs0, f5_, f6_, f7_, f8_, f9_, f10_, f11_, f15_, f16_, f17_, f21_, f25_, f26_, f29_, f30_, f187_]))
set_option maxHeartbeats 8000000 in
set_option maxRecDepth 100000 in
theorem reg9_no (a b c d N D M Q x y : Int) (WH OK : Bool) (g1 g2 g3 g4 g5 : Nat) (BL : List (Nat × Int × Int)) (w w0 : World) (T0 : Array Value) (hs0 : T0.size = 620) (q7_0 : At T0 7 (.pointer (some ⟨g1, 0, none⟩))) (q8_0 : At T0 8 (.pointer (some ⟨g2, 0, none⟩))) (q9_0 : At T0 9 (.pointer (some ⟨g3, 0, none⟩))) (q10_0 : At T0 10 (.pointer (some ⟨g4, 0, none⟩))) (q11_0 : At T0 11 (.pointer (some ⟨g5, 0, none⟩))) (q5_0 : At T0 5 (.int .i64 x)) (q6_0 : At T0 6 (.int .i64 y)) (q15_0 : At T0 15 (.int .i64 N)) (q16_0 : At T0 16 (.int .i64 D)) (q17_0 : At T0 17 (.bool false)) (q18_0 : At T0 18 (.int .i64 N)) (q19_0 : At T0 19 (.int .i64 D)) (q20_0 : At T0 20 (.bool false)) (q21_0 : At T0 21 (.int .i64 M)) (q22_0 : At T0 22 (.bool false)) (q23_0 : At T0 23 (.int .i64 M)) (q24_0 : At T0 24 (.bool false)) (q25_0 : At T0 25 (.int .i64 Q)) (q26_0 : At T0 26 (.bool false)) (q27_0 : At T0 27 (.int .i64 Q)) (q28_0 : At T0 28 (.bool false)) (q29_0 : At T0 29 (.bool WH)) (q30_0 : At T0 30 (.bool false)) (q31_0 : At T0 31 (.bool WH)) (q32_0 : At T0 32 (.bool false)) (hL : Lay w ((g1, a, b) :: (g2, c, d) :: BL) w0) (HIA1 : ∀ W : World, Hid (Calls Try.prog 15 #[.agg #[.int .i64 a, .int .i64 b]] W fun e w' => e = .returned (.bool false) ∧ Below W.heap.size W w')) (HIA2 : ∀ W : World, Hid (Calls Try.prog 16 #[.agg #[.int .i64 a, .int .i64 b]] W fun e w' => e = .returned (.bool false) ∧ Below W.heap.size W w')) (HIB : ∀ W : World, Hid (Calls Try.prog 15 #[.agg #[.int .i64 c, .int .i64 d]] W fun e w' => e = .returned (.bool OK) ∧ Below W.heap.size W w')) (J K' : Act → World → Prop) (Q' : Exit → Act → World → Prop) (hJ : ∀ a' w', (fun a' wx => ∃ T : Array Value, a' = ⟨T, []⟩ ∧ T.size = 620 ∧ At T 7 (.pointer (some ⟨g1, 0, none⟩)) ∧ At T 8 (.pointer (some ⟨g2, 0, none⟩)) ∧ At T 9 (.pointer (some ⟨g3, 0, none⟩)) ∧ At T 10 (.pointer (some ⟨g4, 0, none⟩)) ∧ At T 11 (.pointer (some ⟨g5, 0, none⟩)) ∧ At T 5 (.int .i64 x) ∧ At T 6 (.int .i64 y) ∧ At T 15 (.int .i64 N) ∧ At T 16 (.int .i64 D) ∧ At T 17 (.bool false) ∧ At T 21 (.int .i64 M) ∧ At T 25 (.int .i64 Q) ∧ At T 29 (.bool WH) ∧ At T 196 (.bool false) ∧ Lay w ((g1, a, b) :: (g2, c, d) :: BL) wx) a' w' → J a' w') (hK : ∀ a' w', Met J a' w' → K' a' w') :
    (reg 9).wp Try.prog (Exit.then K' Q') ⟨T0, []⟩ w0 := by
  have key : ∀ l : List Oper, l = opl 9 → wpQuiet Try.prog l.toArray (fun w' => w'.cell? ⟨g1, 0, none⟩ = some (.int .i64 a) ∧ w'.cell? ⟨g1, 1, none⟩ = some (.int .i64 b) ∧ w'.cell? ⟨g2, 0, none⟩ = some (.int .i64 c) ∧ w'.cell? ⟨g2, 1, none⟩ = some (.int .i64 d) ∧ g1 < w'.heap.size ∧ g2 < w'.heap.size ∧ Lay w ((g1, a, b) :: (g2, c, d) :: BL) w') (fun a' => ∀ w', (fun w' => w'.cell? ⟨g1, 0, none⟩ = some (.int .i64 a) ∧ w'.cell? ⟨g1, 1, none⟩ = some (.int .i64 b) ∧ w'.cell? ⟨g2, 0, none⟩ = some (.int .i64 c) ∧ w'.cell? ⟨g2, 1, none⟩ = some (.int .i64 d) ∧ g1 < w'.heap.size ∧ g2 < w'.heap.size ∧ Lay w ((g1, a, b) :: (g2, c, d) :: BL) w') w' → (Exit.then K' Q') .normal a' w') l ⟨T0, []⟩ := by
    intro l el
    subst el
    refine reg9_no_0 a b c d N D M Q x y WH OK g1 g2 g3 g4 g5 BL w HIA1 HIA2 HIB _ _ hs0 q5_0 q6_0 q7_0 q8_0 q9_0 q10_0 q11_0 q15_0 q16_0 q17_0 q18_0 q19_0 q20_0 q21_0 q22_0 q23_0 q24_0 q25_0 q26_0 q27_0 q28_0 q29_0 q30_0 q31_0 q32_0 ?_
    intro U0 hsU0 q5U0 q6U0 q7U0 q8U0 q9U0 q10U0 q11U0 q15U0 q16U0 q17U0 q21U0 q22U0 q25U0 q26U0 q27U0 q28U0 q29U0 q30U0 q31U0 q32U0 q140U0 q143U0
    refine reg9_no_1 a b c d N D M Q x y WH OK g1 g2 g3 g4 g5 BL w HIA1 HIA2 HIB _ _ hsU0 q5U0 q6U0 q7U0 q8U0 q9U0 q10U0 q11U0 q15U0 q16U0 q17U0 q21U0 q22U0 q25U0 q26U0 q27U0 q28U0 q29U0 q30U0 q31U0 q32U0 q140U0 q143U0 ?_
    intro U1 hsU1 q5U1 q6U1 q7U1 q8U1 q9U1 q10U1 q11U1 q15U1 q16U1 q17U1 q21U1 q22U1 q25U1 q26U1 q29U1 q30U1 q165U1
    refine reg9_no_2 a b c d N D M Q x y WH OK g1 g2 g3 g4 g5 BL w HIA1 HIA2 HIB _ _ hsU1 q5U1 q6U1 q7U1 q8U1 q9U1 q10U1 q11U1 q15U1 q16U1 q17U1 q21U1 q22U1 q25U1 q26U1 q29U1 q30U1 q165U1 ?_
    intro U2 hsU2 q5U2 q6U2 q7U2 q8U2 q9U2 q10U2 q11U2 q15U2 q16U2 q17U2 q21U2 q25U2 q26U2 q29U2 q30U2 q187U2
    refine reg9_no_3 a b c d N D M Q x y WH OK g1 g2 g3 g4 g5 BL w HIA1 HIA2 HIB _ _ hsU2 q5U2 q6U2 q7U2 q8U2 q9U2 q10U2 q11U2 q15U2 q16U2 q17U2 q21U2 q25U2 q26U2 q29U2 q30U2 q187U2 ?_
    intro U3 hsU3 q5U3 q6U3 q7U3 q8U3 q9U3 q10U3 q11U3 q15U3 q16U3 q17U3 q21U3 q25U3 q29U3 q196U3
    exact fun w9 hS9 => hK _ _ (Met.intro (hJ _ _ ⟨_, rfl, hsU3, q7U3, q8U3, q9U3, q10U3, q11U3, q5U3, q6U3, q15U3, q16U3, q17U3, q21U3, q25U3, q29U3, q196U3, hS9.2.2.2.2.2.2⟩))
  conv => arg 2; whnf
  refine q_region (fun w' => w'.cell? ⟨g1, 0, none⟩ = some (.int .i64 a) ∧ w'.cell? ⟨g1, 1, none⟩ = some (.int .i64 b) ∧ w'.cell? ⟨g2, 0, none⟩ = some (.int .i64 c) ∧ w'.cell? ⟨g2, 1, none⟩ = some (.int .i64 d) ∧ g1 < w'.heap.size ∧ g2 < w'.heap.size ∧ Lay w ((g1, a, b) :: (g2, c, d) :: BL) w') (by kernel_rfl) (by kernel_rfl) (by obtain ⟨c00, c01, z0, c10, c11, z1, _⟩ := Lay.op hL; exact two_after (Below.drew (Below.refl _ _)) ⟨c00, c01, c10, c11, z0, z1, hL⟩) ?_
  exact key _ (by kernel_rfl)
set_option maxHeartbeats 8000000 in
set_option maxRecDepth 100000 in
theorem reg9_yes_0 (a b c d N D M Qn x y : Int) (WH OK : Bool) (g1 g2 g3 g4 g5 : Nat) (BL : List (Nat × Int × Int)) (w : World) (HIA1 : ∀ W : World, Hid (Calls Try.prog 15 #[.agg #[.int .i64 a, .int .i64 b]] W fun e w' => e = .returned (.bool true) ∧ Below W.heap.size W w')) (HIA2 : ∀ W : World, Hid (Calls Try.prog 16 #[.agg #[.int .i64 a, .int .i64 b]] W fun e w' => e = .returned (.bool true) ∧ Below W.heap.size W w')) (HIB : ∀ W : World, Hid (Calls Try.prog 15 #[.agg #[.int .i64 c, .int .i64 d]] W fun e w' => e = .returned (.bool OK) ∧ Below W.heap.size W w')) (Q : Act → Prop) (T0 : Array Value) (hs0 : T0.size = 620) (q5_ : At T0 5 (.int .i64 x)) (q6_ : At T0 6 (.int .i64 y)) (q7_ : At T0 7 (.pointer (some ⟨g1, 0, none⟩))) (q8_ : At T0 8 (.pointer (some ⟨g2, 0, none⟩))) (q9_ : At T0 9 (.pointer (some ⟨g3, 0, none⟩))) (q10_ : At T0 10 (.pointer (some ⟨g4, 0, none⟩))) (q11_ : At T0 11 (.pointer (some ⟨g5, 0, none⟩))) (q15_ : At T0 15 (.int .i64 N)) (q16_ : At T0 16 (.int .i64 D)) (q17_ : At T0 17 (.bool OK)) (q18_ : At T0 18 (.int .i64 N)) (q19_ : At T0 19 (.int .i64 D)) (q20_ : At T0 20 (.bool OK)) (q21_ : At T0 21 (.int .i64 M)) (q22_ : At T0 22 (.bool OK)) (q23_ : At T0 23 (.int .i64 M)) (q24_ : At T0 24 (.bool OK)) (q25_ : At T0 25 (.int .i64 Qn)) (q26_ : At T0 26 (.bool OK)) (q27_ : At T0 27 (.int .i64 Qn)) (q28_ : At T0 28 (.bool OK)) (q29_ : At T0 29 (.bool WH)) (q30_ : At T0 30 (.bool OK)) (q31_ : At T0 31 (.bool WH)) (q32_ : At T0 32 (.bool OK))
    (hnext : ∀ T1 : Array Value, T1.size = 620 → At T1 5 (.int .i64 x) → At T1 6 (.int .i64 y) → At T1 7 (.pointer (some ⟨g1, 0, none⟩)) → At T1 8 (.pointer (some ⟨g2, 0, none⟩)) → At T1 9 (.pointer (some ⟨g3, 0, none⟩)) → At T1 10 (.pointer (some ⟨g4, 0, none⟩)) → At T1 11 (.pointer (some ⟨g5, 0, none⟩)) → At T1 15 (.int .i64 N) → At T1 16 (.int .i64 D) → At T1 17 (.bool OK) → At T1 21 (.int .i64 M) → At T1 22 (.bool OK) → At T1 25 (.int .i64 Qn) → At T1 26 (.bool OK) → At T1 27 (.int .i64 Qn) → At T1 28 (.bool OK) → At T1 29 (.bool WH) → At T1 30 (.bool OK) → At T1 31 (.bool WH) → At T1 32 (.bool OK) → At T1 140 (.bool false) → At T1 143 (.bool false) → wpQuiet Try.prog (opl 9).toArray (fun w' => w'.cell? ⟨g1, 0, none⟩ = some (.int .i64 a) ∧ w'.cell? ⟨g1, 1, none⟩ = some (.int .i64 b) ∧ w'.cell? ⟨g2, 0, none⟩ = some (.int .i64 c) ∧ w'.cell? ⟨g2, 1, none⟩ = some (.int .i64 d) ∧ g1 < w'.heap.size ∧ g2 < w'.heap.size ∧ Lay w ((g1, a, b) :: (g2, c, d) :: BL) w') Q ((opl 9).drop 22) ⟨T1, []⟩) :
    wpQuiet Try.prog (opl 9).toArray (fun w' => w'.cell? ⟨g1, 0, none⟩ = some (.int .i64 a) ∧ w'.cell? ⟨g1, 1, none⟩ = some (.int .i64 b) ∧ w'.cell? ⟨g2, 0, none⟩ = some (.int .i64 c) ∧ w'.cell? ⟨g2, 1, none⟩ = some (.int .i64 d) ∧ g1 < w'.heap.size ∧ g2 < w'.heap.size ∧ Lay w ((g1, a, b) :: (g2, c, d) :: BL) w') Q ((opl 9).drop 0) ⟨T0, []⟩ := by
  conv => arg 5; whnf
  have f5_ := fun hh => getq q5_ hh
  have f6_ := fun hh => getq q6_ hh
  have f7_ := fun hh => getq q7_ hh
  have f8_ := fun hh => getq q8_ hh
  have f9_ := fun hh => getq q9_ hh
  have f10_ := fun hh => getq q10_ hh
  have f11_ := fun hh => getq q11_ hh
  have f15_ := fun hh => getq q15_ hh
  have f16_ := fun hh => getq q16_ hh
  have f17_ := fun hh => getq q17_ hh
  have f18_ := fun hh => getq q18_ hh
  have f19_ := fun hh => getq q19_ hh
  have f20_ := fun hh => getq q20_ hh
  have f21_ := fun hh => getq q21_ hh
  have f22_ := fun hh => getq q22_ hh
  have f23_ := fun hh => getq q23_ hh
  have f24_ := fun hh => getq q24_ hh
  have f25_ := fun hh => getq q25_ hh
  have f26_ := fun hh => getq q26_ hh
  have f27_ := fun hh => getq q27_ hh
  have f28_ := fun hh => getq q28_ hh
  have f29_ := fun hh => getq q29_ hh
  have f30_ := fun hh => getq q30_ hh
  have f31_ := fun hh => getq q31_ hh
  have f32_ := fun hh => getq q32_ hh
  refine q_take (.bool OK) rfl (q_free rfl _) (fun _ _ => by go_simp) ?_
  refine q_take (.bool OK) rfl (q_free rfl _) (fun _ _ => by go_simp) ?_
  refine q_take (.bool false) rfl (q_free rfl _) (fun _ _ => by go_simp) ?_
  refine q_take (.bool false) rfl (q_free rfl _) (fun _ _ => by go_simp) ?_
  refine q_take (.int .i64 N) rfl (q_gr1 (d := 125) rfl (by kernel_rfl) (by go_simp)) (fun _ _ => by go_simp) ?_
  refine q_take (.int .i64 N) rfl (q_gr1 (d := 125) rfl (by kernel_rfl) (by go_simp)) (fun _ _ => by go_simp) ?_
  refine q_take (.bool false) rfl (q_gr1 (d := 125) rfl (by kernel_rfl) (by go_simp)) (fun _ _ => by go_simp) ?_
  refine q_take (.bool false) rfl (q_free rfl _) (fun _ _ => by go_simp) ?_
  refine q_take (.bool false) rfl (q_free rfl _) (fun _ _ => by go_simp) ?_
  refine q_take (.int .i64 D) rfl (q_gr1 (d := 130) rfl (by kernel_rfl) (by go_simp)) (fun _ _ => by go_simp) ?_
  refine q_take (.int .i64 D) rfl (q_gr1 (d := 130) rfl (by kernel_rfl) (by go_simp)) (fun _ _ => by go_simp) ?_
  refine q_take (.bool false) rfl (q_gr1 (d := 130) rfl (by kernel_rfl) (by go_simp)) (fun _ _ => by go_simp) ?_
  refine q_take (.bool false) rfl (q_free rfl _) (fun _ _ => by go_simp) ?_
  refine q_take (.bool false) rfl (q_free rfl _) (fun _ _ => by go_simp) ?_
  refine q_take (.bool OK) rfl (q_gr1 (d := 135) rfl (by kernel_rfl) (by go_simp)) (fun _ _ => by go_simp) ?_
  refine q_take (.bool OK) rfl (q_gr1 (d := 135) rfl (by kernel_rfl) (by go_simp)) (fun _ _ => by go_simp) ?_
  refine q_take (.bool false) rfl (q_gr1 (d := 135) rfl (by kernel_rfl) (by go_simp)) (fun _ _ => by go_simp) ?_
  refine q_take (.bool false) rfl (q_free rfl _) (fun _ _ => by go_simp) ?_
  refine q_take (.bool false) rfl (q_free rfl _) (fun _ _ => by go_simp) ?_
  refine q_take (.int .i64 M) rfl (q_gr1 (d := 140) rfl (by kernel_rfl) (by go_simp)) (fun _ _ => by go_simp) ?_
  refine q_take (.int .i64 M) rfl (q_gr1 (d := 140) rfl (by kernel_rfl) (by go_simp)) (fun _ _ => by go_simp) ?_
  refine q_take (.bool false) rfl (q_gr1 (d := 140) rfl (by kernel_rfl) (by go_simp)) (fun _ _ => by go_simp) ?_
  exact (hnext _ (by simp [hs0]) (by first | (simp only [At, ↓Array.getElem?_setIfInBounds_ne, ne_eq, Nat.reduceEqDiff, not_false_eq_true, q5_]; done) | simp [At, hs0, f5_, f6_, f7_, f8_, f9_, f10_, f11_, f15_, f16_, f17_, f18_, f19_, f20_, f21_, f22_, f23_, f24_, f25_, f26_, f27_, f28_, f29_, f30_, f31_, f32_]) (by first | (simp only [At, ↓Array.getElem?_setIfInBounds_ne, ne_eq, Nat.reduceEqDiff, not_false_eq_true, q6_]; done) | simp [At, hs0, f5_, f6_, f7_, f8_, f9_, f10_, f11_, f15_, f16_, f17_, f18_, f19_, f20_, f21_, f22_, f23_, f24_, f25_, f26_, f27_, f28_, f29_, f30_, f31_, f32_]) (by first | (simp only [At, ↓Array.getElem?_setIfInBounds_ne, ne_eq, Nat.reduceEqDiff, not_false_eq_true, q7_]; done) | simp [At, hs0, f5_, f6_, f7_, f8_, f9_, f10_, f11_, f15_, f16_, f17_, f18_, f19_, f20_, f21_, f22_, f23_, f24_, f25_, f26_, f27_, f28_, f29_, f30_, f31_, f32_]) (by first | (simp only [At, ↓Array.getElem?_setIfInBounds_ne, ne_eq, Nat.reduceEqDiff, not_false_eq_true, q8_]; done) | simp [At, hs0, f5_, f6_, f7_, f8_, f9_, f10_, f11_, f15_, f16_, f17_, f18_, f19_, f20_, f21_, f22_, f23_, f24_, f25_, f26_, f27_, f28_, f29_, f30_, f31_, f32_]) (by first | (simp only [At, ↓Array.getElem?_setIfInBounds_ne, ne_eq, Nat.reduceEqDiff, not_false_eq_true, q9_]; done) | simp [At, hs0, f5_, f6_, f7_, f8_, f9_, f10_, f11_, f15_, f16_, f17_, f18_, f19_, f20_, f21_, f22_, f23_, f24_, f25_, f26_, f27_, f28_, f29_, f30_, f31_, f32_]) (by first | (simp only [At, ↓Array.getElem?_setIfInBounds_ne, ne_eq, Nat.reduceEqDiff, not_false_eq_true, q10_]; done) | simp [At, hs0, f5_, f6_, f7_, f8_, f9_, f10_, f11_, f15_, f16_, f17_, f18_, f19_, f20_, f21_, f22_, f23_, f24_, f25_, f26_, f27_, f28_, f29_, f30_, f31_, f32_]) (by first | (simp only [At, ↓Array.getElem?_setIfInBounds_ne, ne_eq, Nat.reduceEqDiff, not_false_eq_true, q11_]; done) | simp [At, hs0, f5_, f6_, f7_, f8_, f9_, f10_, f11_, f15_, f16_, f17_, f18_, f19_, f20_, f21_, f22_, f23_, f24_, f25_, f26_, f27_, f28_, f29_, f30_, f31_, f32_]) (by first | (simp only [At, ↓Array.getElem?_setIfInBounds_ne, ne_eq, Nat.reduceEqDiff, not_false_eq_true, q15_]; done) | simp [At, hs0, f5_, f6_, f7_, f8_, f9_, f10_, f11_, f15_, f16_, f17_, f18_, f19_, f20_, f21_, f22_, f23_, f24_, f25_, f26_, f27_, f28_, f29_, f30_, f31_, f32_]) (by first | (simp only [At, ↓Array.getElem?_setIfInBounds_ne, ne_eq, Nat.reduceEqDiff, not_false_eq_true, q16_]; done) | simp [At, hs0, f5_, f6_, f7_, f8_, f9_, f10_, f11_, f15_, f16_, f17_, f18_, f19_, f20_, f21_, f22_, f23_, f24_, f25_, f26_, f27_, f28_, f29_, f30_, f31_, f32_]) (by first | (simp only [At, ↓Array.getElem?_setIfInBounds_ne, ne_eq, Nat.reduceEqDiff, not_false_eq_true, q17_]; done) | simp [At, hs0, f5_, f6_, f7_, f8_, f9_, f10_, f11_, f15_, f16_, f17_, f18_, f19_, f20_, f21_, f22_, f23_, f24_, f25_, f26_, f27_, f28_, f29_, f30_, f31_, f32_]) (by first | (simp only [At, ↓Array.getElem?_setIfInBounds_ne, ne_eq, Nat.reduceEqDiff, not_false_eq_true, q21_]; done) | simp [At, hs0, f5_, f6_, f7_, f8_, f9_, f10_, f11_, f15_, f16_, f17_, f18_, f19_, f20_, f21_, f22_, f23_, f24_, f25_, f26_, f27_, f28_, f29_, f30_, f31_, f32_]) (by first | (simp only [At, ↓Array.getElem?_setIfInBounds_ne, ne_eq, Nat.reduceEqDiff, not_false_eq_true, q22_]; done) | simp [At, hs0, f5_, f6_, f7_, f8_, f9_, f10_, f11_, f15_, f16_, f17_, f18_, f19_, f20_, f21_, f22_, f23_, f24_, f25_, f26_, f27_, f28_, f29_, f30_, f31_, f32_]) (by first | (simp only [At, ↓Array.getElem?_setIfInBounds_ne, ne_eq, Nat.reduceEqDiff, not_false_eq_true, q25_]; done) | simp [At, hs0, f5_, f6_, f7_, f8_, f9_, f10_, f11_, f15_, f16_, f17_, f18_, f19_, f20_, f21_, f22_, f23_, f24_, f25_, f26_, f27_, f28_, f29_, f30_, f31_, f32_]) (by first | (simp only [At, ↓Array.getElem?_setIfInBounds_ne, ne_eq, Nat.reduceEqDiff, not_false_eq_true, q26_]; done) | simp [At, hs0, f5_, f6_, f7_, f8_, f9_, f10_, f11_, f15_, f16_, f17_, f18_, f19_, f20_, f21_, f22_, f23_, f24_, f25_, f26_, f27_, f28_, f29_, f30_, f31_, f32_]) (by first | (simp only [At, ↓Array.getElem?_setIfInBounds_ne, ne_eq, Nat.reduceEqDiff, not_false_eq_true, q27_]; done) | simp [At, hs0, f5_, f6_, f7_, f8_, f9_, f10_, f11_, f15_, f16_, f17_, f18_, f19_, f20_, f21_, f22_, f23_, f24_, f25_, f26_, f27_, f28_, f29_, f30_, f31_, f32_]) (by first | (simp only [At, ↓Array.getElem?_setIfInBounds_ne, ne_eq, Nat.reduceEqDiff, not_false_eq_true, q28_]; done) | simp [At, hs0, f5_, f6_, f7_, f8_, f9_, f10_, f11_, f15_, f16_, f17_, f18_, f19_, f20_, f21_, f22_, f23_, f24_, f25_, f26_, f27_, f28_, f29_, f30_, f31_, f32_]) (by first | (simp only [At, ↓Array.getElem?_setIfInBounds_ne, ne_eq, Nat.reduceEqDiff, not_false_eq_true, q29_]; done) | simp [At, hs0, f5_, f6_, f7_, f8_, f9_, f10_, f11_, f15_, f16_, f17_, f18_, f19_, f20_, f21_, f22_, f23_, f24_, f25_, f26_, f27_, f28_, f29_, f30_, f31_, f32_]) (by first | (simp only [At, ↓Array.getElem?_setIfInBounds_ne, ne_eq, Nat.reduceEqDiff, not_false_eq_true, q30_]; done) | simp [At, hs0, f5_, f6_, f7_, f8_, f9_, f10_, f11_, f15_, f16_, f17_, f18_, f19_, f20_, f21_, f22_, f23_, f24_, f25_, f26_, f27_, f28_, f29_, f30_, f31_, f32_]) (by first | (simp only [At, ↓Array.getElem?_setIfInBounds_ne, ne_eq, Nat.reduceEqDiff, not_false_eq_true, q31_]; done) | simp [At, hs0, f5_, f6_, f7_, f8_, f9_, f10_, f11_, f15_, f16_, f17_, f18_, f19_, f20_, f21_, f22_, f23_, f24_, f25_, f26_, f27_, f28_, f29_, f30_, f31_, f32_]) (by first | (simp only [At, ↓Array.getElem?_setIfInBounds_ne, ne_eq, Nat.reduceEqDiff, not_false_eq_true, q32_]; done) | simp [At, hs0, f5_, f6_, f7_, f8_, f9_, f10_, f11_, f15_, f16_, f17_, f18_, f19_, f20_, f21_, f22_, f23_, f24_, f25_, f26_, f27_, f28_, f29_, f30_, f31_, f32_]) (by first | (simp only [At, ↓Array.getElem?_setIfInBounds_ne, ne_eq, Nat.reduceEqDiff, not_false_eq_true]; done) | simp [At, hs0, f5_, f6_, f7_, f8_, f9_, f10_, f11_, f15_, f16_, f17_, f18_, f19_, f20_, f21_, f22_, f23_, f24_, f25_, f26_, f27_, f28_, f29_, f30_, f31_, f32_]) (by first | (simp only [At, ↓Array.getElem?_setIfInBounds_ne, ne_eq, Nat.reduceEqDiff, not_false_eq_true]; done) | simp [At, hs0, f5_, f6_, f7_, f8_, f9_, f10_, f11_, f15_, f16_, f17_, f18_, f19_, f20_, f21_, f22_, f23_, f24_, f25_, f26_, f27_, f28_, f29_, f30_, f31_, f32_]))
set_option maxHeartbeats 8000000 in
set_option maxRecDepth 100000 in
theorem reg9_yes_1 (a b c d N D M Qn x y : Int) (WH OK : Bool) (g1 g2 g3 g4 g5 : Nat) (BL : List (Nat × Int × Int)) (w : World) (HIA1 : ∀ W : World, Hid (Calls Try.prog 15 #[.agg #[.int .i64 a, .int .i64 b]] W fun e w' => e = .returned (.bool true) ∧ Below W.heap.size W w')) (HIA2 : ∀ W : World, Hid (Calls Try.prog 16 #[.agg #[.int .i64 a, .int .i64 b]] W fun e w' => e = .returned (.bool true) ∧ Below W.heap.size W w')) (HIB : ∀ W : World, Hid (Calls Try.prog 15 #[.agg #[.int .i64 c, .int .i64 d]] W fun e w' => e = .returned (.bool OK) ∧ Below W.heap.size W w')) (Q : Act → Prop) (T0 : Array Value) (hs0 : T0.size = 620) (q5_ : At T0 5 (.int .i64 x)) (q6_ : At T0 6 (.int .i64 y)) (q7_ : At T0 7 (.pointer (some ⟨g1, 0, none⟩))) (q8_ : At T0 8 (.pointer (some ⟨g2, 0, none⟩))) (q9_ : At T0 9 (.pointer (some ⟨g3, 0, none⟩))) (q10_ : At T0 10 (.pointer (some ⟨g4, 0, none⟩))) (q11_ : At T0 11 (.pointer (some ⟨g5, 0, none⟩))) (q15_ : At T0 15 (.int .i64 N)) (q16_ : At T0 16 (.int .i64 D)) (q17_ : At T0 17 (.bool OK)) (q21_ : At T0 21 (.int .i64 M)) (q22_ : At T0 22 (.bool OK)) (q25_ : At T0 25 (.int .i64 Qn)) (q26_ : At T0 26 (.bool OK)) (q27_ : At T0 27 (.int .i64 Qn)) (q28_ : At T0 28 (.bool OK)) (q29_ : At T0 29 (.bool WH)) (q30_ : At T0 30 (.bool OK)) (q31_ : At T0 31 (.bool WH)) (q32_ : At T0 32 (.bool OK)) (q140_ : At T0 140 (.bool false)) (q143_ : At T0 143 (.bool false))
    (hnext : ∀ T1 : Array Value, T1.size = 620 → At T1 5 (.int .i64 x) → At T1 6 (.int .i64 y) → At T1 7 (.pointer (some ⟨g1, 0, none⟩)) → At T1 8 (.pointer (some ⟨g2, 0, none⟩)) → At T1 9 (.pointer (some ⟨g3, 0, none⟩)) → At T1 10 (.pointer (some ⟨g4, 0, none⟩)) → At T1 11 (.pointer (some ⟨g5, 0, none⟩)) → At T1 15 (.int .i64 N) → At T1 16 (.int .i64 D) → At T1 17 (.bool OK) → At T1 21 (.int .i64 M) → At T1 22 (.bool OK) → At T1 25 (.int .i64 Qn) → At T1 26 (.bool OK) → At T1 29 (.bool WH) → At T1 30 (.bool OK) → At T1 165 (.bool false) → wpQuiet Try.prog (opl 9).toArray (fun w' => w'.cell? ⟨g1, 0, none⟩ = some (.int .i64 a) ∧ w'.cell? ⟨g1, 1, none⟩ = some (.int .i64 b) ∧ w'.cell? ⟨g2, 0, none⟩ = some (.int .i64 c) ∧ w'.cell? ⟨g2, 1, none⟩ = some (.int .i64 d) ∧ g1 < w'.heap.size ∧ g2 < w'.heap.size ∧ Lay w ((g1, a, b) :: (g2, c, d) :: BL) w') Q ((opl 9).drop 44) ⟨T1, []⟩) :
    wpQuiet Try.prog (opl 9).toArray (fun w' => w'.cell? ⟨g1, 0, none⟩ = some (.int .i64 a) ∧ w'.cell? ⟨g1, 1, none⟩ = some (.int .i64 b) ∧ w'.cell? ⟨g2, 0, none⟩ = some (.int .i64 c) ∧ w'.cell? ⟨g2, 1, none⟩ = some (.int .i64 d) ∧ g1 < w'.heap.size ∧ g2 < w'.heap.size ∧ Lay w ((g1, a, b) :: (g2, c, d) :: BL) w') Q ((opl 9).drop 22) ⟨T0, []⟩ := by
  conv => arg 5; whnf
  have f5_ := fun hh => getq q5_ hh
  have f6_ := fun hh => getq q6_ hh
  have f7_ := fun hh => getq q7_ hh
  have f8_ := fun hh => getq q8_ hh
  have f9_ := fun hh => getq q9_ hh
  have f10_ := fun hh => getq q10_ hh
  have f11_ := fun hh => getq q11_ hh
  have f15_ := fun hh => getq q15_ hh
  have f16_ := fun hh => getq q16_ hh
  have f17_ := fun hh => getq q17_ hh
  have f21_ := fun hh => getq q21_ hh
  have f22_ := fun hh => getq q22_ hh
  have f25_ := fun hh => getq q25_ hh
  have f26_ := fun hh => getq q26_ hh
  have f27_ := fun hh => getq q27_ hh
  have f28_ := fun hh => getq q28_ hh
  have f29_ := fun hh => getq q29_ hh
  have f30_ := fun hh => getq q30_ hh
  have f31_ := fun hh => getq q31_ hh
  have f32_ := fun hh => getq q32_ hh
  have f140_ := fun hh => getq q140_ hh
  have f143_ := fun hh => getq q143_ hh
  refine q_take (.bool false) rfl (q_free rfl _) (fun _ _ => by go_simp) ?_
  refine q_take (.bool false) rfl (q_free rfl _) (fun _ _ => by go_simp) ?_
  refine q_take (.bool OK) rfl (q_gr1 (d := 145) rfl (by kernel_rfl) (by go_simp)) (fun _ _ => by go_simp) ?_
  refine q_take (.bool OK) rfl (q_gr1 (d := 145) rfl (by kernel_rfl) (by go_simp)) (fun _ _ => by go_simp) ?_
  refine q_take (.bool false) rfl (q_gr1 (d := 145) rfl (by kernel_rfl) (by go_simp)) (fun _ _ => by go_simp) ?_
  refine q_take (.bool false) rfl (q_free rfl _) (fun _ _ => by go_simp) ?_
  refine q_take (.bool false) rfl (q_free rfl _) (fun _ _ => by go_simp) ?_
  refine q_take (.int .i64 Qn) rfl (q_gr1 (d := 150) rfl (by kernel_rfl) (by go_simp)) (fun _ _ => by go_simp) ?_
  refine q_take (.int .i64 Qn) rfl (q_gr1 (d := 150) rfl (by kernel_rfl) (by go_simp)) (fun _ _ => by go_simp) ?_
  refine q_take (.bool false) rfl (q_gr1 (d := 150) rfl (by kernel_rfl) (by go_simp)) (fun _ _ => by go_simp) ?_
  refine q_take (.bool false) rfl (q_free rfl _) (fun _ _ => by go_simp) ?_
  refine q_take (.bool false) rfl (q_free rfl _) (fun _ _ => by go_simp) ?_
  refine q_take (.bool OK) rfl (q_gr1 (d := 155) rfl (by kernel_rfl) (by go_simp)) (fun _ _ => by go_simp) ?_
  refine q_take (.bool OK) rfl (q_gr1 (d := 155) rfl (by kernel_rfl) (by go_simp)) (fun _ _ => by go_simp) ?_
  refine q_take (.bool false) rfl (q_gr1 (d := 155) rfl (by kernel_rfl) (by go_simp)) (fun _ _ => by go_simp) ?_
  refine q_take (.bool false) rfl (q_free rfl _) (fun _ _ => by go_simp) ?_
  refine q_take (.bool false) rfl (q_free rfl _) (fun _ _ => by go_simp) ?_
  refine q_take (.bool WH) rfl (q_gr1 (d := 160) rfl (by kernel_rfl) (by go_simp)) (fun _ _ => by go_simp) ?_
  refine q_take (.bool WH) rfl (q_gr1 (d := 160) rfl (by kernel_rfl) (by go_simp)) (fun _ _ => by go_simp) ?_
  refine q_take (.bool false) rfl (q_gr1 (d := 160) rfl (by kernel_rfl) (by go_simp)) (fun _ _ => by go_simp) ?_
  refine q_take (.bool false) rfl (q_free rfl _) (fun _ _ => by go_simp) ?_
  refine q_take (.bool false) rfl (q_free rfl _) (fun _ _ => by go_simp) ?_
  exact (hnext _ (by simp [hs0]) (by first | (simp only [At, ↓Array.getElem?_setIfInBounds_ne, ne_eq, Nat.reduceEqDiff, not_false_eq_true, q5_]; done) | simp [At, hs0, f5_, f6_, f7_, f8_, f9_, f10_, f11_, f15_, f16_, f17_, f21_, f22_, f25_, f26_, f27_, f28_, f29_, f30_, f31_, f32_, f140_, f143_]) (by first | (simp only [At, ↓Array.getElem?_setIfInBounds_ne, ne_eq, Nat.reduceEqDiff, not_false_eq_true, q6_]; done) | simp [At, hs0, f5_, f6_, f7_, f8_, f9_, f10_, f11_, f15_, f16_, f17_, f21_, f22_, f25_, f26_, f27_, f28_, f29_, f30_, f31_, f32_, f140_, f143_]) (by first | (simp only [At, ↓Array.getElem?_setIfInBounds_ne, ne_eq, Nat.reduceEqDiff, not_false_eq_true, q7_]; done) | simp [At, hs0, f5_, f6_, f7_, f8_, f9_, f10_, f11_, f15_, f16_, f17_, f21_, f22_, f25_, f26_, f27_, f28_, f29_, f30_, f31_, f32_, f140_, f143_]) (by first | (simp only [At, ↓Array.getElem?_setIfInBounds_ne, ne_eq, Nat.reduceEqDiff, not_false_eq_true, q8_]; done) | simp [At, hs0, f5_, f6_, f7_, f8_, f9_, f10_, f11_, f15_, f16_, f17_, f21_, f22_, f25_, f26_, f27_, f28_, f29_, f30_, f31_, f32_, f140_, f143_]) (by first | (simp only [At, ↓Array.getElem?_setIfInBounds_ne, ne_eq, Nat.reduceEqDiff, not_false_eq_true, q9_]; done) | simp [At, hs0, f5_, f6_, f7_, f8_, f9_, f10_, f11_, f15_, f16_, f17_, f21_, f22_, f25_, f26_, f27_, f28_, f29_, f30_, f31_, f32_, f140_, f143_]) (by first | (simp only [At, ↓Array.getElem?_setIfInBounds_ne, ne_eq, Nat.reduceEqDiff, not_false_eq_true, q10_]; done) | simp [At, hs0, f5_, f6_, f7_, f8_, f9_, f10_, f11_, f15_, f16_, f17_, f21_, f22_, f25_, f26_, f27_, f28_, f29_, f30_, f31_, f32_, f140_, f143_]) (by first | (simp only [At, ↓Array.getElem?_setIfInBounds_ne, ne_eq, Nat.reduceEqDiff, not_false_eq_true, q11_]; done) | simp [At, hs0, f5_, f6_, f7_, f8_, f9_, f10_, f11_, f15_, f16_, f17_, f21_, f22_, f25_, f26_, f27_, f28_, f29_, f30_, f31_, f32_, f140_, f143_]) (by first | (simp only [At, ↓Array.getElem?_setIfInBounds_ne, ne_eq, Nat.reduceEqDiff, not_false_eq_true, q15_]; done) | simp [At, hs0, f5_, f6_, f7_, f8_, f9_, f10_, f11_, f15_, f16_, f17_, f21_, f22_, f25_, f26_, f27_, f28_, f29_, f30_, f31_, f32_, f140_, f143_]) (by first | (simp only [At, ↓Array.getElem?_setIfInBounds_ne, ne_eq, Nat.reduceEqDiff, not_false_eq_true, q16_]; done) | simp [At, hs0, f5_, f6_, f7_, f8_, f9_, f10_, f11_, f15_, f16_, f17_, f21_, f22_, f25_, f26_, f27_, f28_, f29_, f30_, f31_, f32_, f140_, f143_]) (by first | (simp only [At, ↓Array.getElem?_setIfInBounds_ne, ne_eq, Nat.reduceEqDiff, not_false_eq_true, q17_]; done) | simp [At, hs0, f5_, f6_, f7_, f8_, f9_, f10_, f11_, f15_, f16_, f17_, f21_, f22_, f25_, f26_, f27_, f28_, f29_, f30_, f31_, f32_, f140_, f143_]) (by first | (simp only [At, ↓Array.getElem?_setIfInBounds_ne, ne_eq, Nat.reduceEqDiff, not_false_eq_true, q21_]; done) | simp [At, hs0, f5_, f6_, f7_, f8_, f9_, f10_, f11_, f15_, f16_, f17_, f21_, f22_, f25_, f26_, f27_, f28_, f29_, f30_, f31_, f32_, f140_, f143_]) (by first | (simp only [At, ↓Array.getElem?_setIfInBounds_ne, ne_eq, Nat.reduceEqDiff, not_false_eq_true, q22_]; done) | simp [At, hs0, f5_, f6_, f7_, f8_, f9_, f10_, f11_, f15_, f16_, f17_, f21_, f22_, f25_, f26_, f27_, f28_, f29_, f30_, f31_, f32_, f140_, f143_]) (by first | (simp only [At, ↓Array.getElem?_setIfInBounds_ne, ne_eq, Nat.reduceEqDiff, not_false_eq_true, q25_]; done) | simp [At, hs0, f5_, f6_, f7_, f8_, f9_, f10_, f11_, f15_, f16_, f17_, f21_, f22_, f25_, f26_, f27_, f28_, f29_, f30_, f31_, f32_, f140_, f143_]) (by first | (simp only [At, ↓Array.getElem?_setIfInBounds_ne, ne_eq, Nat.reduceEqDiff, not_false_eq_true, q26_]; done) | simp [At, hs0, f5_, f6_, f7_, f8_, f9_, f10_, f11_, f15_, f16_, f17_, f21_, f22_, f25_, f26_, f27_, f28_, f29_, f30_, f31_, f32_, f140_, f143_]) (by first | (simp only [At, ↓Array.getElem?_setIfInBounds_ne, ne_eq, Nat.reduceEqDiff, not_false_eq_true, q29_]; done) | simp [At, hs0, f5_, f6_, f7_, f8_, f9_, f10_, f11_, f15_, f16_, f17_, f21_, f22_, f25_, f26_, f27_, f28_, f29_, f30_, f31_, f32_, f140_, f143_]) (by first | (simp only [At, ↓Array.getElem?_setIfInBounds_ne, ne_eq, Nat.reduceEqDiff, not_false_eq_true, q30_]; done) | simp [At, hs0, f5_, f6_, f7_, f8_, f9_, f10_, f11_, f15_, f16_, f17_, f21_, f22_, f25_, f26_, f27_, f28_, f29_, f30_, f31_, f32_, f140_, f143_]) (by first | (simp only [At, ↓Array.getElem?_setIfInBounds_ne, ne_eq, Nat.reduceEqDiff, not_false_eq_true]; done) | simp [At, hs0, f5_, f6_, f7_, f8_, f9_, f10_, f11_, f15_, f16_, f17_, f21_, f22_, f25_, f26_, f27_, f28_, f29_, f30_, f31_, f32_, f140_, f143_]))
set_option maxHeartbeats 8000000 in
set_option maxRecDepth 100000 in
theorem reg9_yes_2 (a b c d N D M Qn x y : Int) (WH OK : Bool) (g1 g2 g3 g4 g5 : Nat) (BL : List (Nat × Int × Int)) (w : World) (HIA1 : ∀ W : World, Hid (Calls Try.prog 15 #[.agg #[.int .i64 a, .int .i64 b]] W fun e w' => e = .returned (.bool true) ∧ Below W.heap.size W w')) (HIA2 : ∀ W : World, Hid (Calls Try.prog 16 #[.agg #[.int .i64 a, .int .i64 b]] W fun e w' => e = .returned (.bool true) ∧ Below W.heap.size W w')) (HIB : ∀ W : World, Hid (Calls Try.prog 15 #[.agg #[.int .i64 c, .int .i64 d]] W fun e w' => e = .returned (.bool OK) ∧ Below W.heap.size W w')) (Q : Act → Prop) (T0 : Array Value) (hs0 : T0.size = 620) (q5_ : At T0 5 (.int .i64 x)) (q6_ : At T0 6 (.int .i64 y)) (q7_ : At T0 7 (.pointer (some ⟨g1, 0, none⟩))) (q8_ : At T0 8 (.pointer (some ⟨g2, 0, none⟩))) (q9_ : At T0 9 (.pointer (some ⟨g3, 0, none⟩))) (q10_ : At T0 10 (.pointer (some ⟨g4, 0, none⟩))) (q11_ : At T0 11 (.pointer (some ⟨g5, 0, none⟩))) (q15_ : At T0 15 (.int .i64 N)) (q16_ : At T0 16 (.int .i64 D)) (q17_ : At T0 17 (.bool OK)) (q21_ : At T0 21 (.int .i64 M)) (q22_ : At T0 22 (.bool OK)) (q25_ : At T0 25 (.int .i64 Qn)) (q26_ : At T0 26 (.bool OK)) (q29_ : At T0 29 (.bool WH)) (q30_ : At T0 30 (.bool OK)) (q165_ : At T0 165 (.bool false))
    (hnext : ∀ T1 : Array Value, T1.size = 620 → At T1 5 (.int .i64 x) → At T1 6 (.int .i64 y) → At T1 7 (.pointer (some ⟨g1, 0, none⟩)) → At T1 8 (.pointer (some ⟨g2, 0, none⟩)) → At T1 9 (.pointer (some ⟨g3, 0, none⟩)) → At T1 10 (.pointer (some ⟨g4, 0, none⟩)) → At T1 11 (.pointer (some ⟨g5, 0, none⟩)) → At T1 15 (.int .i64 N) → At T1 16 (.int .i64 D) → At T1 17 (.bool OK) → At T1 21 (.int .i64 M) → At T1 25 (.int .i64 Qn) → At T1 26 (.bool OK) → At T1 29 (.bool WH) → At T1 30 (.bool OK) → At T1 187 (.bool false) → wpQuiet Try.prog (opl 9).toArray (fun w' => w'.cell? ⟨g1, 0, none⟩ = some (.int .i64 a) ∧ w'.cell? ⟨g1, 1, none⟩ = some (.int .i64 b) ∧ w'.cell? ⟨g2, 0, none⟩ = some (.int .i64 c) ∧ w'.cell? ⟨g2, 1, none⟩ = some (.int .i64 d) ∧ g1 < w'.heap.size ∧ g2 < w'.heap.size ∧ Lay w ((g1, a, b) :: (g2, c, d) :: BL) w') Q ((opl 9).drop 66) ⟨T1, []⟩) :
    wpQuiet Try.prog (opl 9).toArray (fun w' => w'.cell? ⟨g1, 0, none⟩ = some (.int .i64 a) ∧ w'.cell? ⟨g1, 1, none⟩ = some (.int .i64 b) ∧ w'.cell? ⟨g2, 0, none⟩ = some (.int .i64 c) ∧ w'.cell? ⟨g2, 1, none⟩ = some (.int .i64 d) ∧ g1 < w'.heap.size ∧ g2 < w'.heap.size ∧ Lay w ((g1, a, b) :: (g2, c, d) :: BL) w') Q ((opl 9).drop 44) ⟨T0, []⟩ := by
  conv => arg 5; whnf
  have f5_ := fun hh => getq q5_ hh
  have f6_ := fun hh => getq q6_ hh
  have f7_ := fun hh => getq q7_ hh
  have f8_ := fun hh => getq q8_ hh
  have f9_ := fun hh => getq q9_ hh
  have f10_ := fun hh => getq q10_ hh
  have f11_ := fun hh => getq q11_ hh
  have f15_ := fun hh => getq q15_ hh
  have f16_ := fun hh => getq q16_ hh
  have f17_ := fun hh => getq q17_ hh
  have f21_ := fun hh => getq q21_ hh
  have f22_ := fun hh => getq q22_ hh
  have f25_ := fun hh => getq q25_ hh
  have f26_ := fun hh => getq q26_ hh
  have f29_ := fun hh => getq q29_ hh
  have f30_ := fun hh => getq q30_ hh
  have f165_ := fun hh => getq q165_ hh
  refine q_take (.bool OK) rfl (q_gr1 (d := 165) rfl (by kernel_rfl) (by go_simp)) (fun _ _ => by go_simp) ?_
  refine q_take (.agg #[.int .i64 a, .int .i64 b]) rfl (q_gr1 (d := 165) rfl (by kernel_rfl) (by go_simp)) (fun w' hw' => by obtain ⟨k0, k1, k2, k3, _⟩ := hw'; go_simp) ?_
  refine q_call (f := 15) (args := #[.agg #[.int .i64 a, .int .i64 b]]) (.bool true) rfl (q_gr1 (d := 165) rfl (by kernel_rfl) (by go_simp)) (fun w' hw' => ((HIA1 _).out).mono (fun e w'' h => ⟨h.1, two_after h.2 hw'⟩)) (fun _ _ => by go_simp) ?_
  refine q_take (.bool true) rfl (q_gr1 (d := 165) rfl (by kernel_rfl) (by go_simp)) (fun _ _ => by go_simp) ?_
  refine q_take (.agg #[.int .i64 c, .int .i64 d]) rfl (q_gr1 (d := 169) rfl (by kernel_rfl) (by go_simp)) (fun w' hw' => by obtain ⟨k0, k1, k2, k3, _⟩ := hw'; go_simp) ?_
  refine q_call (f := 15) (args := #[.agg #[.int .i64 c, .int .i64 d]]) (.bool OK) rfl (q_gr1 (d := 169) rfl (by kernel_rfl) (by go_simp)) (fun w' hw' => ((HIB _).out).mono (fun e w'' h => ⟨h.1, two_after h.2 hw'⟩)) (fun _ _ => by go_simp) ?_
  refine q_take (.bool OK) rfl (q_gr1 (d := 165) rfl (by kernel_rfl) (by go_simp)) (fun _ _ => by go_simp) ?_
  refine q_take (.bool false) rfl (q_gr1 (d := 165) rfl (by kernel_rfl) (by go_simp)) (fun _ _ => by go_simp) ?_
  refine q_take (.bool false) rfl (q_free rfl _) (fun _ _ => by go_simp) ?_
  refine q_take (.bool false) rfl (q_free rfl _) (fun _ _ => by go_simp) ?_
  refine q_take (.agg #[.int .i64 a, .int .i64 b]) rfl (q_gr1 (d := 175) rfl (by kernel_rfl) (by go_simp)) (fun w' hw' => by obtain ⟨k0, k1, k2, k3, _⟩ := hw'; go_simp) ?_
  refine q_call (f := 15) (args := #[.agg #[.int .i64 a, .int .i64 b]]) (.bool true) rfl (q_gr1 (d := 175) rfl (by kernel_rfl) (by go_simp)) (fun w' hw' => ((HIA1 _).out).mono (fun e w'' h => ⟨h.1, two_after h.2 hw'⟩)) (fun _ _ => by go_simp) ?_
  refine q_take (.agg #[.int .i64 a, .int .i64 b]) rfl (q_gr1 (d := 175) rfl (by kernel_rfl) (by go_simp)) (fun w' hw' => by obtain ⟨k0, k1, k2, k3, _⟩ := hw'; go_simp) ?_
  refine q_call (f := 16) (args := #[.agg #[.int .i64 a, .int .i64 b]]) (.bool true) rfl (q_gr1 (d := 175) rfl (by kernel_rfl) (by go_simp)) (fun w' hw' => ((HIA2 _).out).mono (fun e w'' h => ⟨h.1, two_after h.2 hw'⟩)) (fun _ _ => by go_simp) ?_
  refine q_take (.bool false) rfl (q_gr1 (d := 175) rfl (by kernel_rfl) (by go_simp)) (fun _ _ => by go_simp) ?_
  refine q_take (.bool false) rfl (q_free rfl _) (fun _ _ => by go_simp) ?_
  refine q_take (.bool false) rfl (q_free rfl _) (fun _ _ => by go_simp) ?_
  refine q_take (.bool OK) rfl (q_gr1 (d := 182) rfl (by kernel_rfl) (by go_simp)) (fun _ _ => by go_simp) ?_
  refine q_take (.bool OK) rfl (q_gr1 (d := 182) rfl (by kernel_rfl) (by go_simp)) (fun _ _ => by go_simp) ?_
  refine q_take (.bool false) rfl (q_gr1 (d := 182) rfl (by kernel_rfl) (by go_simp)) (fun _ _ => by go_simp) ?_
  refine q_take (.bool false) rfl (q_free rfl _) (fun _ _ => by go_simp) ?_
  refine q_take (.bool false) rfl (q_free rfl _) (fun _ _ => by go_simp) ?_
  exact (hnext _ (by simp [hs0]) (by first | (simp only [At, ↓Array.getElem?_setIfInBounds_ne, ne_eq, Nat.reduceEqDiff, not_false_eq_true, q5_]; done) | simp [At, hs0, f5_, f6_, f7_, f8_, f9_, f10_, f11_, f15_, f16_, f17_, f21_, f22_, f25_, f26_, f29_, f30_, f165_]) (by first | (simp only [At, ↓Array.getElem?_setIfInBounds_ne, ne_eq, Nat.reduceEqDiff, not_false_eq_true, q6_]; done) | simp [At, hs0, f5_, f6_, f7_, f8_, f9_, f10_, f11_, f15_, f16_, f17_, f21_, f22_, f25_, f26_, f29_, f30_, f165_]) (by first | (simp only [At, ↓Array.getElem?_setIfInBounds_ne, ne_eq, Nat.reduceEqDiff, not_false_eq_true, q7_]; done) | simp [At, hs0, f5_, f6_, f7_, f8_, f9_, f10_, f11_, f15_, f16_, f17_, f21_, f22_, f25_, f26_, f29_, f30_, f165_]) (by first | (simp only [At, ↓Array.getElem?_setIfInBounds_ne, ne_eq, Nat.reduceEqDiff, not_false_eq_true, q8_]; done) | simp [At, hs0, f5_, f6_, f7_, f8_, f9_, f10_, f11_, f15_, f16_, f17_, f21_, f22_, f25_, f26_, f29_, f30_, f165_]) (by first | (simp only [At, ↓Array.getElem?_setIfInBounds_ne, ne_eq, Nat.reduceEqDiff, not_false_eq_true, q9_]; done) | simp [At, hs0, f5_, f6_, f7_, f8_, f9_, f10_, f11_, f15_, f16_, f17_, f21_, f22_, f25_, f26_, f29_, f30_, f165_]) (by first | (simp only [At, ↓Array.getElem?_setIfInBounds_ne, ne_eq, Nat.reduceEqDiff, not_false_eq_true, q10_]; done) | simp [At, hs0, f5_, f6_, f7_, f8_, f9_, f10_, f11_, f15_, f16_, f17_, f21_, f22_, f25_, f26_, f29_, f30_, f165_]) (by first | (simp only [At, ↓Array.getElem?_setIfInBounds_ne, ne_eq, Nat.reduceEqDiff, not_false_eq_true, q11_]; done) | simp [At, hs0, f5_, f6_, f7_, f8_, f9_, f10_, f11_, f15_, f16_, f17_, f21_, f22_, f25_, f26_, f29_, f30_, f165_]) (by first | (simp only [At, ↓Array.getElem?_setIfInBounds_ne, ne_eq, Nat.reduceEqDiff, not_false_eq_true, q15_]; done) | simp [At, hs0, f5_, f6_, f7_, f8_, f9_, f10_, f11_, f15_, f16_, f17_, f21_, f22_, f25_, f26_, f29_, f30_, f165_]) (by first | (simp only [At, ↓Array.getElem?_setIfInBounds_ne, ne_eq, Nat.reduceEqDiff, not_false_eq_true, q16_]; done) | simp [At, hs0, f5_, f6_, f7_, f8_, f9_, f10_, f11_, f15_, f16_, f17_, f21_, f22_, f25_, f26_, f29_, f30_, f165_]) (by first | (simp only [At, ↓Array.getElem?_setIfInBounds_ne, ne_eq, Nat.reduceEqDiff, not_false_eq_true, q17_]; done) | simp [At, hs0, f5_, f6_, f7_, f8_, f9_, f10_, f11_, f15_, f16_, f17_, f21_, f22_, f25_, f26_, f29_, f30_, f165_]) (by first | (simp only [At, ↓Array.getElem?_setIfInBounds_ne, ne_eq, Nat.reduceEqDiff, not_false_eq_true, q21_]; done) | simp [At, hs0, f5_, f6_, f7_, f8_, f9_, f10_, f11_, f15_, f16_, f17_, f21_, f22_, f25_, f26_, f29_, f30_, f165_]) (by first | (simp only [At, ↓Array.getElem?_setIfInBounds_ne, ne_eq, Nat.reduceEqDiff, not_false_eq_true, q25_]; done) | simp [At, hs0, f5_, f6_, f7_, f8_, f9_, f10_, f11_, f15_, f16_, f17_, f21_, f22_, f25_, f26_, f29_, f30_, f165_]) (by first | (simp only [At, ↓Array.getElem?_setIfInBounds_ne, ne_eq, Nat.reduceEqDiff, not_false_eq_true, q26_]; done) | simp [At, hs0, f5_, f6_, f7_, f8_, f9_, f10_, f11_, f15_, f16_, f17_, f21_, f22_, f25_, f26_, f29_, f30_, f165_]) (by first | (simp only [At, ↓Array.getElem?_setIfInBounds_ne, ne_eq, Nat.reduceEqDiff, not_false_eq_true, q29_]; done) | simp [At, hs0, f5_, f6_, f7_, f8_, f9_, f10_, f11_, f15_, f16_, f17_, f21_, f22_, f25_, f26_, f29_, f30_, f165_]) (by first | (simp only [At, ↓Array.getElem?_setIfInBounds_ne, ne_eq, Nat.reduceEqDiff, not_false_eq_true, q30_]; done) | simp [At, hs0, f5_, f6_, f7_, f8_, f9_, f10_, f11_, f15_, f16_, f17_, f21_, f22_, f25_, f26_, f29_, f30_, f165_]) (by first | (simp only [At, ↓Array.getElem?_setIfInBounds_ne, ne_eq, Nat.reduceEqDiff, not_false_eq_true]; done) | simp [At, hs0, f5_, f6_, f7_, f8_, f9_, f10_, f11_, f15_, f16_, f17_, f21_, f22_, f25_, f26_, f29_, f30_, f165_]))
set_option maxHeartbeats 8000000 in
set_option maxRecDepth 100000 in
theorem reg9_yes_3 (a b c d N D M Qn x y : Int) (WH OK : Bool) (g1 g2 g3 g4 g5 : Nat) (BL : List (Nat × Int × Int)) (w : World) (HIA1 : ∀ W : World, Hid (Calls Try.prog 15 #[.agg #[.int .i64 a, .int .i64 b]] W fun e w' => e = .returned (.bool true) ∧ Below W.heap.size W w')) (HIA2 : ∀ W : World, Hid (Calls Try.prog 16 #[.agg #[.int .i64 a, .int .i64 b]] W fun e w' => e = .returned (.bool true) ∧ Below W.heap.size W w')) (HIB : ∀ W : World, Hid (Calls Try.prog 15 #[.agg #[.int .i64 c, .int .i64 d]] W fun e w' => e = .returned (.bool OK) ∧ Below W.heap.size W w')) (Q : Act → Prop) (T0 : Array Value) (hs0 : T0.size = 620) (q5_ : At T0 5 (.int .i64 x)) (q6_ : At T0 6 (.int .i64 y)) (q7_ : At T0 7 (.pointer (some ⟨g1, 0, none⟩))) (q8_ : At T0 8 (.pointer (some ⟨g2, 0, none⟩))) (q9_ : At T0 9 (.pointer (some ⟨g3, 0, none⟩))) (q10_ : At T0 10 (.pointer (some ⟨g4, 0, none⟩))) (q11_ : At T0 11 (.pointer (some ⟨g5, 0, none⟩))) (q15_ : At T0 15 (.int .i64 N)) (q16_ : At T0 16 (.int .i64 D)) (q17_ : At T0 17 (.bool OK)) (q21_ : At T0 21 (.int .i64 M)) (q25_ : At T0 25 (.int .i64 Qn)) (q26_ : At T0 26 (.bool OK)) (q29_ : At T0 29 (.bool WH)) (q30_ : At T0 30 (.bool OK)) (q187_ : At T0 187 (.bool false))
    (hnext : ∀ T1 : Array Value, T1.size = 620 → At T1 5 (.int .i64 x) → At T1 6 (.int .i64 y) → At T1 7 (.pointer (some ⟨g1, 0, none⟩)) → At T1 8 (.pointer (some ⟨g2, 0, none⟩)) → At T1 9 (.pointer (some ⟨g3, 0, none⟩)) → At T1 10 (.pointer (some ⟨g4, 0, none⟩)) → At T1 11 (.pointer (some ⟨g5, 0, none⟩)) → At T1 15 (.int .i64 N) → At T1 16 (.int .i64 D) → At T1 17 (.bool OK) → At T1 21 (.int .i64 M) → At T1 25 (.int .i64 Qn) → At T1 29 (.bool WH) → At T1 196 (.bool false) → Q ⟨T1, []⟩) :
    wpQuiet Try.prog (opl 9).toArray (fun w' => w'.cell? ⟨g1, 0, none⟩ = some (.int .i64 a) ∧ w'.cell? ⟨g1, 1, none⟩ = some (.int .i64 b) ∧ w'.cell? ⟨g2, 0, none⟩ = some (.int .i64 c) ∧ w'.cell? ⟨g2, 1, none⟩ = some (.int .i64 d) ∧ g1 < w'.heap.size ∧ g2 < w'.heap.size ∧ Lay w ((g1, a, b) :: (g2, c, d) :: BL) w') Q ((opl 9).drop 66) ⟨T0, []⟩ := by
  conv => arg 5; whnf
  have f5_ := fun hh => getq q5_ hh
  have f6_ := fun hh => getq q6_ hh
  have f7_ := fun hh => getq q7_ hh
  have f8_ := fun hh => getq q8_ hh
  have f9_ := fun hh => getq q9_ hh
  have f10_ := fun hh => getq q10_ hh
  have f11_ := fun hh => getq q11_ hh
  have f15_ := fun hh => getq q15_ hh
  have f16_ := fun hh => getq q16_ hh
  have f17_ := fun hh => getq q17_ hh
  have f21_ := fun hh => getq q21_ hh
  have f25_ := fun hh => getq q25_ hh
  have f26_ := fun hh => getq q26_ hh
  have f29_ := fun hh => getq q29_ hh
  have f30_ := fun hh => getq q30_ hh
  have f187_ := fun hh => getq q187_ hh
  refine q_take (.bool OK) rfl (q_gr1 (d := 187) rfl (by kernel_rfl) (by go_simp)) (fun _ _ => by go_simp) ?_
  refine q_take (.bool OK) rfl (q_gr1 (d := 187) rfl (by kernel_rfl) (by go_simp)) (fun _ _ => by go_simp) ?_
  refine q_take (.bool false) rfl (q_gr1 (d := 187) rfl (by kernel_rfl) (by go_simp)) (fun _ _ => by go_simp) ?_
  refine q_take (.bool false) rfl (q_free rfl _) (fun _ _ => by go_simp) ?_
  refine q_take (.bool false) rfl (q_free rfl _) (fun _ _ => by go_simp) ?_
  refine q_take (.bool OK) rfl (q_gr1 (d := 192) rfl (by kernel_rfl) (by go_simp)) (fun _ _ => by go_simp) ?_
  refine q_take (.bool OK) rfl (q_gr1 (d := 192) rfl (by kernel_rfl) (by go_simp)) (fun _ _ => by go_simp) ?_
  refine q_take (.bool false) rfl (q_gr1 (d := 192) rfl (by kernel_rfl) (by go_simp)) (fun _ _ => by go_simp) ?_
  refine q_take (.bool false) rfl (q_free rfl _) (fun _ _ => by go_simp) ?_
  refine wpQuiet_nil (hnext _ (by simp [hs0]) (by first | (simp only [At, ↓Array.getElem?_setIfInBounds_ne, ne_eq, Nat.reduceEqDiff, not_false_eq_true, q5_]; done) | simp [At, hs0, f5_, f6_, f7_, f8_, f9_, f10_, f11_, f15_, f16_, f17_, f21_, f25_, f26_, f29_, f30_, f187_]) (by first | (simp only [At, ↓Array.getElem?_setIfInBounds_ne, ne_eq, Nat.reduceEqDiff, not_false_eq_true, q6_]; done) | simp [At, hs0, f5_, f6_, f7_, f8_, f9_, f10_, f11_, f15_, f16_, f17_, f21_, f25_, f26_, f29_, f30_, f187_]) (by first | (simp only [At, ↓Array.getElem?_setIfInBounds_ne, ne_eq, Nat.reduceEqDiff, not_false_eq_true, q7_]; done) | simp [At, hs0, f5_, f6_, f7_, f8_, f9_, f10_, f11_, f15_, f16_, f17_, f21_, f25_, f26_, f29_, f30_, f187_]) (by first | (simp only [At, ↓Array.getElem?_setIfInBounds_ne, ne_eq, Nat.reduceEqDiff, not_false_eq_true, q8_]; done) | simp [At, hs0, f5_, f6_, f7_, f8_, f9_, f10_, f11_, f15_, f16_, f17_, f21_, f25_, f26_, f29_, f30_, f187_]) (by first | (simp only [At, ↓Array.getElem?_setIfInBounds_ne, ne_eq, Nat.reduceEqDiff, not_false_eq_true, q9_]; done) | simp [At, hs0, f5_, f6_, f7_, f8_, f9_, f10_, f11_, f15_, f16_, f17_, f21_, f25_, f26_, f29_, f30_, f187_]) (by first | (simp only [At, ↓Array.getElem?_setIfInBounds_ne, ne_eq, Nat.reduceEqDiff, not_false_eq_true, q10_]; done) | simp [At, hs0, f5_, f6_, f7_, f8_, f9_, f10_, f11_, f15_, f16_, f17_, f21_, f25_, f26_, f29_, f30_, f187_]) (by first | (simp only [At, ↓Array.getElem?_setIfInBounds_ne, ne_eq, Nat.reduceEqDiff, not_false_eq_true, q11_]; done) | simp [At, hs0, f5_, f6_, f7_, f8_, f9_, f10_, f11_, f15_, f16_, f17_, f21_, f25_, f26_, f29_, f30_, f187_]) (by first | (simp only [At, ↓Array.getElem?_setIfInBounds_ne, ne_eq, Nat.reduceEqDiff, not_false_eq_true, q15_]; done) | simp [At, hs0, f5_, f6_, f7_, f8_, f9_, f10_, f11_, f15_, f16_, f17_, f21_, f25_, f26_, f29_, f30_, f187_]) (by first | (simp only [At, ↓Array.getElem?_setIfInBounds_ne, ne_eq, Nat.reduceEqDiff, not_false_eq_true, q16_]; done) | simp [At, hs0, f5_, f6_, f7_, f8_, f9_, f10_, f11_, f15_, f16_, f17_, f21_, f25_, f26_, f29_, f30_, f187_]) (by first | (simp only [At, ↓Array.getElem?_setIfInBounds_ne, ne_eq, Nat.reduceEqDiff, not_false_eq_true, q17_]; done) | simp [At, hs0, f5_, f6_, f7_, f8_, f9_, f10_, f11_, f15_, f16_, f17_, f21_, f25_, f26_, f29_, f30_, f187_]) (by first | (simp only [At, ↓Array.getElem?_setIfInBounds_ne, ne_eq, Nat.reduceEqDiff, not_false_eq_true, q21_]; done) | simp [At, hs0, f5_, f6_, f7_, f8_, f9_, f10_, f11_, f15_, f16_, f17_, f21_, f25_, f26_, f29_, f30_, f187_]) (by first | (simp only [At, ↓Array.getElem?_setIfInBounds_ne, ne_eq, Nat.reduceEqDiff, not_false_eq_true, q25_]; done) | simp [At, hs0, f5_, f6_, f7_, f8_, f9_, f10_, f11_, f15_, f16_, f17_, f21_, f25_, f26_, f29_, f30_, f187_]) (by first | (simp only [At, ↓Array.getElem?_setIfInBounds_ne, ne_eq, Nat.reduceEqDiff, not_false_eq_true, q29_]; done) | simp [At, hs0, f5_, f6_, f7_, f8_, f9_, f10_, f11_, f15_, f16_, f17_, f21_, f25_, f26_, f29_, f30_, f187_]) (by first | (simp only [At, ↓Array.getElem?_setIfInBounds_ne, ne_eq, Nat.reduceEqDiff, not_false_eq_true]; done) | simp [At, hs0, f5_, f6_, f7_, f8_, f9_, f10_, f11_, f15_, f16_, f17_, f21_, f25_, f26_, f29_, f30_, f187_]))
set_option maxHeartbeats 8000000 in
set_option maxRecDepth 100000 in
theorem reg9_yes (a b c d N D M Q x y : Int) (WH OK : Bool) (g1 g2 g3 g4 g5 : Nat) (BL : List (Nat × Int × Int)) (w w0 : World) (T0 : Array Value) (hs0 : T0.size = 620) (q7_0 : At T0 7 (.pointer (some ⟨g1, 0, none⟩))) (q8_0 : At T0 8 (.pointer (some ⟨g2, 0, none⟩))) (q9_0 : At T0 9 (.pointer (some ⟨g3, 0, none⟩))) (q10_0 : At T0 10 (.pointer (some ⟨g4, 0, none⟩))) (q11_0 : At T0 11 (.pointer (some ⟨g5, 0, none⟩))) (q5_0 : At T0 5 (.int .i64 x)) (q6_0 : At T0 6 (.int .i64 y)) (q15_0 : At T0 15 (.int .i64 N)) (q16_0 : At T0 16 (.int .i64 D)) (q17_0 : At T0 17 (.bool OK)) (q18_0 : At T0 18 (.int .i64 N)) (q19_0 : At T0 19 (.int .i64 D)) (q20_0 : At T0 20 (.bool OK)) (q21_0 : At T0 21 (.int .i64 M)) (q22_0 : At T0 22 (.bool OK)) (q23_0 : At T0 23 (.int .i64 M)) (q24_0 : At T0 24 (.bool OK)) (q25_0 : At T0 25 (.int .i64 Q)) (q26_0 : At T0 26 (.bool OK)) (q27_0 : At T0 27 (.int .i64 Q)) (q28_0 : At T0 28 (.bool OK)) (q29_0 : At T0 29 (.bool WH)) (q30_0 : At T0 30 (.bool OK)) (q31_0 : At T0 31 (.bool WH)) (q32_0 : At T0 32 (.bool OK)) (hL : Lay w ((g1, a, b) :: (g2, c, d) :: BL) w0) (HIA1 : ∀ W : World, Hid (Calls Try.prog 15 #[.agg #[.int .i64 a, .int .i64 b]] W fun e w' => e = .returned (.bool true) ∧ Below W.heap.size W w')) (HIA2 : ∀ W : World, Hid (Calls Try.prog 16 #[.agg #[.int .i64 a, .int .i64 b]] W fun e w' => e = .returned (.bool true) ∧ Below W.heap.size W w')) (HIB : ∀ W : World, Hid (Calls Try.prog 15 #[.agg #[.int .i64 c, .int .i64 d]] W fun e w' => e = .returned (.bool OK) ∧ Below W.heap.size W w')) (J K' : Act → World → Prop) (Q' : Exit → Act → World → Prop) (hJ : ∀ a' w', (fun a' wx => ∃ T : Array Value, a' = ⟨T, []⟩ ∧ T.size = 620 ∧ At T 7 (.pointer (some ⟨g1, 0, none⟩)) ∧ At T 8 (.pointer (some ⟨g2, 0, none⟩)) ∧ At T 9 (.pointer (some ⟨g3, 0, none⟩)) ∧ At T 10 (.pointer (some ⟨g4, 0, none⟩)) ∧ At T 11 (.pointer (some ⟨g5, 0, none⟩)) ∧ At T 5 (.int .i64 x) ∧ At T 6 (.int .i64 y) ∧ At T 15 (.int .i64 N) ∧ At T 16 (.int .i64 D) ∧ At T 17 (.bool OK) ∧ At T 21 (.int .i64 M) ∧ At T 25 (.int .i64 Q) ∧ At T 29 (.bool WH) ∧ At T 196 (.bool false) ∧ Lay w ((g1, a, b) :: (g2, c, d) :: BL) wx) a' w' → J a' w') (hK : ∀ a' w', Met J a' w' → K' a' w') :
    (reg 9).wp Try.prog (Exit.then K' Q') ⟨T0, []⟩ w0 := by
  have key : ∀ l : List Oper, l = opl 9 → wpQuiet Try.prog l.toArray (fun w' => w'.cell? ⟨g1, 0, none⟩ = some (.int .i64 a) ∧ w'.cell? ⟨g1, 1, none⟩ = some (.int .i64 b) ∧ w'.cell? ⟨g2, 0, none⟩ = some (.int .i64 c) ∧ w'.cell? ⟨g2, 1, none⟩ = some (.int .i64 d) ∧ g1 < w'.heap.size ∧ g2 < w'.heap.size ∧ Lay w ((g1, a, b) :: (g2, c, d) :: BL) w') (fun a' => ∀ w', (fun w' => w'.cell? ⟨g1, 0, none⟩ = some (.int .i64 a) ∧ w'.cell? ⟨g1, 1, none⟩ = some (.int .i64 b) ∧ w'.cell? ⟨g2, 0, none⟩ = some (.int .i64 c) ∧ w'.cell? ⟨g2, 1, none⟩ = some (.int .i64 d) ∧ g1 < w'.heap.size ∧ g2 < w'.heap.size ∧ Lay w ((g1, a, b) :: (g2, c, d) :: BL) w') w' → (Exit.then K' Q') .normal a' w') l ⟨T0, []⟩ := by
    intro l el
    subst el
    refine reg9_yes_0 a b c d N D M Q x y WH OK g1 g2 g3 g4 g5 BL w HIA1 HIA2 HIB _ _ hs0 q5_0 q6_0 q7_0 q8_0 q9_0 q10_0 q11_0 q15_0 q16_0 q17_0 q18_0 q19_0 q20_0 q21_0 q22_0 q23_0 q24_0 q25_0 q26_0 q27_0 q28_0 q29_0 q30_0 q31_0 q32_0 ?_
    intro U0 hsU0 q5U0 q6U0 q7U0 q8U0 q9U0 q10U0 q11U0 q15U0 q16U0 q17U0 q21U0 q22U0 q25U0 q26U0 q27U0 q28U0 q29U0 q30U0 q31U0 q32U0 q140U0 q143U0
    refine reg9_yes_1 a b c d N D M Q x y WH OK g1 g2 g3 g4 g5 BL w HIA1 HIA2 HIB _ _ hsU0 q5U0 q6U0 q7U0 q8U0 q9U0 q10U0 q11U0 q15U0 q16U0 q17U0 q21U0 q22U0 q25U0 q26U0 q27U0 q28U0 q29U0 q30U0 q31U0 q32U0 q140U0 q143U0 ?_
    intro U1 hsU1 q5U1 q6U1 q7U1 q8U1 q9U1 q10U1 q11U1 q15U1 q16U1 q17U1 q21U1 q22U1 q25U1 q26U1 q29U1 q30U1 q165U1
    refine reg9_yes_2 a b c d N D M Q x y WH OK g1 g2 g3 g4 g5 BL w HIA1 HIA2 HIB _ _ hsU1 q5U1 q6U1 q7U1 q8U1 q9U1 q10U1 q11U1 q15U1 q16U1 q17U1 q21U1 q22U1 q25U1 q26U1 q29U1 q30U1 q165U1 ?_
    intro U2 hsU2 q5U2 q6U2 q7U2 q8U2 q9U2 q10U2 q11U2 q15U2 q16U2 q17U2 q21U2 q25U2 q26U2 q29U2 q30U2 q187U2
    refine reg9_yes_3 a b c d N D M Q x y WH OK g1 g2 g3 g4 g5 BL w HIA1 HIA2 HIB _ _ hsU2 q5U2 q6U2 q7U2 q8U2 q9U2 q10U2 q11U2 q15U2 q16U2 q17U2 q21U2 q25U2 q26U2 q29U2 q30U2 q187U2 ?_
    intro U3 hsU3 q5U3 q6U3 q7U3 q8U3 q9U3 q10U3 q11U3 q15U3 q16U3 q17U3 q21U3 q25U3 q29U3 q196U3
    exact fun w9 hS9 => hK _ _ (Met.intro (hJ _ _ ⟨_, rfl, hsU3, q7U3, q8U3, q9U3, q10U3, q11U3, q5U3, q6U3, q15U3, q16U3, q17U3, q21U3, q25U3, q29U3, q196U3, hS9.2.2.2.2.2.2⟩))
  conv => arg 2; whnf
  refine q_region (fun w' => w'.cell? ⟨g1, 0, none⟩ = some (.int .i64 a) ∧ w'.cell? ⟨g1, 1, none⟩ = some (.int .i64 b) ∧ w'.cell? ⟨g2, 0, none⟩ = some (.int .i64 c) ∧ w'.cell? ⟨g2, 1, none⟩ = some (.int .i64 d) ∧ g1 < w'.heap.size ∧ g2 < w'.heap.size ∧ Lay w ((g1, a, b) :: (g2, c, d) :: BL) w') (by kernel_rfl) (by kernel_rfl) (by obtain ⟨c00, c01, z0, c10, c11, z1, _⟩ := Lay.op hL; exact two_after (Below.drew (Below.refl _ _)) ⟨c00, c01, c10, c11, z0, z1, hL⟩) ?_
  exact key _ (by kernel_rfl)
set_option maxHeartbeats 8000000 in
set_option maxRecDepth 100000 in
theorem reg36_0 (p q r s Y H E x y g0 g1 k0 k1 : Int) (O P : ByteArray) (OH : Bool) (j3 j4 j5 gg kk cg ck : Nat) (w0 : World) (d30 : w0.cell? ⟨j3, 0, none⟩ = some (.int .i64 p)) (d31 : w0.cell? ⟨j3, 1, none⟩ = some (.int .i64 q)) (d40 : w0.cell? ⟨j4, 0, none⟩ = some (.int .i64 r)) (d41 : w0.cell? ⟨j4, 1, none⟩ = some (.int .i64 s)) (e0_ : w0.cell? ⟨gg, 0, none⟩ = some (.int .i64 g0)) (e1_ : w0.cell? ⟨gg, 1, none⟩ = some (.int .i64 g1)) (e2_ : w0.cell? ⟨kk, 0, none⟩ = some (.int .i64 k0)) (e3_ : w0.cell? ⟨kk, 1, none⟩ = some (.int .i64 k1)) (HG : ∀ W : World, Hid (Calls Try.prog 18 #[.int .i64 g0, .int .i64 g1] W fun e w' => e = .returned (.bool true) ∧ ∃ n, w' = W.drewN n)) (HK : ∀ W : World, Hid (Calls Try.prog 18 #[.int .i64 k0, .int .i64 k1] W fun e w' => e = .returned (.bool true) ∧ ∃ n, w' = W.drewN n)) (w1_ : IntKind.i64.wrap (4 * p) = 4 * p) (w2_ : IntKind.i64.wrap (4 * p * r) = 4 * p * r) (w3_ : IntKind.i64.wrap (Y + 4 * p * r) = Y + 4 * p * r) (g0n : ¬ g0 < 0) (k0n : ¬ k0 < 0) (Q : Act → Prop) (T0 : Array Value) (hs0 : T0.size = 620) (q5_ : At T0 5 (.int .i64 x)) (q6_ : At T0 6 (.int .i64 y)) (q9_ : At T0 9 (.pointer (some ⟨j3, 0, none⟩))) (q10_ : At T0 10 (.pointer (some ⟨j4, 0, none⟩))) (q11_ : At T0 11 (.pointer (some ⟨j5, 0, none⟩))) (q48_ : At T0 48 (.string O)) (q52_ : At T0 52 (.int .i64 (Y + 4 * p * r))) (q56_ : At T0 56 (.slice (some ⟨gg, 0, none⟩) 2 cg)) (q57_ : At T0 57 (.slice (some ⟨kk, 0, none⟩) 2 ck)) (q62_ : At T0 62 (.int .i64 H)) (q63_ : At T0 63 (.int .i64 E)) (q64_ : At T0 64 (.bool OH)) (q68_ : At T0 68 (.int .i64 Y)) (q69_ : At T0 69 (.bool true)) (q70_ : At T0 70 (.string P)) (q71_ : At T0 71 (.bool true))
    (hnext : ∀ T1 : Array Value, T1.size = 620 → At T1 5 (.int .i64 x) → At T1 6 (.int .i64 y) → At T1 9 (.pointer (some ⟨j3, 0, none⟩)) → At T1 10 (.pointer (some ⟨j4, 0, none⟩)) → At T1 11 (.pointer (some ⟨j5, 0, none⟩)) → At T1 48 (.string O) → At T1 56 (.slice (some ⟨gg, 0, none⟩) 2 cg) → At T1 57 (.slice (some ⟨kk, 0, none⟩) 2 ck) → At T1 62 (.int .i64 H) → At T1 63 (.int .i64 E) → At T1 64 (.bool OH) → At T1 70 (.string P) → At T1 492 (.bool false) → At T1 495 (.bool false) → wpQuiet Try.prog (opl 36).toArray (fun w' => ∃ n, w' = w0.drewN n) Q ((opl 36).drop 22) ⟨T1, []⟩) :
    wpQuiet Try.prog (opl 36).toArray (fun w' => ∃ n, w' = w0.drewN n) Q ((opl 36).drop 0) ⟨T0, []⟩ := by
  conv => arg 5; whnf
  have f5_ := fun hh => getq q5_ hh
  have f6_ := fun hh => getq q6_ hh
  have f9_ := fun hh => getq q9_ hh
  have f10_ := fun hh => getq q10_ hh
  have f11_ := fun hh => getq q11_ hh
  have f48_ := fun hh => getq q48_ hh
  have f52_ := fun hh => getq q52_ hh
  have f56_ := fun hh => getq q56_ hh
  have f57_ := fun hh => getq q57_ hh
  have f62_ := fun hh => getq q62_ hh
  have f63_ := fun hh => getq q63_ hh
  have f64_ := fun hh => getq q64_ hh
  have f68_ := fun hh => getq q68_ hh
  have f69_ := fun hh => getq q69_ hh
  have f70_ := fun hh => getq q70_ hh
  have f71_ := fun hh => getq q71_ hh
  refine q_take (.bool true) rfl (q_free rfl _) (fun _ _ => by go_simp) ?_
  refine q_take (.bool false) rfl (q_free rfl _) (fun _ _ => by go_simp) ?_
  refine q_take (.bool false) rfl (q_free rfl _) (fun _ _ => by go_simp) ?_
  refine q_take (.int .i64 (Y + 4 * p * r)) rfl (q_gr1 (d := 476) rfl (by kernel_rfl) (by go_simp)) (fun _ _ => by go_simp) ?_
  refine q_take (.int .i64 Y) rfl (q_gr1 (d := 476) rfl (by kernel_rfl) (by go_simp)) (fun _ _ => by go_simp) ?_
  refine q_take (.pointer (some ⟨j3, 0, none⟩)) rfl (q_gr1 (d := 476) rfl (by kernel_rfl) (by go_simp)) (fun _ _ => by go_simp) ?_
  refine q_take (.int .i64 p) rfl (q_gr1 (d := 476) rfl (by kernel_rfl) (by go_simp)) (fun w' hw' => by obtain ⟨n, rfl⟩ := hw'; go_simp) ?_
  refine q_take (.int .i64 (4 * p)) rfl (q_gr1 (d := 476) rfl (by kernel_rfl) (by go_simp)) (fun _ _ => by go_simp) ?_
  refine q_take (.pointer (some ⟨j4, 0, none⟩)) rfl (q_gr1 (d := 476) rfl (by kernel_rfl) (by go_simp)) (fun _ _ => by go_simp) ?_
  refine q_take (.int .i64 r) rfl (q_gr1 (d := 476) rfl (by kernel_rfl) (by go_simp)) (fun w' hw' => by obtain ⟨n, rfl⟩ := hw'; go_simp) ?_
  refine q_take (.int .i64 (4 * p * r)) rfl (q_gr1 (d := 476) rfl (by kernel_rfl) (by go_simp)) (fun _ _ => by go_simp) ?_
  refine q_take (.int .i64 (Y + 4 * p * r)) rfl (q_gr1 (d := 476) rfl (by kernel_rfl) (by go_simp)) (fun _ _ => by go_simp) ?_
  refine q_take (.bool false) rfl (q_gr1 (d := 476) rfl (by kernel_rfl) (by go_simp)) (fun _ _ => by go_simp) ?_
  refine q_take (.bool false) rfl (q_free rfl _) (fun _ _ => by go_simp) ?_
  refine q_take (.bool false) rfl (q_free rfl _) (fun _ _ => by go_simp) ?_
  refine q_take (.bool true) rfl (q_gr1 (d := 488) rfl (by kernel_rfl) (by go_simp)) (fun _ _ => by go_simp) ?_
  refine q_take (.bool false) rfl (q_gr1 (d := 488) rfl (by kernel_rfl) (by go_simp)) (fun _ _ => by go_simp) ?_
  refine q_take (.bool false) rfl (q_free rfl _) (fun _ _ => by go_simp) ?_
  refine q_take (.bool false) rfl (q_free rfl _) (fun _ _ => by go_simp) ?_
  refine q_take (.slice (some ⟨gg, 0, none⟩) 2 cg) rfl (q_gr1 (d := 492) rfl (by kernel_rfl) (by go_simp)) (fun _ _ => by go_simp) ?_
  refine q_take (.int .i64 2) rfl (q_gr1 (d := 492) rfl (by kernel_rfl) (by go_simp)) (fun _ _ => by go_simp) ?_
  refine q_take (.bool false) rfl (q_gr1 (d := 492) rfl (by kernel_rfl) (by go_simp)) (fun _ _ => by go_simp) ?_
  exact (hnext _ (by simp [hs0]) (by first | (simp only [At, ↓Array.getElem?_setIfInBounds_ne, ne_eq, Nat.reduceEqDiff, not_false_eq_true, q5_]; done) | simp [At, hs0, f5_, f6_, f9_, f10_, f11_, f48_, f52_, f56_, f57_, f62_, f63_, f64_, f68_, f69_, f70_, f71_]) (by first | (simp only [At, ↓Array.getElem?_setIfInBounds_ne, ne_eq, Nat.reduceEqDiff, not_false_eq_true, q6_]; done) | simp [At, hs0, f5_, f6_, f9_, f10_, f11_, f48_, f52_, f56_, f57_, f62_, f63_, f64_, f68_, f69_, f70_, f71_]) (by first | (simp only [At, ↓Array.getElem?_setIfInBounds_ne, ne_eq, Nat.reduceEqDiff, not_false_eq_true, q9_]; done) | simp [At, hs0, f5_, f6_, f9_, f10_, f11_, f48_, f52_, f56_, f57_, f62_, f63_, f64_, f68_, f69_, f70_, f71_]) (by first | (simp only [At, ↓Array.getElem?_setIfInBounds_ne, ne_eq, Nat.reduceEqDiff, not_false_eq_true, q10_]; done) | simp [At, hs0, f5_, f6_, f9_, f10_, f11_, f48_, f52_, f56_, f57_, f62_, f63_, f64_, f68_, f69_, f70_, f71_]) (by first | (simp only [At, ↓Array.getElem?_setIfInBounds_ne, ne_eq, Nat.reduceEqDiff, not_false_eq_true, q11_]; done) | simp [At, hs0, f5_, f6_, f9_, f10_, f11_, f48_, f52_, f56_, f57_, f62_, f63_, f64_, f68_, f69_, f70_, f71_]) (by first | (simp only [At, ↓Array.getElem?_setIfInBounds_ne, ne_eq, Nat.reduceEqDiff, not_false_eq_true, q48_]; done) | simp [At, hs0, f5_, f6_, f9_, f10_, f11_, f48_, f52_, f56_, f57_, f62_, f63_, f64_, f68_, f69_, f70_, f71_]) (by first | (simp only [At, ↓Array.getElem?_setIfInBounds_ne, ne_eq, Nat.reduceEqDiff, not_false_eq_true, q56_]; done) | simp [At, hs0, f5_, f6_, f9_, f10_, f11_, f48_, f52_, f56_, f57_, f62_, f63_, f64_, f68_, f69_, f70_, f71_]) (by first | (simp only [At, ↓Array.getElem?_setIfInBounds_ne, ne_eq, Nat.reduceEqDiff, not_false_eq_true, q57_]; done) | simp [At, hs0, f5_, f6_, f9_, f10_, f11_, f48_, f52_, f56_, f57_, f62_, f63_, f64_, f68_, f69_, f70_, f71_]) (by first | (simp only [At, ↓Array.getElem?_setIfInBounds_ne, ne_eq, Nat.reduceEqDiff, not_false_eq_true, q62_]; done) | simp [At, hs0, f5_, f6_, f9_, f10_, f11_, f48_, f52_, f56_, f57_, f62_, f63_, f64_, f68_, f69_, f70_, f71_]) (by first | (simp only [At, ↓Array.getElem?_setIfInBounds_ne, ne_eq, Nat.reduceEqDiff, not_false_eq_true, q63_]; done) | simp [At, hs0, f5_, f6_, f9_, f10_, f11_, f48_, f52_, f56_, f57_, f62_, f63_, f64_, f68_, f69_, f70_, f71_]) (by first | (simp only [At, ↓Array.getElem?_setIfInBounds_ne, ne_eq, Nat.reduceEqDiff, not_false_eq_true, q64_]; done) | simp [At, hs0, f5_, f6_, f9_, f10_, f11_, f48_, f52_, f56_, f57_, f62_, f63_, f64_, f68_, f69_, f70_, f71_]) (by first | (simp only [At, ↓Array.getElem?_setIfInBounds_ne, ne_eq, Nat.reduceEqDiff, not_false_eq_true, q70_]; done) | simp [At, hs0, f5_, f6_, f9_, f10_, f11_, f48_, f52_, f56_, f57_, f62_, f63_, f64_, f68_, f69_, f70_, f71_]) (by first | (simp only [At, ↓Array.getElem?_setIfInBounds_ne, ne_eq, Nat.reduceEqDiff, not_false_eq_true]; done) | simp [At, hs0, f5_, f6_, f9_, f10_, f11_, f48_, f52_, f56_, f57_, f62_, f63_, f64_, f68_, f69_, f70_, f71_]) (by first | (simp only [At, ↓Array.getElem?_setIfInBounds_ne, ne_eq, Nat.reduceEqDiff, not_false_eq_true]; done) | simp [At, hs0, f5_, f6_, f9_, f10_, f11_, f48_, f52_, f56_, f57_, f62_, f63_, f64_, f68_, f69_, f70_, f71_]))
set_option maxHeartbeats 8000000 in
set_option maxRecDepth 100000 in
theorem reg36_1 (p q r s Y H E x y g0 g1 k0 k1 : Int) (O P : ByteArray) (OH : Bool) (j3 j4 j5 gg kk cg ck : Nat) (w0 : World) (d30 : w0.cell? ⟨j3, 0, none⟩ = some (.int .i64 p)) (d31 : w0.cell? ⟨j3, 1, none⟩ = some (.int .i64 q)) (d40 : w0.cell? ⟨j4, 0, none⟩ = some (.int .i64 r)) (d41 : w0.cell? ⟨j4, 1, none⟩ = some (.int .i64 s)) (e0_ : w0.cell? ⟨gg, 0, none⟩ = some (.int .i64 g0)) (e1_ : w0.cell? ⟨gg, 1, none⟩ = some (.int .i64 g1)) (e2_ : w0.cell? ⟨kk, 0, none⟩ = some (.int .i64 k0)) (e3_ : w0.cell? ⟨kk, 1, none⟩ = some (.int .i64 k1)) (HG : ∀ W : World, Hid (Calls Try.prog 18 #[.int .i64 g0, .int .i64 g1] W fun e w' => e = .returned (.bool true) ∧ ∃ n, w' = W.drewN n)) (HK : ∀ W : World, Hid (Calls Try.prog 18 #[.int .i64 k0, .int .i64 k1] W fun e w' => e = .returned (.bool true) ∧ ∃ n, w' = W.drewN n)) (w1_ : IntKind.i64.wrap (4 * p) = 4 * p) (w2_ : IntKind.i64.wrap (4 * p * r) = 4 * p * r) (w3_ : IntKind.i64.wrap (Y + 4 * p * r) = Y + 4 * p * r) (g0n : ¬ g0 < 0) (k0n : ¬ k0 < 0) (Q : Act → Prop) (T0 : Array Value) (hs0 : T0.size = 620) (q5_ : At T0 5 (.int .i64 x)) (q6_ : At T0 6 (.int .i64 y)) (q9_ : At T0 9 (.pointer (some ⟨j3, 0, none⟩))) (q10_ : At T0 10 (.pointer (some ⟨j4, 0, none⟩))) (q11_ : At T0 11 (.pointer (some ⟨j5, 0, none⟩))) (q48_ : At T0 48 (.string O)) (q56_ : At T0 56 (.slice (some ⟨gg, 0, none⟩) 2 cg)) (q57_ : At T0 57 (.slice (some ⟨kk, 0, none⟩) 2 ck)) (q62_ : At T0 62 (.int .i64 H)) (q63_ : At T0 63 (.int .i64 E)) (q64_ : At T0 64 (.bool OH)) (q70_ : At T0 70 (.string P)) (q492_ : At T0 492 (.bool false)) (q495_ : At T0 495 (.bool false))
    (hnext : ∀ T1 : Array Value, T1.size = 620 → At T1 5 (.int .i64 x) → At T1 6 (.int .i64 y) → At T1 9 (.pointer (some ⟨j3, 0, none⟩)) → At T1 10 (.pointer (some ⟨j4, 0, none⟩)) → At T1 11 (.pointer (some ⟨j5, 0, none⟩)) → At T1 48 (.string O) → At T1 56 (.slice (some ⟨gg, 0, none⟩) 2 cg) → At T1 57 (.slice (some ⟨kk, 0, none⟩) 2 ck) → At T1 62 (.int .i64 H) → At T1 63 (.int .i64 E) → At T1 64 (.bool OH) → At T1 70 (.string P) → At T1 512 (.bool false) → At T1 515 (.int .i64 k0) → At T1 517 (.pointer (some ⟨kk, 1, none⟩)) → wpQuiet Try.prog (opl 36).toArray (fun w' => ∃ n, w' = w0.drewN n) Q ((opl 36).drop 44) ⟨T1, []⟩) :
    wpQuiet Try.prog (opl 36).toArray (fun w' => ∃ n, w' = w0.drewN n) Q ((opl 36).drop 22) ⟨T0, []⟩ := by
  conv => arg 5; whnf
  have f5_ := fun hh => getq q5_ hh
  have f6_ := fun hh => getq q6_ hh
  have f9_ := fun hh => getq q9_ hh
  have f10_ := fun hh => getq q10_ hh
  have f11_ := fun hh => getq q11_ hh
  have f48_ := fun hh => getq q48_ hh
  have f56_ := fun hh => getq q56_ hh
  have f57_ := fun hh => getq q57_ hh
  have f62_ := fun hh => getq q62_ hh
  have f63_ := fun hh => getq q63_ hh
  have f64_ := fun hh => getq q64_ hh
  have f70_ := fun hh => getq q70_ hh
  have f492_ := fun hh => getq q492_ hh
  have f495_ := fun hh => getq q495_ hh
  refine q_take (.bool false) rfl (q_free rfl _) (fun _ _ => by go_simp) ?_
  refine q_take (.bool false) rfl (q_free rfl _) (fun _ _ => by go_simp) ?_
  refine q_take (.slice (some ⟨kk, 0, none⟩) 2 ck) rfl (q_gr1 (d := 497) rfl (by kernel_rfl) (by go_simp)) (fun _ _ => by go_simp) ?_
  refine q_take (.int .i64 2) rfl (q_gr1 (d := 497) rfl (by kernel_rfl) (by go_simp)) (fun _ _ => by go_simp) ?_
  refine q_take (.bool false) rfl (q_gr1 (d := 497) rfl (by kernel_rfl) (by go_simp)) (fun _ _ => by go_simp) ?_
  refine q_take (.bool false) rfl (q_free rfl _) (fun _ _ => by go_simp) ?_
  refine q_take (.bool false) rfl (q_free rfl _) (fun _ _ => by go_simp) ?_
  refine q_take (.slice (some ⟨gg, 0, none⟩) 2 cg) rfl (q_gr1 (d := 502) rfl (by kernel_rfl) (by go_simp)) (fun _ _ => by go_simp) ?_
  refine q_take (.pointer (some ⟨gg, 0, none⟩)) rfl (q_gr1 (d := 502) rfl (by kernel_rfl) (by go_simp)) (fun _ _ => by go_simp) ?_
  refine q_take (.int .i64 g0) rfl (q_gr1 (d := 502) rfl (by kernel_rfl) (by go_simp)) (fun w' hw' => by obtain ⟨n, rfl⟩ := hw'; go_simp) ?_
  refine q_take (.slice (some ⟨gg, 0, none⟩) 2 cg) rfl (q_gr1 (d := 502) rfl (by kernel_rfl) (by go_simp)) (fun _ _ => by go_simp) ?_
  refine q_take (.pointer (some ⟨gg, 1, none⟩)) rfl (q_gr1 (d := 502) rfl (by kernel_rfl) (by go_simp)) (fun _ _ => by go_simp) ?_
  refine q_take (.int .i64 g1) rfl (q_gr1 (d := 502) rfl (by kernel_rfl) (by go_simp)) (fun w' hw' => by obtain ⟨n, rfl⟩ := hw'; go_simp) ?_
  refine q_call (f := 18) (args := #[.int .i64 g0, .int .i64 g1]) (.bool true) rfl (q_gr1 (d := 502) rfl (by kernel_rfl) (by go_simp)) (fun w' hw' => by obtain ⟨n, rfl⟩ := hw'; exact Calls.quiet_of ((HG _).out)) (fun _ _ => by go_simp) ?_
  refine q_take (.bool false) rfl (q_gr1 (d := 502) rfl (by kernel_rfl) (by go_simp)) (fun _ _ => by go_simp) ?_
  refine q_take (.bool false) rfl (q_free rfl _) (fun _ _ => by go_simp) ?_
  refine q_take (.bool false) rfl (q_free rfl _) (fun _ _ => by go_simp) ?_
  refine q_take (.slice (some ⟨kk, 0, none⟩) 2 ck) rfl (q_gr1 (d := 512) rfl (by kernel_rfl) (by go_simp)) (fun _ _ => by go_simp) ?_
  refine q_take (.pointer (some ⟨kk, 0, none⟩)) rfl (q_gr1 (d := 512) rfl (by kernel_rfl) (by go_simp)) (fun _ _ => by go_simp) ?_
  refine q_take (.int .i64 k0) rfl (q_gr1 (d := 512) rfl (by kernel_rfl) (by go_simp)) (fun w' hw' => by obtain ⟨n, rfl⟩ := hw'; go_simp) ?_
  refine q_take (.slice (some ⟨kk, 0, none⟩) 2 ck) rfl (q_gr1 (d := 512) rfl (by kernel_rfl) (by go_simp)) (fun _ _ => by go_simp) ?_
  refine q_take (.pointer (some ⟨kk, 1, none⟩)) rfl (q_gr1 (d := 512) rfl (by kernel_rfl) (by go_simp)) (fun _ _ => by go_simp) ?_
  exact (hnext _ (by simp [hs0]) (by first | (simp only [At, ↓Array.getElem?_setIfInBounds_ne, ne_eq, Nat.reduceEqDiff, not_false_eq_true, q5_]; done) | simp [At, hs0, f5_, f6_, f9_, f10_, f11_, f48_, f56_, f57_, f62_, f63_, f64_, f70_, f492_, f495_]) (by first | (simp only [At, ↓Array.getElem?_setIfInBounds_ne, ne_eq, Nat.reduceEqDiff, not_false_eq_true, q6_]; done) | simp [At, hs0, f5_, f6_, f9_, f10_, f11_, f48_, f56_, f57_, f62_, f63_, f64_, f70_, f492_, f495_]) (by first | (simp only [At, ↓Array.getElem?_setIfInBounds_ne, ne_eq, Nat.reduceEqDiff, not_false_eq_true, q9_]; done) | simp [At, hs0, f5_, f6_, f9_, f10_, f11_, f48_, f56_, f57_, f62_, f63_, f64_, f70_, f492_, f495_]) (by first | (simp only [At, ↓Array.getElem?_setIfInBounds_ne, ne_eq, Nat.reduceEqDiff, not_false_eq_true, q10_]; done) | simp [At, hs0, f5_, f6_, f9_, f10_, f11_, f48_, f56_, f57_, f62_, f63_, f64_, f70_, f492_, f495_]) (by first | (simp only [At, ↓Array.getElem?_setIfInBounds_ne, ne_eq, Nat.reduceEqDiff, not_false_eq_true, q11_]; done) | simp [At, hs0, f5_, f6_, f9_, f10_, f11_, f48_, f56_, f57_, f62_, f63_, f64_, f70_, f492_, f495_]) (by first | (simp only [At, ↓Array.getElem?_setIfInBounds_ne, ne_eq, Nat.reduceEqDiff, not_false_eq_true, q48_]; done) | simp [At, hs0, f5_, f6_, f9_, f10_, f11_, f48_, f56_, f57_, f62_, f63_, f64_, f70_, f492_, f495_]) (by first | (simp only [At, ↓Array.getElem?_setIfInBounds_ne, ne_eq, Nat.reduceEqDiff, not_false_eq_true, q56_]; done) | simp [At, hs0, f5_, f6_, f9_, f10_, f11_, f48_, f56_, f57_, f62_, f63_, f64_, f70_, f492_, f495_]) (by first | (simp only [At, ↓Array.getElem?_setIfInBounds_ne, ne_eq, Nat.reduceEqDiff, not_false_eq_true, q57_]; done) | simp [At, hs0, f5_, f6_, f9_, f10_, f11_, f48_, f56_, f57_, f62_, f63_, f64_, f70_, f492_, f495_]) (by first | (simp only [At, ↓Array.getElem?_setIfInBounds_ne, ne_eq, Nat.reduceEqDiff, not_false_eq_true, q62_]; done) | simp [At, hs0, f5_, f6_, f9_, f10_, f11_, f48_, f56_, f57_, f62_, f63_, f64_, f70_, f492_, f495_]) (by first | (simp only [At, ↓Array.getElem?_setIfInBounds_ne, ne_eq, Nat.reduceEqDiff, not_false_eq_true, q63_]; done) | simp [At, hs0, f5_, f6_, f9_, f10_, f11_, f48_, f56_, f57_, f62_, f63_, f64_, f70_, f492_, f495_]) (by first | (simp only [At, ↓Array.getElem?_setIfInBounds_ne, ne_eq, Nat.reduceEqDiff, not_false_eq_true, q64_]; done) | simp [At, hs0, f5_, f6_, f9_, f10_, f11_, f48_, f56_, f57_, f62_, f63_, f64_, f70_, f492_, f495_]) (by first | (simp only [At, ↓Array.getElem?_setIfInBounds_ne, ne_eq, Nat.reduceEqDiff, not_false_eq_true, q70_]; done) | simp [At, hs0, f5_, f6_, f9_, f10_, f11_, f48_, f56_, f57_, f62_, f63_, f64_, f70_, f492_, f495_]) (by first | (simp only [At, ↓Array.getElem?_setIfInBounds_ne, ne_eq, Nat.reduceEqDiff, not_false_eq_true]; done) | simp [At, hs0, f5_, f6_, f9_, f10_, f11_, f48_, f56_, f57_, f62_, f63_, f64_, f70_, f492_, f495_]) (by first | (simp only [At, ↓Array.getElem?_setIfInBounds_ne, ne_eq, Nat.reduceEqDiff, not_false_eq_true]; done) | simp [At, hs0, f5_, f6_, f9_, f10_, f11_, f48_, f56_, f57_, f62_, f63_, f64_, f70_, f492_, f495_]) (by first | (simp only [At, ↓Array.getElem?_setIfInBounds_ne, ne_eq, Nat.reduceEqDiff, not_false_eq_true]; done) | simp [At, hs0, f5_, f6_, f9_, f10_, f11_, f48_, f56_, f57_, f62_, f63_, f64_, f70_, f492_, f495_]))
set_option maxHeartbeats 8000000 in
set_option maxRecDepth 100000 in
theorem reg36_2 (p q r s Y H E x y g0 g1 k0 k1 : Int) (O P : ByteArray) (OH : Bool) (j3 j4 j5 gg kk cg ck : Nat) (w0 : World) (d30 : w0.cell? ⟨j3, 0, none⟩ = some (.int .i64 p)) (d31 : w0.cell? ⟨j3, 1, none⟩ = some (.int .i64 q)) (d40 : w0.cell? ⟨j4, 0, none⟩ = some (.int .i64 r)) (d41 : w0.cell? ⟨j4, 1, none⟩ = some (.int .i64 s)) (e0_ : w0.cell? ⟨gg, 0, none⟩ = some (.int .i64 g0)) (e1_ : w0.cell? ⟨gg, 1, none⟩ = some (.int .i64 g1)) (e2_ : w0.cell? ⟨kk, 0, none⟩ = some (.int .i64 k0)) (e3_ : w0.cell? ⟨kk, 1, none⟩ = some (.int .i64 k1)) (HG : ∀ W : World, Hid (Calls Try.prog 18 #[.int .i64 g0, .int .i64 g1] W fun e w' => e = .returned (.bool true) ∧ ∃ n, w' = W.drewN n)) (HK : ∀ W : World, Hid (Calls Try.prog 18 #[.int .i64 k0, .int .i64 k1] W fun e w' => e = .returned (.bool true) ∧ ∃ n, w' = W.drewN n)) (w1_ : IntKind.i64.wrap (4 * p) = 4 * p) (w2_ : IntKind.i64.wrap (4 * p * r) = 4 * p * r) (w3_ : IntKind.i64.wrap (Y + 4 * p * r) = Y + 4 * p * r) (g0n : ¬ g0 < 0) (k0n : ¬ k0 < 0) (Q : Act → Prop) (T0 : Array Value) (hs0 : T0.size = 620) (q5_ : At T0 5 (.int .i64 x)) (q6_ : At T0 6 (.int .i64 y)) (q9_ : At T0 9 (.pointer (some ⟨j3, 0, none⟩))) (q10_ : At T0 10 (.pointer (some ⟨j4, 0, none⟩))) (q11_ : At T0 11 (.pointer (some ⟨j5, 0, none⟩))) (q48_ : At T0 48 (.string O)) (q56_ : At T0 56 (.slice (some ⟨gg, 0, none⟩) 2 cg)) (q57_ : At T0 57 (.slice (some ⟨kk, 0, none⟩) 2 ck)) (q62_ : At T0 62 (.int .i64 H)) (q63_ : At T0 63 (.int .i64 E)) (q64_ : At T0 64 (.bool OH)) (q70_ : At T0 70 (.string P)) (q512_ : At T0 512 (.bool false)) (q515_ : At T0 515 (.int .i64 k0)) (q517_ : At T0 517 (.pointer (some ⟨kk, 1, none⟩)))
    (hnext : ∀ T1 : Array Value, T1.size = 620 → At T1 5 (.int .i64 x) → At T1 6 (.int .i64 y) → At T1 9 (.pointer (some ⟨j3, 0, none⟩)) → At T1 10 (.pointer (some ⟨j4, 0, none⟩)) → At T1 11 (.pointer (some ⟨j5, 0, none⟩)) → At T1 48 (.string O) → At T1 56 (.slice (some ⟨gg, 0, none⟩) 2 cg) → At T1 57 (.slice (some ⟨kk, 0, none⟩) 2 ck) → At T1 62 (.int .i64 H) → At T1 63 (.int .i64 E) → At T1 64 (.bool OH) → At T1 70 (.string P) → At T1 534 (.bool false) → wpQuiet Try.prog (opl 36).toArray (fun w' => ∃ n, w' = w0.drewN n) Q ((opl 36).drop 61) ⟨T1, []⟩) :
    wpQuiet Try.prog (opl 36).toArray (fun w' => ∃ n, w' = w0.drewN n) Q ((opl 36).drop 44) ⟨T0, []⟩ := by
  conv => arg 5; whnf
  have f5_ := fun hh => getq q5_ hh
  have f6_ := fun hh => getq q6_ hh
  have f9_ := fun hh => getq q9_ hh
  have f10_ := fun hh => getq q10_ hh
  have f11_ := fun hh => getq q11_ hh
  have f48_ := fun hh => getq q48_ hh
  have f56_ := fun hh => getq q56_ hh
  have f57_ := fun hh => getq q57_ hh
  have f62_ := fun hh => getq q62_ hh
  have f63_ := fun hh => getq q63_ hh
  have f64_ := fun hh => getq q64_ hh
  have f70_ := fun hh => getq q70_ hh
  have f512_ := fun hh => getq q512_ hh
  have f515_ := fun hh => getq q515_ hh
  have f517_ := fun hh => getq q517_ hh
  refine q_take (.int .i64 k1) rfl (q_gr1 (d := 512) rfl (by kernel_rfl) (by go_simp)) (fun w' hw' => by obtain ⟨n, rfl⟩ := hw'; go_simp) ?_
  refine q_call (f := 18) (args := #[.int .i64 k0, .int .i64 k1]) (.bool true) rfl (q_gr1 (d := 512) rfl (by kernel_rfl) (by go_simp)) (fun w' hw' => by obtain ⟨n, rfl⟩ := hw'; exact Calls.quiet_of ((HK _).out)) (fun _ _ => by go_simp) ?_
  refine q_take (.bool false) rfl (q_gr1 (d := 512) rfl (by kernel_rfl) (by go_simp)) (fun _ _ => by go_simp) ?_
  refine q_take (.bool false) rfl (q_free rfl _) (fun _ _ => by go_simp) ?_
  refine q_take (.bool false) rfl (q_free rfl _) (fun _ _ => by go_simp) ?_
  refine q_take (.slice (some ⟨gg, 0, none⟩) 2 cg) rfl (q_gr1 (d := 522) rfl (by kernel_rfl) (by go_simp)) (fun _ _ => by go_simp) ?_
  refine q_take (.pointer (some ⟨gg, 0, none⟩)) rfl (q_gr1 (d := 522) rfl (by kernel_rfl) (by go_simp)) (fun _ _ => by go_simp) ?_
  refine q_take (.int .i64 g0) rfl (q_gr1 (d := 522) rfl (by kernel_rfl) (by go_simp)) (fun w' hw' => by obtain ⟨n, rfl⟩ := hw'; go_simp) ?_
  refine q_take (.bool false) rfl (q_gr1 (d := 522) rfl (by kernel_rfl) (by go_simp)) (fun _ _ => by go_simp) ?_
  refine q_take (.bool false) rfl (q_free rfl _) (fun _ _ => by go_simp) ?_
  refine q_take (.bool false) rfl (q_free rfl _) (fun _ _ => by go_simp) ?_
  refine q_take (.slice (some ⟨kk, 0, none⟩) 2 ck) rfl (q_gr1 (d := 528) rfl (by kernel_rfl) (by go_simp)) (fun _ _ => by go_simp) ?_
  refine q_take (.pointer (some ⟨kk, 0, none⟩)) rfl (q_gr1 (d := 528) rfl (by kernel_rfl) (by go_simp)) (fun _ _ => by go_simp) ?_
  refine q_take (.int .i64 k0) rfl (q_gr1 (d := 528) rfl (by kernel_rfl) (by go_simp)) (fun w' hw' => by obtain ⟨n, rfl⟩ := hw'; go_simp) ?_
  refine q_take (.bool false) rfl (q_gr1 (d := 528) rfl (by kernel_rfl) (by go_simp)) (fun _ _ => by go_simp) ?_
  refine q_take (.bool false) rfl (q_free rfl _) (fun _ _ => by go_simp) ?_
  refine q_take (.bool false) rfl (q_free rfl _) (fun _ _ => by go_simp) ?_
  exact (hnext _ (by simp [hs0]) (by first | (simp only [At, ↓Array.getElem?_setIfInBounds_ne, ne_eq, Nat.reduceEqDiff, not_false_eq_true, q5_]; done) | simp [At, hs0, f5_, f6_, f9_, f10_, f11_, f48_, f56_, f57_, f62_, f63_, f64_, f70_, f512_, f515_, f517_]) (by first | (simp only [At, ↓Array.getElem?_setIfInBounds_ne, ne_eq, Nat.reduceEqDiff, not_false_eq_true, q6_]; done) | simp [At, hs0, f5_, f6_, f9_, f10_, f11_, f48_, f56_, f57_, f62_, f63_, f64_, f70_, f512_, f515_, f517_]) (by first | (simp only [At, ↓Array.getElem?_setIfInBounds_ne, ne_eq, Nat.reduceEqDiff, not_false_eq_true, q9_]; done) | simp [At, hs0, f5_, f6_, f9_, f10_, f11_, f48_, f56_, f57_, f62_, f63_, f64_, f70_, f512_, f515_, f517_]) (by first | (simp only [At, ↓Array.getElem?_setIfInBounds_ne, ne_eq, Nat.reduceEqDiff, not_false_eq_true, q10_]; done) | simp [At, hs0, f5_, f6_, f9_, f10_, f11_, f48_, f56_, f57_, f62_, f63_, f64_, f70_, f512_, f515_, f517_]) (by first | (simp only [At, ↓Array.getElem?_setIfInBounds_ne, ne_eq, Nat.reduceEqDiff, not_false_eq_true, q11_]; done) | simp [At, hs0, f5_, f6_, f9_, f10_, f11_, f48_, f56_, f57_, f62_, f63_, f64_, f70_, f512_, f515_, f517_]) (by first | (simp only [At, ↓Array.getElem?_setIfInBounds_ne, ne_eq, Nat.reduceEqDiff, not_false_eq_true, q48_]; done) | simp [At, hs0, f5_, f6_, f9_, f10_, f11_, f48_, f56_, f57_, f62_, f63_, f64_, f70_, f512_, f515_, f517_]) (by first | (simp only [At, ↓Array.getElem?_setIfInBounds_ne, ne_eq, Nat.reduceEqDiff, not_false_eq_true, q56_]; done) | simp [At, hs0, f5_, f6_, f9_, f10_, f11_, f48_, f56_, f57_, f62_, f63_, f64_, f70_, f512_, f515_, f517_]) (by first | (simp only [At, ↓Array.getElem?_setIfInBounds_ne, ne_eq, Nat.reduceEqDiff, not_false_eq_true, q57_]; done) | simp [At, hs0, f5_, f6_, f9_, f10_, f11_, f48_, f56_, f57_, f62_, f63_, f64_, f70_, f512_, f515_, f517_]) (by first | (simp only [At, ↓Array.getElem?_setIfInBounds_ne, ne_eq, Nat.reduceEqDiff, not_false_eq_true, q62_]; done) | simp [At, hs0, f5_, f6_, f9_, f10_, f11_, f48_, f56_, f57_, f62_, f63_, f64_, f70_, f512_, f515_, f517_]) (by first | (simp only [At, ↓Array.getElem?_setIfInBounds_ne, ne_eq, Nat.reduceEqDiff, not_false_eq_true, q63_]; done) | simp [At, hs0, f5_, f6_, f9_, f10_, f11_, f48_, f56_, f57_, f62_, f63_, f64_, f70_, f512_, f515_, f517_]) (by first | (simp only [At, ↓Array.getElem?_setIfInBounds_ne, ne_eq, Nat.reduceEqDiff, not_false_eq_true, q64_]; done) | simp [At, hs0, f5_, f6_, f9_, f10_, f11_, f48_, f56_, f57_, f62_, f63_, f64_, f70_, f512_, f515_, f517_]) (by first | (simp only [At, ↓Array.getElem?_setIfInBounds_ne, ne_eq, Nat.reduceEqDiff, not_false_eq_true, q70_]; done) | simp [At, hs0, f5_, f6_, f9_, f10_, f11_, f48_, f56_, f57_, f62_, f63_, f64_, f70_, f512_, f515_, f517_]) (by first | (simp only [At, ↓Array.getElem?_setIfInBounds_ne, ne_eq, Nat.reduceEqDiff, not_false_eq_true]; done) | simp [At, hs0, f5_, f6_, f9_, f10_, f11_, f48_, f56_, f57_, f62_, f63_, f64_, f70_, f512_, f515_, f517_]))
set_option maxHeartbeats 8000000 in
set_option maxRecDepth 100000 in
theorem reg36_a_0 (p q r s Y H E x y g1 k1 : Int) (OH : Bool) (j3 j4 j5 gg kk cg ck : Nat) (w0 : World) (d30 : w0.cell? ⟨j3, 0, none⟩ = some (.int .i64 p)) (d31 : w0.cell? ⟨j3, 1, none⟩ = some (.int .i64 q)) (d40 : w0.cell? ⟨j4, 0, none⟩ = some (.int .i64 r)) (d41 : w0.cell? ⟨j4, 1, none⟩ = some (.int .i64 s)) (e0_ : w0.cell? ⟨gg, 0, none⟩ = some (.int .i64 0)) (e1_ : w0.cell? ⟨gg, 1, none⟩ = some (.int .i64 g1)) (e2_ : w0.cell? ⟨kk, 0, none⟩ = some (.int .i64 0)) (e3_ : w0.cell? ⟨kk, 1, none⟩ = some (.int .i64 k1)) (w4_ : IntKind.i64.wrap (p * s) = p * s) (w6_ : IntKind.i64.wrap (r * q) = p * s) (s1_ : ((⟨#[103, 119]⟩ : ByteArray) = ⟨#[99]⟩) = False) (s2_ : ((⟨#[119, 103]⟩ : ByteArray) = ⟨#[99]⟩) = False) (s3_ : ((⟨#[103, 119]⟩ : ByteArray) = ⟨#[119, 103]⟩) = False) (s4_ : ((⟨#[119, 103]⟩ : ByteArray) = ⟨#[103, 119]⟩) = False) (s5_ : ((⟨#[99]⟩ : ByteArray) = ⟨#[103, 119]⟩) = False) (s6_ : ((⟨#[99]⟩ : ByteArray) = ⟨#[119, 103]⟩) = False) (Q : Act → Prop) (T0 : Array Value) (hs0 : T0.size = 620) (q5_ : At T0 5 (.int .i64 x)) (q6_ : At T0 6 (.int .i64 y)) (q9_ : At T0 9 (.pointer (some ⟨j3, 0, none⟩))) (q10_ : At T0 10 (.pointer (some ⟨j4, 0, none⟩))) (q11_ : At T0 11 (.pointer (some ⟨j5, 0, none⟩))) (q48_ : At T0 48 (.string ⟨#[99]⟩)) (q56_ : At T0 56 (.slice (some ⟨gg, 0, none⟩) 2 cg)) (q57_ : At T0 57 (.slice (some ⟨kk, 0, none⟩) 2 ck)) (q62_ : At T0 62 (.int .i64 H)) (q63_ : At T0 63 (.int .i64 E)) (q64_ : At T0 64 (.bool OH)) (q70_ : At T0 70 (.string ⟨#[99]⟩)) (q534_ : At T0 534 (.bool false))
    (hnext : ∀ T1 : Array Value, T1.size = 620 → At T1 5 (.int .i64 x) → At T1 6 (.int .i64 y) → At T1 9 (.pointer (some ⟨j3, 0, none⟩)) → At T1 10 (.pointer (some ⟨j4, 0, none⟩)) → At T1 11 (.pointer (some ⟨j5, 0, none⟩)) → At T1 48 (.string ⟨#[99]⟩) → At T1 62 (.int .i64 H) → At T1 63 (.int .i64 E) → At T1 64 (.bool OH) → At T1 70 (.string ⟨#[99]⟩) → At T1 552 (.bool false) → At T1 554 (.bool true) → At T1 556 (.int .i64 p) → wpQuiet Try.prog (opl 36).toArray (fun w' => ∃ n, w' = w0.drewN n) Q ((opl 36).drop 83) ⟨T1, []⟩) :
    wpQuiet Try.prog (opl 36).toArray (fun w' => ∃ n, w' = w0.drewN n) Q ((opl 36).drop 61) ⟨T0, []⟩ := by
  conv => arg 5; whnf
  have f5_ := fun hh => getq q5_ hh
  have f6_ := fun hh => getq q6_ hh
  have f9_ := fun hh => getq q9_ hh
  have f10_ := fun hh => getq q10_ hh
  have f11_ := fun hh => getq q11_ hh
  have f48_ := fun hh => getq q48_ hh
  have f56_ := fun hh => getq q56_ hh
  have f57_ := fun hh => getq q57_ hh
  have f62_ := fun hh => getq q62_ hh
  have f63_ := fun hh => getq q63_ hh
  have f64_ := fun hh => getq q64_ hh
  have f70_ := fun hh => getq q70_ hh
  have f534_ := fun hh => getq q534_ hh
  refine q_take (.string ⟨#[99]⟩) rfl (q_gr1 (d := 534) rfl (by kernel_rfl) (by go_simp)) (fun _ _ => by go_simp) ?_
  refine q_take (.bool true) rfl (q_gr1 (d := 534) rfl (by kernel_rfl) (by go_simp)) (fun _ _ => by go_simp) ?_
  refine q_take (.slice (some ⟨gg, 0, none⟩) 2 cg) rfl (q_gr1 (d := 534) rfl (by kernel_rfl) (by go_simp)) (fun _ _ => by go_simp) ?_
  refine q_take (.pointer (some ⟨gg, 0, none⟩)) rfl (q_gr1 (d := 534) rfl (by kernel_rfl) (by go_simp)) (fun _ _ => by go_simp) ?_
  refine q_take (.int .i64 0) rfl (q_gr1 (d := 534) rfl (by kernel_rfl) (by go_simp)) (fun w' hw' => by obtain ⟨n, rfl⟩ := hw'; go_simp) ?_
  refine q_take (.bool true) rfl (q_gr1 (d := 534) rfl (by kernel_rfl) (by go_simp)) (fun _ _ => by go_simp) ?_
  refine q_take (.bool false) rfl (q_gr1 (d := 534) rfl (by kernel_rfl) (by go_simp)) (fun _ _ => by go_simp) ?_
  refine q_take (.bool false) rfl (q_free rfl _) (fun _ _ => by go_simp) ?_
  refine q_take (.bool false) rfl (q_free rfl _) (fun _ _ => by go_simp) ?_
  refine q_take (.string ⟨#[99]⟩) rfl (q_gr1 (d := 543) rfl (by kernel_rfl) (by go_simp)) (fun _ _ => by go_simp) ?_
  refine q_take (.bool true) rfl (q_gr1 (d := 543) rfl (by kernel_rfl) (by go_simp)) (fun _ _ => by go_simp) ?_
  refine q_take (.slice (some ⟨kk, 0, none⟩) 2 ck) rfl (q_gr1 (d := 543) rfl (by kernel_rfl) (by go_simp)) (fun _ _ => by go_simp) ?_
  refine q_take (.pointer (some ⟨kk, 0, none⟩)) rfl (q_gr1 (d := 543) rfl (by kernel_rfl) (by go_simp)) (fun _ _ => by go_simp) ?_
  refine q_take (.int .i64 0) rfl (q_gr1 (d := 543) rfl (by kernel_rfl) (by go_simp)) (fun w' hw' => by obtain ⟨n, rfl⟩ := hw'; go_simp) ?_
  refine q_take (.bool true) rfl (q_gr1 (d := 543) rfl (by kernel_rfl) (by go_simp)) (fun _ _ => by go_simp) ?_
  refine q_take (.bool false) rfl (q_gr1 (d := 543) rfl (by kernel_rfl) (by go_simp)) (fun _ _ => by go_simp) ?_
  refine q_take (.bool false) rfl (q_free rfl _) (fun _ _ => by go_simp) ?_
  refine q_take (.bool false) rfl (q_free rfl _) (fun _ _ => by go_simp) ?_
  refine q_take (.string ⟨#[99]⟩) rfl (q_gr1 (d := 552) rfl (by kernel_rfl) (by go_simp)) (fun _ _ => by go_simp) ?_
  refine q_take (.bool true) rfl (q_gr1 (d := 552) rfl (by kernel_rfl) (by go_simp)) (fun _ _ => by go_simp) ?_
  refine q_take (.pointer (some ⟨j3, 0, none⟩)) rfl (q_gr1 (d := 552) rfl (by kernel_rfl) (by go_simp)) (fun _ _ => by go_simp) ?_
  refine q_take (.int .i64 p) rfl (q_gr1 (d := 552) rfl (by kernel_rfl) (by go_simp)) (fun w' hw' => by obtain ⟨n, rfl⟩ := hw'; go_simp) ?_
  exact (hnext _ (by simp [hs0]) (by first | (simp only [At, ↓Array.getElem?_setIfInBounds_ne, ne_eq, Nat.reduceEqDiff, not_false_eq_true, q5_]; done) | simp [At, hs0, f5_, f6_, f9_, f10_, f11_, f48_, f56_, f57_, f62_, f63_, f64_, f70_, f534_]) (by first | (simp only [At, ↓Array.getElem?_setIfInBounds_ne, ne_eq, Nat.reduceEqDiff, not_false_eq_true, q6_]; done) | simp [At, hs0, f5_, f6_, f9_, f10_, f11_, f48_, f56_, f57_, f62_, f63_, f64_, f70_, f534_]) (by first | (simp only [At, ↓Array.getElem?_setIfInBounds_ne, ne_eq, Nat.reduceEqDiff, not_false_eq_true, q9_]; done) | simp [At, hs0, f5_, f6_, f9_, f10_, f11_, f48_, f56_, f57_, f62_, f63_, f64_, f70_, f534_]) (by first | (simp only [At, ↓Array.getElem?_setIfInBounds_ne, ne_eq, Nat.reduceEqDiff, not_false_eq_true, q10_]; done) | simp [At, hs0, f5_, f6_, f9_, f10_, f11_, f48_, f56_, f57_, f62_, f63_, f64_, f70_, f534_]) (by first | (simp only [At, ↓Array.getElem?_setIfInBounds_ne, ne_eq, Nat.reduceEqDiff, not_false_eq_true, q11_]; done) | simp [At, hs0, f5_, f6_, f9_, f10_, f11_, f48_, f56_, f57_, f62_, f63_, f64_, f70_, f534_]) (by first | (simp only [At, ↓Array.getElem?_setIfInBounds_ne, ne_eq, Nat.reduceEqDiff, not_false_eq_true, q48_]; done) | simp [At, hs0, f5_, f6_, f9_, f10_, f11_, f48_, f56_, f57_, f62_, f63_, f64_, f70_, f534_]) (by first | (simp only [At, ↓Array.getElem?_setIfInBounds_ne, ne_eq, Nat.reduceEqDiff, not_false_eq_true, q62_]; done) | simp [At, hs0, f5_, f6_, f9_, f10_, f11_, f48_, f56_, f57_, f62_, f63_, f64_, f70_, f534_]) (by first | (simp only [At, ↓Array.getElem?_setIfInBounds_ne, ne_eq, Nat.reduceEqDiff, not_false_eq_true, q63_]; done) | simp [At, hs0, f5_, f6_, f9_, f10_, f11_, f48_, f56_, f57_, f62_, f63_, f64_, f70_, f534_]) (by first | (simp only [At, ↓Array.getElem?_setIfInBounds_ne, ne_eq, Nat.reduceEqDiff, not_false_eq_true, q64_]; done) | simp [At, hs0, f5_, f6_, f9_, f10_, f11_, f48_, f56_, f57_, f62_, f63_, f64_, f70_, f534_]) (by first | (simp only [At, ↓Array.getElem?_setIfInBounds_ne, ne_eq, Nat.reduceEqDiff, not_false_eq_true, q70_]; done) | simp [At, hs0, f5_, f6_, f9_, f10_, f11_, f48_, f56_, f57_, f62_, f63_, f64_, f70_, f534_]) (by first | (simp only [At, ↓Array.getElem?_setIfInBounds_ne, ne_eq, Nat.reduceEqDiff, not_false_eq_true]; done) | simp [At, hs0, f5_, f6_, f9_, f10_, f11_, f48_, f56_, f57_, f62_, f63_, f64_, f70_, f534_]) (by first | (simp only [At, ↓Array.getElem?_setIfInBounds_ne, ne_eq, Nat.reduceEqDiff, not_false_eq_true]; done) | simp [At, hs0, f5_, f6_, f9_, f10_, f11_, f48_, f56_, f57_, f62_, f63_, f64_, f70_, f534_]) (by first | (simp only [At, ↓Array.getElem?_setIfInBounds_ne, ne_eq, Nat.reduceEqDiff, not_false_eq_true]; done) | simp [At, hs0, f5_, f6_, f9_, f10_, f11_, f48_, f56_, f57_, f62_, f63_, f64_, f70_, f534_]))
set_option maxHeartbeats 8000000 in
set_option maxRecDepth 100000 in
theorem reg36_a_1 (p q r s Y H E x y g1 k1 : Int) (OH : Bool) (j3 j4 j5 gg kk cg ck : Nat) (w0 : World) (d30 : w0.cell? ⟨j3, 0, none⟩ = some (.int .i64 p)) (d31 : w0.cell? ⟨j3, 1, none⟩ = some (.int .i64 q)) (d40 : w0.cell? ⟨j4, 0, none⟩ = some (.int .i64 r)) (d41 : w0.cell? ⟨j4, 1, none⟩ = some (.int .i64 s)) (e0_ : w0.cell? ⟨gg, 0, none⟩ = some (.int .i64 0)) (e1_ : w0.cell? ⟨gg, 1, none⟩ = some (.int .i64 g1)) (e2_ : w0.cell? ⟨kk, 0, none⟩ = some (.int .i64 0)) (e3_ : w0.cell? ⟨kk, 1, none⟩ = some (.int .i64 k1)) (w4_ : IntKind.i64.wrap (p * s) = p * s) (w6_ : IntKind.i64.wrap (r * q) = p * s) (s1_ : ((⟨#[103, 119]⟩ : ByteArray) = ⟨#[99]⟩) = False) (s2_ : ((⟨#[119, 103]⟩ : ByteArray) = ⟨#[99]⟩) = False) (s3_ : ((⟨#[103, 119]⟩ : ByteArray) = ⟨#[119, 103]⟩) = False) (s4_ : ((⟨#[119, 103]⟩ : ByteArray) = ⟨#[103, 119]⟩) = False) (s5_ : ((⟨#[99]⟩ : ByteArray) = ⟨#[103, 119]⟩) = False) (s6_ : ((⟨#[99]⟩ : ByteArray) = ⟨#[119, 103]⟩) = False) (Q : Act → Prop) (T0 : Array Value) (hs0 : T0.size = 620) (q5_ : At T0 5 (.int .i64 x)) (q6_ : At T0 6 (.int .i64 y)) (q9_ : At T0 9 (.pointer (some ⟨j3, 0, none⟩))) (q10_ : At T0 10 (.pointer (some ⟨j4, 0, none⟩))) (q11_ : At T0 11 (.pointer (some ⟨j5, 0, none⟩))) (q48_ : At T0 48 (.string ⟨#[99]⟩)) (q62_ : At T0 62 (.int .i64 H)) (q63_ : At T0 63 (.int .i64 E)) (q64_ : At T0 64 (.bool OH)) (q70_ : At T0 70 (.string ⟨#[99]⟩)) (q552_ : At T0 552 (.bool false)) (q554_ : At T0 554 (.bool true)) (q556_ : At T0 556 (.int .i64 p))
    (hnext : ∀ T1 : Array Value, T1.size = 620 → At T1 5 (.int .i64 x) → At T1 6 (.int .i64 y) → At T1 11 (.pointer (some ⟨j5, 0, none⟩)) → At T1 48 (.string ⟨#[99]⟩) → At T1 62 (.int .i64 H) → At T1 63 (.int .i64 E) → At T1 64 (.bool OH) → At T1 70 (.string ⟨#[99]⟩) → At T1 567 (.bool false) → Q ⟨T1, []⟩) :
    wpQuiet Try.prog (opl 36).toArray (fun w' => ∃ n, w' = w0.drewN n) Q ((opl 36).drop 83) ⟨T0, []⟩ := by
  conv => arg 5; whnf
  have f5_ := fun hh => getq q5_ hh
  have f6_ := fun hh => getq q6_ hh
  have f9_ := fun hh => getq q9_ hh
  have f10_ := fun hh => getq q10_ hh
  have f11_ := fun hh => getq q11_ hh
  have f48_ := fun hh => getq q48_ hh
  have f62_ := fun hh => getq q62_ hh
  have f63_ := fun hh => getq q63_ hh
  have f64_ := fun hh => getq q64_ hh
  have f70_ := fun hh => getq q70_ hh
  have f552_ := fun hh => getq q552_ hh
  have f554_ := fun hh => getq q554_ hh
  have f556_ := fun hh => getq q556_ hh
  refine q_take (.pointer (some ⟨j4, 1, none⟩)) rfl (q_gr1 (d := 552) rfl (by kernel_rfl) (by go_simp)) (fun _ _ => by go_simp) ?_
  refine q_take (.int .i64 s) rfl (q_gr1 (d := 552) rfl (by kernel_rfl) (by go_simp)) (fun w' hw' => by obtain ⟨n, rfl⟩ := hw'; go_simp) ?_
  refine q_take (.int .i64 (p * s)) rfl (q_gr1 (d := 552) rfl (by kernel_rfl) (by go_simp)) (fun _ _ => by go_simp) ?_
  refine q_take (.pointer (some ⟨j4, 0, none⟩)) rfl (q_gr1 (d := 552) rfl (by kernel_rfl) (by go_simp)) (fun _ _ => by go_simp) ?_
  refine q_take (.int .i64 r) rfl (q_gr1 (d := 552) rfl (by kernel_rfl) (by go_simp)) (fun w' hw' => by obtain ⟨n, rfl⟩ := hw'; go_simp) ?_
  refine q_take (.pointer (some ⟨j3, 1, none⟩)) rfl (q_gr1 (d := 552) rfl (by kernel_rfl) (by go_simp)) (fun _ _ => by go_simp) ?_
  refine q_take (.int .i64 q) rfl (q_gr1 (d := 552) rfl (by kernel_rfl) (by go_simp)) (fun w' hw' => by obtain ⟨n, rfl⟩ := hw'; go_simp) ?_
  refine q_take (.int .i64 (p * s)) rfl (q_gr1 (d := 552) rfl (by kernel_rfl) (by go_simp)) (fun _ _ => by go_simp) ?_
  refine q_take (.bool true) rfl (q_gr1 (d := 552) rfl (by kernel_rfl) (by go_simp)) (fun _ _ => by go_simp) ?_
  refine q_take (.bool false) rfl (q_gr1 (d := 552) rfl (by kernel_rfl) (by go_simp)) (fun _ _ => by go_simp) ?_
  refine q_take (.bool false) rfl (q_free rfl _) (fun _ _ => by go_simp) ?_
  refine wpQuiet_nil (hnext _ (by simp [hs0]) (by first | (simp only [At, ↓Array.getElem?_setIfInBounds_ne, ne_eq, Nat.reduceEqDiff, not_false_eq_true, q5_]; done) | simp [At, hs0, f5_, f6_, f9_, f10_, f11_, f48_, f62_, f63_, f64_, f70_, f552_, f554_, f556_]) (by first | (simp only [At, ↓Array.getElem?_setIfInBounds_ne, ne_eq, Nat.reduceEqDiff, not_false_eq_true, q6_]; done) | simp [At, hs0, f5_, f6_, f9_, f10_, f11_, f48_, f62_, f63_, f64_, f70_, f552_, f554_, f556_]) (by first | (simp only [At, ↓Array.getElem?_setIfInBounds_ne, ne_eq, Nat.reduceEqDiff, not_false_eq_true, q11_]; done) | simp [At, hs0, f5_, f6_, f9_, f10_, f11_, f48_, f62_, f63_, f64_, f70_, f552_, f554_, f556_]) (by first | (simp only [At, ↓Array.getElem?_setIfInBounds_ne, ne_eq, Nat.reduceEqDiff, not_false_eq_true, q48_]; done) | simp [At, hs0, f5_, f6_, f9_, f10_, f11_, f48_, f62_, f63_, f64_, f70_, f552_, f554_, f556_]) (by first | (simp only [At, ↓Array.getElem?_setIfInBounds_ne, ne_eq, Nat.reduceEqDiff, not_false_eq_true, q62_]; done) | simp [At, hs0, f5_, f6_, f9_, f10_, f11_, f48_, f62_, f63_, f64_, f70_, f552_, f554_, f556_]) (by first | (simp only [At, ↓Array.getElem?_setIfInBounds_ne, ne_eq, Nat.reduceEqDiff, not_false_eq_true, q63_]; done) | simp [At, hs0, f5_, f6_, f9_, f10_, f11_, f48_, f62_, f63_, f64_, f70_, f552_, f554_, f556_]) (by first | (simp only [At, ↓Array.getElem?_setIfInBounds_ne, ne_eq, Nat.reduceEqDiff, not_false_eq_true, q64_]; done) | simp [At, hs0, f5_, f6_, f9_, f10_, f11_, f48_, f62_, f63_, f64_, f70_, f552_, f554_, f556_]) (by first | (simp only [At, ↓Array.getElem?_setIfInBounds_ne, ne_eq, Nat.reduceEqDiff, not_false_eq_true, q70_]; done) | simp [At, hs0, f5_, f6_, f9_, f10_, f11_, f48_, f62_, f63_, f64_, f70_, f552_, f554_, f556_]) (by first | (simp only [At, ↓Array.getElem?_setIfInBounds_ne, ne_eq, Nat.reduceEqDiff, not_false_eq_true]; done) | simp [At, hs0, f5_, f6_, f9_, f10_, f11_, f48_, f62_, f63_, f64_, f70_, f552_, f554_, f556_]))
set_option maxHeartbeats 8000000 in
set_option maxRecDepth 100000 in
theorem reg36_b_0 (p q r s Y H E x y g0 g1 k0 k1 : Int) (OH : Bool) (j3 j4 j5 gg kk cg ck : Nat) (w0 : World) (d30 : w0.cell? ⟨j3, 0, none⟩ = some (.int .i64 p)) (d31 : w0.cell? ⟨j3, 1, none⟩ = some (.int .i64 q)) (d40 : w0.cell? ⟨j4, 0, none⟩ = some (.int .i64 r)) (d41 : w0.cell? ⟨j4, 1, none⟩ = some (.int .i64 s)) (e0_ : w0.cell? ⟨gg, 0, none⟩ = some (.int .i64 g0)) (e1_ : w0.cell? ⟨gg, 1, none⟩ = some (.int .i64 g1)) (e2_ : w0.cell? ⟨kk, 0, none⟩ = some (.int .i64 k0)) (e3_ : w0.cell? ⟨kk, 1, none⟩ = some (.int .i64 k1)) (w4_ : IntKind.i64.wrap (p * s) = p * s) (w5_ : IntKind.i64.wrap (r * q) = r * q) (hg : ¬ g0 = 0) (hk : ¬ k0 = 0) (he : ¬ p * s = r * q) (hgb : (g0 == 0) = false) (hkb : (k0 == 0) = false) (heb : (p * s == r * q) = false) (g0n : ¬ g0 < 0) (k0n : ¬ k0 < 0) (s1_ : ((⟨#[103, 119]⟩ : ByteArray) = ⟨#[99]⟩) = False) (s2_ : ((⟨#[119, 103]⟩ : ByteArray) = ⟨#[99]⟩) = False) (s3_ : ((⟨#[103, 119]⟩ : ByteArray) = ⟨#[119, 103]⟩) = False) (s4_ : ((⟨#[119, 103]⟩ : ByteArray) = ⟨#[103, 119]⟩) = False) (s5_ : ((⟨#[99]⟩ : ByteArray) = ⟨#[103, 119]⟩) = False) (s6_ : ((⟨#[99]⟩ : ByteArray) = ⟨#[119, 103]⟩) = False) (Q : Act → Prop) (T0 : Array Value) (hs0 : T0.size = 620) (q5_ : At T0 5 (.int .i64 x)) (q6_ : At T0 6 (.int .i64 y)) (q9_ : At T0 9 (.pointer (some ⟨j3, 0, none⟩))) (q10_ : At T0 10 (.pointer (some ⟨j4, 0, none⟩))) (q11_ : At T0 11 (.pointer (some ⟨j5, 0, none⟩))) (q48_ : At T0 48 (.string ⟨#[103, 119]⟩)) (q56_ : At T0 56 (.slice (some ⟨gg, 0, none⟩) 2 cg)) (q57_ : At T0 57 (.slice (some ⟨kk, 0, none⟩) 2 ck)) (q62_ : At T0 62 (.int .i64 H)) (q63_ : At T0 63 (.int .i64 E)) (q64_ : At T0 64 (.bool OH)) (q70_ : At T0 70 (.string ⟨#[119, 103]⟩)) (q534_ : At T0 534 (.bool false))
    (hnext : ∀ T1 : Array Value, T1.size = 620 → At T1 5 (.int .i64 x) → At T1 6 (.int .i64 y) → At T1 9 (.pointer (some ⟨j3, 0, none⟩)) → At T1 10 (.pointer (some ⟨j4, 0, none⟩)) → At T1 11 (.pointer (some ⟨j5, 0, none⟩)) → At T1 48 (.string ⟨#[103, 119]⟩) → At T1 62 (.int .i64 H) → At T1 63 (.int .i64 E) → At T1 64 (.bool OH) → At T1 70 (.string ⟨#[119, 103]⟩) → At T1 552 (.bool false) → At T1 554 (.bool false) → At T1 556 (.int .i64 p) → wpQuiet Try.prog (opl 36).toArray (fun w' => ∃ n, w' = w0.drewN n) Q ((opl 36).drop 83) ⟨T1, []⟩) :
    wpQuiet Try.prog (opl 36).toArray (fun w' => ∃ n, w' = w0.drewN n) Q ((opl 36).drop 61) ⟨T0, []⟩ := by
  conv => arg 5; whnf
  have f5_ := fun hh => getq q5_ hh
  have f6_ := fun hh => getq q6_ hh
  have f9_ := fun hh => getq q9_ hh
  have f10_ := fun hh => getq q10_ hh
  have f11_ := fun hh => getq q11_ hh
  have f48_ := fun hh => getq q48_ hh
  have f56_ := fun hh => getq q56_ hh
  have f57_ := fun hh => getq q57_ hh
  have f62_ := fun hh => getq q62_ hh
  have f63_ := fun hh => getq q63_ hh
  have f64_ := fun hh => getq q64_ hh
  have f70_ := fun hh => getq q70_ hh
  have f534_ := fun hh => getq q534_ hh
  refine q_take (.string ⟨#[103, 119]⟩) rfl (q_gr1 (d := 534) rfl (by kernel_rfl) (by go_simp)) (fun _ _ => by go_simp) ?_
  refine q_take (.bool false) rfl (q_gr1 (d := 534) rfl (by kernel_rfl) (by go_simp)) (fun _ _ => by go_simp) ?_
  refine q_take (.slice (some ⟨gg, 0, none⟩) 2 cg) rfl (q_gr1 (d := 534) rfl (by kernel_rfl) (by go_simp)) (fun _ _ => by go_simp) ?_
  refine q_take (.pointer (some ⟨gg, 0, none⟩)) rfl (q_gr1 (d := 534) rfl (by kernel_rfl) (by go_simp)) (fun _ _ => by go_simp) ?_
  refine q_take (.int .i64 g0) rfl (q_gr1 (d := 534) rfl (by kernel_rfl) (by go_simp)) (fun w' hw' => by obtain ⟨n, rfl⟩ := hw'; go_simp) ?_
  refine q_take (.bool false) rfl (q_gr1 (d := 534) rfl (by kernel_rfl) (by go_simp)) (fun _ _ => by go_simp) ?_
  refine q_take (.bool false) rfl (q_gr1 (d := 534) rfl (by kernel_rfl) (by go_simp)) (fun _ _ => by go_simp) ?_
  refine q_take (.bool false) rfl (q_free rfl _) (fun _ _ => by go_simp) ?_
  refine q_take (.bool false) rfl (q_free rfl _) (fun _ _ => by go_simp) ?_
  refine q_take (.string ⟨#[103, 119]⟩) rfl (q_gr1 (d := 543) rfl (by kernel_rfl) (by go_simp)) (fun _ _ => by go_simp) ?_
  refine q_take (.bool false) rfl (q_gr1 (d := 543) rfl (by kernel_rfl) (by go_simp)) (fun _ _ => by go_simp) ?_
  refine q_take (.slice (some ⟨kk, 0, none⟩) 2 ck) rfl (q_gr1 (d := 543) rfl (by kernel_rfl) (by go_simp)) (fun _ _ => by go_simp) ?_
  refine q_take (.pointer (some ⟨kk, 0, none⟩)) rfl (q_gr1 (d := 543) rfl (by kernel_rfl) (by go_simp)) (fun _ _ => by go_simp) ?_
  refine q_take (.int .i64 k0) rfl (q_gr1 (d := 543) rfl (by kernel_rfl) (by go_simp)) (fun w' hw' => by obtain ⟨n, rfl⟩ := hw'; go_simp) ?_
  refine q_take (.bool false) rfl (q_gr1 (d := 543) rfl (by kernel_rfl) (by go_simp)) (fun _ _ => by go_simp) ?_
  refine q_take (.bool false) rfl (q_gr1 (d := 543) rfl (by kernel_rfl) (by go_simp)) (fun _ _ => by go_simp) ?_
  refine q_take (.bool false) rfl (q_free rfl _) (fun _ _ => by go_simp) ?_
  refine q_take (.bool false) rfl (q_free rfl _) (fun _ _ => by go_simp) ?_
  refine q_take (.string ⟨#[103, 119]⟩) rfl (q_gr1 (d := 552) rfl (by kernel_rfl) (by go_simp)) (fun _ _ => by go_simp) ?_
  refine q_take (.bool false) rfl (q_gr1 (d := 552) rfl (by kernel_rfl) (by go_simp)) (fun _ _ => by go_simp) ?_
  refine q_take (.pointer (some ⟨j3, 0, none⟩)) rfl (q_gr1 (d := 552) rfl (by kernel_rfl) (by go_simp)) (fun _ _ => by go_simp) ?_
  refine q_take (.int .i64 p) rfl (q_gr1 (d := 552) rfl (by kernel_rfl) (by go_simp)) (fun w' hw' => by obtain ⟨n, rfl⟩ := hw'; go_simp) ?_
  exact (hnext _ (by simp [hs0]) (by first | (simp only [At, ↓Array.getElem?_setIfInBounds_ne, ne_eq, Nat.reduceEqDiff, not_false_eq_true, q5_]; done) | simp [At, hs0, f5_, f6_, f9_, f10_, f11_, f48_, f56_, f57_, f62_, f63_, f64_, f70_, f534_]) (by first | (simp only [At, ↓Array.getElem?_setIfInBounds_ne, ne_eq, Nat.reduceEqDiff, not_false_eq_true, q6_]; done) | simp [At, hs0, f5_, f6_, f9_, f10_, f11_, f48_, f56_, f57_, f62_, f63_, f64_, f70_, f534_]) (by first | (simp only [At, ↓Array.getElem?_setIfInBounds_ne, ne_eq, Nat.reduceEqDiff, not_false_eq_true, q9_]; done) | simp [At, hs0, f5_, f6_, f9_, f10_, f11_, f48_, f56_, f57_, f62_, f63_, f64_, f70_, f534_]) (by first | (simp only [At, ↓Array.getElem?_setIfInBounds_ne, ne_eq, Nat.reduceEqDiff, not_false_eq_true, q10_]; done) | simp [At, hs0, f5_, f6_, f9_, f10_, f11_, f48_, f56_, f57_, f62_, f63_, f64_, f70_, f534_]) (by first | (simp only [At, ↓Array.getElem?_setIfInBounds_ne, ne_eq, Nat.reduceEqDiff, not_false_eq_true, q11_]; done) | simp [At, hs0, f5_, f6_, f9_, f10_, f11_, f48_, f56_, f57_, f62_, f63_, f64_, f70_, f534_]) (by first | (simp only [At, ↓Array.getElem?_setIfInBounds_ne, ne_eq, Nat.reduceEqDiff, not_false_eq_true, q48_]; done) | simp [At, hs0, f5_, f6_, f9_, f10_, f11_, f48_, f56_, f57_, f62_, f63_, f64_, f70_, f534_]) (by first | (simp only [At, ↓Array.getElem?_setIfInBounds_ne, ne_eq, Nat.reduceEqDiff, not_false_eq_true, q62_]; done) | simp [At, hs0, f5_, f6_, f9_, f10_, f11_, f48_, f56_, f57_, f62_, f63_, f64_, f70_, f534_]) (by first | (simp only [At, ↓Array.getElem?_setIfInBounds_ne, ne_eq, Nat.reduceEqDiff, not_false_eq_true, q63_]; done) | simp [At, hs0, f5_, f6_, f9_, f10_, f11_, f48_, f56_, f57_, f62_, f63_, f64_, f70_, f534_]) (by first | (simp only [At, ↓Array.getElem?_setIfInBounds_ne, ne_eq, Nat.reduceEqDiff, not_false_eq_true, q64_]; done) | simp [At, hs0, f5_, f6_, f9_, f10_, f11_, f48_, f56_, f57_, f62_, f63_, f64_, f70_, f534_]) (by first | (simp only [At, ↓Array.getElem?_setIfInBounds_ne, ne_eq, Nat.reduceEqDiff, not_false_eq_true, q70_]; done) | simp [At, hs0, f5_, f6_, f9_, f10_, f11_, f48_, f56_, f57_, f62_, f63_, f64_, f70_, f534_]) (by first | (simp only [At, ↓Array.getElem?_setIfInBounds_ne, ne_eq, Nat.reduceEqDiff, not_false_eq_true]; done) | simp [At, hs0, f5_, f6_, f9_, f10_, f11_, f48_, f56_, f57_, f62_, f63_, f64_, f70_, f534_]) (by first | (simp only [At, ↓Array.getElem?_setIfInBounds_ne, ne_eq, Nat.reduceEqDiff, not_false_eq_true]; done) | simp [At, hs0, f5_, f6_, f9_, f10_, f11_, f48_, f56_, f57_, f62_, f63_, f64_, f70_, f534_]) (by first | (simp only [At, ↓Array.getElem?_setIfInBounds_ne, ne_eq, Nat.reduceEqDiff, not_false_eq_true]; done) | simp [At, hs0, f5_, f6_, f9_, f10_, f11_, f48_, f56_, f57_, f62_, f63_, f64_, f70_, f534_]))
set_option maxHeartbeats 8000000 in
set_option maxRecDepth 100000 in
theorem reg36_b_1 (p q r s Y H E x y g0 g1 k0 k1 : Int) (OH : Bool) (j3 j4 j5 gg kk cg ck : Nat) (w0 : World) (d30 : w0.cell? ⟨j3, 0, none⟩ = some (.int .i64 p)) (d31 : w0.cell? ⟨j3, 1, none⟩ = some (.int .i64 q)) (d40 : w0.cell? ⟨j4, 0, none⟩ = some (.int .i64 r)) (d41 : w0.cell? ⟨j4, 1, none⟩ = some (.int .i64 s)) (e0_ : w0.cell? ⟨gg, 0, none⟩ = some (.int .i64 g0)) (e1_ : w0.cell? ⟨gg, 1, none⟩ = some (.int .i64 g1)) (e2_ : w0.cell? ⟨kk, 0, none⟩ = some (.int .i64 k0)) (e3_ : w0.cell? ⟨kk, 1, none⟩ = some (.int .i64 k1)) (w4_ : IntKind.i64.wrap (p * s) = p * s) (w5_ : IntKind.i64.wrap (r * q) = r * q) (hg : ¬ g0 = 0) (hk : ¬ k0 = 0) (he : ¬ p * s = r * q) (hgb : (g0 == 0) = false) (hkb : (k0 == 0) = false) (heb : (p * s == r * q) = false) (g0n : ¬ g0 < 0) (k0n : ¬ k0 < 0) (s1_ : ((⟨#[103, 119]⟩ : ByteArray) = ⟨#[99]⟩) = False) (s2_ : ((⟨#[119, 103]⟩ : ByteArray) = ⟨#[99]⟩) = False) (s3_ : ((⟨#[103, 119]⟩ : ByteArray) = ⟨#[119, 103]⟩) = False) (s4_ : ((⟨#[119, 103]⟩ : ByteArray) = ⟨#[103, 119]⟩) = False) (s5_ : ((⟨#[99]⟩ : ByteArray) = ⟨#[103, 119]⟩) = False) (s6_ : ((⟨#[99]⟩ : ByteArray) = ⟨#[119, 103]⟩) = False) (Q : Act → Prop) (T0 : Array Value) (hs0 : T0.size = 620) (q5_ : At T0 5 (.int .i64 x)) (q6_ : At T0 6 (.int .i64 y)) (q9_ : At T0 9 (.pointer (some ⟨j3, 0, none⟩))) (q10_ : At T0 10 (.pointer (some ⟨j4, 0, none⟩))) (q11_ : At T0 11 (.pointer (some ⟨j5, 0, none⟩))) (q48_ : At T0 48 (.string ⟨#[103, 119]⟩)) (q62_ : At T0 62 (.int .i64 H)) (q63_ : At T0 63 (.int .i64 E)) (q64_ : At T0 64 (.bool OH)) (q70_ : At T0 70 (.string ⟨#[119, 103]⟩)) (q552_ : At T0 552 (.bool false)) (q554_ : At T0 554 (.bool false)) (q556_ : At T0 556 (.int .i64 p))
    (hnext : ∀ T1 : Array Value, T1.size = 620 → At T1 5 (.int .i64 x) → At T1 6 (.int .i64 y) → At T1 11 (.pointer (some ⟨j5, 0, none⟩)) → At T1 48 (.string ⟨#[103, 119]⟩) → At T1 62 (.int .i64 H) → At T1 63 (.int .i64 E) → At T1 64 (.bool OH) → At T1 70 (.string ⟨#[119, 103]⟩) → At T1 567 (.bool false) → Q ⟨T1, []⟩) :
    wpQuiet Try.prog (opl 36).toArray (fun w' => ∃ n, w' = w0.drewN n) Q ((opl 36).drop 83) ⟨T0, []⟩ := by
  conv => arg 5; whnf
  have f5_ := fun hh => getq q5_ hh
  have f6_ := fun hh => getq q6_ hh
  have f9_ := fun hh => getq q9_ hh
  have f10_ := fun hh => getq q10_ hh
  have f11_ := fun hh => getq q11_ hh
  have f48_ := fun hh => getq q48_ hh
  have f62_ := fun hh => getq q62_ hh
  have f63_ := fun hh => getq q63_ hh
  have f64_ := fun hh => getq q64_ hh
  have f70_ := fun hh => getq q70_ hh
  have f552_ := fun hh => getq q552_ hh
  have f554_ := fun hh => getq q554_ hh
  have f556_ := fun hh => getq q556_ hh
  refine q_take (.pointer (some ⟨j4, 1, none⟩)) rfl (q_gr1 (d := 552) rfl (by kernel_rfl) (by go_simp)) (fun _ _ => by go_simp) ?_
  refine q_take (.int .i64 s) rfl (q_gr1 (d := 552) rfl (by kernel_rfl) (by go_simp)) (fun w' hw' => by obtain ⟨n, rfl⟩ := hw'; go_simp) ?_
  refine q_take (.int .i64 (p * s)) rfl (q_gr1 (d := 552) rfl (by kernel_rfl) (by go_simp)) (fun _ _ => by go_simp) ?_
  refine q_take (.pointer (some ⟨j4, 0, none⟩)) rfl (q_gr1 (d := 552) rfl (by kernel_rfl) (by go_simp)) (fun _ _ => by go_simp) ?_
  refine q_take (.int .i64 r) rfl (q_gr1 (d := 552) rfl (by kernel_rfl) (by go_simp)) (fun w' hw' => by obtain ⟨n, rfl⟩ := hw'; go_simp) ?_
  refine q_take (.pointer (some ⟨j3, 1, none⟩)) rfl (q_gr1 (d := 552) rfl (by kernel_rfl) (by go_simp)) (fun _ _ => by go_simp) ?_
  refine q_take (.int .i64 q) rfl (q_gr1 (d := 552) rfl (by kernel_rfl) (by go_simp)) (fun w' hw' => by obtain ⟨n, rfl⟩ := hw'; go_simp) ?_
  refine q_take (.int .i64 (r * q)) rfl (q_gr1 (d := 552) rfl (by kernel_rfl) (by go_simp)) (fun _ _ => by go_simp) ?_
  refine q_take (.bool false) rfl (q_gr1 (d := 552) rfl (by kernel_rfl) (by go_simp)) (fun _ _ => by go_simp) ?_
  refine q_take (.bool false) rfl (q_gr1 (d := 552) rfl (by kernel_rfl) (by go_simp)) (fun _ _ => by go_simp) ?_
  refine q_take (.bool false) rfl (q_free rfl _) (fun _ _ => by go_simp) ?_
  refine wpQuiet_nil (hnext _ (by simp [hs0]) (by first | (simp only [At, ↓Array.getElem?_setIfInBounds_ne, ne_eq, Nat.reduceEqDiff, not_false_eq_true, q5_]; done) | simp [At, hs0, f5_, f6_, f9_, f10_, f11_, f48_, f62_, f63_, f64_, f70_, f552_, f554_, f556_]) (by first | (simp only [At, ↓Array.getElem?_setIfInBounds_ne, ne_eq, Nat.reduceEqDiff, not_false_eq_true, q6_]; done) | simp [At, hs0, f5_, f6_, f9_, f10_, f11_, f48_, f62_, f63_, f64_, f70_, f552_, f554_, f556_]) (by first | (simp only [At, ↓Array.getElem?_setIfInBounds_ne, ne_eq, Nat.reduceEqDiff, not_false_eq_true, q11_]; done) | simp [At, hs0, f5_, f6_, f9_, f10_, f11_, f48_, f62_, f63_, f64_, f70_, f552_, f554_, f556_]) (by first | (simp only [At, ↓Array.getElem?_setIfInBounds_ne, ne_eq, Nat.reduceEqDiff, not_false_eq_true, q48_]; done) | simp [At, hs0, f5_, f6_, f9_, f10_, f11_, f48_, f62_, f63_, f64_, f70_, f552_, f554_, f556_]) (by first | (simp only [At, ↓Array.getElem?_setIfInBounds_ne, ne_eq, Nat.reduceEqDiff, not_false_eq_true, q62_]; done) | simp [At, hs0, f5_, f6_, f9_, f10_, f11_, f48_, f62_, f63_, f64_, f70_, f552_, f554_, f556_]) (by first | (simp only [At, ↓Array.getElem?_setIfInBounds_ne, ne_eq, Nat.reduceEqDiff, not_false_eq_true, q63_]; done) | simp [At, hs0, f5_, f6_, f9_, f10_, f11_, f48_, f62_, f63_, f64_, f70_, f552_, f554_, f556_]) (by first | (simp only [At, ↓Array.getElem?_setIfInBounds_ne, ne_eq, Nat.reduceEqDiff, not_false_eq_true, q64_]; done) | simp [At, hs0, f5_, f6_, f9_, f10_, f11_, f48_, f62_, f63_, f64_, f70_, f552_, f554_, f556_]) (by first | (simp only [At, ↓Array.getElem?_setIfInBounds_ne, ne_eq, Nat.reduceEqDiff, not_false_eq_true, q70_]; done) | simp [At, hs0, f5_, f6_, f9_, f10_, f11_, f48_, f62_, f63_, f64_, f70_, f552_, f554_, f556_]) (by first | (simp only [At, ↓Array.getElem?_setIfInBounds_ne, ne_eq, Nat.reduceEqDiff, not_false_eq_true]; done) | simp [At, hs0, f5_, f6_, f9_, f10_, f11_, f48_, f62_, f63_, f64_, f70_, f552_, f554_, f556_]))
set_option maxHeartbeats 8000000 in
set_option maxRecDepth 100000 in
theorem reg36_c_0 (p q r s Y H E x y g0 g1 k0 k1 : Int) (OH : Bool) (j3 j4 j5 gg kk cg ck : Nat) (w0 : World) (d30 : w0.cell? ⟨j3, 0, none⟩ = some (.int .i64 p)) (d31 : w0.cell? ⟨j3, 1, none⟩ = some (.int .i64 q)) (d40 : w0.cell? ⟨j4, 0, none⟩ = some (.int .i64 r)) (d41 : w0.cell? ⟨j4, 1, none⟩ = some (.int .i64 s)) (e0_ : w0.cell? ⟨gg, 0, none⟩ = some (.int .i64 g0)) (e1_ : w0.cell? ⟨gg, 1, none⟩ = some (.int .i64 g1)) (e2_ : w0.cell? ⟨kk, 0, none⟩ = some (.int .i64 k0)) (e3_ : w0.cell? ⟨kk, 1, none⟩ = some (.int .i64 k1)) (w4_ : IntKind.i64.wrap (p * s) = p * s) (w5_ : IntKind.i64.wrap (r * q) = r * q) (hg : ¬ g0 = 0) (hk : ¬ k0 = 0) (he : ¬ p * s = r * q) (hgb : (g0 == 0) = false) (hkb : (k0 == 0) = false) (heb : (p * s == r * q) = false) (g0n : ¬ g0 < 0) (k0n : ¬ k0 < 0) (s1_ : ((⟨#[103, 119]⟩ : ByteArray) = ⟨#[99]⟩) = False) (s2_ : ((⟨#[119, 103]⟩ : ByteArray) = ⟨#[99]⟩) = False) (s3_ : ((⟨#[103, 119]⟩ : ByteArray) = ⟨#[119, 103]⟩) = False) (s4_ : ((⟨#[119, 103]⟩ : ByteArray) = ⟨#[103, 119]⟩) = False) (s5_ : ((⟨#[99]⟩ : ByteArray) = ⟨#[103, 119]⟩) = False) (s6_ : ((⟨#[99]⟩ : ByteArray) = ⟨#[119, 103]⟩) = False) (Q : Act → Prop) (T0 : Array Value) (hs0 : T0.size = 620) (q5_ : At T0 5 (.int .i64 x)) (q6_ : At T0 6 (.int .i64 y)) (q9_ : At T0 9 (.pointer (some ⟨j3, 0, none⟩))) (q10_ : At T0 10 (.pointer (some ⟨j4, 0, none⟩))) (q11_ : At T0 11 (.pointer (some ⟨j5, 0, none⟩))) (q48_ : At T0 48 (.string ⟨#[119, 103]⟩)) (q56_ : At T0 56 (.slice (some ⟨gg, 0, none⟩) 2 cg)) (q57_ : At T0 57 (.slice (some ⟨kk, 0, none⟩) 2 ck)) (q62_ : At T0 62 (.int .i64 H)) (q63_ : At T0 63 (.int .i64 E)) (q64_ : At T0 64 (.bool OH)) (q70_ : At T0 70 (.string ⟨#[103, 119]⟩)) (q534_ : At T0 534 (.bool false))
    (hnext : ∀ T1 : Array Value, T1.size = 620 → At T1 5 (.int .i64 x) → At T1 6 (.int .i64 y) → At T1 9 (.pointer (some ⟨j3, 0, none⟩)) → At T1 10 (.pointer (some ⟨j4, 0, none⟩)) → At T1 11 (.pointer (some ⟨j5, 0, none⟩)) → At T1 48 (.string ⟨#[119, 103]⟩) → At T1 62 (.int .i64 H) → At T1 63 (.int .i64 E) → At T1 64 (.bool OH) → At T1 70 (.string ⟨#[103, 119]⟩) → At T1 552 (.bool false) → At T1 554 (.bool false) → At T1 556 (.int .i64 p) → wpQuiet Try.prog (opl 36).toArray (fun w' => ∃ n, w' = w0.drewN n) Q ((opl 36).drop 83) ⟨T1, []⟩) :
    wpQuiet Try.prog (opl 36).toArray (fun w' => ∃ n, w' = w0.drewN n) Q ((opl 36).drop 61) ⟨T0, []⟩ := by
  conv => arg 5; whnf
  have f5_ := fun hh => getq q5_ hh
  have f6_ := fun hh => getq q6_ hh
  have f9_ := fun hh => getq q9_ hh
  have f10_ := fun hh => getq q10_ hh
  have f11_ := fun hh => getq q11_ hh
  have f48_ := fun hh => getq q48_ hh
  have f56_ := fun hh => getq q56_ hh
  have f57_ := fun hh => getq q57_ hh
  have f62_ := fun hh => getq q62_ hh
  have f63_ := fun hh => getq q63_ hh
  have f64_ := fun hh => getq q64_ hh
  have f70_ := fun hh => getq q70_ hh
  have f534_ := fun hh => getq q534_ hh
  refine q_take (.string ⟨#[119, 103]⟩) rfl (q_gr1 (d := 534) rfl (by kernel_rfl) (by go_simp)) (fun _ _ => by go_simp) ?_
  refine q_take (.bool false) rfl (q_gr1 (d := 534) rfl (by kernel_rfl) (by go_simp)) (fun _ _ => by go_simp) ?_
  refine q_take (.slice (some ⟨gg, 0, none⟩) 2 cg) rfl (q_gr1 (d := 534) rfl (by kernel_rfl) (by go_simp)) (fun _ _ => by go_simp) ?_
  refine q_take (.pointer (some ⟨gg, 0, none⟩)) rfl (q_gr1 (d := 534) rfl (by kernel_rfl) (by go_simp)) (fun _ _ => by go_simp) ?_
  refine q_take (.int .i64 g0) rfl (q_gr1 (d := 534) rfl (by kernel_rfl) (by go_simp)) (fun w' hw' => by obtain ⟨n, rfl⟩ := hw'; go_simp) ?_
  refine q_take (.bool false) rfl (q_gr1 (d := 534) rfl (by kernel_rfl) (by go_simp)) (fun _ _ => by go_simp) ?_
  refine q_take (.bool false) rfl (q_gr1 (d := 534) rfl (by kernel_rfl) (by go_simp)) (fun _ _ => by go_simp) ?_
  refine q_take (.bool false) rfl (q_free rfl _) (fun _ _ => by go_simp) ?_
  refine q_take (.bool false) rfl (q_free rfl _) (fun _ _ => by go_simp) ?_
  refine q_take (.string ⟨#[119, 103]⟩) rfl (q_gr1 (d := 543) rfl (by kernel_rfl) (by go_simp)) (fun _ _ => by go_simp) ?_
  refine q_take (.bool false) rfl (q_gr1 (d := 543) rfl (by kernel_rfl) (by go_simp)) (fun _ _ => by go_simp) ?_
  refine q_take (.slice (some ⟨kk, 0, none⟩) 2 ck) rfl (q_gr1 (d := 543) rfl (by kernel_rfl) (by go_simp)) (fun _ _ => by go_simp) ?_
  refine q_take (.pointer (some ⟨kk, 0, none⟩)) rfl (q_gr1 (d := 543) rfl (by kernel_rfl) (by go_simp)) (fun _ _ => by go_simp) ?_
  refine q_take (.int .i64 k0) rfl (q_gr1 (d := 543) rfl (by kernel_rfl) (by go_simp)) (fun w' hw' => by obtain ⟨n, rfl⟩ := hw'; go_simp) ?_
  refine q_take (.bool false) rfl (q_gr1 (d := 543) rfl (by kernel_rfl) (by go_simp)) (fun _ _ => by go_simp) ?_
  refine q_take (.bool false) rfl (q_gr1 (d := 543) rfl (by kernel_rfl) (by go_simp)) (fun _ _ => by go_simp) ?_
  refine q_take (.bool false) rfl (q_free rfl _) (fun _ _ => by go_simp) ?_
  refine q_take (.bool false) rfl (q_free rfl _) (fun _ _ => by go_simp) ?_
  refine q_take (.string ⟨#[119, 103]⟩) rfl (q_gr1 (d := 552) rfl (by kernel_rfl) (by go_simp)) (fun _ _ => by go_simp) ?_
  refine q_take (.bool false) rfl (q_gr1 (d := 552) rfl (by kernel_rfl) (by go_simp)) (fun _ _ => by go_simp) ?_
  refine q_take (.pointer (some ⟨j3, 0, none⟩)) rfl (q_gr1 (d := 552) rfl (by kernel_rfl) (by go_simp)) (fun _ _ => by go_simp) ?_
  refine q_take (.int .i64 p) rfl (q_gr1 (d := 552) rfl (by kernel_rfl) (by go_simp)) (fun w' hw' => by obtain ⟨n, rfl⟩ := hw'; go_simp) ?_
  exact (hnext _ (by simp [hs0]) (by first | (simp only [At, ↓Array.getElem?_setIfInBounds_ne, ne_eq, Nat.reduceEqDiff, not_false_eq_true, q5_]; done) | simp [At, hs0, f5_, f6_, f9_, f10_, f11_, f48_, f56_, f57_, f62_, f63_, f64_, f70_, f534_]) (by first | (simp only [At, ↓Array.getElem?_setIfInBounds_ne, ne_eq, Nat.reduceEqDiff, not_false_eq_true, q6_]; done) | simp [At, hs0, f5_, f6_, f9_, f10_, f11_, f48_, f56_, f57_, f62_, f63_, f64_, f70_, f534_]) (by first | (simp only [At, ↓Array.getElem?_setIfInBounds_ne, ne_eq, Nat.reduceEqDiff, not_false_eq_true, q9_]; done) | simp [At, hs0, f5_, f6_, f9_, f10_, f11_, f48_, f56_, f57_, f62_, f63_, f64_, f70_, f534_]) (by first | (simp only [At, ↓Array.getElem?_setIfInBounds_ne, ne_eq, Nat.reduceEqDiff, not_false_eq_true, q10_]; done) | simp [At, hs0, f5_, f6_, f9_, f10_, f11_, f48_, f56_, f57_, f62_, f63_, f64_, f70_, f534_]) (by first | (simp only [At, ↓Array.getElem?_setIfInBounds_ne, ne_eq, Nat.reduceEqDiff, not_false_eq_true, q11_]; done) | simp [At, hs0, f5_, f6_, f9_, f10_, f11_, f48_, f56_, f57_, f62_, f63_, f64_, f70_, f534_]) (by first | (simp only [At, ↓Array.getElem?_setIfInBounds_ne, ne_eq, Nat.reduceEqDiff, not_false_eq_true, q48_]; done) | simp [At, hs0, f5_, f6_, f9_, f10_, f11_, f48_, f56_, f57_, f62_, f63_, f64_, f70_, f534_]) (by first | (simp only [At, ↓Array.getElem?_setIfInBounds_ne, ne_eq, Nat.reduceEqDiff, not_false_eq_true, q62_]; done) | simp [At, hs0, f5_, f6_, f9_, f10_, f11_, f48_, f56_, f57_, f62_, f63_, f64_, f70_, f534_]) (by first | (simp only [At, ↓Array.getElem?_setIfInBounds_ne, ne_eq, Nat.reduceEqDiff, not_false_eq_true, q63_]; done) | simp [At, hs0, f5_, f6_, f9_, f10_, f11_, f48_, f56_, f57_, f62_, f63_, f64_, f70_, f534_]) (by first | (simp only [At, ↓Array.getElem?_setIfInBounds_ne, ne_eq, Nat.reduceEqDiff, not_false_eq_true, q64_]; done) | simp [At, hs0, f5_, f6_, f9_, f10_, f11_, f48_, f56_, f57_, f62_, f63_, f64_, f70_, f534_]) (by first | (simp only [At, ↓Array.getElem?_setIfInBounds_ne, ne_eq, Nat.reduceEqDiff, not_false_eq_true, q70_]; done) | simp [At, hs0, f5_, f6_, f9_, f10_, f11_, f48_, f56_, f57_, f62_, f63_, f64_, f70_, f534_]) (by first | (simp only [At, ↓Array.getElem?_setIfInBounds_ne, ne_eq, Nat.reduceEqDiff, not_false_eq_true]; done) | simp [At, hs0, f5_, f6_, f9_, f10_, f11_, f48_, f56_, f57_, f62_, f63_, f64_, f70_, f534_]) (by first | (simp only [At, ↓Array.getElem?_setIfInBounds_ne, ne_eq, Nat.reduceEqDiff, not_false_eq_true]; done) | simp [At, hs0, f5_, f6_, f9_, f10_, f11_, f48_, f56_, f57_, f62_, f63_, f64_, f70_, f534_]) (by first | (simp only [At, ↓Array.getElem?_setIfInBounds_ne, ne_eq, Nat.reduceEqDiff, not_false_eq_true]; done) | simp [At, hs0, f5_, f6_, f9_, f10_, f11_, f48_, f56_, f57_, f62_, f63_, f64_, f70_, f534_]))
set_option maxHeartbeats 8000000 in
set_option maxRecDepth 100000 in
theorem reg36_c_1 (p q r s Y H E x y g0 g1 k0 k1 : Int) (OH : Bool) (j3 j4 j5 gg kk cg ck : Nat) (w0 : World) (d30 : w0.cell? ⟨j3, 0, none⟩ = some (.int .i64 p)) (d31 : w0.cell? ⟨j3, 1, none⟩ = some (.int .i64 q)) (d40 : w0.cell? ⟨j4, 0, none⟩ = some (.int .i64 r)) (d41 : w0.cell? ⟨j4, 1, none⟩ = some (.int .i64 s)) (e0_ : w0.cell? ⟨gg, 0, none⟩ = some (.int .i64 g0)) (e1_ : w0.cell? ⟨gg, 1, none⟩ = some (.int .i64 g1)) (e2_ : w0.cell? ⟨kk, 0, none⟩ = some (.int .i64 k0)) (e3_ : w0.cell? ⟨kk, 1, none⟩ = some (.int .i64 k1)) (w4_ : IntKind.i64.wrap (p * s) = p * s) (w5_ : IntKind.i64.wrap (r * q) = r * q) (hg : ¬ g0 = 0) (hk : ¬ k0 = 0) (he : ¬ p * s = r * q) (hgb : (g0 == 0) = false) (hkb : (k0 == 0) = false) (heb : (p * s == r * q) = false) (g0n : ¬ g0 < 0) (k0n : ¬ k0 < 0) (s1_ : ((⟨#[103, 119]⟩ : ByteArray) = ⟨#[99]⟩) = False) (s2_ : ((⟨#[119, 103]⟩ : ByteArray) = ⟨#[99]⟩) = False) (s3_ : ((⟨#[103, 119]⟩ : ByteArray) = ⟨#[119, 103]⟩) = False) (s4_ : ((⟨#[119, 103]⟩ : ByteArray) = ⟨#[103, 119]⟩) = False) (s5_ : ((⟨#[99]⟩ : ByteArray) = ⟨#[103, 119]⟩) = False) (s6_ : ((⟨#[99]⟩ : ByteArray) = ⟨#[119, 103]⟩) = False) (Q : Act → Prop) (T0 : Array Value) (hs0 : T0.size = 620) (q5_ : At T0 5 (.int .i64 x)) (q6_ : At T0 6 (.int .i64 y)) (q9_ : At T0 9 (.pointer (some ⟨j3, 0, none⟩))) (q10_ : At T0 10 (.pointer (some ⟨j4, 0, none⟩))) (q11_ : At T0 11 (.pointer (some ⟨j5, 0, none⟩))) (q48_ : At T0 48 (.string ⟨#[119, 103]⟩)) (q62_ : At T0 62 (.int .i64 H)) (q63_ : At T0 63 (.int .i64 E)) (q64_ : At T0 64 (.bool OH)) (q70_ : At T0 70 (.string ⟨#[103, 119]⟩)) (q552_ : At T0 552 (.bool false)) (q554_ : At T0 554 (.bool false)) (q556_ : At T0 556 (.int .i64 p))
    (hnext : ∀ T1 : Array Value, T1.size = 620 → At T1 5 (.int .i64 x) → At T1 6 (.int .i64 y) → At T1 11 (.pointer (some ⟨j5, 0, none⟩)) → At T1 48 (.string ⟨#[119, 103]⟩) → At T1 62 (.int .i64 H) → At T1 63 (.int .i64 E) → At T1 64 (.bool OH) → At T1 70 (.string ⟨#[103, 119]⟩) → At T1 567 (.bool false) → Q ⟨T1, []⟩) :
    wpQuiet Try.prog (opl 36).toArray (fun w' => ∃ n, w' = w0.drewN n) Q ((opl 36).drop 83) ⟨T0, []⟩ := by
  conv => arg 5; whnf
  have f5_ := fun hh => getq q5_ hh
  have f6_ := fun hh => getq q6_ hh
  have f9_ := fun hh => getq q9_ hh
  have f10_ := fun hh => getq q10_ hh
  have f11_ := fun hh => getq q11_ hh
  have f48_ := fun hh => getq q48_ hh
  have f62_ := fun hh => getq q62_ hh
  have f63_ := fun hh => getq q63_ hh
  have f64_ := fun hh => getq q64_ hh
  have f70_ := fun hh => getq q70_ hh
  have f552_ := fun hh => getq q552_ hh
  have f554_ := fun hh => getq q554_ hh
  have f556_ := fun hh => getq q556_ hh
  refine q_take (.pointer (some ⟨j4, 1, none⟩)) rfl (q_gr1 (d := 552) rfl (by kernel_rfl) (by go_simp)) (fun _ _ => by go_simp) ?_
  refine q_take (.int .i64 s) rfl (q_gr1 (d := 552) rfl (by kernel_rfl) (by go_simp)) (fun w' hw' => by obtain ⟨n, rfl⟩ := hw'; go_simp) ?_
  refine q_take (.int .i64 (p * s)) rfl (q_gr1 (d := 552) rfl (by kernel_rfl) (by go_simp)) (fun _ _ => by go_simp) ?_
  refine q_take (.pointer (some ⟨j4, 0, none⟩)) rfl (q_gr1 (d := 552) rfl (by kernel_rfl) (by go_simp)) (fun _ _ => by go_simp) ?_
  refine q_take (.int .i64 r) rfl (q_gr1 (d := 552) rfl (by kernel_rfl) (by go_simp)) (fun w' hw' => by obtain ⟨n, rfl⟩ := hw'; go_simp) ?_
  refine q_take (.pointer (some ⟨j3, 1, none⟩)) rfl (q_gr1 (d := 552) rfl (by kernel_rfl) (by go_simp)) (fun _ _ => by go_simp) ?_
  refine q_take (.int .i64 q) rfl (q_gr1 (d := 552) rfl (by kernel_rfl) (by go_simp)) (fun w' hw' => by obtain ⟨n, rfl⟩ := hw'; go_simp) ?_
  refine q_take (.int .i64 (r * q)) rfl (q_gr1 (d := 552) rfl (by kernel_rfl) (by go_simp)) (fun _ _ => by go_simp) ?_
  refine q_take (.bool false) rfl (q_gr1 (d := 552) rfl (by kernel_rfl) (by go_simp)) (fun _ _ => by go_simp) ?_
  refine q_take (.bool false) rfl (q_gr1 (d := 552) rfl (by kernel_rfl) (by go_simp)) (fun _ _ => by go_simp) ?_
  refine q_take (.bool false) rfl (q_free rfl _) (fun _ _ => by go_simp) ?_
  refine wpQuiet_nil (hnext _ (by simp [hs0]) (by first | (simp only [At, ↓Array.getElem?_setIfInBounds_ne, ne_eq, Nat.reduceEqDiff, not_false_eq_true, q5_]; done) | simp [At, hs0, f5_, f6_, f9_, f10_, f11_, f48_, f62_, f63_, f64_, f70_, f552_, f554_, f556_]) (by first | (simp only [At, ↓Array.getElem?_setIfInBounds_ne, ne_eq, Nat.reduceEqDiff, not_false_eq_true, q6_]; done) | simp [At, hs0, f5_, f6_, f9_, f10_, f11_, f48_, f62_, f63_, f64_, f70_, f552_, f554_, f556_]) (by first | (simp only [At, ↓Array.getElem?_setIfInBounds_ne, ne_eq, Nat.reduceEqDiff, not_false_eq_true, q11_]; done) | simp [At, hs0, f5_, f6_, f9_, f10_, f11_, f48_, f62_, f63_, f64_, f70_, f552_, f554_, f556_]) (by first | (simp only [At, ↓Array.getElem?_setIfInBounds_ne, ne_eq, Nat.reduceEqDiff, not_false_eq_true, q48_]; done) | simp [At, hs0, f5_, f6_, f9_, f10_, f11_, f48_, f62_, f63_, f64_, f70_, f552_, f554_, f556_]) (by first | (simp only [At, ↓Array.getElem?_setIfInBounds_ne, ne_eq, Nat.reduceEqDiff, not_false_eq_true, q62_]; done) | simp [At, hs0, f5_, f6_, f9_, f10_, f11_, f48_, f62_, f63_, f64_, f70_, f552_, f554_, f556_]) (by first | (simp only [At, ↓Array.getElem?_setIfInBounds_ne, ne_eq, Nat.reduceEqDiff, not_false_eq_true, q63_]; done) | simp [At, hs0, f5_, f6_, f9_, f10_, f11_, f48_, f62_, f63_, f64_, f70_, f552_, f554_, f556_]) (by first | (simp only [At, ↓Array.getElem?_setIfInBounds_ne, ne_eq, Nat.reduceEqDiff, not_false_eq_true, q64_]; done) | simp [At, hs0, f5_, f6_, f9_, f10_, f11_, f48_, f62_, f63_, f64_, f70_, f552_, f554_, f556_]) (by first | (simp only [At, ↓Array.getElem?_setIfInBounds_ne, ne_eq, Nat.reduceEqDiff, not_false_eq_true, q70_]; done) | simp [At, hs0, f5_, f6_, f9_, f10_, f11_, f48_, f62_, f63_, f64_, f70_, f552_, f554_, f556_]) (by first | (simp only [At, ↓Array.getElem?_setIfInBounds_ne, ne_eq, Nat.reduceEqDiff, not_false_eq_true]; done) | simp [At, hs0, f5_, f6_, f9_, f10_, f11_, f48_, f62_, f63_, f64_, f70_, f552_, f554_, f556_]))
set_option maxHeartbeats 8000000 in
set_option maxRecDepth 100000 in
theorem reg36 (p q r s Y H E x y g0 g1 k0 k1 : Int) (O P : ByteArray) (OH : Bool) (j3 j4 j5 gg kk cg ck : Nat) (BL : List (Nat × Int × Int)) (w w0 : World) (T0 : Array Value) (hs0 : T0.size = 620) (q5_0 : At T0 5 (.int .i64 x)) (q6_0 : At T0 6 (.int .i64 y)) (q9_0 : At T0 9 (.pointer (some ⟨j3, 0, none⟩))) (q10_0 : At T0 10 (.pointer (some ⟨j4, 0, none⟩))) (q11_0 : At T0 11 (.pointer (some ⟨j5, 0, none⟩))) (q48_0 : At T0 48 (.string O)) (q62_0 : At T0 62 (.int .i64 H)) (q63_0 : At T0 63 (.int .i64 E)) (q64_0 : At T0 64 (.bool OH)) (q56_0 : At T0 56 (.slice (some ⟨gg, 0, none⟩) 2 cg)) (q57_0 : At T0 57 (.slice (some ⟨kk, 0, none⟩) 2 ck)) (q52_0 : At T0 52 (.int .i64 (Y + 4 * p * r))) (q68_0 : At T0 68 (.int .i64 Y)) (q69_0 : At T0 69 (.bool true)) (q70_0 : At T0 70 (.string P)) (q71_0 : At T0 71 (.bool true)) (hL : Lay w BL w0) (d30 : w0.cell? ⟨j3, 0, none⟩ = some (.int .i64 p)) (d31 : w0.cell? ⟨j3, 1, none⟩ = some (.int .i64 q)) (d40 : w0.cell? ⟨j4, 0, none⟩ = some (.int .i64 r)) (d41 : w0.cell? ⟨j4, 1, none⟩ = some (.int .i64 s)) (e0_ : w0.cell? ⟨gg, 0, none⟩ = some (.int .i64 g0)) (e1_ : w0.cell? ⟨gg, 1, none⟩ = some (.int .i64 g1)) (e2_ : w0.cell? ⟨kk, 0, none⟩ = some (.int .i64 k0)) (e3_ : w0.cell? ⟨kk, 1, none⟩ = some (.int .i64 k1)) (HG : ∀ W : World, Hid (Calls Try.prog 18 #[.int .i64 g0, .int .i64 g1] W fun e w' => e = .returned (.bool true) ∧ ∃ n, w' = W.drewN n)) (HK : ∀ W : World, Hid (Calls Try.prog 18 #[.int .i64 k0, .int .i64 k1] W fun e w' => e = .returned (.bool true) ∧ ∃ n, w' = W.drewN n)) (w1_ : IntKind.i64.wrap (4 * p) = 4 * p) (w2_ : IntKind.i64.wrap (4 * p * r) = 4 * p * r) (w3_ : IntKind.i64.wrap (Y + 4 * p * r) = Y + 4 * p * r) (w4_ : IntKind.i64.wrap (p * s) = p * s) (w5_ : IntKind.i64.wrap (r * q) = r * q) (g0n : ¬ g0 < 0) (k0n : ¬ k0 < 0) (s1_ : ((⟨#[103, 119]⟩ : ByteArray) = ⟨#[99]⟩) = False) (s2_ : ((⟨#[119, 103]⟩ : ByteArray) = ⟨#[99]⟩) = False) (s3_ : ((⟨#[103, 119]⟩ : ByteArray) = ⟨#[119, 103]⟩) = False) (s4_ : ((⟨#[119, 103]⟩ : ByteArray) = ⟨#[103, 119]⟩) = False) (s5_ : ((⟨#[99]⟩ : ByteArray) = ⟨#[103, 119]⟩) = False) (s6_ : ((⟨#[99]⟩ : ByteArray) = ⟨#[119, 103]⟩) = False) (hcase : (O = ⟨#[99]⟩ ∧ P = ⟨#[99]⟩ ∧ g0 = 0 ∧ k0 = 0 ∧ p * s = r * q) ∨ (O = ⟨#[103, 119]⟩ ∧ P = ⟨#[119, 103]⟩ ∧ ¬ g0 = 0 ∧ ¬ k0 = 0 ∧ ¬ p * s = r * q) ∨ (O = ⟨#[119, 103]⟩ ∧ P = ⟨#[103, 119]⟩ ∧ ¬ g0 = 0 ∧ ¬ k0 = 0 ∧ ¬ p * s = r * q)) (J K' : Act → World → Prop) (Q' : Exit → Act → World → Prop) (hJ : ∀ a' w', (fun a' wx => ∃ T : Array Value, a' = ⟨T, []⟩ ∧ T.size = 620 ∧ At T 5 (.int .i64 x) ∧ At T 6 (.int .i64 y) ∧ At T 11 (.pointer (some ⟨j5, 0, none⟩)) ∧ At T 48 (.string O) ∧ At T 62 (.int .i64 H) ∧ At T 63 (.int .i64 E) ∧ At T 64 (.bool OH) ∧ At T 70 (.string P) ∧ At T 567 (.bool false) ∧ Lay w BL wx) a' w' → J a' w') (hK : ∀ a' w', Met J a' w' → K' a' w') :
    (reg 36).wp Try.prog (Exit.then K' Q') ⟨T0, []⟩ w0 := by
  have key : ∀ l : List Oper, l = opl 36 → wpQuiet Try.prog l.toArray (fun w' => ∃ n, w' = w0.drewN n) (fun a' => ∀ w', (fun w' => ∃ n, w' = w0.drewN n) w' → (Exit.then K' Q') .normal a' w') l ⟨T0, []⟩ := by
    intro l el
    subst el
    refine reg36_0 p q r s Y H E x y g0 g1 k0 k1 O P OH j3 j4 j5 gg kk cg ck w0 d30 d31 d40 d41 e0_ e1_ e2_ e3_ HG HK w1_ w2_ w3_ g0n k0n _ _ hs0 q5_0 q6_0 q9_0 q10_0 q11_0 q48_0 q52_0 q56_0 q57_0 q62_0 q63_0 q64_0 q68_0 q69_0 q70_0 q71_0 ?_
    intro U0 hsU0 q5U0 q6U0 q9U0 q10U0 q11U0 q48U0 q56U0 q57U0 q62U0 q63U0 q64U0 q70U0 q492U0 q495U0
    refine reg36_1 p q r s Y H E x y g0 g1 k0 k1 O P OH j3 j4 j5 gg kk cg ck w0 d30 d31 d40 d41 e0_ e1_ e2_ e3_ HG HK w1_ w2_ w3_ g0n k0n _ _ hsU0 q5U0 q6U0 q9U0 q10U0 q11U0 q48U0 q56U0 q57U0 q62U0 q63U0 q64U0 q70U0 q492U0 q495U0 ?_
    intro U1 hsU1 q5U1 q6U1 q9U1 q10U1 q11U1 q48U1 q56U1 q57U1 q62U1 q63U1 q64U1 q70U1 q512U1 q515U1 q517U1
    refine reg36_2 p q r s Y H E x y g0 g1 k0 k1 O P OH j3 j4 j5 gg kk cg ck w0 d30 d31 d40 d41 e0_ e1_ e2_ e3_ HG HK w1_ w2_ w3_ g0n k0n _ _ hsU1 q5U1 q6U1 q9U1 q10U1 q11U1 q48U1 q56U1 q57U1 q62U1 q63U1 q64U1 q70U1 q512U1 q515U1 q517U1 ?_
    intro U2 hsU2 q5U2 q6U2 q9U2 q10U2 q11U2 q48U2 q56U2 q57U2 q62U2 q63U2 q64U2 q70U2 q534U2
    rcases hcase with ⟨rfl, rfl, rfl, rfl, he⟩ | ⟨rfl, rfl, hg, hk, he⟩ | ⟨rfl, rfl, hg, hk, he⟩
    · have w6_ : IntKind.i64.wrap (r * q) = p * s := by rw [he]; exact w5_
      refine reg36_a_0 p q r s Y H E x y g1 k1 OH j3 j4 j5 gg kk cg ck w0 d30 d31 d40 d41 e0_ e1_ e2_ e3_ w4_ w6_ s1_ s2_ s3_ s4_ s5_ s6_ _ _ hsU2 q5U2 q6U2 q9U2 q10U2 q11U2 q48U2 q56U2 q57U2 q62U2 q63U2 q64U2 q70U2 q534U2 ?_
      intro X0 hsX0 q5X0 q6X0 q9X0 q10X0 q11X0 q48X0 q62X0 q63X0 q64X0 q70X0 q552X0 q554X0 q556X0
      refine reg36_a_1 p q r s Y H E x y g1 k1 OH j3 j4 j5 gg kk cg ck w0 d30 d31 d40 d41 e0_ e1_ e2_ e3_ w4_ w6_ s1_ s2_ s3_ s4_ s5_ s6_ _ _ hsX0 q5X0 q6X0 q9X0 q10X0 q11X0 q48X0 q62X0 q63X0 q64X0 q70X0 q552X0 q554X0 q556X0 ?_
      intro X1 hsX1 q5X1 q6X1 q11X1 q48X1 q62X1 q63X1 q64X1 q70X1 q567X1
      exact fun w9 hS9 => by obtain ⟨nq, rfl⟩ := hS9; exact hK _ _ (Met.intro (hJ _ _ ⟨_, rfl, hsX1, q5X1, q6X1, q11X1, q48X1, q62X1, q63X1, q64X1, q70X1, q567X1, Lay.drewN hL _⟩))
    · have hgb := beq_eq_false_iff_ne.2 hg
      have hkb := beq_eq_false_iff_ne.2 hk
      have heb := beq_eq_false_iff_ne.2 he
      refine reg36_b_0 p q r s Y H E x y g0 g1 k0 k1 OH j3 j4 j5 gg kk cg ck w0 d30 d31 d40 d41 e0_ e1_ e2_ e3_ w4_ w5_ hg hk he hgb hkb heb g0n k0n s1_ s2_ s3_ s4_ s5_ s6_ _ _ hsU2 q5U2 q6U2 q9U2 q10U2 q11U2 q48U2 q56U2 q57U2 q62U2 q63U2 q64U2 q70U2 q534U2 ?_
      intro X0 hsX0 q5X0 q6X0 q9X0 q10X0 q11X0 q48X0 q62X0 q63X0 q64X0 q70X0 q552X0 q554X0 q556X0
      refine reg36_b_1 p q r s Y H E x y g0 g1 k0 k1 OH j3 j4 j5 gg kk cg ck w0 d30 d31 d40 d41 e0_ e1_ e2_ e3_ w4_ w5_ hg hk he hgb hkb heb g0n k0n s1_ s2_ s3_ s4_ s5_ s6_ _ _ hsX0 q5X0 q6X0 q9X0 q10X0 q11X0 q48X0 q62X0 q63X0 q64X0 q70X0 q552X0 q554X0 q556X0 ?_
      intro X1 hsX1 q5X1 q6X1 q11X1 q48X1 q62X1 q63X1 q64X1 q70X1 q567X1
      exact fun w9 hS9 => by obtain ⟨nq, rfl⟩ := hS9; exact hK _ _ (Met.intro (hJ _ _ ⟨_, rfl, hsX1, q5X1, q6X1, q11X1, q48X1, q62X1, q63X1, q64X1, q70X1, q567X1, Lay.drewN hL _⟩))
    · have hgb := beq_eq_false_iff_ne.2 hg
      have hkb := beq_eq_false_iff_ne.2 hk
      have heb := beq_eq_false_iff_ne.2 he
      refine reg36_c_0 p q r s Y H E x y g0 g1 k0 k1 OH j3 j4 j5 gg kk cg ck w0 d30 d31 d40 d41 e0_ e1_ e2_ e3_ w4_ w5_ hg hk he hgb hkb heb g0n k0n s1_ s2_ s3_ s4_ s5_ s6_ _ _ hsU2 q5U2 q6U2 q9U2 q10U2 q11U2 q48U2 q56U2 q57U2 q62U2 q63U2 q64U2 q70U2 q534U2 ?_
      intro X0 hsX0 q5X0 q6X0 q9X0 q10X0 q11X0 q48X0 q62X0 q63X0 q64X0 q70X0 q552X0 q554X0 q556X0
      refine reg36_c_1 p q r s Y H E x y g0 g1 k0 k1 OH j3 j4 j5 gg kk cg ck w0 d30 d31 d40 d41 e0_ e1_ e2_ e3_ w4_ w5_ hg hk he hgb hkb heb g0n k0n s1_ s2_ s3_ s4_ s5_ s6_ _ _ hsX0 q5X0 q6X0 q9X0 q10X0 q11X0 q48X0 q62X0 q63X0 q64X0 q70X0 q552X0 q554X0 q556X0 ?_
      intro X1 hsX1 q5X1 q6X1 q11X1 q48X1 q62X1 q63X1 q64X1 q70X1 q567X1
      exact fun w9 hS9 => by obtain ⟨nq, rfl⟩ := hS9; exact hK _ _ (Met.intro (hJ _ _ ⟨_, rfl, hsX1, q5X1, q6X1, q11X1, q48X1, q62X1, q63X1, q64X1, q70X1, q567X1, Lay.drewN hL _⟩))
  conv => arg 2; whnf
  refine q_region (fun w' => ∃ n, w' = w0.drewN n) (by kernel_rfl) (by kernel_rfl) ⟨1, rfl⟩ ?_
  exact key _ (by kernel_rfl)
set_option maxHeartbeats 8000000 in
set_option maxRecDepth 100000 in
theorem reg40_no_0 (u v x y H E rr ss : Int) (j5 : Nat) (w0 : World)  (Q : Act → Prop) (T0 : Array Value) (hs0 : T0.size = 620) (q5_ : At T0 5 (.int .i64 x)) (q6_ : At T0 6 (.int .i64 y)) (q11_ : At T0 11 (.pointer (some ⟨j5, 0, none⟩))) (q62_ : At T0 62 (.int .i64 H)) (q63_ : At T0 63 (.int .i64 E)) (q64_ : At T0 64 (.bool false))
    (hnext : ∀ T1 : Array Value, T1.size = 620 → At T1 63 (.int .i64 E) → At T1 591 (.bool false) → At T1 600 (undef) → At T1 607 (undef) → At T1 609 (undef) → At T1 610 (undef) → At T1 611 (undef) → wpQuiet Try.prog (opl 40).toArray (fun w' => ∃ n, w' = w0.drewN n) Q ((opl 40).drop 22) ⟨T1, []⟩) :
    wpQuiet Try.prog (opl 40).toArray (fun w' => ∃ n, w' = w0.drewN n) Q ((opl 40).drop 0) ⟨T0, []⟩ := by
  conv => arg 5; whnf
  have f5_ := fun hh => getq q5_ hh
  have f6_ := fun hh => getq q6_ hh
  have f11_ := fun hh => getq q11_ hh
  have f62_ := fun hh => getq q62_ hh
  have f63_ := fun hh => getq q63_ hh
  have f64_ := fun hh => getq q64_ hh
  refine q_take (.bool false) rfl (q_free rfl _) (fun _ _ => by go_simp) ?_
  refine q_take (.bool false) rfl (q_free rfl _) (fun _ _ => by go_simp) ?_
  refine q_not rfl (q_gr0 (d := 591) rfl (by kernel_rfl) (by go_simp)) ?_
  refine q_not rfl (q_gr0 (d := 591) rfl (by kernel_rfl) (by go_simp)) ?_
  refine q_not rfl (q_gr0 (d := 591) rfl (by kernel_rfl) (by go_simp)) ?_
  refine q_not rfl (q_gr0 (d := 591) rfl (by kernel_rfl) (by go_simp)) ?_
  refine q_not rfl (q_gr0 (d := 591) rfl (by kernel_rfl) (by go_simp)) ?_
  refine q_not rfl (q_grU (d := 596) rfl (by kernel_rfl) (by go_simp)) ?_
  refine q_not rfl (q_grU (d := 596) rfl (by kernel_rfl) (by go_simp)) ?_
  refine q_not rfl (q_gr0 (d := 591) rfl (by kernel_rfl) (by go_simp)) ?_
  refine q_not rfl (q_gr0 (d := 591) rfl (by kernel_rfl) (by go_simp)) ?_
  refine q_not rfl (q_grU (d := 600) rfl (by kernel_rfl) (by go_simp)) ?_
  refine q_not rfl (q_grU (d := 600) rfl (by kernel_rfl) (by go_simp)) ?_
  refine q_not rfl (q_grU (d := 600) rfl (by kernel_rfl) (by go_simp)) ?_
  refine q_not rfl (q_grU (d := 600) rfl (by kernel_rfl) (by go_simp)) ?_
  refine q_not rfl (q_grU (d := 600) rfl (by kernel_rfl) (by go_simp)) ?_
  refine q_not rfl (q_grU (d := 600) rfl (by kernel_rfl) (by go_simp)) ?_
  refine q_not rfl (q_grU (d := 600) rfl (by kernel_rfl) (by go_simp)) ?_
  refine q_not rfl (q_grU (d := 600) rfl (by kernel_rfl) (by go_simp)) ?_
  refine q_not rfl (q_grU (d := 600) rfl (by kernel_rfl) (by go_simp)) ?_
  refine q_not rfl (q_grU (d := 600) rfl (by kernel_rfl) (by go_simp)) ?_
  refine q_not rfl (q_grU (d := 600) rfl (by kernel_rfl) (by go_simp)) ?_
  exact (hnext _ (by simp [hs0]) (by first | (simp only [At, ↓Array.getElem?_setIfInBounds_ne, ne_eq, Nat.reduceEqDiff, not_false_eq_true, q63_]; done) | simp [At, hs0, f5_, f6_, f11_, f62_, f63_, f64_]) (by first | (simp only [At, ↓Array.getElem?_setIfInBounds_ne, ne_eq, Nat.reduceEqDiff, not_false_eq_true]; done) | simp [At, hs0, f5_, f6_, f11_, f62_, f63_, f64_]) (by first | (simp only [At, ↓Array.getElem?_setIfInBounds_ne, ne_eq, Nat.reduceEqDiff, not_false_eq_true]; done) | simp [At, hs0, f5_, f6_, f11_, f62_, f63_, f64_]) (by first | (simp only [At, ↓Array.getElem?_setIfInBounds_ne, ne_eq, Nat.reduceEqDiff, not_false_eq_true]; done) | simp [At, hs0, f5_, f6_, f11_, f62_, f63_, f64_]) (by first | (simp only [At, ↓Array.getElem?_setIfInBounds_ne, ne_eq, Nat.reduceEqDiff, not_false_eq_true]; done) | simp [At, hs0, f5_, f6_, f11_, f62_, f63_, f64_]) (by first | (simp only [At, ↓Array.getElem?_setIfInBounds_ne, ne_eq, Nat.reduceEqDiff, not_false_eq_true]; done) | simp [At, hs0, f5_, f6_, f11_, f62_, f63_, f64_]) (by first | (simp only [At, ↓Array.getElem?_setIfInBounds_ne, ne_eq, Nat.reduceEqDiff, not_false_eq_true]; done) | simp [At, hs0, f5_, f6_, f11_, f62_, f63_, f64_]))
set_option maxHeartbeats 8000000 in
set_option maxRecDepth 100000 in
theorem reg40_no_1 (u v x y H E rr ss : Int) (j5 : Nat) (w0 : World)  (Q : Act → Prop) (T0 : Array Value) (hs0 : T0.size = 620) (q63_ : At T0 63 (.int .i64 E)) (q591_ : At T0 591 (.bool false)) (q600_ : At T0 600 (undef)) (q607_ : At T0 607 (undef)) (q609_ : At T0 609 (undef)) (q610_ : At T0 610 (undef)) (q611_ : At T0 611 (undef))
    (hnext : ∀ T1 : Array Value, T1.size = 620 → At T1 619 (.bool false) → Q ⟨T1, []⟩) :
    wpQuiet Try.prog (opl 40).toArray (fun w' => ∃ n, w' = w0.drewN n) Q ((opl 40).drop 22) ⟨T0, []⟩ := by
  conv => arg 5; whnf
  have f63_ := fun hh => getq q63_ hh
  have f591_ := fun hh => getq q591_ hh
  have f600_ := fun hh => getq q600_ hh
  have f607_ := fun hh => getq q607_ hh
  have f609_ := fun hh => getq q609_ hh
  have f610_ := fun hh => getq q610_ hh
  have f611_ := fun hh => getq q611_ hh
  refine q_not rfl (q_grU (d := 600) rfl (by kernel_rfl) (by go_simp)) ?_
  refine q_not rfl (q_grU (d := 600) rfl (by kernel_rfl) (by go_simp)) ?_
  refine q_not rfl (q_grU (d := 600) rfl (by kernel_rfl) (by go_simp)) ?_
  refine q_not rfl (q_grU (d := 600) rfl (by kernel_rfl) (by go_simp)) ?_
  refine q_not rfl (q_grU (d := 600) rfl (by kernel_rfl) (by go_simp)) ?_
  refine q_not rfl (q_grU (d := 600) rfl (by kernel_rfl) (by go_simp)) ?_
  refine q_not rfl (q_gr0 (d := 591) rfl (by kernel_rfl) (by go_simp)) ?_
  refine q_take (.bool false) rfl (q_free rfl _) (fun _ _ => by go_simp) ?_
  refine wpQuiet_nil (hnext _ (by simp [hs0]) (by first | (simp only [At, ↓Array.getElem?_setIfInBounds_ne, ne_eq, Nat.reduceEqDiff, not_false_eq_true]; done) | simp [At, hs0, f63_, f591_, f600_, f607_, f609_, f610_, f611_]))
set_option maxHeartbeats 8000000 in
set_option maxRecDepth 100000 in
theorem reg40_no (u v x y H E rr ss : Int) (j5 : Nat) (w w0 : World) (T0 : Array Value) (hs0 : T0.size = 620) (q5_0 : At T0 5 (.int .i64 x)) (q6_0 : At T0 6 (.int .i64 y)) (q11_0 : At T0 11 (.pointer (some ⟨j5, 0, none⟩))) (q62_0 : At T0 62 (.int .i64 H)) (q63_0 : At T0 63 (.int .i64 E)) (q64_0 : At T0 64 (.bool false)) (hL : Below w.heap.size w w0) (J K' : Act → World → Prop) (Q' : Exit → Act → World → Prop) (hJ : ∀ a' w', (fun a' wx => ∃ T : Array Value, a' = ⟨T, []⟩ ∧ T.size = 620 ∧ At T 619 (.bool false) ∧ Below w.heap.size w wx) a' w' → J a' w') (hK : ∀ a' w', Met J a' w' → K' a' w') :
    (reg 40).wp Try.prog (Exit.then K' Q') ⟨T0, []⟩ w0 := by
  have key : ∀ l : List Oper, l = opl 40 → wpQuiet Try.prog l.toArray (fun w' => ∃ n, w' = w0.drewN n) (fun a' => ∀ w', (fun w' => ∃ n, w' = w0.drewN n) w' → (Exit.then K' Q') .normal a' w') l ⟨T0, []⟩ := by
    intro l el
    subst el
    refine reg40_no_0 u v x y H E rr ss j5 w0  _ _ hs0 q5_0 q6_0 q11_0 q62_0 q63_0 q64_0 ?_
    intro U0 hsU0 q63U0 q591U0 q600U0 q607U0 q609U0 q610U0 q611U0
    refine reg40_no_1 u v x y H E rr ss j5 w0  _ _ hsU0 q63U0 q591U0 q600U0 q607U0 q609U0 q610U0 q611U0 ?_
    intro U1 hsU1 q619U1
    exact fun w9 hS9 => by obtain ⟨nq, rfl⟩ := hS9; exact hK _ _ (Met.intro (hJ _ _ ⟨_, rfl, hsU1, q619U1, below_drewN hL _⟩))
  conv => arg 2; whnf
  refine q_region (fun w' => ∃ n, w' = w0.drewN n) (by kernel_rfl) (by kernel_rfl) ⟨1, rfl⟩ ?_
  exact key _ (by kernel_rfl)
set_option maxHeartbeats 8000000 in
set_option maxRecDepth 100000 in
theorem reg40_yes_0 (u v x y H E rr ss : Int) (j5 : Nat) (w0 : World) (d50 : w0.cell? ⟨j5, 0, none⟩ = some (.int .i64 u)) (d51 : w0.cell? ⟨j5, 1, none⟩ = some (.int .i64 v)) (HL : ∀ W : World, Hid (Calls Try.prog 18 #[.int .i64 H, .int .i64 E] W fun e w' => e = .returned (.bool true) ∧ ∃ n, w' = W.drewN n)) (HZ1 : ∀ W : World, Hid (Calls Try.prog 30 #[.int .i64 (y - u)] W fun e w' => e = .returned (.int .i64 rr) ∧ W = w')) (HZ2 : ∀ W : World, Hid (Calls Try.prog 30 #[.int .i64 (x - y)] W fun e w' => e = .returned (.int .i64 ss) ∧ W = w')) (w1_ : IntKind.i64.wrap (y - u) = y - u) (w2_ : IntKind.i64.wrap (x - y) = x - y) (w3_ : IntKind.i64.wrap (H * rr) = H * rr) (w4_ : IntKind.i64.wrap (v * ss) = v * ss) (w5_ : IntKind.i64.wrap (v * ss * E) = H * rr) (hn1 : ¬ H < 1) (Q : Act → Prop) (T0 : Array Value) (hs0 : T0.size = 620) (q5_ : At T0 5 (.int .i64 x)) (q6_ : At T0 6 (.int .i64 y)) (q11_ : At T0 11 (.pointer (some ⟨j5, 0, none⟩))) (q62_ : At T0 62 (.int .i64 H)) (q63_ : At T0 63 (.int .i64 E)) (q64_ : At T0 64 (.bool true))
    (hnext : ∀ T1 : Array Value, T1.size = 620 → At T1 63 (.int .i64 E) → At T1 591 (.bool true) → At T1 600 (.bool false) → At T1 607 (.int .i64 (H * rr)) → At T1 609 (.int .i64 v) → At T1 610 (.int .i64 x) → At T1 611 (.int .i64 y) → wpQuiet Try.prog (opl 40).toArray (fun w' => ∃ n, w' = w0.drewN n) Q ((opl 40).drop 22) ⟨T1, []⟩) :
    wpQuiet Try.prog (opl 40).toArray (fun w' => ∃ n, w' = w0.drewN n) Q ((opl 40).drop 0) ⟨T0, []⟩ := by
  conv => arg 5; whnf
  have f5_ := fun hh => getq q5_ hh
  have f6_ := fun hh => getq q6_ hh
  have f11_ := fun hh => getq q11_ hh
  have f62_ := fun hh => getq q62_ hh
  have f63_ := fun hh => getq q63_ hh
  have f64_ := fun hh => getq q64_ hh
  refine q_take (.bool true) rfl (q_free rfl _) (fun _ _ => by go_simp) ?_
  refine q_take (.bool true) rfl (q_free rfl _) (fun _ _ => by go_simp) ?_
  refine q_take (.int .i64 H) rfl (q_gr1 (d := 591) rfl (by kernel_rfl) (by go_simp)) (fun _ _ => by go_simp) ?_
  refine q_take (.int .i64 E) rfl (q_gr1 (d := 591) rfl (by kernel_rfl) (by go_simp)) (fun _ _ => by go_simp) ?_
  refine q_call (f := 18) (args := #[.int .i64 H, .int .i64 E]) (.bool true) rfl (q_gr1 (d := 591) rfl (by kernel_rfl) (by go_simp)) (fun w' hw' => by obtain ⟨n, rfl⟩ := hw'; exact Calls.quiet_of ((HL _).out)) (fun _ _ => by go_simp) ?_
  refine q_take (.bool false) rfl (q_gr1 (d := 591) rfl (by kernel_rfl) (by go_simp)) (fun _ _ => by go_simp) ?_
  refine q_take (.bool false) rfl (q_gr1 (d := 591) rfl (by kernel_rfl) (by go_simp)) (fun _ _ => by go_simp) ?_
  refine q_take (.int .i64 H) rfl (q_gr1 (d := 596) rfl (by kernel_rfl) (by go_simp)) (fun _ _ => by go_simp) ?_
  refine q_take (.bool false) rfl (q_gr1 (d := 596) rfl (by kernel_rfl) (by go_simp)) (fun _ _ => by go_simp) ?_
  refine q_take (.bool false) rfl (q_gr1 (d := 591) rfl (by kernel_rfl) (by go_simp)) (fun _ _ => by go_simp) ?_
  refine q_take (.bool false) rfl (q_gr1 (d := 591) rfl (by kernel_rfl) (by go_simp)) (fun _ _ => by go_simp) ?_
  refine q_take (.int .i64 H) rfl (q_gr1 (d := 600) rfl (by kernel_rfl) (by go_simp)) (fun _ _ => by go_simp) ?_
  refine q_take (.int .i64 y) rfl (q_gr1 (d := 600) rfl (by kernel_rfl) (by go_simp)) (fun _ _ => by go_simp) ?_
  refine q_take (.pointer (some ⟨j5, 0, none⟩)) rfl (q_gr1 (d := 600) rfl (by kernel_rfl) (by go_simp)) (fun _ _ => by go_simp) ?_
  refine q_take (.int .i64 u) rfl (q_gr1 (d := 600) rfl (by kernel_rfl) (by go_simp)) (fun w' hw' => by obtain ⟨n, rfl⟩ := hw'; go_simp) ?_
  refine q_take (.int .i64 (y - u)) rfl (q_gr1 (d := 600) rfl (by kernel_rfl) (by go_simp)) (fun _ _ => by go_simp) ?_
  refine q_call (f := 30) (args := #[.int .i64 (y - u)]) (.int .i64 rr) rfl (q_gr1 (d := 600) rfl (by kernel_rfl) (by go_simp)) (fun w' hw' => by obtain ⟨n, rfl⟩ := hw'; exact quiet_eq ((HZ1 _).out)) (fun _ _ => by go_simp) ?_
  refine q_take (.int .i64 (H * rr)) rfl (q_gr1 (d := 600) rfl (by kernel_rfl) (by go_simp)) (fun _ _ => by go_simp) ?_
  refine q_take (.pointer (some ⟨j5, 1, none⟩)) rfl (q_gr1 (d := 600) rfl (by kernel_rfl) (by go_simp)) (fun _ _ => by go_simp) ?_
  refine q_take (.int .i64 v) rfl (q_gr1 (d := 600) rfl (by kernel_rfl) (by go_simp)) (fun w' hw' => by obtain ⟨n, rfl⟩ := hw'; go_simp) ?_
  refine q_take (.int .i64 x) rfl (q_gr1 (d := 600) rfl (by kernel_rfl) (by go_simp)) (fun _ _ => by go_simp) ?_
  refine q_take (.int .i64 y) rfl (q_gr1 (d := 600) rfl (by kernel_rfl) (by go_simp)) (fun _ _ => by go_simp) ?_
  exact (hnext _ (by simp [hs0]) (by first | (simp only [At, ↓Array.getElem?_setIfInBounds_ne, ne_eq, Nat.reduceEqDiff, not_false_eq_true, q63_]; done) | simp [At, hs0, f5_, f6_, f11_, f62_, f63_, f64_]) (by first | (simp only [At, ↓Array.getElem?_setIfInBounds_ne, ne_eq, Nat.reduceEqDiff, not_false_eq_true]; done) | simp [At, hs0, f5_, f6_, f11_, f62_, f63_, f64_]) (by first | (simp only [At, ↓Array.getElem?_setIfInBounds_ne, ne_eq, Nat.reduceEqDiff, not_false_eq_true]; done) | simp [At, hs0, f5_, f6_, f11_, f62_, f63_, f64_]) (by first | (simp only [At, ↓Array.getElem?_setIfInBounds_ne, ne_eq, Nat.reduceEqDiff, not_false_eq_true]; done) | simp [At, hs0, f5_, f6_, f11_, f62_, f63_, f64_]) (by first | (simp only [At, ↓Array.getElem?_setIfInBounds_ne, ne_eq, Nat.reduceEqDiff, not_false_eq_true]; done) | simp [At, hs0, f5_, f6_, f11_, f62_, f63_, f64_]) (by first | (simp only [At, ↓Array.getElem?_setIfInBounds_ne, ne_eq, Nat.reduceEqDiff, not_false_eq_true]; done) | simp [At, hs0, f5_, f6_, f11_, f62_, f63_, f64_]) (by first | (simp only [At, ↓Array.getElem?_setIfInBounds_ne, ne_eq, Nat.reduceEqDiff, not_false_eq_true]; done) | simp [At, hs0, f5_, f6_, f11_, f62_, f63_, f64_]))
set_option maxHeartbeats 8000000 in
set_option maxRecDepth 100000 in
theorem reg40_yes_1 (u v x y H E rr ss : Int) (j5 : Nat) (w0 : World) (d50 : w0.cell? ⟨j5, 0, none⟩ = some (.int .i64 u)) (d51 : w0.cell? ⟨j5, 1, none⟩ = some (.int .i64 v)) (HL : ∀ W : World, Hid (Calls Try.prog 18 #[.int .i64 H, .int .i64 E] W fun e w' => e = .returned (.bool true) ∧ ∃ n, w' = W.drewN n)) (HZ1 : ∀ W : World, Hid (Calls Try.prog 30 #[.int .i64 (y - u)] W fun e w' => e = .returned (.int .i64 rr) ∧ W = w')) (HZ2 : ∀ W : World, Hid (Calls Try.prog 30 #[.int .i64 (x - y)] W fun e w' => e = .returned (.int .i64 ss) ∧ W = w')) (w1_ : IntKind.i64.wrap (y - u) = y - u) (w2_ : IntKind.i64.wrap (x - y) = x - y) (w3_ : IntKind.i64.wrap (H * rr) = H * rr) (w4_ : IntKind.i64.wrap (v * ss) = v * ss) (w5_ : IntKind.i64.wrap (v * ss * E) = H * rr) (hn1 : ¬ H < 1) (Q : Act → Prop) (T0 : Array Value) (hs0 : T0.size = 620) (q63_ : At T0 63 (.int .i64 E)) (q591_ : At T0 591 (.bool true)) (q600_ : At T0 600 (.bool false)) (q607_ : At T0 607 (.int .i64 (H * rr))) (q609_ : At T0 609 (.int .i64 v)) (q610_ : At T0 610 (.int .i64 x)) (q611_ : At T0 611 (.int .i64 y))
    (hnext : ∀ T1 : Array Value, T1.size = 620 → At T1 619 (.bool false) → Q ⟨T1, []⟩) :
    wpQuiet Try.prog (opl 40).toArray (fun w' => ∃ n, w' = w0.drewN n) Q ((opl 40).drop 22) ⟨T0, []⟩ := by
  conv => arg 5; whnf
  have f63_ := fun hh => getq q63_ hh
  have f591_ := fun hh => getq q591_ hh
  have f600_ := fun hh => getq q600_ hh
  have f607_ := fun hh => getq q607_ hh
  have f609_ := fun hh => getq q609_ hh
  have f610_ := fun hh => getq q610_ hh
  have f611_ := fun hh => getq q611_ hh
  refine q_take (.int .i64 (x - y)) rfl (q_gr1 (d := 600) rfl (by kernel_rfl) (by go_simp)) (fun _ _ => by go_simp) ?_
  refine q_call (f := 30) (args := #[.int .i64 (x - y)]) (.int .i64 ss) rfl (q_gr1 (d := 600) rfl (by kernel_rfl) (by go_simp)) (fun w' hw' => by obtain ⟨n, rfl⟩ := hw'; exact quiet_eq ((HZ2 _).out)) (fun _ _ => by go_simp) ?_
  refine q_take (.int .i64 (v * ss)) rfl (q_gr1 (d := 600) rfl (by kernel_rfl) (by go_simp)) (fun _ _ => by go_simp) ?_
  refine q_take (.int .i64 E) rfl (q_gr1 (d := 600) rfl (by kernel_rfl) (by go_simp)) (fun _ _ => by go_simp) ?_
  refine q_take (.int .i64 (H * rr)) rfl (q_gr1 (d := 600) rfl (by kernel_rfl) (by go_simp)) (fun _ _ => by go_simp) ?_
  refine q_take (.bool false) rfl (q_gr1 (d := 600) rfl (by kernel_rfl) (by go_simp)) (fun _ _ => by go_simp) ?_
  refine q_take (.bool false) rfl (q_gr1 (d := 591) rfl (by kernel_rfl) (by go_simp)) (fun _ _ => by go_simp) ?_
  refine q_take (.bool false) rfl (q_free rfl _) (fun _ _ => by go_simp) ?_
  refine wpQuiet_nil (hnext _ (by simp [hs0]) (by first | (simp only [At, ↓Array.getElem?_setIfInBounds_ne, ne_eq, Nat.reduceEqDiff, not_false_eq_true]; done) | simp [At, hs0, f63_, f591_, f600_, f607_, f609_, f610_, f611_]))
set_option maxHeartbeats 8000000 in
set_option maxRecDepth 100000 in
theorem reg40_yes (u v x y H E rr ss : Int) (j5 : Nat) (w w0 : World) (T0 : Array Value) (hs0 : T0.size = 620) (q5_0 : At T0 5 (.int .i64 x)) (q6_0 : At T0 6 (.int .i64 y)) (q11_0 : At T0 11 (.pointer (some ⟨j5, 0, none⟩))) (q62_0 : At T0 62 (.int .i64 H)) (q63_0 : At T0 63 (.int .i64 E)) (q64_0 : At T0 64 (.bool true)) (hL : Below w.heap.size w w0) (d50 : w0.cell? ⟨j5, 0, none⟩ = some (.int .i64 u)) (d51 : w0.cell? ⟨j5, 1, none⟩ = some (.int .i64 v)) (HL : ∀ W : World, Hid (Calls Try.prog 18 #[.int .i64 H, .int .i64 E] W fun e w' => e = .returned (.bool true) ∧ ∃ n, w' = W.drewN n)) (HZ1 : ∀ W : World, Hid (Calls Try.prog 30 #[.int .i64 (y - u)] W fun e w' => e = .returned (.int .i64 rr) ∧ W = w')) (HZ2 : ∀ W : World, Hid (Calls Try.prog 30 #[.int .i64 (x - y)] W fun e w' => e = .returned (.int .i64 ss) ∧ W = w')) (w1_ : IntKind.i64.wrap (y - u) = y - u) (w2_ : IntKind.i64.wrap (x - y) = x - y) (w3_ : IntKind.i64.wrap (H * rr) = H * rr) (w4_ : IntKind.i64.wrap (v * ss) = v * ss) (w5_ : IntKind.i64.wrap (v * ss * E) = H * rr) (hn1 : ¬ H < 1) (J K' : Act → World → Prop) (Q' : Exit → Act → World → Prop) (hJ : ∀ a' w', (fun a' wx => ∃ T : Array Value, a' = ⟨T, []⟩ ∧ T.size = 620 ∧ At T 619 (.bool false) ∧ Below w.heap.size w wx) a' w' → J a' w') (hK : ∀ a' w', Met J a' w' → K' a' w') :
    (reg 40).wp Try.prog (Exit.then K' Q') ⟨T0, []⟩ w0 := by
  have key : ∀ l : List Oper, l = opl 40 → wpQuiet Try.prog l.toArray (fun w' => ∃ n, w' = w0.drewN n) (fun a' => ∀ w', (fun w' => ∃ n, w' = w0.drewN n) w' → (Exit.then K' Q') .normal a' w') l ⟨T0, []⟩ := by
    intro l el
    subst el
    refine reg40_yes_0 u v x y H E rr ss j5 w0 d50 d51 HL HZ1 HZ2 w1_ w2_ w3_ w4_ w5_ hn1 _ _ hs0 q5_0 q6_0 q11_0 q62_0 q63_0 q64_0 ?_
    intro U0 hsU0 q63U0 q591U0 q600U0 q607U0 q609U0 q610U0 q611U0
    refine reg40_yes_1 u v x y H E rr ss j5 w0 d50 d51 HL HZ1 HZ2 w1_ w2_ w3_ w4_ w5_ hn1 _ _ hsU0 q63U0 q591U0 q600U0 q607U0 q609U0 q610U0 q611U0 ?_
    intro U1 hsU1 q619U1
    exact fun w9 hS9 => by obtain ⟨nq, rfl⟩ := hS9; exact hK _ _ (Met.intro (hJ _ _ ⟨_, rfl, hsU1, q619U1, below_drewN hL _⟩))
  conv => arg 2; whnf
  refine q_region (fun w' => ∃ n, w' = w0.drewN n) (by kernel_rfl) (by kernel_rfl) ⟨1, rfl⟩ ?_
  exact key _ (by kernel_rfl)
end FnWaysReflectOfAll
end Go.Proofs.Ytbnkigponkelpaa
