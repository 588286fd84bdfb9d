/- All ladders of a Wide that fit some clues, in order. -/
import Derived.Test.YtahcfjpplkemdaaPZ3
import Derived.Test.YtahcfjpplkemdaaL3
namespace Go.Proofs.Ytahcfjpplkemdaa
open Go.RowKit
set_option linter.unusedVariables false
set_option linter.unusedSimpArgs false
theorem cells3 (w : World) (x y z : Value) (T n : Nat) (hn : n = w.heap.size) : ∀ j q, [x, y, z][j]? = some q → (w.alloc (.cells #[x, y, z] T)).cell? ((⟨n, 0, none⟩ : Addr).add j) = some q := by
  intro j q hj
  subst hn
  match j, hj with
  | 0, hj => simp at hj; subst hj; simp [Addr.add]
  | 1, hj => simp at hj; subst hj; simp [Addr.add]
  | 2, hj => simp at hj; subst hj; simp [Addr.add]
theorem infoLad : (Try.prog.info? 23).map (fun i => (i.zero, i.size, i.bytes)) = some (some (.agg #[.int .i64 0, .int .i64 0, .int .i64 0]), 3, 24) := by kernel_rfl
theorem cnt_def (n : Nat) (f : Nat → Int) (wd : Int) : cnt n f wd = (sol n f wd 144).length := rfl
theorem sol_zero (n : Nat) (f : Nat → Int) (wd : Int) : sol n f wd 0 = [] := rfl
theorem flat_nil (wd : Int) : flat wd [] = [] := rfl
theorem LLad.congr {w : World} {C n m : Nat} {v : Value} {xs ys : List Int} (h : LLad w C v n xs) (e1 : n = m) (e2 : xs = ys) : LLad w C v m ys := by subst e1; subst e2; exact h
end Go.Proofs.Ytahcfjpplkemdaa
