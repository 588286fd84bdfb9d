/- What is drawn for chapter 2. -/
import Derived.Test.YtohlbnfncllhoaaDoorDR1
namespace Go.Proofs.YtohlbnfncllhoaaDoor
open Go.RowKit
set_option linter.unusedVariables false
set_option linter.unusedSimpArgs false
theorem results_tmp4 {fn : Func} {t u v x : Tmp} (h : fn.results = #[.tmp t, .tmp u, .tmp v, .tmp x]) (tmps : Array Value) (P : Program) (w : World) :
    (results fn tmps).run P w = .ok (.tuple #[tmps.getD t undef, tmps.getD u undef, tmps.getD v undef, tmps.getD x undef]) w := by
  simp [results, h]
theorem Cur.start {w : World} {a : Option Addr} {n c : Nat} (h : Bytes w w.heap.size (.slice a n c)) (t : TypeId) : Cur (w.alloc (.cells #[.slice a n c, .int .i64 0, .int .u64 0] t)) w.heap.size (.slice a n c) 0 ∧ Below w.heap.size w (w.alloc (.cells #[.slice a n c, .int .i64 0, .int .u64 0] t)) := by
  have hB := bl_alloc (Below.refl w.heap.size w) (.cells #[.slice a n c, .int .i64 0, .int .u64 0] t)
  exact ⟨⟨by simp, bytes_grown h (fun g o hg => (bcell hB).1 g o hg), by simp, ⟨0, by omega, by omega, by simp⟩, ⟨0, by simp⟩, by simp [go_sem], by simp [go_sem]⟩, hB⟩
theorem Below.drawn {w u v : World} (h : Below w.heap.size w u) (hs : w.heap.size ≤ u.heap.size) (g : u.grownBy v (some w.heap.size)) : Below w.heap.size w v :=
  h.grown g hs fun k e => by injection e with e; omega
end Go.Proofs.YtohlbnfncllhoaaDoor
