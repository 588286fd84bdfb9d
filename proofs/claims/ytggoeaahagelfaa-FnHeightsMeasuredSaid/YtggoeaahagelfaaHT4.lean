/- Chapter 8: heights and distances of islands, steps, sights. -/
import Derived.Test.YtggoeaahagelfaaHT3
namespace Go.Proofs.Ytggoeaahagelfaa
open Go.RowKit
set_option linter.unusedVariables false
set_option linter.unusedSimpArgs false
theorem results_tmp5 {fn : Func} {t u v x y : Tmp} (h : fn.results = #[.tmp t, .tmp u, .tmp v, .tmp x, .tmp y]) (tmps : Array Value) (P : Program) (w : World) :
    (results fn tmps).run P w = .ok (.tuple #[tmps.getD t undef, tmps.getD u undef, tmps.getD v undef, tmps.getD x undef, tmps.getD y undef]) w := by
  simp [results, h]
theorem shows2_after {W v : World} {x y : Int} {t n : Nat} (hn : n = W.heap.size) (hb : Below (W.alloc (.cells #[.int .i64 x, .int .i64 y] t)).heap.size (W.alloc (.cells #[.int .i64 x, .int .i64 y] t)) v) : Shows v (.slice (some ⟨n, 0, none⟩) 2 2) [x, y] := by
  have hs : n < (W.alloc (.cells #[.int .i64 x, .int .i64 y] t)).heap.size := by subst hn; simp
  have d0 : (W.alloc (.cells #[.int .i64 x, .int .i64 y] t)).cell? ⟨n, 0, none⟩ = some (.int .i64 x) := by subst hn; simp [go_sem]
  have d1 : (W.alloc (.cells #[.int .i64 x, .int .i64 y] t)).cell? ⟨n, 1, none⟩ = some (.int .i64 y) := by subst hn; simp [go_sem]
  exact ⟨n, 0, 2, rfl, fun i hi => by
    match i, hi with
    | 0, _ => exact cell_after hb hs d0
    | 1, _ => exact cell_after hb hs d1
    | n + 2, hi => exact absurd hi (by simp)⟩
def iH (s a f g : Int) : Int := ln (s * a) (g - f) + s * ld (s * a) (g - f)
def iHd (s a f g : Int) : Int := ld (s * a) (g - f)
def iA (a f g : Int) : Int := ln (a * f) (g - f)
def iAd (a f g : Int) : Int := ld (a * f) (g - f)
theorem iH_alt {s a f g : Int} (ho : okIs s a f g = true) : ln (s * (a + (g - f))) (g - f) = iH s a f g ∧ ld (s * (a + (g - f))) (g - f) = iHd s a f g := by
  obtain ⟨⟨s0, s1⟩, ⟨a0, a1⟩, ⟨f0, f1⟩, ⟨_, g1⟩, fg⟩ := okIs_true ho
  rw [show s * (a + (g - f)) = s * a + s * (g - f) by grind]
  exact ln_more (x := s * a) (d := g - f) (s := s) (Int.mul_nonneg (by omega) (by omega)) (by omega) (by omega)
theorem iA_alt (a f g : Int) : ln (f * a) (g - f) = iA a f g ∧ ld (f * a) (g - f) = iAd a f g := by
  rw [Int.mul_comm f a]
  exact ⟨rfl, rfl⟩
def okHi (s a f g : Int) : Bool := okIs s a f g && !decide (g = f + 1)
theorem last4' {a b c D : Prop} (k : a ∧ b ∧ c ∧ D) : D := k.2.2.2
end Go.Proofs.Ytggoeaahagelfaa
