/- Contracts of the functions of chapter 4 that take numbers. -/
import Derived.Test.YtophkahaefbkiaaC1
import Derived.Deep.RegionHeld3
namespace Go.Proofs.Ytophkahaefbkiaa
open Go.RowKit
theorem ret_int {k : IntKind} {a b : Int} (h : a = b) : Ending.returned (.int k a) = .returned (.int k b) := by rw [h]
theorem results_tmp5 {fn : Func} {t u v x y : Tmp} (h : fn.results = #[.tmp t, .tmp u, .tmp v, .tmp x, .tmp y]) (tmps : Array Value) (P : Program) (w : World) :
    (results fn tmps).run P w = .ok (.tuple #[tmps.getD t undef, tmps.getD u undef, tmps.getD v undef, tmps.getD x undef, tmps.getD y undef]) w := by
  simp [results, h]
def okPer (t e : Int) : Bool := within t 2 300 && within e 1 t
theorem okPer_true {t e : Int} (h : okPer t e = true) : (2 ≤ t ∧ t ≤ 300) ∧ 1 ≤ e ∧ e ≤ t := by
  simp only [okPer, Bool.and_eq_true] at h
  exact ⟨within_true h.1, within_true h.2⟩
def okMir (l h : Int) : Bool := within h 1 300 && within l 0 (h - 1)
theorem okMir_true {l h : Int} (e : okMir l h = true) : (1 ≤ h ∧ h ≤ 300) ∧ 0 ≤ l ∧ l ≤ h - 1 := by
  simp only [okMir, Bool.and_eq_true] at e
  exact ⟨within_true e.1, within_true e.2⟩
theorem okMir_alt (l h : Int) : okMir l h = (within l 0 300 && within h (l + 1) 300) := by
  simp only [okMir, within]
  rw [Bool.eq_iff_iff]
  simp
  omega
def okPart (l h : Int) : Bool := within h 0 500 && within l 0 h
theorem okPart_true {l h : Int} (e : okPart l h = true) : (0 ≤ h ∧ h ≤ 500) ∧ 0 ≤ l ∧ l ≤ h := by
  simp only [okPart, Bool.and_eq_true] at e
  exact ⟨within_true e.1, within_true e.2⟩
theorem okPart_alt (l h : Int) : okPart l h = (within l 0 500 && within h l 500) := by
  simp only [okPart, within]
  rw [Bool.eq_iff_iff]
  simp
  omega
def okCor (w a : Int) : Bool := within w 1 500 && within a 0 w
theorem okCor_true {l h : Int} (e : okCor l h = true) : (1 ≤ l ∧ l ≤ 500) ∧ 0 ≤ h ∧ h ≤ l := by
  simp only [okCor, Bool.and_eq_true] at e
  exact ⟨within_true e.1, within_true e.2⟩

def MF (f : Int → Int → Int) (t e x : Int) : Int := if okPer t e then f x 2 else 0
def CS (t e l h : Int) : Bool := okPer t e && (okMir l h && (decide (2 * l ≤ e) && decide (t + e ≤ 2 * h)))
def okCS (t e l h : Int) : Bool := okPer t e && okMir l h
def SPl (e l : Int) : Int := max 0 (2 * l - e)
def SPh (t e h : Int) : Int := min t (2 * h - e)
def okSP (t e l h : Int) : Bool := okPer t e && (okMir l h && decide (SPl e l ≤ SPh t e h))
def SP (f t e l h : Int) : Int := if okSP t e l h then f else 0
end Go.Proofs.Ytophkahaefbkiaa
