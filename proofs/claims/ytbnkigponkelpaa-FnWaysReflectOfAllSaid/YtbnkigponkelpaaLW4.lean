/- Contracts of the functions of chapter 5: ways in corridors, how far they go up and down, their squares. -/
import Derived.Test.YtbnkigponkelpaaLW3
namespace Go.Proofs.Ytbnkigponkelpaa
open Go.RowKit
set_option linter.unusedVariables false
set_option linter.unusedSimpArgs false
theorem S7_after {w u v : World} {x1 x2 x3 x4 x5 x6 x7 : Value} (hb : Below u.heap.size u v) (h : u.cell? ⟨w.heap.size, 0, none⟩ = some x1 ∧ u.cell? ⟨w.heap.size, 1, none⟩ = some x2 ∧ u.cell? ⟨w.heap.size, 2, none⟩ = some x3 ∧ u.cell? ⟨w.heap.size, 3, none⟩ = some x4 ∧ u.cell? ⟨w.heap.size, 4, none⟩ = some x5 ∧ u.cell? ⟨w.heap.size, 5, none⟩ = some x6 ∧ u.cell? ⟨w.heap.size, 6, none⟩ = some x7 ∧ w.heap.size < u.heap.size ∧ Below w.heap.size w u) :
    v.cell? ⟨w.heap.size, 0, none⟩ = some x1 ∧ v.cell? ⟨w.heap.size, 1, none⟩ = some x2 ∧ v.cell? ⟨w.heap.size, 2, none⟩ = some x3 ∧ v.cell? ⟨w.heap.size, 3, none⟩ = some x4 ∧ v.cell? ⟨w.heap.size, 4, none⟩ = some x5 ∧ v.cell? ⟨w.heap.size, 5, none⟩ = some x6 ∧ v.cell? ⟨w.heap.size, 6, none⟩ = some x7 ∧ w.heap.size < v.heap.size ∧ Below w.heap.size w v := by
  obtain ⟨h1, h2, h3, h4, h5, h6, h7, h8, h9⟩ := h
  exact ⟨cell_after hb h8 h1, cell_after hb h8 h2, cell_after hb h8 h3, cell_after hb h8 h4, cell_after hb h8 h5, cell_after hb h8 h6, cell_after hb h8 h7, size_after hb h8, bl_trans hb h9⟩
theorem last9 {a b c d e f g h D : Prop} (k : a ∧ b ∧ c ∧ d ∧ e ∧ f ∧ g ∧ h ∧ D) : D := k.2.2.2.2.2.2.2.2
def inCo (a b c d h : Int) : Bool := okSp2 a b c d && (within h 2 1000 && (decide (b < h) && decide (d < h)))
def okCo (a b c d h t : Int) : Bool := inCo a b c d h && within t 1 50
theorem inCo_true {a b c d h : Int} (e : inCo a b c d h = true) : ((-1000 ≤ a ∧ a ≤ 1000) ∧ 1 ≤ b ∧ b ≤ 1000) ∧ ((-1000 ≤ c ∧ c ≤ 1000) ∧ 1 ≤ d ∧ d ≤ 1000) ∧ (2 ≤ h ∧ h ≤ 1000) ∧ b < h ∧ d < h := by
  simp only [inCo, okSp2, Bool.and_eq_true, decide_eq_true_eq] at e
  exact ⟨okSp_true e.1.1, okSp_true e.1.2, within_true e.2.1, e.2.2.1, e.2.2.2⟩
theorem okCo_true {a b c d h t : Int} (e : okCo a b c d h t = true) : (((-1000 ≤ a ∧ a ≤ 1000) ∧ 1 ≤ b ∧ b ≤ 1000) ∧ ((-1000 ≤ c ∧ c ≤ 1000) ∧ 1 ≤ d ∧ d ≤ 1000) ∧ (2 ≤ h ∧ h ≤ 1000) ∧ b < h ∧ d < h) ∧ 1 ≤ t ∧ t ≤ 50 := by
  simp only [okCo, Bool.and_eq_true] at e
  exact ⟨inCo_true e.1, within_true e.2⟩
def tmr (b h : Int) (g : Bool) : Int := if g then b else h - b
def rsT (b h k : Int) (g : Bool) : Int := tmr b h g + k * h
def rsA (b d h t : Int) (g : Bool) : Int := rsT b h (t - 1) g + tmr d h (g == (t % 2 == 1))
theorem tmr_bd {b h : Int} (h1 : 1 ≤ b) (h2 : b < h) (h3 : h ≤ 1000) (g : Bool) : 1 ≤ tmr b h g ∧ tmr b h g ≤ 999 := by
  cases g <;> simp only [tmr, if_true, Bool.false_eq_true, if_false] <;> omega
theorem rsT_bd {b h k : Int} (h1 : 1 ≤ b) (h2 : b < h) (h3 : h ≤ 1000) (k0 : 0 ≤ k) (k1 : k ≤ 50) (g : Bool) : (0 ≤ k * h ∧ k * h ≤ 50000) ∧ 1 ≤ rsT b h k g ∧ rsT b h k g ≤ 51000 := by
  have := mul_bd2 (a := k) (b := h) (m := 50) (k := 1000) k0 (by omega) k1 h3
  have := tmr_bd h1 h2 h3 g
  unfold rsT
  omega
theorem rsA_bd {b d h t : Int} (h1 : 1 ≤ b) (h2 : b < h) (h3 : h ≤ 1000) (d1 : 1 ≤ d) (d2 : d < h) (t0 : 1 ≤ t) (t1 : t ≤ 50) (g : Bool) : 1 ≤ rsA b d h t g ∧ rsA b d h t g ≤ 52000 := by
  have := rsT_bd h1 h2 h3 (show 0 ≤ t - 1 by omega) (by omega) g
  have := tmr_bd d1 d2 h3 (g == (t % 2 == 1))
  unfold rsA
  omega
end Go.Proofs.Ytbnkigponkelpaa
