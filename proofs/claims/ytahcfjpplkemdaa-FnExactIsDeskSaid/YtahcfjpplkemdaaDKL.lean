/- Desks: rows beside each other. -/
import Derived.Test.YtahcfjpplkemdaaDK1
namespace Go.Proofs.Ytahcfjpplkemdaa
open Go.RowKit
set_option linter.unusedVariables false
set_option linter.unusedSimpArgs false
theorem row_ne {v u : Value} {a b : Nat} (h1 : ∀ g, v.ownBlock = some g → g < a) (h2 : ∀ g, u.ownBlock = some g → b ≤ g) (h : a ≤ b) : v.ownBlock = none ∨ v.ownBlock ≠ u.ownBlock := by
  cases e : v.ownBlock with
  | none => exact .inl rfl
  | some q =>
    refine .inr fun e' => ?_
    have := h1 q e
    have := h2 q e'.symm
    omega
theorem row_ne' {v u : Value} {a b : Nat} (h1 : ∀ g, v.ownBlock = some g → a ≤ g) (h2 : ∀ g, u.ownBlock = some g → g < b) (h : b ≤ a) : v.ownBlock = none ∨ v.ownBlock ≠ u.ownBlock := by
  cases e : v.ownBlock with
  | none => exact .inl rfl
  | some q =>
    refine .inr fun e' => ?_
    have := h1 q e
    have := h2 q e'.symm
    omega
theorem box_ne {u : Value} {A b : Nat} (h2 : ∀ g, u.ownBlock = some g → b ≤ g) (h : A < b) : some A ≠ u.ownBlock := fun e => by
  have := h2 A e.symm
  omega
theorem box_ne' {u : Value} {A b : Nat} (h2 : ∀ g, u.ownBlock = some g → g < b) (h : b ≤ A) : some A ≠ u.ownBlock := fun e => by
  have := h2 A e.symm
  omega
theorem cell_far {w w' : World} {row : Option Nat} (hg : w.grownBy w' row) {A o : Nat} {x : Value} (hlt : A < w.heap.size) (hne : some A ≠ row) (h : w.cell? ⟨A, o, none⟩ = some x) : w'.cell? ⟨A, o, none⟩ = some x := by
  rw [World.grownBy.cell_far hg ⟨A, o, none⟩ hlt hne]; exact h
theorem bel_far {w u w' : World} {v : Value} {b : Nat} (h : Below w.heap.size w u) (hg : u.grownBy w' v.ownBlock) (hge : ∀ g, v.ownBlock = some g → b ≤ g) (hb : w.heap.size ≤ b) : Below w.heap.size w w' :=
  h.grown hg h.size fun g e => Nat.le_trans hb (hge g e)
theorem ORow.other {w w' : World} {B n : Nat} {v : Value} {f : Nat → Int} {row : Option Nat} (h : ORow w B v n f) (hg : w.grownBy w' row) (hne : v.ownBlock = none ∨ v.ownBlock ≠ row) : ORow w' B v n f := World.ownsRow.kept h hg hne
theorem ORow.lt {w : World} {B n : Nat} {v : Value} {f : Nat → Int} (h : ORow w B v n f) : ∀ g, v.ownBlock = some g → g < w.heap.size := fun g e => (World.ownsRow.lt h g e).2
theorem ORow.ge {w : World} {B n : Nat} {v : Value} {f : Nat → Int} (h : ORow w B v n f) : ∀ g, v.ownBlock = some g → B ≤ g := fun g e => (World.ownsRow.lt h g e).1
end Go.Proofs.Ytahcfjpplkemdaa
