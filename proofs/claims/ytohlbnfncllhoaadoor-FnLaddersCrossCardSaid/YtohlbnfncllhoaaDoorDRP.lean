/- What is drawn for chapter 2: poles. -/
import Derived.Test.YtohlbnfncllhoaaDoorDR2
import Derived.Deep.RegionHeld3
namespace Go.Proofs.YtohlbnfncllhoaaDoor
open Go.RowKit
set_option linter.unusedVariables false
set_option linter.unusedSimpArgs false
theorem grown_frozen {w w' : World} {b g o : Nat} (h : w.grownBy w' (some b)) (hg : g < w.heap.size) (hne : g ≠ b) : w'.frozen? ⟨g, o, none⟩ = w.frozen? ⟨g, o, none⟩ := by
  have e := h.block g hg (fun e => hne (by injection e))
  simp only [World.frozen?, e]
theorem grown_set (w : World) (r o : Nat) (v : Value) : w.grownBy (w.setCell ⟨r, o, none⟩ v) (some r) :=
  ⟨rfl, rfl, rfl, by simp [World.setCell], fun i hi hne => Below.heap_setCell _ _ _ i (fun e => hne (by rw [e]))⟩
/-- a change of another block, made since, leaves the drawer as it is -/
theorem Cur.kept {w w' : World} {b r k : Nat} {cv : Value} (h : Cur w b cv k) (g : w.grownBy w' (some r)) (hr : b < r) : Cur w' b cv k := by
  obtain ⟨h1, h2, h3, ⟨a, a0, a1, ha⟩, ⟨s, hs⟩, f1, f2⟩ := h
  have hc := fun o => grown_cell (o := o) g h1 (by omega)
  have hf := fun o => grown_frozen (o := o) g h1 (by omega)
  exact ⟨Nat.lt_of_lt_of_le h1 g.size, bytes_grown h2 (fun x o hx => grown_cell g (by omega) (by omega)), by rw [hc]; exact h3, ⟨a, a0, a1, by rw [hc]; exact ha⟩, ⟨s, by rw [hc]; exact hs⟩, by rw [hf]; exact f1, by rw [hf]; exact f2⟩
theorem grown_new {u w w' : World} {b r : Nat} (h : u.grownBy w (some b)) (g : w.grownBy w' (some r)) (hr : u.heap.size ≤ r) : u.grownBy w' (some b) :=
  ⟨g.os.trans h.os, g.tape.trans h.tape, g.output.trans h.output, Nat.le_trans h.size g.size, fun i hi hne => (g.block i (Nat.lt_of_lt_of_le hi h.size) (fun e => by injection e with e; omega)).trans (h.block i hi hne)⟩
end Go.Proofs.YtohlbnfncllhoaaDoor
