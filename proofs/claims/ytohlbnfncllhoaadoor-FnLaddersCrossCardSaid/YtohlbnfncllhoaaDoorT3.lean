/- Texts that are cut at a sign, by the model. -/
import Derived.Test.YtohlbnfncllhoaaDoorP1
import Derived.Test.YtohlbnfncllhoaaDoorT2
namespace Go.Proofs.YtohlbnfncllhoaaDoor
open Go.RowKit
theorem infoS : (Tryd.prog.info? 9).map (fun i => (i.zero, i.size, i.bytes)) = some (some (.string ⟨#[]⟩), 1, 16) := by kernel_rfl
def str (p : List UInt8) : Value := .string ⟨p.toArray⟩
/-- a slice of strings of the call's own -/
def SRow (w : World) (B : Nat) (v : Value) (ss : List (List UInt8)) : Prop := w.ownsRow B 9 1 v ss.length (ss.map str)
theorem SRow.keep {w w' : World} {B : Nat} {v : Value} {ss : List (List UInt8)} (h : SRow w B v ss) (k : Below w.heap.size w w') : SRow w' B v ss :=
  World.ownsRow.kept h (row := none) ⟨k.os, k.tape, k.output, k.size, fun i hi _ => k.block i hi⟩ (by cases hv : v.ownBlock <;> simp)
theorem SRow.open_ {w : World} {B : Nat} {v : Value} {ss : List (List UInt8)} (h : SRow w B v ss) (hx : 0 < ss.length) :
    ∃ g cap, v = .slice (some ⟨g, 0, none⟩) ss.length cap ∧ B ≤ g ∧ g < w.heap.size ∧ ∀ i, i < ss.length → w.cell? ⟨g, i, none⟩ = some (str (ss.getD i [])) := by
  have h' := h
  obtain ⟨_, ⟨rfl, hn⟩ | ⟨g, cap, cur, rfl, hB, hg, hn, hm, hs, ht⟩⟩ := h
  · omega
  · refine ⟨g, cap, rfl, hB, (Array.getElem?_eq_some_iff.1 hg).1, fun i hi => ?_⟩
    have := World.ownsRow.cellAt h' i (by omega)
    rw [this]
    simp [List.getD, hi]
theorem piece_eq (s : ByteArray) (b : UInt8) (k f : Nat) (e : (sp b s.data.toList k).2 = (s.data.toList.take k).drop f) : s.extract f k = ⟨((sp b s.data.toList k).2).toArray⟩ := by
  rw [Lib.extract_eq, e, List.drop_take]
theorem sp_yes {b : UInt8} {l : List UInt8} {k : Nat} (h : l.getD k 0 = b) : sp b l (k + 1) = ((sp b l k).1 ++ [(sp b l k).2], []) := by simp only [sp]; rw [if_pos h]
theorem sp_no {b : UInt8} {l : List UInt8} {k : Nat} (h : ¬ l.getD k 0 = b) : sp b l (k + 1) = ((sp b l k).1, (sp b l k).2 ++ [l.getD k 0]) := by simp only [sp]; rw [if_neg h]
theorem sp_len (b : UInt8) (l : List UInt8) : ∀ k, (sp b l k).1.length ≤ k
  | 0 => by simp [sp]
  | k + 1 => by
    have := sp_len b l k
    simp only [sp]; split <;> simp <;> omega

theorem drop_take_snoc (l : List UInt8) (k f : Nat) (h : k < l.length) (hf : f ≤ k) : (l.take (k + 1)).drop f = (l.take k).drop f ++ [l.getD k 0] := by
  rw [take_snoc l k h, List.drop_append_of_le_length (by rw [List.length_take]; omega)]
theorem len_data (s : ByteArray) : s.data.toList.length = s.size := by rw [Array.length_toList]; rfl
theorem getD_data (s : ByteArray) (k : Nat) (h : k < s.size) : s.data.toList.getD k 0 = s[k] := by
  have e : s.data.toList[k]? = some s[k] := by
    rw [List.getElem?_eq_getElem (by rw [len_data]; exact h)]; rfl
  rw [List.getD, e]; rfl
end Go.Proofs.YtohlbnfncllhoaaDoor
