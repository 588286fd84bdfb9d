/- Slices of bytes as they came in. -/
import Derived.Test.YtohlbnfncllhoaaDoorDR1
import Derived.ChangeSlices
namespace Go.Proofs.YtohlbnfncllhoaaDoor
open Go.RowKit
theorem addr_plain {w : World} {a : Addr} {x : Value} (h : w.cell? a = some x) : a.spot = none ∧ a.block < w.heap.size := by
  refine ⟨?_, World.block_lt_of_cell? w _ h⟩
  obtain ⟨b, off, spot⟩ := a
  simp only [World.cell?] at h
  cases spot with
  | none => rfl
  | some x => exfalso; split at h <;> simp at h
theorem add_plain (b off k : Nat) : (⟨b, off, none⟩ : Addr).add k = ⟨b, off + k, none⟩ := by
  unfold Addr.add
  split
  · rename_i hk; subst hk; rfl
  · rfl
theorem wf_byte {n : Int} (h : (Lit.int .u8 n).wf = true) : 0 ≤ n ∧ n ≤ 255 := by
  simp [Lit.wf, IntKind.min, IntKind.max, IntKind.bits, IntKind.signed] at h
  omega
section
open Go.ChangeShapes Go.WideShapes
variable {H : Type} {enc : TypeId × Value → H} {w : World} {base : Nat} {spare : Nat → Bool} {held : Bool}
set_option maxRecDepth 100000 in
theorem open_y {r : Reach} {b0 : Nat} {v : Value} {d : DataW H} {ps : List MemPlace} (hv : Value.okWide Tryd.prog w r b0 22 v) (h : DataW.Trod enc Tryd.prog w base spare held 22 v d ps) : Bytes w w.heap.size v := by
  obtain ⟨a0, len, cap, rfl⟩ := okWide_slice Tryd.underlying22 hv
  obtain ⟨fuel, hf⟩ := h
  rcases Go.ChangeShapes.open_ints Tryd.underlying22 Tryd.underlying5 (by kernel_rfl) hf with ⟨hc, _⟩ | ⟨a, l, c, zs, hc, _, hl, hm, hz, _, hcell, hwf⟩
  · simp [Value.cells] at hc
    obtain ⟨rfl, rfl, rfl⟩ := hc
    exact .inl ⟨_, _, rfl⟩
  · simp [Value.cells] at hc
    obtain ⟨rfl, rfl, rfl⟩ := hc
    have hlm : len ≤ zs.length := by rw [hz]; split <;> omega
    unfold maxLen at hm
    by_cases h0 : 0 < len
    · have c0 := hcell 0 (by omega)
      obtain ⟨b, off, spot⟩ := a
      have hs : spot = none := by
        have := (addr_plain c0).1
        simpa [Addr.add] using this
      subst hs
      have hb : b < w.heap.size := by
        have := (addr_plain c0).2
        simpa [Addr.add] using this
      refine .inr ⟨b, off, len, cap, rfl, h0, by omega, hb, fun i hi => ?_⟩
      have ci := hcell i (by omega)
      rw [add_plain] at ci
      have hx : zs.getD i 0 ∈ zs := by
        simp [List.getD, show i < zs.length by omega]
      obtain ⟨q0, q1⟩ := wf_byte (hwf _ hx)
      exact ⟨_, q0, q1, ci⟩
    · obtain rfl : len = 0 := by omega
      exact .inl ⟨_, _, rfl⟩
end
end Go.Proofs.YtohlbnfncllhoaaDoor
