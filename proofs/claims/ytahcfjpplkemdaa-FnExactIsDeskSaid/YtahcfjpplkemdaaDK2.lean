/- A desk that came in is opened. -/
import Derived.Test.YtahcfjpplkemdaaDKL
import Derived.Lib.SmallJoins
namespace Go.Proofs.Ytahcfjpplkemdaa
open Go.RowKit
set_option linter.unusedVariables false
set_option linter.unusedSimpArgs false
section
open Go.ChangeShapes Go.WideShapes Go.Deep Go.Joins
variable {H : Type} {enc : TypeId × Value → H} {w : World} {base : Nat} {spare : Nat → Bool} {held : Bool}
set_option maxRecDepth 100000 in
theorem open_polesT {fuel : Nat} {v : Value} {y : DataW H × List MemPlace} (hf0 : DataW.trod enc Try.prog w base spare held fuel 36 [v] = some y) : ∃ n f, PRow w v n f := by
  obtain ⟨d, ps⟩ := y
  have hf := hf0
  obtain ⟨a0, len, cap, hv0⟩ := slice_form Try.underlying36 hf
  simp at hv0
  subst hv0
  rcases open_slice_pairs Try.underlying36 Try.underlying95 (by kernel_rfl) rfl rfl (by kernel_rfl) (by kernel_rfl) hf with ⟨hc, _⟩ | ⟨a, l, c, m, k, V0, V1, D0, D1, P0, P1, hc, _, hl, hm, hmm, _, hall⟩
  · simp [Value.cells] at hc
    obtain ⟨rfl, rfl, rfl⟩ := hc
    exact ⟨0, fun _ => 0, .inl ⟨rfl, _, _, rfl⟩⟩
  · simp [Value.cells] at hc
    obtain ⟨rfl, rfl, rfl⟩ := hc
    have hlm : len ≤ m := by rw [hmm]; split <;> omega
    by_cases h0 : 0 < len
    · have hint : ∀ i, i < m → ∃ x y : Int, V0 i = .int .i64 x ∧ V1 i = .int .i64 y := fun i hi => by
        obtain ⟨_, _, t0, t1⟩ := hall i hi
        obtain ⟨x, hx, _⟩ := DataW.trod_int Try.underlying3 t0
        obtain ⟨y, hy, _⟩ := DataW.trod_int Try.underlying3 t1
        simp at hx hy
        exact ⟨x, y, hx, hy⟩
      have e0 := (hall 0 (by omega)).1
      obtain ⟨b, off, spot⟩ := a
      have hs : spot = none := by
        simp only [Addr.add, Nat.zero_mul] at e0
        simp only [World.cell?] at e0
        cases spot with
        | none => rfl
        | some x => exfalso; split at e0 <;> simp at e0
      subst hs
      have hb : b < w.heap.size := World.block_lt_of_cell? w _ (by simpa [Addr.add] using e0)
      have pick : ∀ i, i < m * 2 → ∃ x : Int, w.cell? ⟨b, off + i, none⟩ = some (.int .i64 x) := fun i hi => by
        have hq : i / 2 < m := by omega
        obtain ⟨c0, c1, _, _⟩ := hall (i / 2) hq
        obtain ⟨x, y, hx, hy⟩ := hint (i / 2) hq
        have ad : ∀ k : Nat, (⟨b, off, none⟩ : Addr).add k = ⟨b, off + k, none⟩ := fun k => by
          unfold Addr.add
          split
          · rename_i hk; subst hk; rfl
          · rfl
        rw [ad, hx] at c0
        rw [ad, hy] at c1
        by_cases he : i % 2 = 0
        · exact ⟨x, by rw [show i = i / 2 * 2 by omega]; exact c0⟩
        · exact ⟨y, by rw [show i = i / 2 * 2 + 1 by omega]; exact c1⟩
      refine ⟨len, fun i => match w.cell? ⟨b, off + i, none⟩ with | some (.int .i64 x) => x | _ => 0, .inr ⟨h0, b, off, cap, rfl, by omega, hb, fun i hi => ?_⟩⟩
      obtain ⟨x, hx⟩ := pick i (by omega)
      simp [hx]
    · obtain rfl : len = 0 := by omega
      exact ⟨0, fun _ => 0, .inl ⟨rfl, _, _, rfl⟩⟩
theorem array12 {α : Type} {cs : Array α} (h : cs.size = 12) : ∃ c0 c1 c2 c3 c4 c5 c6 c7 c8 c9 c10 c11, cs = #[c0, c1, c2, c3, c4, c5, c6, c7, c8, c9, c10, c11] := by
  obtain ⟨l⟩ := cs
  match l, h with
  | [c0, c1, c2, c3, c4, c5, c6, c7, c8, c9, c10, c11], _ => exact ⟨c0, c1, c2, c3, c4, c5, c6, c7, c8, c9, c10, c11, rfl⟩
theorem trod_struct5 {P : Program} {t : TypeId} {f0 f1 f2 f3 f4 : Field} {fuel : Nat} {cs : List Value} {x : DataW H × List MemPlace} (ht : P.underlying t = some (.struct #[f0, f1, f2, f3, f4])) (h : DataW.trod enc P w base spare held fuel t cs = some x) :
    ∃ y0 y1 y2 y3 y4 n, DataW.trod enc P w base spare held n f0.type ((cs.drop f0.offset).take (P.cellsOf f0.type)) = some y0 ∧
      DataW.trod enc P w base spare held n f1.type ((cs.drop f1.offset).take (P.cellsOf f1.type)) = some y1 ∧ DataW.trod enc P w base spare held n f2.type ((cs.drop f2.offset).take (P.cellsOf f2.type)) = some y2 ∧
      DataW.trod enc P w base spare held n f3.type ((cs.drop f3.offset).take (P.cellsOf f3.type)) = some y3 ∧ DataW.trod enc P w base spare held n f4.type ((cs.drop f4.offset).take (P.cellsOf f4.type)) = some y4 := by
  obtain ⟨xs, n, _, rfl, hl, hlen, hf⟩ := DataW.trod_struct ht h
  match xs, hlen with
  | [y0, y1, y2, y3, y4], _ => exact ⟨y0, y1, y2, y3, y4, n, by simpa using hf 0 f0 rfl, by simpa using hf 1 f1 rfl, by simpa using hf 2 f2 rfl, by simpa using hf 3 f3 rfl, by simpa using hf 4 f4 rfl⟩
theorem cellsD0 : Try.prog.cellsOf 40 = 12 := by kernel_rfl
theorem cellsD1 : Try.prog.cellsOf 35 = 3 := by kernel_rfl
theorem cellsD2 : Try.prog.cellsOf 36 = 1 := by kernel_rfl
theorem cellsD3 : Try.prog.cellsOf 37 = 3 := by kernel_rfl
theorem cellsD4 : Try.prog.cellsOf 38 = 4 := by kernel_rfl
theorem cellsD5 : Try.prog.cellsOf 3 = 1 := by kernel_rfl
theorem ints1 {fuel : Nat} {c : Value} {y : DataW H × List MemPlace} (h : DataW.trod enc Try.prog w base spare held fuel 3 [c] = some y) : ∃ d : Int, c = .int .i64 d ∧ (Lit.int .i64 d).wf = true := by
  obtain ⟨d, h1, _, h2⟩ := DataW.trod_int Try.underlying3 h
  simp at h1
  exact ⟨d, h1, h2⟩
set_option maxRecDepth 100000 in
theorem ints3 {fuel : Nat} {T : TypeId} {f0 f1 f2 : Field} {c0 c1 c2 : Value} {y : DataW H × List MemPlace} (ht : Try.prog.underlying T = some (.struct #[f0, f1, f2])) (h0 : f0.type = 3 ∧ f0.offset = 0) (h1 : f1.type = 3 ∧ f1.offset = 1) (h2 : f2.type = 3 ∧ f2.offset = 2)
    (h : DataW.trod enc Try.prog w base spare held fuel T [c0, c1, c2] = some y) : ∃ d0 d1 d2 : Int, c0 = .int .i64 d0 ∧ c1 = .int .i64 d1 ∧ c2 = .int .i64 d2 ∧ (Lit.int .i64 d0).wf = true ∧ (Lit.int .i64 d1).wf = true ∧ (Lit.int .i64 d2).wf = true := by
  have hC : Try.prog.cellsOf 3 = 1 := cellsD5
  obtain ⟨y0, y1, y2, n, _, _, k0, k1, k2⟩ := trod_struct3 ht h
  rw [h0.1, h0.2, hC] at k0
  rw [h1.1, h1.2, hC] at k1
  rw [h2.1, h2.2, hC] at k2
  obtain ⟨d0, rfl, w0⟩ := ints1 (c := c0) (by simpa using k0)
  obtain ⟨d1, rfl, w1⟩ := ints1 (c := c1) (by simpa using k1)
  obtain ⟨d2, rfl, w2⟩ := ints1 (c := c2) (by simpa using k2)
  exact ⟨d0, d1, d2, rfl, rfl, rfl, w0, w1, w2⟩
set_option maxRecDepth 100000 in
theorem ints4 {fuel : Nat} {T : TypeId} {f0 f1 f2 f3 : Field} {c0 c1 c2 c3 : Value} {y : DataW H × List MemPlace} (ht : Try.prog.underlying T = some (.struct #[f0, f1, f2, f3])) (h0 : f0.type = 3 ∧ f0.offset = 0) (h1 : f1.type = 3 ∧ f1.offset = 1) (h2 : f2.type = 3 ∧ f2.offset = 2) (h3 : f3.type = 3 ∧ f3.offset = 3)
    (h : DataW.trod enc Try.prog w base spare held fuel T [c0, c1, c2, c3] = some y) : ∃ d0 d1 d2 d3 : Int, c0 = .int .i64 d0 ∧ c1 = .int .i64 d1 ∧ c2 = .int .i64 d2 ∧ c3 = .int .i64 d3 ∧ (Lit.int .i64 d0).wf = true ∧ (Lit.int .i64 d1).wf = true ∧ (Lit.int .i64 d2).wf = true ∧ (Lit.int .i64 d3).wf = true := by
  have hC : Try.prog.cellsOf 3 = 1 := cellsD5
  obtain ⟨y0, y1, y2, y3, n, _, _, k0, k1, k2, k3⟩ := trod_struct4 ht h
  rw [h0.1, h0.2, hC] at k0
  rw [h1.1, h1.2, hC] at k1
  rw [h2.1, h2.2, hC] at k2
  rw [h3.1, h3.2, hC] at k3
  obtain ⟨d0, rfl, w0⟩ := ints1 (c := c0) (by simpa using k0)
  obtain ⟨d1, rfl, w1⟩ := ints1 (c := c1) (by simpa using k1)
  obtain ⟨d2, rfl, w2⟩ := ints1 (c := c2) (by simpa using k2)
  obtain ⟨d3, rfl, w3⟩ := ints1 (c := c3) (by simpa using k3)
  exact ⟨d0, d1, d2, d3, rfl, rfl, rfl, rfl, w0, w1, w2, w3⟩
set_option maxRecDepth 100000 in
theorem open_desk {r : Reach} {b0 : Nat} {v : Value} {d : DataW H} {ps : List MemPlace} (hv : Value.okWide Try.prog w r b0 40 v) (h : DataW.Trod enc Try.prog w base spare held 40 v d ps) :
    ∃ (d0 d1 d2 d3 d4 d5 d6 d7 d8 d9 d10 : Int) (c : Value) (n : Nat) (f : Nat → Int), v = .agg #[.int .i64 d0, .int .i64 d1, .int .i64 d2, .int .i64 d3, c, .int .i64 d4, .int .i64 d5, .int .i64 d6, .int .i64 d7, .int .i64 d8, .int .i64 d9, .int .i64 d10] ∧ PRow w c n f ∧ (Lit.int .i64 d0).wf = true ∧ (Lit.int .i64 d1).wf = true ∧ (Lit.int .i64 d2).wf = true ∧ (Lit.int .i64 d3).wf = true ∧ (Lit.int .i64 d4).wf = true ∧ (Lit.int .i64 d5).wf = true ∧ (Lit.int .i64 d6).wf = true ∧ (Lit.int .i64 d7).wf = true ∧ (Lit.int .i64 d8).wf = true ∧ (Lit.int .i64 d9).wf = true ∧ (Lit.int .i64 d10).wf = true := by
  obtain ⟨cs, rfl, hsz⟩ := okWide_struct Try.underlying40 hv
  rw [show Try.prog.cellsOf 40 = 12 from cellsD0] at hsz
  obtain ⟨c0, c1, c2, c3, c4, c5, c6, c7, c8, c9, c10, c11, rfl⟩ := array12 hsz
  obtain ⟨fuel, hf⟩ := h
  obtain ⟨y0, y1, y2, y3, y4, n, k0, k1, k2, k3, k4⟩ := trod_struct5 Try.underlying40 hf
  have e1 : Try.prog.cellsOf 35 = 3 := cellsD1
  have e2 : Try.prog.cellsOf 36 = 1 := cellsD2
  have e3 : Try.prog.cellsOf 37 = 3 := cellsD3
  have e4 : Try.prog.cellsOf 38 = 4 := cellsD4
  have e5 : Try.prog.cellsOf 3 = 1 := cellsD5
  simp only [e1, e2, e3, e4, e5] at k0 k1 k2 k3 k4
  simp only [Value.cells, List.drop_zero, List.drop_succ_cons, List.take_succ_cons, List.take_zero] at k0 k1 k2 k3 k4
  obtain ⟨d0, d1, d2, rfl, rfl, rfl, w0, w1, w2⟩ := ints3 Try.underlying35 ⟨rfl, rfl⟩ ⟨rfl, rfl⟩ ⟨rfl, rfl⟩ k0
  obtain ⟨d3, rfl, w3⟩ := ints1 k1
  obtain ⟨m, f, hP⟩ := open_polesT k2
  obtain ⟨d4, d5, d6, rfl, rfl, rfl, w4, w5, w6⟩ := ints3 Try.underlying37 ⟨rfl, rfl⟩ ⟨rfl, rfl⟩ ⟨rfl, rfl⟩ k3
  obtain ⟨d7, d8, d9, d10, rfl, rfl, rfl, rfl, w7, w8, w9, w10⟩ := ints4 Try.underlying38 ⟨rfl, rfl⟩ ⟨rfl, rfl⟩ ⟨rfl, rfl⟩ ⟨rfl, rfl⟩ k4
  exact ⟨d0, d1, d2, d3, d4, d5, d6, d7, d8, d9, d10, c4, m, f, rfl, hP, w0, w1, w2, w3, w4, w5, w6, w7, w8, w9, w10⟩
end
end Go.Proofs.Ytahcfjpplkemdaa
