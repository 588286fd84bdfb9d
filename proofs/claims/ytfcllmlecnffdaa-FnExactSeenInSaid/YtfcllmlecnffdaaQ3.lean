/- Marking the numbers of own slices of slices touches no other block. -/
import Derived.Test.YtfcllmlecnffdaaQ2
namespace Go.Proofs.Ytfcllmlecnffdaa
open Go.RowKit
/-- from w to w' nothing outside the blocks from B on, below C, has changed -/
structure Out (B C : Nat) (w w' : World) : Prop where
  os : w'.os = w.os
  tape : w'.tape = w.tape
  output : w'.output = w.output
  size : w.heap.size ≤ w'.heap.size
  block : ∀ i, i < w.heap.size → (i < B ∨ C ≤ i) → w'.heap[i]? = w.heap[i]?
theorem Out.refl (B C : Nat) (w : World) : Out B C w w := ⟨rfl, rfl, rfl, Nat.le_refl _, fun _ _ _ => rfl⟩
theorem Out.trans {B C : Nat} {a b c : World} (h : Out B C a b) (k : Out B C b c) : Out B C a c :=
  ⟨k.os.trans h.os, k.tape.trans h.tape, k.output.trans h.output, Nat.le_trans h.size k.size, fun i hi hn => (k.block i (Nat.lt_of_lt_of_le hi h.size) hn).trans (h.block i hi hn)⟩
theorem Out.ofGrown {B C : Nat} {w w' : World} {row : Option Nat} (h : w.grownBy w' row) (hr : ∀ k, row = some k → B ≤ k ∧ k < C) : Out B C w w' :=
  ⟨h.os, h.tape, h.output, h.size, fun i hi hn => h.block i hi fun e => by
    have := hr i e.symm
    omega⟩
theorem Out.below {B C D : Nat} {w w' : World} (h : Out B C w w') (hD : D ≤ B) (hw : D ≤ w.heap.size) : Below D w w' :=
  ⟨h.os, h.tape, h.output, h.size, fun i hi => h.block i (by omega) (.inl (by omega))⟩
theorem IRow.outside {B C D : Nat} {w w' : World} {v : Value} {xs : List Int} (h : IRow w D v xs) (o : Out B C w w') (hk : ∀ k, v.ownBlock = some k → k < B ∨ C ≤ k) : IRow w' D v xs := by
  refine ⟨h.1, ?_⟩
  rcases h.2 with hn | ⟨g, cap, cur, rfl, hb, hgg, rest⟩
  · exact .inl hn
  · refine .inr ⟨g, cap, cur, rfl, hb, ?_, rest⟩
    rw [o.block g (Array.getElem?_eq_some_iff.1 hgg).1 (hk g (by simp [Value.ownBlock]))]
    exact hgg
/-- .. each of the slices in a block below C -/
def RRowB (w : World) (B C : Nat) (v : Value) (L : Nat) (f : Nat → List Int) : Prop :=
  ∃ vs : List Value, w.ownsRow B 25 1 v L vs ∧ (∀ i, i < L → IRow w B (vs.getD i (.bool false)) (f i)) ∧
    (∀ i j, i < j → j < L → (vs.getD i (.bool false)).ownBlock = none ∨ (vs.getD i (.bool false)).ownBlock ≠ (vs.getD j (.bool false)).ownBlock) ∧
    ∀ i, i < L → ∀ k, (vs.getD i (.bool false)).ownBlock = some k → k < C
theorem RRowB.toF {w : World} {B C : Nat} {v : Value} {L : Nat} {f : Nat → List Int} (h : RRowB w B C v L f) : RRowF w B v L f := by
  obtain ⟨vs, h1, h3, h4, _⟩ := h
  exact ⟨vs, h1, h3, h4⟩
theorem RRowF.toB {w : World} {B : Nat} {v : Value} {L : Nat} {f : Nat → List Int} (h : RRowF w B v L f) : RRowB w B w.heap.size v L f := by
  obtain ⟨vs, h1, h3, h4⟩ := h
  exact ⟨vs, h1, h3, h4, fun i hi k e => (World.ownsRow.lt (h3 i hi) k e).2⟩
theorem RRowB.keep {w w' : World} {B C : Nat} {v : Value} {L : Nat} {f : Nat → List Int} (h : RRowB w B C v L f) (k : Below w.heap.size w w') : RRowB w' B C v L f := by
  obtain ⟨vs, h1, h3, h4, h5⟩ := h
  exact ⟨vs, World.ownsRow.kept h1 (only_of_below k none) (by cases hv : v.ownBlock <;> simp), fun i hi => (h3 i hi).keep k, h4, h5⟩
theorem RRowB.kept {w w' : World} {B C : Nat} {v : Value} {L : Nat} {f : Nat → List Int} {row : Option Nat} (h : RRowB w B C v L f) (hg : w.grownBy w' row) (hr : ∀ k, row = some k → k < B) : RRowB w' B C v L f := by
  obtain ⟨vs, h1, h3, h4, h5⟩ := h
  have ne : ∀ {u : Value}, (∀ k, u.ownBlock = some k → B ≤ k) → u.ownBlock = none ∨ u.ownBlock ≠ row := fun {u} hu => by
    cases e : u.ownBlock with
    | none => exact .inl rfl
    | some q =>
      refine .inr fun e' => ?_
      have a1 := hu q e
      have a2 := hr q e'.symm
      omega
  exact ⟨vs, World.ownsRow.kept h1 hg (ne fun k e => (World.ownsRow.lt h1 k e).1), fun i hi => World.ownsRow.kept (h3 i hi) hg (ne fun k e => (World.ownsRow.lt (h3 i hi) k e).1), h4, h5⟩

set_option maxHeartbeats 400000 in
theorem markIntSS_out (v : Value) (k : Int) (L : Nat) (f : Nat → List Int) (B C : Nat) (w : World) (h : RRowB w B C v L f) (hB : B ≤ w.heap.size) (k0 : 0 ≤ k) (k1 : k + (tot f L : Nat) ≤ 4611686018427387904) :
    Calls Try.prog 62 #[v, .int .i64 k] w fun e w' => e = .returned (.int .i64 (k + (tot f L : Nat))) ∧ Out B C w w' := by
  have hl := h.toF.len_le
  by_cases hx : 0 < L
  · obtain ⟨g, cap, rfl, _, _, _, _, _⟩ := h.toF.open_ hx
    obtain ⟨vs, h1, h3, h4, h5⟩ := h
    have H5 := Lib.hid h5
    have H1 := Lib.hid h1
    have H3 := Lib.hid h3
    have H4 := Lib.hid h4
    have hcl := h1.1
    clear h1 h3 h4 h5
    go_enter Try.func62, Try.ntmps62
    go_wp2
    go_loopw [1, 5] (fun c i wr => ∃ j : Nat, j ≤ L ∧ c = .int .i64 (k + (tot f j : Nat)) ∧ i = .int .i64 j ∧ wr.ownsRow B 25 1 (.slice (some ⟨g, 0, none⟩) L cap) L vs ∧ (∀ m, m < L → IRow wr B (vs.getD m (.bool false)) (mixF k f j m)) ∧ Out B C w wr) (fun _ i _ => L - (intOf i).toNat)
    case atStart => exact ⟨0, Nat.zero_le _, by simp [tot], rfl, H1.out, fun m hm => by simpa [mixF] using H3.out m hm, Out.refl _ _ _⟩
    case round =>
      obtain ⟨j, hj, rfl, rfl, hO, hI, hW⟩ := hrel
      have HO := Lib.hid hO
      have HI := Lib.hid hI
      have hsz : B ≤ wr.heap.size := Nat.le_trans hB hW.size
      have HW := Lib.hid hW
      clear hI hW
      by_cases hlt : j < L
      · have c1 : wr.cell? ⟨g, j, none⟩ = some (vs.getD j (.bool false)) := by
          rw [hO.cellAt j (by omega)]
          simp [List.getD, show j < vs.length by omega]
        clear hO
        have i1 := Lib.hid (HI.out j hlt)
        obtain ⟨v1, hv1⟩ : ∃ v1, vs.getD j (.bool false) = v1 := ⟨_, rfl⟩
        rw [hv1] at c1 i1
        have HV := Lib.hid hv1
        clear hv1
        have hlt' : (j : Int) < (L : Int) := by omega
        have t1 := tot_mono f (show j + 1 ≤ L from hlt)
        have E1 := Lib.hid (show (k + (tot f j : Nat) + ((f j).length : Nat) : Int) = k + (tot f (j + 1) : Nat) by simp only [tot]; omega)
        have t3 : tot f j + (f j).length ≤ tot f L := t1
        have hx1 : (mixF k f j j).length = (f j).length := by simp [mixF]
        have hx2 : numF k f j = nums (k + (tot f j : Nat)) (f j).length := rfl
        have HX1 := Lib.hid hx1
        have HX2 := Lib.hid hx2
        clear hx1 hx2 t1
        go_wp2_with fail
        refine (markIntS_any _ _ _ _ _ i1.out (by omega) (by rw [HX1.out]; omega)).mono ?_
        rintro e w1 ⟨rfl, hi1, hg1, hs1⟩
        rw [HX1.out] at hi1
        rw [HX1.out]
        obtain ⟨q1, q2, q3⟩ := RRowF.numbered hlt HO.out HI.out H4.out (by rw [HX2.out, HV.out]; exact hi1) (by rw [HV.out]; exact hg1) hsz
        replace q3 := Out.ofGrown (B := B) (C := C) hg1 (fun q e => ⟨(World.ownsRow.lt i1.out q e).1, H5.out j hlt q (by rw [HV.out]; exact e)⟩)
        have hs2 : B ≤ w1.heap.size := by omega
        have Q1 := Lib.hid q1
        have Q2 := Lib.hid q2
        have Q3 := Lib.hid q3
        clear hi1 hg1 hs1 q1 q2 q3
        go_wp2
        go_roundw
        case rel => exact ⟨j + 1, by omega, congrArg (Value.int .i64) E1.out, by go_num, Q1.out, Q2.out, HW.out.trans Q3.out⟩
        case measure => simp only [intOf]; omega
      · obtain rfl : j = L := by omega
        clear hO
        go_wp2
        go_ret
        exact ⟨rfl, HW.out⟩
  · obtain rfl : L = 0 := by omega
    obtain ⟨a, c, rfl⟩ := h.toF.empty
    clear h
    go_enter Try.func62, Try.ntmps62
    go_wp2
    go_loopw [1, 5] (fun c i wr => c = .int .i64 k ∧ i = .int .i64 0 ∧ wr = w) (fun _ _ _ => 0)
    case atStart => exact ⟨rfl, rfl, rfl⟩
    case round =>
      obtain ⟨rfl, rfl, rfl⟩ := hrel
      go_wp2
      go_ret
      exact ⟨by simp [tot], Out.refl _ _ _⟩
end Go.Proofs.Ytfcllmlecnffdaa
