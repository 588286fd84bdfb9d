/- Slices of integers that a call made: held against each other, numbered, and read back. -/
import Derived.Test.YtbnkigponkelpaaC1
namespace Go.Proofs.Ytbnkigponkelpaa
open Go.RowKit

theorem quiet_dr {P : Program} {f : FuncId} {args : Array Value} {w : World} {n : Nat} {v : Value}
    (h : Calls P f args (w.drewN n) fun e w' => e = .returned v ∧ ∃ m, w' = (w.drewN n).drewN m) : Calls P f args (w.drewN n) fun e w'' => e = .returned v ∧ ∃ m, w'' = w.drewN m :=
  h.mono fun _ _ ⟨he, m, hm⟩ => ⟨he, n + m, by rw [hm, World.drewN_drewN]⟩
theorem quiet_dr2 {P : Program} {f : FuncId} {args : Array Value} {w : World} {a n : Nat} {v : Value}
    (h : Calls P f args (w.drewN (a + n)) fun e w' => e = .returned v ∧ ∃ m, w' = (w.drewN (a + n)).drewN m) : Calls P f args (w.drewN (a + n)) fun e w'' => e = .returned v ∧ ∃ m, w'' = w.drewN (a + m) :=
  h.mono fun _ _ ⟨he, m, hm⟩ => ⟨he, n + m, by rw [hm, World.drewN_drewN, Nat.add_assoc]⟩
/-- 'v' is a slice of ints of the call's own, in a block from B on, with the elements xs. -/
def IRow (w : World) (B : Nat) (v : Value) (xs : List Int) : Prop := w.ownsRow B 3 1 v xs.length (xs.map (Value.int .i64))
def nums (k : Int) (n : Nat) : List Int := (List.range n).map fun (i : Nat) => k + (i : Int)
theorem nums_length (k : Int) (n : Nat) : (nums k n).length = n := by simp [nums]
theorem only_of_below {a w : World} (h : Below a.heap.size a w) (row : Option Nat) : a.grownBy w row := ⟨h.os, h.tape, h.output, h.size, fun i hi _ => h.block i hi⟩
theorem IRow.keep {w w' : World} {B : Nat} {v : Value} {xs : List Int} (h : IRow w B v xs) (k : Below w.heap.size w w') : IRow w' B v xs :=
  World.ownsRow.kept h (only_of_below k none) (by cases hv : v.ownBlock <;> simp)
theorem IRow.open_ {w : World} {B : Nat} {v : Value} {xs : List Int} (h : IRow w B v xs) :
    (v = .slice none 0 0 ∧ xs = []) ∨ ∃ g cap cur, v = .slice (some ⟨g, 0, none⟩) xs.length cap ∧ B ≤ g ∧ g < w.heap.size ∧ xs.length ≤ cap ∧ cap ≤ maxLen ∧ w.heap[g]? = some (.cells cur 3 (0, 0)) ∧ cur.size = cap ∧
      (∀ i, i < xs.length → w.cell? ⟨g, i, none⟩ = some (.int .i64 (xs.getD i 0))) ∧ ∀ i, w.frozen? ⟨g, i, none⟩ = false := by
  obtain ⟨_, ⟨rfl, hn⟩ | ⟨g, cap, cur, rfl, hB, hg, hn, hm, hs, ht⟩⟩ := h
  · exact .inl ⟨rfl, by simpa using hn⟩
  · refine .inr ⟨g, cap, cur, rfl, hB, (Array.getElem?_eq_some_iff.1 hg).1, hn, hm, hg, by simpa using hs, fun i hi => ?_, fun i => ?_⟩
    · have h1 : cur[i]? = some (.int .i64 (xs.getD i 0)) := by
        have h2 : (cur.toList.take (xs.length * 1))[i]? = some (.int .i64 (xs.getD i 0)) := by
          rw [ht]; simp [List.getD, hi]
        rw [List.getElem?_take] at h2
        simpa [hi] using h2
      simp [World.cell?, hg, h1]
    · simp [World.frozen?, hg]

theorem IRow.empty {w : World} {B : Nat} {v : Value} (h : IRow w B v []) : ∃ a c, v = .slice a 0 c := by
  rcases h.open_ with ⟨rfl, _⟩ | ⟨g, cap, cur, rfl, _⟩
  · exact ⟨_, _, rfl⟩
  · exact ⟨_, _, rfl⟩
theorem IRow.some_ {w : World} {B : Nat} {v : Value} {xs : List Int} (h : IRow w B v xs) (hx : 0 < xs.length) : ∃ g cap, v = .slice (some ⟨g, 0, none⟩) xs.length cap ∧ B ≤ g ∧ g < w.heap.size ∧ xs.length ≤ cap ∧ cap ≤ maxLen ∧
      (∀ i, i < xs.length → w.cell? ⟨g, i, none⟩ = some (.int .i64 (xs.getD i 0))) ∧ ∀ i, w.frozen? ⟨g, i, none⟩ = false := by
  rcases h.open_ with ⟨_, rfl⟩ | ⟨g, cap, cur, rfl, h1, h2, h3, h4, h5, h6, h7, h8⟩
  · simp at hx
  · exact ⟨g, cap, rfl, h1, h2, h3, h4, h7, h8⟩
theorem IRow.len_le {w : World} {B : Nat} {v : Value} {xs : List Int} (h : IRow w B v xs) : xs.length ≤ 9223372036854775807 := by
  rcases h.open_ with ⟨_, rfl⟩ | ⟨g, cap, cur, rfl, h1, h2, h3, h4, _⟩
  · simp
  · unfold maxLen at h4; omega


theorem nums_getD (k : Int) (n i : Nat) (h : i < n) : (nums k n).getD i 0 = k + i := by
  simp [nums, List.getD, h]

theorem mix_zero (k : Int) (xs : List Int) : nums k 0 ++ xs.drop 0 = xs := by simp [nums]
theorem mix_end (k : Int) (xs : List Int) : nums k xs.length ++ xs.drop xs.length = nums k xs.length := by simp
theorem nums_succ (k : Int) (j : Nat) : nums k (j + 1) = nums k j ++ [k + (j : Int)] := by simp [nums, List.range_succ]
theorem mix_len (k : Int) (xs : List Int) (j : Nat) (h : j ≤ xs.length) : (nums k j ++ xs.drop j).length = xs.length := by simp [nums_length]; omega
theorem mix_set (k : Int) (xs : List Int) (j : Nat) (h : j < xs.length) : (nums k j ++ xs.drop j).set j (k + j) = nums k (j + 1) ++ xs.drop (j + 1) := by
  rw [List.set_append_right _ _ (by simp [nums_length]), nums_length, Nat.sub_self, nums_succ, List.drop_eq_getElem_cons h, List.set_cons_zero, List.append_assoc, List.singleton_append]
theorem IRow.stored {w : World} {B g n cap : Nat} {xs : List Int} (h : IRow w B (.slice (some ⟨g, 0, none⟩) n cap) xs) (hn : xs.length = n) (j : Nat) (x : Int) :
    IRow (w.setCell ⟨g, j, none⟩ (.int .i64 x)) B (.slice (some ⟨g, 0, none⟩) n cap) (xs.set j x) := by
  subst hn
  have := World.ownsRow.stored h j (.int .i64 x)
  unfold IRow
  rw [List.length_set, List.map_set]
  exact this.1
theorem IRow.stored_grown {w : World} {B g n cap : Nat} {xs : List Int} (h : IRow w B (.slice (some ⟨g, 0, none⟩) n cap) xs) (hn : xs.length = n) (j : Nat) (x : Int) :
    w.grownBy (w.setCell ⟨g, j, none⟩ (.int .i64 x)) (some g) := by
  subst hn
  exact (World.ownsRow.stored h j (.int .i64 x)).2
theorem grown_trans' {a b c : World} {row : Option Nat} (h : a.grownBy b row) (k : b.grownBy c row) : a.grownBy c row :=
  ⟨k.os.trans h.os, k.tape.trans h.tape, k.output.trans h.output, Nat.le_trans h.size k.size, fun i hi hn => (k.block i (Nat.lt_of_lt_of_le hi h.size) hn).trans (h.block i hi hn)⟩
theorem grown_refl' (a : World) (row : Option Nat) : a.grownBy a row := ⟨rfl, rfl, rfl, Nat.le_refl _, fun _ _ _ => rfl⟩


/-! ### slices of such slices -/
/-- 'v' is a slice of L slices of ints of the call's own, the i-th with the elements f i, each in a block of its own from B on. -/
def RRowF (w : World) (B : Nat) (v : Value) (L : Nat) (f : Nat → List Int) : Prop :=
  ∃ vs : List Value, w.ownsRow B 41 1 v L vs ∧ (∀ i, i < L → IRow w B (vs.getD i (.bool false)) (f i)) ∧
    ∀ i j, i < j → j < L → (vs.getD i (.bool false)).ownBlock = none ∨ (vs.getD i (.bool false)).ownBlock ≠ (vs.getD j (.bool false)).ownBlock
def RRow (w : World) (B : Nat) (v : Value) (rs : List (List Int)) : Prop := RRowF w B v rs.length fun i => rs.getD i []
theorem RRowF.keep {w w' : World} {B : Nat} {v : Value} {L : Nat} {f : Nat → List Int} (h : RRowF w B v L f) (k : Below w.heap.size w w') : RRowF w' B v L f := by
  obtain ⟨vs, h1, h3, h4⟩ := h
  exact ⟨vs, World.ownsRow.kept h1 (only_of_below k none) (by cases hv : v.ownBlock <;> simp), fun i hi => (h3 i hi).keep k, h4⟩
theorem RRowF.drewN {w : World} {B : Nat} {v : Value} {L : Nat} {f : Nat → List Int} (h : RRowF w B v L f) (n : Nat) : RRowF (w.drewN n) B v L f := h
theorem RRowF.open_ {w : World} {B : Nat} {v : Value} {L : Nat} {f : Nat → List Int} (h : RRowF w B v L f) (hx : 0 < L) :
    ∃ g cap, v = .slice (some ⟨g, 0, none⟩) L cap ∧ B ≤ g ∧ g < w.heap.size ∧ L ≤ cap ∧ cap ≤ maxLen ∧
      ∃ vs : List Value, (∀ i, i < L → w.cell? ⟨g, i, none⟩ = some (vs.getD i (.bool false))) ∧ ∀ i, i < L → IRow w B (vs.getD i (.bool false)) (f i) := by
  obtain ⟨vs, h1, h3, h4⟩ := h
  have h1' := h1
  obtain ⟨h2, ⟨rfl, hn⟩ | ⟨g, cap, cur, rfl, hB, hg, hn, hm, hs, ht⟩⟩ := h1
  · omega
  · refine ⟨g, cap, rfl, hB, (Array.getElem?_eq_some_iff.1 hg).1, hn, hm, vs, fun i hi => ?_, h3⟩
    rw [h1'.cellAt i (by omega)]
    simp [List.getD, show i < vs.length by omega]
theorem RRowF.empty {w : World} {B : Nat} {v : Value} {f : Nat → List Int} (h : RRowF w B v 0 f) : ∃ a c, v = .slice a 0 c := by
  obtain ⟨vs, ⟨_, ⟨rfl, hn⟩ | ⟨g, cap, cur, rfl, _⟩⟩, _⟩ := h
  · exact ⟨_, _, rfl⟩
  · exact ⟨_, _, rfl⟩
theorem RRowF.len_le {w : World} {B : Nat} {v : Value} {L : Nat} {f : Nat → List Int} (h : RRowF w B v L f) : L ≤ 9223372036854775807 := by
  by_cases hx : 0 < L
  · obtain ⟨g, cap, _, _, _, h1, h2, _⟩ := h.open_ hx
    unfold maxLen at h2; omega
  · omega
/-- how many numbers the first i have together -/
def tot (f : Nat → List Int) : Nat → Nat
  | 0 => 0
  | i + 1 => tot f i + (f i).length
theorem tot_mono (f : Nat → List Int) {i j : Nat} (h : i ≤ j) : tot f i ≤ tot f j := by
  induction j with
  | zero => obtain rfl : i = 0 := by omega
            exact Nat.le_refl _
  | succ j ih =>
    by_cases e : i = j + 1
    · subst e; exact Nat.le_refl _
    · have := ih (by omega)
      simp only [tot]; omega
def numF (k : Int) (f : Nat → List Int) (i : Nat) : List Int := nums (k + (tot f i : Nat)) (f i).length
/-- the first i numbered, the others as they are -/
def mixF (k : Int) (f : Nat → List Int) (i j : Nat) : List Int := if j < i then numF k f j else f j
/-- One of the slices is numbered, all else stands. -/
theorem RRowF.numbered {w w' : World} {B : Nat} {v : Value} {L : Nat} {k : Int} {f : Nat → List Int} {i : Nat} (hi : i < L) {vs : List Value}
    (h1 : w.ownsRow B 41 1 v L vs) (h3 : ∀ j, j < L → IRow w B (vs.getD j (.bool false)) (mixF k f i j))
    (h4 : ∀ i j, i < j → j < L → (vs.getD i (.bool false)).ownBlock = none ∨ (vs.getD i (.bool false)).ownBlock ≠ (vs.getD j (.bool false)).ownBlock)
    (hI : IRow w' B (vs.getD i (.bool false)) (numF k f i)) (hg : w.grownBy w' (vs.getD i (.bool false)).ownBlock) (hB : B ≤ w.heap.size) :
    w'.ownsRow B 41 1 v L vs ∧ (∀ j, j < L → IRow w' B (vs.getD j (.bool false)) (mixF k f (i + 1) j)) ∧ Below B w w' := by
  refine ⟨World.ownsRow.kept h1 hg ?_, fun j hj => ?_, (Below.refl _ _).grown hg hB fun g e => ?_⟩
  · rcases (h3 i hi).open_ with ⟨e, _⟩ | ⟨g, cap, cur, e, _, _, _, _, hc, _⟩
    · rw [e]; cases hv : v.ownBlock <;> simp [Value.ownBlock]
    · rw [e]
      obtain ⟨_, ⟨rfl, _⟩ | ⟨g', cap', cur', rfl, _, hc', _⟩⟩ := h1
      · exact .inl rfl
      · refine .inr fun e' => ?_
        simp only [Value.ownBlock, Option.some.injEq] at e'
        subst e'
        rw [hc] at hc'
        simp at hc'
  · by_cases e : j = i
    · subst e
      simpa [mixF] using hI
    · have := h3 j hj
      have hm : mixF k f (i + 1) j = mixF k f i j := by
        unfold mixF
        by_cases c : j < i
        · rw [if_pos c, if_pos (by omega)]
        · rw [if_neg c, if_neg (by omega)]
      rw [hm]
      refine World.ownsRow.kept this hg ?_
      rcases Nat.lt_or_gt_of_ne e with c | c
      · exact h4 j i c hi
      · rcases h4 i j c hj with h | h
        · rw [h]; cases (vs.getD j (.bool false)).ownBlock <;> simp
        · exact .inr (Ne.symm h)
  · exact ((h3 i hi).lt g e).1



end Go.Proofs.Ytbnkigponkelpaa
