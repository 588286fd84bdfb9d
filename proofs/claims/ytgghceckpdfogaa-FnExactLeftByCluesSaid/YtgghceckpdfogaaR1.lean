/- Slices of integers that a call made: held against each other, numbered, and read back. -/
import Derived.Test.YtgghceckpdfogaaC1
namespace Go.Proofs.Ytgghceckpdfogaa
open Go.RowKit

theorem quiet_dr {P : Program} {f : FuncId} {args : Array Value} {w : World} {n : Nat} {v : Value}
    (h : Calls P f args (w.drewN n) fun e w' => e = .returned v ∧ ∃ m, w' = (w.drewN n).drewN m) : Calls P f args (w.drewN n) fun e w'' => e = .returned v ∧ ∃ m, w'' = w.drewN m :=
  h.mono fun _ _ ⟨he, m, hm⟩ => ⟨he, n + m, by rw [hm, World.drewN_drewN]⟩
theorem quiet_dr2 {P : Program} {f : FuncId} {args : Array Value} {w : World} {a n : Nat} {v : Value}
    (h : Calls P f args (w.drewN (a + n)) fun e w' => e = .returned v ∧ ∃ m, w' = (w.drewN (a + n)).drewN m) : Calls P f args (w.drewN (a + n)) fun e w'' => e = .returned v ∧ ∃ m, w'' = w.drewN (a + m) :=
  h.mono fun _ _ ⟨he, m, hm⟩ => ⟨he, n + m, by rw [hm, World.drewN_drewN, Nat.add_assoc]⟩
/-- 'v' is a slice of ints of the call's own, in a block from B on, with the elements xs. -/
def IRow (w : World) (B : Nat) (v : Value) (xs : List Int) : Prop := w.ownsRow B 3 1 v xs.length (xs.map (Value.int .i64))
def nums (k : Int) (n : Nat) : List Int := (List.range n).map fun (i : Nat) => k + (i : Int)
theorem nums_length (k : Int) (n : Nat) : (nums k n).length = n := by simp [nums]
theorem only_of_below {a w : World} (h : Below a.heap.size a w) (row : Option Nat) : a.grownBy w row := ⟨h.os, h.tape, h.output, h.size, fun i hi _ => h.block i hi⟩
theorem IRow.keep {w w' : World} {B : Nat} {v : Value} {xs : List Int} (h : IRow w B v xs) (k : Below w.heap.size w w') : IRow w' B v xs :=
  World.ownsRow.kept h (only_of_below k none) (by cases hv : v.ownBlock <;> simp)
theorem IRow.open_ {w : World} {B : Nat} {v : Value} {xs : List Int} (h : IRow w B v xs) :
    (v = .slice none 0 0 ∧ xs = []) ∨ ∃ g cap cur, v = .slice (some ⟨g, 0, none⟩) xs.length cap ∧ B ≤ g ∧ g < w.heap.size ∧ xs.length ≤ cap ∧ cap ≤ maxLen ∧ w.heap[g]? = some (.cells cur 3 (0, 0)) ∧ cur.size = cap ∧
      (∀ i, i < xs.length → w.cell? ⟨g, i, none⟩ = some (.int .i64 (xs.getD i 0))) ∧ ∀ i, w.frozen? ⟨g, i, none⟩ = false := by
  obtain ⟨_, ⟨rfl, hn⟩ | ⟨g, cap, cur, rfl, hB, hg, hn, hm, hs, ht⟩⟩ := h
  · exact .inl ⟨rfl, by simpa using hn⟩
  · refine .inr ⟨g, cap, cur, rfl, hB, (Array.getElem?_eq_some_iff.1 hg).1, hn, hm, hg, by simpa using hs, fun i hi => ?_, fun i => ?_⟩
    · have h1 : cur[i]? = some (.int .i64 (xs.getD i 0)) := by
        have h2 : (cur.toList.take (xs.length * 1))[i]? = some (.int .i64 (xs.getD i 0)) := by
          rw [ht]; simp [List.getD, hi]
        rw [List.getElem?_take] at h2
        simpa [hi] using h2
      simp [World.cell?, hg, h1]
    · simp [World.frozen?, hg]

theorem IRow.empty {w : World} {B : Nat} {v : Value} (h : IRow w B v []) : ∃ a c, v = .slice a 0 c := by
  rcases h.open_ with ⟨rfl, _⟩ | ⟨g, cap, cur, rfl, _⟩
  · exact ⟨_, _, rfl⟩
  · exact ⟨_, _, rfl⟩
theorem IRow.some_ {w : World} {B : Nat} {v : Value} {xs : List Int} (h : IRow w B v xs) (hx : 0 < xs.length) : ∃ g cap, v = .slice (some ⟨g, 0, none⟩) xs.length cap ∧ B ≤ g ∧ g < w.heap.size ∧ xs.length ≤ cap ∧ cap ≤ maxLen ∧
      (∀ i, i < xs.length → w.cell? ⟨g, i, none⟩ = some (.int .i64 (xs.getD i 0))) ∧ ∀ i, w.frozen? ⟨g, i, none⟩ = false := by
  rcases h.open_ with ⟨_, rfl⟩ | ⟨g, cap, cur, rfl, h1, h2, h3, h4, h5, h6, h7, h8⟩
  · simp at hx
  · exact ⟨g, cap, rfl, h1, h2, h3, h4, h7, h8⟩
theorem IRow.len_le {w : World} {B : Nat} {v : Value} {xs : List Int} (h : IRow w B v xs) : xs.length ≤ 9223372036854775807 := by
  rcases h.open_ with ⟨_, rfl⟩ | ⟨g, cap, cur, rfl, h1, h2, h3, h4, _⟩
  · simp
  · unfold maxLen at h4; omega

set_option maxHeartbeats 400000 in
theorem eqIntS_any (v u : Value) (xs : List Int) (B C : Nat) (w : World) (h1 : IRow w B v xs) (h2 : IRow w C u xs) :
    Calls Try.prog 46 #[v, u] w fun e w' => e = .returned (.bool true) ∧ ∃ n, w' = w.drewN n := by
  by_cases hx : 0 < xs.length
  · obtain ⟨g, cap, rfl, hB, hgs, hn, hm, hc, hf⟩ := h1.some_ hx
    obtain ⟨g', cap', rfl, hB', hgs', hn', hm', hc', hf'⟩ := h2.some_ hx
    unfold maxLen at hm
    clear h1 h2 hf hf' hB hB' hgs hgs' hm'
    have HC := Lib.hid hc
    have HC' := Lib.hid hc'
    clear hc hc'
    go_enter Try.func46, Try.ntmps46
    go_wp2
    go_loopw [5] (fun i wr => ∃ k n : Nat, k ≤ xs.length ∧ i = .int .i64 k ∧ wr = w.drewN n) (fun i _ => xs.length - (intOf i).toNat)
    case atStart => exact ⟨0, 0, Nat.zero_le _, rfl, rfl⟩
    case round =>
      obtain ⟨k, n, hk, rfl, rfl⟩ := hrel
      by_cases hlt : k < xs.length
      · have c1 := HC.out k hlt
        have c2 := HC'.out k hlt
        have hlt' : (k : Int) < (xs.length : Int) := by omega
        go_wp2_with fail
        go_quiet (fail)
        go_wp2
        exact ⟨⟨k + 1, n + nq, by omega, by go_num, by simp⟩, by simp only [intOf]; omega⟩
      · obtain rfl : k = xs.length := by omega
        go_wp2
        go_ret
        exact ⟨rfl, n, rfl⟩
  · obtain rfl : xs = [] := by cases xs <;> simp_all
    obtain ⟨a, c, rfl⟩ := h1.empty
    obtain ⟨a', c', rfl⟩ := h2.empty
    go_enter Try.func46, Try.ntmps46
    go_wp2
    go_loopw [5] (fun i wr => i = .int .i64 0 ∧ wr = w) (fun i _ => 0)
    case atStart => exact ⟨rfl, rfl⟩
    case round =>
      obtain ⟨rfl, rfl⟩ := hrel
      go_wp2
      go_ret
      exact ⟨rfl, 0, rfl⟩

theorem nums_getD (k : Int) (n i : Nat) (h : i < n) : (nums k n).getD i 0 = k + i := by
  simp [nums, List.getD, h]
set_option maxHeartbeats 400000 in
theorem heldIntS_any (v : Value) (k : Int) (n : Nat) (B : Nat) (w : World) (h : IRow w B v (nums k n)) (k0 : 0 ≤ k) (k1 : k + n ≤ 4611686018427387904) :
    Calls Try.prog 48 #[v, .int .i64 k] w fun e w' => e = .returned (.int .i64 (k + n)) ∧ ∃ n, w' = w.drewN n := by
  have hl := h.len_le
  by_cases hx : 0 < n
  · obtain ⟨g, cap, hv, hB, hgs, hn, hm, hc, hf⟩ := h.some_ (by rw [nums_length]; exact hx)
    rw [nums_length] at hv hl hc
    subst hv
    clear h hf hB hgs hm hn
    have HC := Lib.hid hc
    clear hc
    go_enter Try.func48, Try.ntmps48
    go_wp2
    go_loopw [1, 5] (fun c i wr => ∃ j m : Nat, j ≤ n ∧ c = .int .i64 (k + j) ∧ i = .int .i64 j ∧ wr = w.drewN m) (fun _ i _ => n - (intOf i).toNat)
    case atStart => exact ⟨0, 0, Nat.zero_le _, by simp, rfl, rfl⟩
    case round =>
      obtain ⟨j, m, hj, rfl, rfl, rfl⟩ := hrel
      by_cases hlt : j < n
      · have c1 := HC.out j hlt
        rw [nums_getD k n j hlt] at c1
        have hlt' : (j : Int) < (n : Int) := by omega
        go_wp2
        go_roundw
        case rel => exact ⟨j + 1, m, by omega, by go_num, by go_num, rfl⟩
        case measure => simp only [intOf]; omega
      · obtain rfl : j = n := by omega
        go_wp2
        go_ret
        exact ⟨rfl, m, rfl⟩
  · obtain rfl : n = 0 := by omega
    obtain ⟨a, c, rfl⟩ := (show IRow w B v [] from h).empty
    go_enter Try.func48, Try.ntmps48
    go_wp2
    go_loopw [1, 5] (fun c i wr => c = .int .i64 k ∧ i = .int .i64 0 ∧ wr = w) (fun _ _ _ => 0)
    case atStart => exact ⟨rfl, rfl, rfl⟩
    case round =>
      obtain ⟨rfl, rfl, rfl⟩ := hrel
      go_wp2
      go_ret
      exact ⟨by simp, 0, rfl⟩

theorem mix_zero (k : Int) (xs : List Int) : nums k 0 ++ xs.drop 0 = xs := by simp [nums]
theorem mix_end (k : Int) (xs : List Int) : nums k xs.length ++ xs.drop xs.length = nums k xs.length := by simp
theorem nums_succ (k : Int) (j : Nat) : nums k (j + 1) = nums k j ++ [k + (j : Int)] := by simp [nums, List.range_succ]
theorem mix_len (k : Int) (xs : List Int) (j : Nat) (h : j ≤ xs.length) : (nums k j ++ xs.drop j).length = xs.length := by simp [nums_length]; omega
theorem mix_set (k : Int) (xs : List Int) (j : Nat) (h : j < xs.length) : (nums k j ++ xs.drop j).set j (k + j) = nums k (j + 1) ++ xs.drop (j + 1) := by
  rw [List.set_append_right _ _ (by simp [nums_length]), nums_length, Nat.sub_self, nums_succ, List.drop_eq_getElem_cons h, List.set_cons_zero, List.append_assoc, List.singleton_append]
theorem IRow.stored {w : World} {B g n cap : Nat} {xs : List Int} (h : IRow w B (.slice (some ⟨g, 0, none⟩) n cap) xs) (hn : xs.length = n) (j : Nat) (x : Int) :
    IRow (w.setCell ⟨g, j, none⟩ (.int .i64 x)) B (.slice (some ⟨g, 0, none⟩) n cap) (xs.set j x) := by
  subst hn
  have := World.ownsRow.stored h j (.int .i64 x)
  unfold IRow
  rw [List.length_set, List.map_set]
  exact this.1
theorem IRow.stored_grown {w : World} {B g n cap : Nat} {xs : List Int} (h : IRow w B (.slice (some ⟨g, 0, none⟩) n cap) xs) (hn : xs.length = n) (j : Nat) (x : Int) :
    w.grownBy (w.setCell ⟨g, j, none⟩ (.int .i64 x)) (some g) := by
  subst hn
  exact (World.ownsRow.stored h j (.int .i64 x)).2
theorem grown_trans' {a b c : World} {row : Option Nat} (h : a.grownBy b row) (k : b.grownBy c row) : a.grownBy c row :=
  ⟨k.os.trans h.os, k.tape.trans h.tape, k.output.trans h.output, Nat.le_trans h.size k.size, fun i hi hn => (k.block i (Nat.lt_of_lt_of_le hi h.size) hn).trans (h.block i hi hn)⟩
theorem grown_refl' (a : World) (row : Option Nat) : a.grownBy a row := ⟨rfl, rfl, rfl, Nat.le_refl _, fun _ _ _ => rfl⟩

set_option maxHeartbeats 400000 in
theorem markIntS_any (v : Value) (k : Int) (xs : List Int) (B : Nat) (w : World) (h : IRow w B v xs) (k0 : 0 ≤ k) (k1 : k + xs.length ≤ 4611686018427387904) :
    Calls Try.prog 47 #[v, .int .i64 k] w fun e w' => e = .returned (.int .i64 (k + xs.length)) ∧ IRow w' B v (nums k xs.length) ∧ w.grownBy w' v.ownBlock ∧ w'.heap.size = w.heap.size := by
  have hl := h.len_le
  by_cases hx : 0 < xs.length
  · obtain ⟨g, cap, rfl, hB, hgs, hn, hm, hc, hf⟩ := h.some_ hx
    clear hm hn hc
    have HH := Lib.hid h
    clear h
    generalize hL : xs.length = L at *
    have HL := Lib.hid hL
    clear hL
    go_enter Try.func47, Try.ntmps47
    go_wp2
    go_loopw [1, 5] (fun c i wr => ∃ j : Nat, j ≤ L ∧ c = .int .i64 (k + j) ∧ i = .int .i64 j ∧ IRow wr B (.slice (some ⟨g, 0, none⟩) L cap) (nums k j ++ xs.drop j) ∧ w.grownBy wr (some g) ∧ wr.heap.size = w.heap.size) (fun _ i _ => L - (intOf i).toNat)
    case atStart => exact ⟨0, Nat.zero_le _, by simp, rfl, by rw [mix_zero]; exact HH.out, ⟨rfl, rfl, rfl, Nat.le_refl _, fun _ _ _ => rfl⟩, rfl⟩
    case round =>
      obtain ⟨j, hj, rfl, rfl, hI, hG, hS⟩ := hrel
      by_cases hlt : j < L
      · have HI := Lib.hid hI
        have HG := Lib.hid hG
        have HS := Lib.hid hS
        obtain ⟨g1, cap1, e1, _, _, _, _, c1, f1⟩ := hI.some_ (by rw [mix_len _ _ _ (by rw [HL.out]; exact hj), HL.out]; omega)
        rw [mix_len _ _ _ (by rw [HL.out]; exact hj), HL.out] at e1
        simp only [Value.slice.injEq, Option.some.injEq, Addr.mk.injEq] at e1
        obtain ⟨⟨rfl, _⟩, _, rfl⟩ := e1
        have c2 := c1 j (by rw [mix_len _ _ _ (by rw [HL.out]; exact hj), HL.out]; exact hlt)
        have f2 := f1 j
        clear c1 f1 hI hG hS
        have hlt' : (j : Int) < (L : Int) := by omega
        go_wp2
        go_roundw
        case rel =>
          refine ⟨j + 1, by omega, by go_num, by go_num, ?_, ?_, ?_⟩
          · rw [← mix_set k xs j (by rw [HL.out]; exact hlt)]
            exact HI.out.stored (by rw [mix_len _ _ _ (by rw [HL.out]; exact hj), HL.out]) _ _
          · exact grown_trans' HG.out (HI.out.stored_grown (by rw [mix_len _ _ _ (by rw [HL.out]; exact hj), HL.out]) _ _)
          · simp [World.setCell, HS.out]
        case measure => simp only [intOf]; omega
      · obtain rfl : j = L := by omega
        have HI := Lib.hid hI
        have HG := Lib.hid hG
        have HS := Lib.hid hS
        clear hI hG hS
        go_wp2
        go_ret
        refine ⟨rfl, ?_, HG.out, HS.out⟩
        have := HI.out
        rw [← HL.out, mix_end] at this
        rw [← HL.out]; exact this
  · obtain rfl : xs = [] := by cases xs <;> simp_all
    obtain ⟨a, c, rfl⟩ := h.empty
    have HH := Lib.hid h
    clear h
    go_enter Try.func47, Try.ntmps47
    go_wp2
    go_loopw [1, 5] (fun c i wr => c = .int .i64 k ∧ i = .int .i64 0 ∧ wr = w) (fun _ _ _ => 0)
    case atStart => exact ⟨rfl, rfl, rfl⟩
    case round =>
      obtain ⟨rfl, rfl, rfl⟩ := hrel
      go_wp2
      go_ret
      exact ⟨by simp, HH.out, grown_refl' _ _, rfl⟩

/-! ### slices of such slices -/
/-- 'v' is a slice of L slices of ints of the call's own, the i-th with the elements f i, each in a block of its own from B on. -/
def RRowF (w : World) (B : Nat) (v : Value) (L : Nat) (f : Nat → List Int) : Prop :=
  ∃ vs : List Value, w.ownsRow B 60 1 v L vs ∧ (∀ i, i < L → IRow w B (vs.getD i (.bool false)) (f i)) ∧
    ∀ i j, i < j → j < L → (vs.getD i (.bool false)).ownBlock = none ∨ (vs.getD i (.bool false)).ownBlock ≠ (vs.getD j (.bool false)).ownBlock
def RRow (w : World) (B : Nat) (v : Value) (rs : List (List Int)) : Prop := RRowF w B v rs.length fun i => rs.getD i []
theorem RRowF.keep {w w' : World} {B : Nat} {v : Value} {L : Nat} {f : Nat → List Int} (h : RRowF w B v L f) (k : Below w.heap.size w w') : RRowF w' B v L f := by
  obtain ⟨vs, h1, h3, h4⟩ := h
  exact ⟨vs, World.ownsRow.kept h1 (only_of_below k none) (by cases hv : v.ownBlock <;> simp), fun i hi => (h3 i hi).keep k, h4⟩
theorem RRowF.drewN {w : World} {B : Nat} {v : Value} {L : Nat} {f : Nat → List Int} (h : RRowF w B v L f) (n : Nat) : RRowF (w.drewN n) B v L f := h
theorem RRowF.open_ {w : World} {B : Nat} {v : Value} {L : Nat} {f : Nat → List Int} (h : RRowF w B v L f) (hx : 0 < L) :
    ∃ g cap, v = .slice (some ⟨g, 0, none⟩) L cap ∧ B ≤ g ∧ g < w.heap.size ∧ L ≤ cap ∧ cap ≤ maxLen ∧
      ∃ vs : List Value, (∀ i, i < L → w.cell? ⟨g, i, none⟩ = some (vs.getD i (.bool false))) ∧ ∀ i, i < L → IRow w B (vs.getD i (.bool false)) (f i) := by
  obtain ⟨vs, h1, h3, h4⟩ := h
  have h1' := h1
  obtain ⟨h2, ⟨rfl, hn⟩ | ⟨g, cap, cur, rfl, hB, hg, hn, hm, hs, ht⟩⟩ := h1
  · omega
  · refine ⟨g, cap, rfl, hB, (Array.getElem?_eq_some_iff.1 hg).1, hn, hm, vs, fun i hi => ?_, h3⟩
    rw [h1'.cellAt i (by omega)]
    simp [List.getD, show i < vs.length by omega]
theorem RRowF.empty {w : World} {B : Nat} {v : Value} {f : Nat → List Int} (h : RRowF w B v 0 f) : ∃ a c, v = .slice a 0 c := by
  obtain ⟨vs, ⟨_, ⟨rfl, hn⟩ | ⟨g, cap, cur, rfl, _⟩⟩, _⟩ := h
  · exact ⟨_, _, rfl⟩
  · exact ⟨_, _, rfl⟩
theorem RRowF.len_le {w : World} {B : Nat} {v : Value} {L : Nat} {f : Nat → List Int} (h : RRowF w B v L f) : L ≤ 9223372036854775807 := by
  by_cases hx : 0 < L
  · obtain ⟨g, cap, _, _, _, h1, h2, _⟩ := h.open_ hx
    unfold maxLen at h2; omega
  · omega
/-- how many numbers the first i have together -/
def tot (f : Nat → List Int) : Nat → Nat
  | 0 => 0
  | i + 1 => tot f i + (f i).length
theorem tot_mono (f : Nat → List Int) {i j : Nat} (h : i ≤ j) : tot f i ≤ tot f j := by
  induction j with
  | zero => obtain rfl : i = 0 := by omega
            exact Nat.le_refl _
  | succ j ih =>
    by_cases e : i = j + 1
    · subst e; exact Nat.le_refl _
    · have := ih (by omega)
      simp only [tot]; omega
def numF (k : Int) (f : Nat → List Int) (i : Nat) : List Int := nums (k + (tot f i : Nat)) (f i).length
/-- the first i numbered, the others as they are -/
def mixF (k : Int) (f : Nat → List Int) (i j : Nat) : List Int := if j < i then numF k f j else f j
/-- One of the slices is numbered, all else stands. -/
theorem RRowF.numbered {w w' : World} {B : Nat} {v : Value} {L : Nat} {k : Int} {f : Nat → List Int} {i : Nat} (hi : i < L) {vs : List Value}
    (h1 : w.ownsRow B 60 1 v L vs) (h3 : ∀ j, j < L → IRow w B (vs.getD j (.bool false)) (mixF k f i j))
    (h4 : ∀ i j, i < j → j < L → (vs.getD i (.bool false)).ownBlock = none ∨ (vs.getD i (.bool false)).ownBlock ≠ (vs.getD j (.bool false)).ownBlock)
    (hI : IRow w' B (vs.getD i (.bool false)) (numF k f i)) (hg : w.grownBy w' (vs.getD i (.bool false)).ownBlock) (hB : B ≤ w.heap.size) :
    w'.ownsRow B 60 1 v L vs ∧ (∀ j, j < L → IRow w' B (vs.getD j (.bool false)) (mixF k f (i + 1) j)) ∧ Below B w w' := by
  refine ⟨World.ownsRow.kept h1 hg ?_, fun j hj => ?_, (Below.refl _ _).grown hg hB fun g e => ?_⟩
  · rcases (h3 i hi).open_ with ⟨e, _⟩ | ⟨g, cap, cur, e, _, _, _, _, hc, _⟩
    · rw [e]; cases hv : v.ownBlock <;> simp [Value.ownBlock]
    · rw [e]
      obtain ⟨_, ⟨rfl, _⟩ | ⟨g', cap', cur', rfl, _, hc', _⟩⟩ := h1
      · exact .inl rfl
      · refine .inr fun e' => ?_
        simp only [Value.ownBlock, Option.some.injEq] at e'
        subst e'
        rw [hc] at hc'
        simp at hc'
  · by_cases e : j = i
    · subst e
      simpa [mixF] using hI
    · have := h3 j hj
      have hm : mixF k f (i + 1) j = mixF k f i j := by
        unfold mixF
        by_cases c : j < i
        · rw [if_pos c, if_pos (by omega)]
        · rw [if_neg c, if_neg (by omega)]
      rw [hm]
      refine World.ownsRow.kept this hg ?_
      rcases Nat.lt_or_gt_of_ne e with c | c
      · exact h4 j i c hi
      · rcases h4 i j c hj with h | h
        · rw [h]; cases (vs.getD j (.bool false)).ownBlock <;> simp
        · exact .inr (Ne.symm h)
  · exact ((h3 i hi).lt g e).1



end Go.Proofs.Ytgghceckpdfogaa
