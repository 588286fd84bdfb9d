/- Slices of slices of integers that a call appends to; pairs of heights. -/
import Derived.Test.YtdlknbdgbmjkpaaR1
namespace Go.Proofs.Ytdlknbdgbmjkpaa
open Go.RowKit
theorem infoIS : (Try.prog.info? 59).map (fun i => (i.zero, i.size, i.bytes)) = some (some (.slice none 0 0), 1, 24) := by kernel_rfl
theorem infoI : (Try.prog.info? 3).map (fun i => (i.zero, i.size, i.bytes)) = some (some (.int .i64 0), 1, 8) := by kernel_rfl

theorem RRowF.congr {w : World} {B : Nat} {v : Value} {L : Nat} {f g : Nat → List Int} (h : RRowF w B v L f) (e : ∀ i, i < L → f i = g i) : RRowF w B v L g := by
  obtain ⟨vs, h1, h3, h4⟩ := h
  exact ⟨vs, h1, fun i hi => by rw [← e i hi]; exact h3 i hi, h4⟩
theorem RRow.nil (w : World) (B : Nat) : RRow w B (.slice none 0 0) [] :=
  ⟨[], World.ownsRow_nil w B _ 1, fun i hi => absurd hi (by simp), fun i j _ hj => absurd hj (by simp)⟩
/-- A slice of ints in a block that is made anew. -/
theorem IRow.made (w : World) (B : Nat) (xs : List Int) (hB : B ≤ w.heap.size) (hl : xs.length ≤ maxLen) :
    IRow (w.alloc (.cells (xs.map (Value.int .i64)).toArray 3)) B (.slice (some ⟨w.heap.size, 0, none⟩) xs.length xs.length) xs := by
  have h := World.ownsRow_lit (base := B) (e := 3) (size := 1) w (xs.map (Value.int .i64)).toArray xs.length hB hl (by simp)
  simpa [IRow] using h
theorem own_ne {w : World} {B C : Nat} {v u : Value} {n : Nat} {vs : List Value} {xs : List Int} (h1 : w.ownsRow B 59 1 v n vs) (h2 : IRow w C u xs) : u.ownBlock = none ∨ u.ownBlock ≠ v.ownBlock := by
  rcases h2.open_ with ⟨e, _⟩ | ⟨g, cap, cur, e, _, _, _, _, hc, _⟩
  · rw [e]; simp [Value.ownBlock]
  · rw [e]
    obtain ⟨_, ⟨rfl, _⟩ | ⟨g', cap', cur', rfl, _, hc', _⟩⟩ := h1
    · simp [Value.ownBlock]
    · refine .inr fun e' => ?_
      simp only [Value.ownBlock, Option.some.injEq] at e'
      subst e'
      rw [hc] at hc'
      simp at hc'
/-- One slice more, in a block made anew, appended. -/
theorem RRowF.push {wr w1 : World} {B : Nat} {v v' : Value} {L : Nat} {f : Nat → List Int} {o o2 : Obj} {xs : List Int} {n c : Nat} {vs : List Value} (hB : B ≤ wr.heap.size)
    (h1 : wr.ownsRow B 59 1 v L vs) (h3 : ∀ i, i < L → IRow wr B (vs.getD i (.bool false)) (f i))
    (h4 : ∀ i j, i < j → j < L → (vs.getD i (.bool false)).ownBlock = none ∨ (vs.getD i (.bool false)).ownBlock ≠ (vs.getD j (.bool false)).ownBlock)
    (hn : IRow (wr.alloc o) B (.slice (some ⟨wr.heap.size, 0, none⟩) n c) xs)
    (hO : w1.ownsRow B 59 1 v' (L + 1) (vs ++ [.slice (some ⟨wr.heap.size, 0, none⟩) n c])) (hg : ((wr.alloc o).alloc o2).grownBy w1 v.ownBlock) :
    RRowF w1 B v' (L + 1) (fun i => if i < L then f i else xs) ∧ Below B wr w1 := by
  have hvl : vs.length = L := by simpa using h1.1
  have ea : Below wr.heap.size wr ((wr.alloc o).alloc o2) := ((Below.refl _ _).alloc (Nat.le_refl _) _).alloc (by simp) _
  have eo : Below (wr.alloc o).heap.size (wr.alloc o) ((wr.alloc o).alloc o2) := (Below.refl _ _).alloc (Nat.le_refl _) _
  have h1' : ((wr.alloc o).alloc o2).ownsRow B 59 1 v L vs := (h1.alloc _).alloc _
  have hn' : IRow ((wr.alloc o).alloc o2) B (.slice (some ⟨wr.heap.size, 0, none⟩) n c) xs := hn.keep eo
  refine ⟨⟨_, hO, fun i hi => ?_, fun i j hij hj => ?_⟩, ?_⟩
  · by_cases e : i < L
    · have k := (h3 i e).keep ea
      have e2 : (vs ++ [Value.slice (some ⟨wr.heap.size, 0, none⟩) n c]).getD i (.bool false) = vs.getD i (.bool false) := by
        simp [List.getD, List.getElem?_append_left (show i < vs.length by omega)]
      show IRow w1 B _ (if i < L then f i else xs)
      rw [if_pos e, e2]
      exact World.ownsRow.kept k hg (own_ne h1' k)
    · obtain rfl : i = L := by omega
      have e2 : (vs ++ [Value.slice (some ⟨wr.heap.size, 0, none⟩) n c]).getD i (.bool false) = .slice (some ⟨wr.heap.size, 0, none⟩) n c := by
        simp [List.getD, ← hvl]
      show IRow w1 B _ (if i < i then f i else xs)
      rw [if_neg e, e2]
      exact World.ownsRow.kept hn' hg (own_ne h1' hn')
  · have e1 : (vs ++ [Value.slice (some ⟨wr.heap.size, 0, none⟩) n c]).getD i (.bool false) = vs.getD i (.bool false) := by
      simp [List.getD, List.getElem?_append_left (show i < vs.length by omega)]
    rw [e1]
    by_cases e : j < L
    · have e2 : (vs ++ [Value.slice (some ⟨wr.heap.size, 0, none⟩) n c]).getD j (.bool false) = vs.getD j (.bool false) := by
        simp [List.getD, List.getElem?_append_left (show j < vs.length by omega)]
      rw [e2]
      exact h4 i j hij e
    · obtain rfl : j = L := by omega
      have e2 : (vs ++ [Value.slice (some ⟨wr.heap.size, 0, none⟩) n c]).getD j (.bool false) = .slice (some ⟨wr.heap.size, 0, none⟩) n c := by
        simp [List.getD, ← hvl]
      rw [e2]
      cases hb : (vs.getD i (.bool false)).ownBlock with
      | none => exact .inl rfl
      | some g =>
        refine .inr fun e' => ?_
        have := ((h3 i (by omega)).lt g hb).2
        simp only [Value.ownBlock, Option.some.injEq] at e'
        omega
  · exact (ea.mono hB).grown hg (by simp; omega) fun g e => (h1.lt g e).1
theorem RRow.push {wr w1 : World} {B : Nat} {v v' : Value} {rs : List (List Int)} {o o2 : Obj} {xs : List Int} {n c : Nat} {vs : List Value} (hB : B ≤ wr.heap.size)
    (h1 : wr.ownsRow B 59 1 v rs.length vs) (h3 : ∀ i, i < rs.length → IRow wr B (vs.getD i (.bool false)) (rs.getD i []))
    (h4 : ∀ i j, i < j → j < rs.length → (vs.getD i (.bool false)).ownBlock = none ∨ (vs.getD i (.bool false)).ownBlock ≠ (vs.getD j (.bool false)).ownBlock)
    (hn : IRow (wr.alloc o) B (.slice (some ⟨wr.heap.size, 0, none⟩) n c) xs)
    (hO : w1.ownsRow B 59 1 v' (rs.length + 1) (vs ++ [.slice (some ⟨wr.heap.size, 0, none⟩) n c])) (hg : ((wr.alloc o).alloc o2).grownBy w1 v.ownBlock) :
    RRow w1 B v' (rs ++ [xs]) ∧ Below B wr w1 := by
  obtain ⟨a, b⟩ := RRowF.push hB h1 h3 h4 hn hO hg
  refine ⟨?_, b⟩
  unfold RRow
  rw [List.length_append, List.length_singleton]
  refine a.congr fun i hi => ?_
  by_cases e : i < rs.length
  · simp [e, List.getD, List.getElem?_append_left e]
  · obtain rfl : i = rs.length := by omega
    simp [List.getD]

/-! ### pairs -/
def prs (c : Nat) : Nat → List (List Int)
  | 0 => []
  | m + 1 => prs c m ++ (if c * c % (m + 1) = 0 then [[(c : Int) + (m + 1 : Nat), (c : Int) + ((c * c / (m + 1) : Nat) : Int)]] else [])
theorem prs_len (c m : Nat) : (prs c m).length ≤ m := by
  induction m with
  | zero => simp [prs]
  | succ m ih => simp only [prs]; split <;> simp <;> omega
theorem prs_yes {c m : Nat} (h : c * c % (m + 1) = 0) : prs c (m + 1) = prs c m ++ [[(c : Int) + (m + 1 : Nat), (c : Int) + ((c * c / (m + 1) : Nat) : Int)]] := by simp [prs, h]
theorem prs_no {c m : Nat} (h : ¬ c * c % (m + 1) = 0) : prs c (m + 1) = prs c m := by simp [prs, h]


theorem pr_mod (c k : Nat) (f : Int) (hf : f = (c : Int) + (k : Int) + 1) : (c : Int) * f % (f - c) = ((c * c % (k + 1) : Nat) : Int) ∧ (c : Int) * f / (f - c) = (c : Int) + ((c * c / (k + 1) : Nat) : Int) := by
  have e1 : f - c = ((k + 1 : Nat) : Int) := by omega
  have e2 : (c : Int) * f = ((c * c : Nat) : Int) + (c : Int) * ((k + 1 : Nat) : Int) := by rw [hf, Int.natCast_mul]; push_cast; rw [Int.add_assoc, Int.mul_add]
  have hne : ((k + 1 : Nat) : Int) ≠ 0 := by omega
  rw [e1, e2]
  refine ⟨?_, ?_⟩
  · rw [Int.add_mul_emod_self_right, Int.natCast_emod]
  · rw [Int.add_mul_ediv_right _ _ hne, Int.natCast_ediv, Int.add_comm]
def prsZ (c : Int) : List (List Int) := if within c 1 200 then prs c.toNat c.toNat else []


theorem tot_le (f : Nat → List Int) (M : Nat) : ∀ L, (∀ i, i < L → (f i).length ≤ M) → tot f L ≤ L * M
  | 0, _ => by simp [tot]
  | L + 1, h => by
    have h1 := tot_le f M L fun i hi => h i (by omega)
    have h2 := h L (by omega)
    simp only [tot]
    rw [Nat.add_mul, Nat.one_mul]
    omega
theorem rows_le (rs : List (List Int)) (M K : Nat) (h : ∀ r ∈ rs, r.length ≤ M) (hl : rs.length ≤ K) : tot (fun i => rs.getD i []) rs.length ≤ K * M := by
  refine Nat.le_trans (tot_le _ M _ fun i hi => ?_) (Nat.mul_le_mul_right _ hl)
  have e : rs.getD i [] = rs[i] := by simp [List.getD, hi]
  rw [e]
  exact h _ (List.getElem_mem hi)
theorem prs_two (c m : Nat) : ∀ r ∈ prs c m, r.length ≤ 2 := by
  induction m with
  | zero => simp [prs]
  | succ m ih =>
    intro r hr
    simp only [prs, List.mem_append] at hr
    rcases hr with hr | hr
    · exact ih r hr
    · split at hr <;> simp at hr
      subst hr; simp
theorem prsZ_tot (c : Int) : tot (fun i => (prsZ c).getD i []) (prsZ c).length ≤ 4000000 := by
  unfold prsZ
  cases h : within c 1 200
  · simp [tot]
  · obtain ⟨h1, h2⟩ := within_true h
    have := rows_le (prs c.toNat c.toNat) 2 200 (prs_two _ _) (by have := prs_len c.toNat c.toNat; omega)
    simp only [if_true]
    omega
end Go.Proofs.Ytdlknbdgbmjkpaa
