/- How many places a beam is at: distinct keys of a map against positive counters in a row of (W + 1) * (H + 1). -/
import Init
set_option linter.unusedSimpArgs false
set_option linter.unusedVariables false
namespace Go.Proofs.Ytgpfnbajjephpaa.Beam
theorem nodup_filter' {α : Type} {l : List α} (h : l.Nodup) (p : α → Bool) : (l.filter p).Nodup := h.sublist List.filter_sublist
theorem nodup_map_on {α β : Type} {f : α → β} : ∀ {l : List α}, l.Nodup → (∀ a ∈ l, ∀ b ∈ l, f a = f b → a = b) → (l.map f).Nodup
  | [], _, _ => by simp
  | x :: r, h, hf => by
    obtain ⟨h1, h2⟩ := List.nodup_cons.1 h
    rw [List.map_cons, List.nodup_cons]
    refine ⟨fun hm => ?_, nodup_map_on h2 (fun a ha b hb => hf a (List.mem_cons_of_mem _ ha) b (List.mem_cons_of_mem _ hb))⟩
    obtain ⟨y, hy, e⟩ := List.mem_map.1 hm
    have := hf y (List.mem_cons_of_mem _ hy) x List.mem_cons_self e
    exact h1 (this ▸ hy)
/-- Keys that differ, counted, against the numbers below n that stand for them. -/
theorem countP_bij {α : Type} {K : List α} {n : Nat} (f : Nat → α) (p : α → Bool) (q : Nat → Bool) (hK : K.Nodup)
    (h1 : ∀ i, i < n → q i = true → f i ∈ K ∧ p (f i) = true) (h2 : ∀ a ∈ K, p a = true → ∃ i, i < n ∧ q i = true ∧ f i = a)
    (hi : ∀ i, i < n → ∀ j, j < n → f i = f j → i = j) : K.countP p = (List.range n).countP q := by
  rw [List.countP_eq_length_filter, List.countP_eq_length_filter]
  have e : (K.filter p).Perm (((List.range n).filter q).map f) := by
    refine (List.perm_ext_iff_of_nodup (nodup_filter' hK p) (nodup_map_on (nodup_filter' List.nodup_range q) ?_)).2 fun a => ?_
    · intro a ha b hb e
      exact hi a (List.mem_range.1 (List.mem_filter.1 ha).1) b (List.mem_range.1 (List.mem_filter.1 hb).1) e
    · constructor
      · intro ha
        obtain ⟨hk, hp⟩ := List.mem_filter.1 ha
        obtain ⟨i, hn, hq, e⟩ := h2 a hk hp
        exact List.mem_map.2 ⟨i, List.mem_filter.2 ⟨List.mem_range.2 hn, hq⟩, e⟩
      · intro ha
        obtain ⟨i, hi', e⟩ := List.mem_map.1 ha
        obtain ⟨hn, hq⟩ := List.mem_filter.1 hi'
        obtain ⟨a1, a2⟩ := h1 i (List.mem_range.1 hn) hq
        exact List.mem_filter.2 ⟨e ▸ a1, e ▸ a2⟩
  rw [e.length_eq, List.length_map]
/-- where a place's counter stands -/
def cell (H : Nat) (p : Nat × Nat) : Nat := p.1 * (H + 1) + p.2
def uncell (H i : Nat) : Nat × Nat := (i / (H + 1), i % (H + 1))
theorem cell_lt {W H : Nat} {p : Nat × Nat} (hx : p.1 ≤ W) (hy : p.2 ≤ H) : cell H p < (W + 1) * (H + 1) := by
  unfold cell
  have : p.1 * (H + 1) ≤ W * (H + 1) := Nat.mul_le_mul_right _ hx
  rw [Nat.succ_mul]; omega
theorem uncell_cell {H : Nat} {p : Nat × Nat} (hy : p.2 ≤ H) : uncell H (cell H p) = p := by
  unfold cell uncell
  have a : (p.1 * (H + 1) + p.2) / (H + 1) = p.1 := by
    rw [Nat.mul_comm, Nat.mul_add_div (Nat.succ_pos H), Nat.div_eq_of_lt (Nat.lt_succ_of_le hy), Nat.add_zero]
  have b : (p.1 * (H + 1) + p.2) % (H + 1) = p.2 := by
    rw [Nat.mul_comm, Nat.mul_add_mod, Nat.mod_eq_of_lt (Nat.lt_succ_of_le hy)]
  rw [a, b]
theorem cell_uncell (H i : Nat) : cell H (uncell H i) = i := by
  unfold cell uncell
  show i / (H + 1) * (H + 1) + i % (H + 1) = i
  rw [Nat.mul_comm]; exact Nat.div_add_mod i (H + 1)
theorem uncell_inj {H i j : Nat} (h : uncell H i = uncell H j) : i = j := by
  have := congrArg (cell H) h
  rwa [cell_uncell, cell_uncell] at this
/-- how often a place is among the first k of a row of places -/
def timesUp (at' : Nat → Nat × Nat) : Nat → Nat × Nat → Nat
  | 0, _ => 0
  | k + 1, p => timesUp at' k p + if at' k = p then 1 else 0
theorem timesUp_le (at' : Nat → Nat × Nat) : ∀ k p, timesUp at' k p ≤ k
  | 0, _ => Nat.le_refl _
  | k + 1, p => by
    have := timesUp_le at' k p
    simp only [timesUp]; split <;> omega
/-- a place has been met: once more, or for the first time -/
theorem timesUp_pos (at' : Nat → Nat × Nat) : ∀ k p, 0 < timesUp at' k p ↔ ∃ j, j < k ∧ at' j = p
  | 0, p => by simp [timesUp]
  | k + 1, p => by
    have h := timesUp_pos at' k p
    simp only [timesUp]
    constructor
    · intro h'
      by_cases c : at' k = p
      · exact ⟨k, Nat.lt_succ_self k, c⟩
      · rw [if_neg c, Nat.add_zero] at h'
        obtain ⟨j, hj, e⟩ := h.1 h'
        exact ⟨j, Nat.lt_succ_of_lt hj, e⟩
    · rintro ⟨j, hj, e⟩
      by_cases c : at' k = p
      · rw [if_pos c]; omega
      · rw [if_neg c, Nat.add_zero]
        refine h.2 ⟨j, ?_, e⟩
        have : j ≠ k := fun hjk => c (hjk ▸ e)
        omega
/-- The keys that were put, differing, hold all places and no others: those with a property p, counted over the keys, are as many as the counters that have it. -/
theorem places_count {W H : Nat} {at' : Nat → Nat × Nat} {k : Nat} {K : List (Nat × Nat)} (hK : K.Nodup) (hin : ∀ j, j < k → (at' j).1 ≤ W ∧ (at' j).2 ≤ H)
    (hmem : ∀ p, p ∈ K ↔ ∃ j, j < k ∧ at' j = p) (p : Nat × Nat → Bool) :
    K.countP p = (List.range ((W + 1) * (H + 1))).countP (fun i => decide (0 < timesUp at' k (uncell H i)) && p (uncell H i)) := by
  refine countP_bij (uncell H) p _ hK ?_ ?_ (fun i _ j _ e => uncell_inj e)
  · intro i _ hq
    simp only [Bool.and_eq_true, decide_eq_true_eq] at hq
    exact ⟨(hmem _).2 ((timesUp_pos at' k _).1 hq.1), hq.2⟩
  · intro a ha hp
    have hex := (hmem a).1 ha
    obtain ⟨j, hj, e⟩ := (hmem a).1 ha
    have hb := hin j hj
    rw [e] at hb
    refine ⟨cell H a, cell_lt hb.1 hb.2, ?_, uncell_cell hb.2⟩
    rw [uncell_cell hb.2, Bool.and_eq_true, decide_eq_true_eq]
    exact ⟨(timesUp_pos at' k a).2 hex, hp⟩
/-- counted in the order of the row -/
theorem countP_range_succ (n : Nat) (q : Nat → Bool) : (List.range (n + 1)).countP q = (List.range n).countP q + if q n = true then 1 else 0 := by
  rw [List.range_succ, List.countP_append, List.countP_singleton]
end Go.Proofs.Ytgpfnbajjephpaa.Beam
