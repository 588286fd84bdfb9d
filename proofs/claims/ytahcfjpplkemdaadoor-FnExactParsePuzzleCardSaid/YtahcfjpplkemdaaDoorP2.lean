/- Digits read are digits written; the pieces between a byte. -/
import Derived.Test.YtahcfjpplkemdaaDoorP1
import Derived.Lib.Split
namespace Go.Proofs.YtahcfjpplkemdaaDoor
set_option linter.unusedVariables false
set_option linter.unusedSimpArgs false
theorem decFrom_snoc_inv (b : UInt8) : ∀ (l : List UInt8) (acc n : Nat), Lib.decFrom acc (l ++ [b]) = some n → ∃ m d, Lib.decFrom acc l = some m ∧ Lib.digitVal b = some d ∧ n = m * 10 + d
  | [], acc, n, h => by
    simp only [List.nil_append, Lib.decFrom] at h
    split at h
    · rename_i d hd
      simp only [Option.some.injEq] at h
      exact ⟨acc, d, rfl, hd, h.symm⟩
    · cases h
  | c :: l, acc, n, h => by
    simp only [List.cons_append, Lib.decFrom] at h ⊢
    split at h
    · rename_i d hd
      exact decFrom_snoc_inv b l _ n h
    · cases h
theorem decFrom_ge (l : List UInt8) : ∀ acc n, Lib.decFrom acc l = some n → acc ≤ n := by
  induction l with
  | nil => intro acc n h; simp only [Lib.decFrom, Option.some.injEq] at h; omega
  | cons b l ih =>
    intro acc n h
    simp only [Lib.decFrom] at h
    split at h
    · have := ih _ _ h; omega
    · cases h
theorem digitVal_inv {b : UInt8} {d : Nat} (h : Lib.digitVal b = some d) : d < 10 ∧ b = UInt8.ofNat (48 + d) := by
  unfold Lib.digitVal at h
  split at h
  · rename_i hc
    simp only [Option.some.injEq] at h
    subst h
    refine ⟨by omega, ?_⟩
    rw [show 48 + (b.toNat - 48) = b.toNat by omega]
    simp
  · cases h
theorem digits_read : ∀ (k : Nat) (l : List UInt8) (n : Nat), l.length = k → l ≠ [] → (l.getD 0 0 = 48 → l.length = 1) → Lib.decFrom 0 l = some n → Lib.decDigits n = l := by
  intro k
  induction k with
  | zero => intro l n hk hne; exact absurd (List.length_eq_zero_iff.1 hk) hne
  | succ k ih =>
    intro l n hk hne hz h
    have hl := List.dropLast_concat_getLast hne
    rw [← hl] at h
    obtain ⟨m, d, h1, h2, rfl⟩ := decFrom_snoc_inv _ _ _ _ h
    obtain ⟨hd, hb⟩ := digitVal_inv h2
    by_cases hk0 : k = 0
    · subst hk0
      have he : l.dropLast = [] := List.length_eq_zero_iff.1 (by simp [hk])
      rw [he] at h1 hl
      simp only [Lib.decFrom, Option.some.injEq] at h1
      subst h1
      rw [Nat.zero_mul, Nat.zero_add, Lib.decDigits, dif_pos hd, ← hb]
      exact hl
    · have hne' : l.dropLast ≠ [] := fun e => by
        have := congrArg List.length e
        simp [hk] at this
        omega
      have h0 : l.dropLast.getD 0 0 = l.getD 0 0 := by
        rw [← hl]
        cases hq : l.dropLast with
        | nil => exact absurd hq hne'
        | cons x r => simp
      have hm := ih l.dropLast m (by simp [hk]) hne' (fun e => by rw [h0] at e; have := hz e; omega) h1
      have hm1 : 1 ≤ m := by
        rcases Nat.eq_zero_or_pos m with e | e
        · exfalso
          subst e
          have hz0 : Lib.decDigits 0 = [48] := by rw [Lib.decDigits]; rfl
          rw [hz0] at hm
          have e48 : l.getD 0 0 = 48 := by rw [← h0, ← hm]; rfl
          have := hz e48
          omega
        · exact e
      rw [Lib.decDigits, dif_neg (by omega), show (m * 10 + d) / 10 = m by omega, show (m * 10 + d) % 10 = d by omega, hm, ← hb]
      exact hl
/-- the pieces of l between the bytes b -/
def pcs (b : UInt8) (l : List UInt8) : List (List UInt8) := (sp b l l.length).1 ++ [(sp b l l.length).2]
theorem pcs_ne (b : UInt8) (l : List UInt8) : pcs b l ≠ [] := by simp [pcs]
theorem pcs_free (b : UInt8) (l : List UInt8) : ∀ p ∈ pcs b l, b ∉ p := by
  intro p hp
  obtain ⟨h1, h2⟩ := sp_free b l l.length
  simp only [pcs, List.mem_append, List.mem_singleton] at hp
  rcases hp with hp | rfl
  · exact h2 p hp
  · exact h1
/-- pieces put together -/
def glue (b : UInt8) : List (List UInt8) → List UInt8
  | [] => []
  | [x] => x
  | x :: y :: r => x ++ b :: glue b (y :: r)
theorem glue_cons (b : UInt8) (x : List UInt8) {r : List (List UInt8)} (h : r ≠ []) : glue b (x :: r) = x ++ b :: glue b r := by
  cases r with
  | nil => exact absurd rfl h
  | cons y r => rfl
theorem glue_snoc (b : UInt8) (o : List (List UInt8)) (c : List UInt8) : glue b (o ++ [c]) = jn b o c := by
  induction o with
  | nil => simp [glue, jn]
  | cons x o ih =>
    rw [List.cons_append, glue_cons b x (by simp), ih]
    simp [jn]
theorem pcs_glue (b : UInt8) (l : List UInt8) : glue b (pcs b l) = l := by
  rw [pcs, glue_snoc, sp_join b l l.length (Nat.le_refl _), List.take_length]
theorem glue_inj {b : UInt8} : ∀ {P Q : List (List UInt8)}, P ≠ [] → Q ≠ [] → (∀ p ∈ P, b ∉ p) → (∀ q ∈ Q, b ∉ q) → glue b P = glue b Q → P = Q
  | [], _, h, _, _, _, _ => absurd rfl h
  | _, [], _, h, _, _, _ => absurd rfl h
  | [x], [y], _, _, _, _, e => by simp only [glue] at e; rw [e]
  | [x], y :: z :: r, _, _, hp, _, e => by
    exfalso
    simp only [glue] at e
    exact hp x (by simp) (by rw [e]; simp)
  | x :: z :: r, [y], _, _, _, hq, e => by
    exfalso
    simp only [glue] at e
    exact hq y (by simp) (by rw [← e]; simp)
  | x :: z :: r, y :: u :: t, _, _, hp, hq, e => by
    simp only [glue] at e
    obtain ⟨rfl, e2⟩ := cut_unique (hp x (by simp)) (hq y (by simp)) e
    rw [glue_inj (by simp) (by simp) (fun p h => hp p (List.mem_cons_of_mem _ h)) (fun q h => hq q (List.mem_cons_of_mem _ h)) e2]
theorem pcs_unique {b : UInt8} {P : List (List UInt8)} {l : List UInt8} (h : P ≠ []) (hf : ∀ p ∈ P, b ∉ p) (e : glue b P = l) : pcs b l = P :=
  glue_inj (pcs_ne b l) h (pcs_free b l) hf (by rw [pcs_glue, e])
theorem pcs_one {b : UInt8} {l : List UInt8} (h : b ∉ l) : pcs b l = [l] := pcs_unique (by simp) (by simpa using h) rfl
theorem pcs_cons {b : UInt8} {x y : List UInt8} (h : b ∉ x) : pcs b (x ++ b :: y) = x :: pcs b y := by
  refine pcs_unique (by simp) (fun p hp => ?_) ?_
  · simp only [List.mem_cons] at hp
    rcases hp with rfl | hp
    · exact h
    · exact pcs_free b y p hp
  · rw [glue_cons b x (pcs_ne b y), pcs_glue]
theorem pcs_len (b : UInt8) (l : List UInt8) : (pcs b l).length ≤ l.length + 1 := by
  have : ∀ k, (sp b l k).1.length ≤ k := fun k => by
    induction k with
    | zero => simp [sp]
    | succ k ih => simp only [sp]; split <;> simp <;> omega
  have := this l.length
  simp [pcs]
  omega
theorem first_cut (b : UInt8) : ∀ l : List UInt8, b ∈ l → ∃ x y, l = x ++ b :: y ∧ b ∉ x
  | [], h => by cases h
  | c :: l, h => by
    by_cases e : c = b
    · subst e; exact ⟨[], l, rfl, by simp⟩
    · have hl : b ∈ l := by
        rcases List.mem_cons.1 h with h | h
        · exact absurd h.symm e
        · exact h
      obtain ⟨x, y, h1, h2⟩ := first_cut b l hl
      refine ⟨c :: x, y, by rw [h1]; rfl, ?_⟩
      simp only [List.mem_cons, not_or]
      exact ⟨fun h => e h.symm, h2⟩
theorem index_free {b : UInt8} {l : List UInt8} (h : b ∉ l) : Lib.index l [b] = -1 := by
  cases hq : Lib.cut l [b] with
  | mk x p =>
    obtain ⟨y, f⟩ := p
    cases f
    · unfold Lib.cut at hq
      split at hq
      · cases hq
      · rename_i hc
        have := Lib.index_ge l [b]
        omega
    · have := cut_found hq
      exact absurd (by rw [this]; simp) h
theorem index_at {b : UInt8} {x y : List UInt8} (hx : b ∉ x) : Lib.index (x ++ b :: y) [b] = (x.length : Int) := by
  refine Lib.index_first (i := x.length) (by simp) ?_ fun j hj => ?_
  · simp [Lib.occAt]
  · have : (x ++ b :: y).drop j = (x.drop j) ++ b :: y := by rw [List.drop_append_of_le_length (by omega)]
    unfold Lib.occAt
    rw [this, List.drop_eq_getElem_cons hj]
    have hne : x[j] ≠ b := fun e => hx (e ▸ List.getElem_mem hj)
    rw [List.cons_append]
    show ((b == x[j]) && _) = false
    rw [beq_eq_false_iff_ne.2 (Ne.symm hne)]
    rfl
/-- the pieces that strings.SplitN tells -/
def spn (b : UInt8) (k : Nat) (s : ByteArray) : List (List UInt8) := (Lib.splitB ⟨#[b]⟩ 0 k s).map (·.data.toList)
theorem spn_all (b : UInt8) : ∀ (k : Nat) (s : ByteArray), (pcs b s.data.toList).length ≤ k + 1 → spn b k s = pcs b s.data.toList := by
  intro k
  induction k with
  | zero =>
    intro s h
    have hb : b ∉ s.data.toList := fun hb => by
      obtain ⟨x, y, e, hx⟩ := first_cut b _ hb
      rw [e, pcs_cons hx, List.length_cons] at h
      have := List.length_pos_iff.2 (pcs_ne b y)
      omega
    rw [pcs_one hb]
    simp [spn, Lib.splitB_zero]
  | succ k ih =>
    intro s h
    by_cases hb : b ∈ s.data.toList
    · obtain ⟨x, y, e, hx⟩ := first_cut b _ hb
      have hi : Lib.indexB s ⟨#[b]⟩ = (x.length : Int) := by
        show Lib.index s.data.toList [b] = _
        rw [e, index_at hx]
      rw [e, pcs_cons hx, List.length_cons] at h
      have hy : (s.extract (x.length + 1) s.size).data.toList = y := by
        have hsz : s.size = s.data.toList.length := by rw [Array.length_toList]; rfl
        simp only [ByteArray.data_extract, Array.toList_extract, List.extract_eq_take_drop]
        rw [e, hsz, e]
        simp only [List.length_append, List.length_cons, List.drop_length_add_append, List.drop_succ_cons]
        rw [show x.length + (y.length + 1) - (x.length + 1) = y.length by omega]
        simp
      have hx2 : (s.extract 0 x.length).data.toList = x := by
        simp only [ByteArray.data_extract, Array.toList_extract, List.extract_eq_take_drop]
        rw [e]
        simp
      rw [e, pcs_cons hx, spn, Lib.splitB_hit ⟨#[b]⟩ 0 k s x.length hi, List.map_cons]
      have h2 := ih (s.extract (x.length + (ByteArray.mk #[b]).size) s.size) (by
        show (pcs b (s.extract (x.length + 1) s.size).data.toList).length ≤ k + 1
        rw [hy]; omega)
      rw [spn] at h2
      rw [h2]
      show (s.extract 0 (x.length + 0)).data.toList :: pcs b (s.extract (x.length + 1) s.size).data.toList = _
      rw [Nat.add_zero, hx2, hy]
    · have hi : Lib.indexB s ⟨#[b]⟩ = -1 := by
        show Lib.index s.data.toList [b] = _
        exact index_free hb
      rw [spn, Lib.splitB_miss _ _ _ _ hi, pcs_one hb]
      rfl
theorem spn_more (b : UInt8) : ∀ (k : Nat) (s : ByteArray), k + 1 < (pcs b s.data.toList).length → (spn b k s).length = k + 1 := by
  intro k
  induction k with
  | zero => intro s h; simp [spn, Lib.splitB_zero]
  | succ k ih =>
    intro s h
    by_cases hb : b ∈ s.data.toList
    · obtain ⟨x, y, e, hx⟩ := first_cut b _ hb
      have hi : Lib.indexB s ⟨#[b]⟩ = (x.length : Int) := by
        show Lib.index s.data.toList [b] = _
        rw [e, index_at hx]
      rw [e, pcs_cons hx, List.length_cons] at h
      have hy : (s.extract (x.length + 1) s.size).data.toList = y := by
        have hsz : s.size = s.data.toList.length := by rw [Array.length_toList]; rfl
        simp only [ByteArray.data_extract, Array.toList_extract, List.extract_eq_take_drop]
        rw [e, hsz, e]
        simp only [List.length_append, List.length_cons, List.drop_length_add_append, List.drop_succ_cons]
        rw [show x.length + (y.length + 1) - (x.length + 1) = y.length by omega]
        simp
      rw [spn, Lib.splitB_hit ⟨#[b]⟩ 0 k s x.length hi, List.map_cons, List.length_cons]
      have h2 := ih (s.extract (x.length + (ByteArray.mk #[b]).size) s.size) (by
        show k + 1 < (pcs b (s.extract (x.length + 1) s.size).data.toList).length
        rw [hy]; omega)
      rw [spn] at h2
      rw [h2]
    · rw [pcs_one hb] at h
      simp at h
end Go.Proofs.YtahcfjpplkemdaaDoor
