/- Decimal texts, and texts that are cut at a sign: plain facts on lists of bytes. -/
import Derived.Lib.AtoiTie
import Derived.Lib.ItoaLen
import Derived.Lib.IndexMore
import Derived.Lib.IndexBytes
namespace Go.Proofs.YtohlbnfncllhoaaDoor

theorem digits_of (n : Nat) : ∀ b ∈ Lib.decDigits n, 48 ≤ b.toNat ∧ b.toNat ≤ 57 := by
  induction n using Nat.strongRecOn with
  | _ n ih =>
    have hd : ∀ d : Nat, d < 10 → 48 ≤ (UInt8.ofNat (48 + d)).toNat ∧ (UInt8.ofNat (48 + d)).toNat ≤ 57 := by
      intro d hd
      have : (UInt8.ofNat (48 + d)).toNat = 48 + d := by simp; omega
      omega
    rw [Lib.decDigits]
    split
    · rename_i h
      intro b hb
      simp only [List.mem_singleton] at hb
      subst hb
      exact hd n h
    · rename_i h
      intro b hb
      rw [List.mem_append] at hb
      rcases hb with hb | hb
      · exact ih (n / 10) (by omega) b hb
      · simp only [List.mem_singleton] at hb
        subst hb
        exact hd (n % 10) (by omega)
theorem digits_ne (n : Nat) : Lib.decDigits n ≠ [] := by
  rw [Lib.decDigits]; split <;> simp
theorem decFrom_snoc (l : List UInt8) (b : UInt8) (d : Nat) (hd : Lib.digitVal b = some d) : ∀ acc n, Lib.decFrom acc l = some n → Lib.decFrom acc (l ++ [b]) = some (n * 10 + d) := by
  induction l with
  | nil => intro acc n h; simp only [Lib.decFrom, Option.some.injEq] at h; subst h; simp [Lib.decFrom, hd]
  | cons a t ih =>
    intro acc n h
    simp only [Lib.decFrom, List.cons_append] at h ⊢
    cases ha : Lib.digitVal a with
    | none => simp [ha] at h
    | some e => simp only [ha] at h ⊢; exact ih _ _ h
theorem digitVal_of (d : Nat) (h : d < 10) : Lib.digitVal (UInt8.ofNat (48 + d)) = some d := by
  have e : (UInt8.ofNat (48 + d)).toNat = 48 + d := by simp; omega
  unfold Lib.digitVal
  rw [e, if_pos (by omega)]
  congr 1
  omega
theorem decFrom_digits (n : Nat) : Lib.decFrom 0 (Lib.decDigits n) = some n := by
  induction n using Nat.strongRecOn with
  | _ n ih =>
    rw [Lib.decDigits]
    split
    · rename_i h
      simp only [Lib.decFrom]
      rw [digitVal_of n h]
      simp
    · rename_i h
      rw [decFrom_snoc _ _ _ (digitVal_of (n % 10) (by omega)) 0 (n / 10) (ih (n / 10) (by omega))]
      congr 1
      omega
theorem digits_inj {n m : Nat} (h : Lib.decDigits n = Lib.decDigits m) : n = m := by
  have a := decFrom_digits n
  rw [h, decFrom_digits m] at a
  exact (Option.some.inj a).symm
theorem digits_len : ∀ k m : Nat, m < 10 ^ (k + 1) → (Lib.decDigits m).length ≤ k + 1 := by
  intro k
  induction k with
  | zero => intro m hm; rw [Lib.decDigits, dif_pos (by omega)]; simp
  | succ k ih =>
    intro m hm
    rw [Lib.decDigits]
    split
    · simp
    · rw [List.length_append]
      have := ih (m / 10) (by rw [Nat.pow_succ] at hm; omega)
      simp; omega
theorem head_digits (n : Nat) : (Lib.decDigits n).getD 0 0 = 48 → n = 0 := by
  induction n using Nat.strongRecOn with
  | _ n ih =>
    rw [Lib.decDigits]
    split
    · rename_i h
      intro e
      have e1 : UInt8.ofNat (48 + n) = 48 := e
      have e2 := congrArg UInt8.toNat e1
      have e3 : (UInt8.ofNat (48 + n)).toNat = 48 + n := by simp; omega
      rw [e3] at e2
      have : (48 : UInt8).toNat = 48 := rfl
      omega
    · rename_i h
      intro e
      have hne := digits_ne (n / 10)
      have e2 : (Lib.decDigits (n / 10)).getD 0 0 = 48 := by
        rw [← e]
        cases hc : Lib.decDigits (n / 10) with
        | nil => exact absurd hc hne
        | cons a t => simp
      have := ih (n / 10) (by omega) e2
      omega
theorem atoi_digits (n : Nat) (h : n < 1000000) : Lib.atoiAll (Lib.decDigits n) = .ok (n : Int) := by
  have hl : (Lib.decDigits n).length ≤ 18 := by
    have := digits_len 5 n (by omega)
    omega
  rw [Lib.atoiAll_short _ hl]
  have e : Lib.atoi (Lib.decDigits n) = some (n : Int) := by
    have hne := digits_ne n
    have hdg := digits_of n
    have hfr := decFrom_digits n
    cases hc : Lib.decDigits n with
    | nil => exact absurd hc hne
    | cons b r =>
      rw [hc] at hdg hfr
      have hb := hdg b (by simp)
      have n1 : (b == 45) = false := by
        rw [beq_eq_false_iff_ne]; rintro rfl; simp at hb
      have n2 : (b == 43) = false := by
        rw [beq_eq_false_iff_ne]; rintro rfl; simp at hb
      simp [Lib.atoi, n1, n2, Lib.decNat, hfr]
  rw [e]
  rfl

/-! ### cutting at a sign -/
/-- the pieces that the first k bytes hold, and the piece under way -/
def sp (b : UInt8) (l : List UInt8) : Nat → List (List UInt8) × List UInt8
  | 0 => ([], [])
  | k + 1 => if l.getD k 0 = b then ((sp b l k).1 ++ [(sp b l k).2], []) else ((sp b l k).1, (sp b l k).2 ++ [l.getD k 0])
def jn (b : UInt8) (o : List (List UInt8)) (c : List UInt8) : List UInt8 := (o.flatMap fun p => p ++ [b]) ++ c
theorem take_snoc (l : List UInt8) (k : Nat) (h : k < l.length) : l.take (k + 1) = l.take k ++ [l.getD k 0] := by
  rw [List.take_add_one, List.getElem?_eq_getElem h]; simp [List.getD, h]
theorem sp_join (b : UInt8) (l : List UInt8) : ∀ k, k ≤ l.length → jn b (sp b l k).1 (sp b l k).2 = l.take k
  | 0, _ => by simp [sp, jn]
  | k + 1, h => by
    have ih := sp_join b l k (by omega)
    rw [take_snoc l k (by omega), ← ih]
    simp only [sp]
    split
    · rename_i e; rw [e]; simp [jn]
    · simp [jn]
theorem sp_free (b : UInt8) (l : List UInt8) : ∀ k, b ∉ (sp b l k).2 ∧ ∀ p ∈ (sp b l k).1, b ∉ p
  | 0 => by simp [sp]
  | k + 1 => by
    obtain ⟨h1, h2⟩ := sp_free b l k
    simp only [sp]
    split
    · refine ⟨by simp, fun p hp => ?_⟩
      rw [List.mem_append, List.mem_singleton] at hp
      rcases hp with hp | rfl
      · exact h2 p hp
      · exact h1
    · rename_i e
      refine ⟨?_, h2⟩
      rw [List.mem_append, List.mem_singleton]
      rintro (h | h)
      · exact h1 h
      · exact e h.symm
theorem sp_drop (b : UInt8) (l : List UInt8) : ∀ k, k ≤ l.length → ∃ f, f ≤ k ∧ (sp b l k).2 = (l.take k).drop f
  | 0, _ => ⟨0, Nat.le_refl _, by simp [sp]⟩
  | k + 1, h => by
    obtain ⟨f, hf, e⟩ := sp_drop b l k (by omega)
    simp only [sp]
    split
    · exact ⟨k + 1, Nat.le_refl _, by simp⟩
    · refine ⟨f, by omega, ?_⟩
      show (sp b l k).2 ++ [l.getD k 0] = _
      rw [e, take_snoc l k (by omega), List.drop_append_of_le_length (by simp; omega)]
theorem cut_unique {b : UInt8} : ∀ {x x' y y' : List UInt8}, b ∉ x → b ∉ x' → x ++ b :: y = x' ++ b :: y' → x = x' ∧ y = y'
  | [], [], y, y', _, _, h => by simpa using h
  | [], a :: t, y, y', _, h2, h => by simp at h h2; exact absurd h.1 h2.1
  | a :: t, [], y, y', h1, _, h => by simp at h h1; exact absurd h.1.symm h1.1
  | a :: t, a' :: t', y, y', h1, h2, h => by
    simp only [List.cons_append, List.cons.injEq] at h
    obtain ⟨rfl, h⟩ := h
    have := cut_unique (x := t) (x' := t') (by simp at h1; exact h1.2) (by simp at h2; exact h2.2) h
    simp [this.1, this.2]
/-- of a text that is cut just once -/
theorem sp_two {b : UInt8} {x y : List UInt8} (hx : b ∉ x) (hy : b ∉ y) : sp b (x ++ b :: y) (x ++ b :: y).length = ([x], y) := by
  have h := sp_join b (x ++ b :: y) _ (Nat.le_refl _)
  obtain ⟨h1, h2⟩ := sp_free b (x ++ b :: y) (x ++ b :: y).length
  rw [List.take_length] at h
  generalize sp b (x ++ b :: y) (x ++ b :: y).length = q at *
  obtain ⟨o, c⟩ := q
  simp only at h h1 h2
  cases o with
  | nil =>
    exfalso; apply h1
    have : c = x ++ b :: y := by simpa [jn] using h
    rw [this]; simp
  | cons p o' =>
    have e : p ++ b :: jn b o' c = x ++ b :: y := by rw [← h]; simp [jn]
    obtain ⟨rfl, e2⟩ := cut_unique (h2 p (by simp)) hx e
    cases o' with
    | nil => simp [jn] at e2; simp [e2]
    | cons p' o'' =>
      exfalso; apply hy; rw [← e2]; simp [jn]
theorem sp_of_one {b : UInt8} {l : List UInt8} (h : (sp b l l.length).1.length = 1) : ∃ x y, sp b l l.length = ([x], y) ∧ l = x ++ b :: y ∧ b ∉ x ∧ b ∉ y := by
  have h0 := sp_join b l _ (Nat.le_refl _)
  obtain ⟨h1, h2⟩ := sp_free b l l.length
  rw [List.take_length] at h0
  generalize sp b l l.length = q at *
  obtain ⟨o, c⟩ := q
  simp only at h h0 h1 h2
  match o, h with
  | [x], _ => exact ⟨x, c, rfl, by rw [← h0]; simp [jn], h2 x (by simp), h1⟩

/-! ### strings.Cut at one sign -/
theorem cut_hit {b : UInt8} {x y : List UInt8} (hx : b ∉ x) : Lib.cut (x ++ b :: y) [b] = (x, y, true) := by
  have hi : Lib.index (x ++ b :: y) [b] = (x.length : Int) := by
    refine Lib.index_first (i := x.length) (by simp) ?_ fun j hj => ?_
    · simp [Lib.occAt]
    · have : (x ++ b :: y).drop j = (x.drop j) ++ b :: y := by rw [List.drop_append_of_le_length (by omega)]
      unfold Lib.occAt
      rw [this, List.drop_eq_getElem_cons hj]
      have hne : x[j] ≠ b := fun e => hx (e ▸ List.getElem_mem hj)
      rw [List.cons_append]
      show ((b == x[j]) && _) = false
      rw [beq_eq_false_iff_ne.2 (Ne.symm hne)]
      rfl
  unfold Lib.cut
  rw [hi, if_pos (by omega)]
  simp
theorem cut_found {b : UInt8} {l x y : List UInt8} (h : Lib.cut l [b] = (x, y, true)) : l = x ++ b :: y := by
  unfold Lib.cut at h
  split at h
  · rename_i hc
    simp only [Prod.mk.injEq, and_true] at h
    obtain ⟨rfl, rfl⟩ := h
    rcases Lib.index_spec l [b] with ⟨e, _⟩ | ⟨i, e, hi, ho, _⟩
    · omega
    · rw [e, Int.toNat_natCast]
      simp only [Lib.occAt] at ho
      have : l.drop i = b :: l.drop (i + 1) := by
        cases hd : l.drop i with
        | nil => rw [hd] at ho; simp at ho
        | cons a t =>
          rw [hd] at ho
          simp at ho
          subst ho
          have : l.drop (i + 1) = (l.drop i).drop 1 := by rw [List.drop_drop]
          rw [this, hd]; rfl
      conv => lhs; rw [← List.take_append_drop i l, this]
      simp
  · simp at h
theorem cut_lost {b : UInt8} {l x y : List UInt8} (h : Lib.cut l [b] = (x, y, false)) : x = l ∧ y = [] := by
  unfold Lib.cut at h
  split at h
  · simp at h
  · simp at h; exact ⟨h.1.symm, h.2⟩
end Go.Proofs.YtohlbnfncllhoaaDoor
