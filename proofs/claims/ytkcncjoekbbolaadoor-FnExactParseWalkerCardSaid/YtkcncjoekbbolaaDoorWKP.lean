/- Texts of walkers, and what is read back of them (no program in this text). -/
import Derived.Test.YtkcncjoekbbolaaDoorWKX
import Derived.Test.YtkcncjoekbbolaaDoorT4
import Derived.Lib.ItoaMem
namespace Go.Proofs.YtkcncjoekbbolaaDoor
open Go.RowKit
set_option linter.unusedVariables false
set_option linter.unusedSimpArgs false
theorem dec_itoa0 (n : Int) : (dec n).data.toList = Lib.itoa n := by simp [dec]
theorem dec_digits {n : Int} (h : 0 ≤ n) : (dec n).data.toList = Lib.decDigits n.toNat := by
  rw [dec_itoa0]; unfold Lib.itoa; rw [if_neg (by omega)]
theorem not_in {n : Nat} {b : UInt8} (h : b.toNat < 48 ∨ 57 < b.toNat) : b ∉ Lib.decDigits n := fun hb => by
  have := digits_of n b hb; omega
theorem toList_inj {s t : ByteArray} (h : s.toList = t.toList) : s = t := by
  rw [Lib.toList_data, Lib.toList_data] at h
  exact ByteArray.ext (Array.toList_inj.1 h)
theorem bytes_eq {s t : ByteArray} (h : s.data.toList = t.data.toList) : s = t := ByteArray.ext (Array.toList_inj.1 h)
theorem rdV_most (l : List UInt8) : rdV l ≤ 1000000 := by
  unfold rdV
  split
  · omega
  · rename_i hw
    split
    · omega
    · split
      · rename_i m hm
        have h6 := within_true (by simpa using hw)
        have := Lib.decFrom_lt _ 0 m hm
        have := pow_bd (k := l.length) (m := m) (by omega) (by simpa using this)
        omega
      · omega
/-- the sign of a speed -/
def sb (s : Int) : UInt8 := if s < 0 then 45 else 43
def ab (s : Int) : Nat := if s < 0 then (-s).toNat else s.toNat
theorem txW_list {h p s : Int} (hh : 0 ≤ h) (hp : 0 ≤ p) : (txW h p s).data.toList = Lib.decDigits h.toNat ++ 64 :: (Lib.decDigits p.toNat ++ sb s :: Lib.decDigits (ab s)) := by
  have h1 := dec_digits hh
  have h2 := dec_digits hp
  unfold txW sgn sb ab
  by_cases g : s < 0
  · rw [if_pos g, if_pos g, if_pos g, dec_neg s g]
    have h3 := dec_digits (n := -s) (by omega)
    simp [h1, h2, h3]
  · rw [if_neg g, if_neg g, if_neg g]
    have h3 := dec_digits (n := s) (by omega)
    simp [h1, h2, h3]
theorem txW_parts {h p s : Int} (k : okWk 200 h p s = true) : ((0 ≤ h ∧ h ≤ 200) ∧ (0 ≤ p ∧ p ≤ 500) ∧ -50 ≤ s ∧ s ≤ 50) ∧
    (txW h p s).data.toList = Lib.decDigits h.toNat ++ 64 :: (Lib.decDigits p.toNat ++ sb s :: Lib.decDigits (ab s)) ∧ (64 : UInt8) ∉ Lib.decDigits h.toNat ∧ (64 : UInt8) ∉ (Lib.decDigits p.toNat ++ sb s :: Lib.decDigits (ab s)) ∧ (txW h p s).size ≤ 12 := by
  obtain ⟨_, ⟨h1, h2⟩, ⟨p1, p2⟩, s1, s2⟩ := okWk_true k
  have e := txW_list (h := h) (p := p) (s := s) (by omega) p1
  have l1 := digits_len 2 h.toNat (by omega)
  have l2 := digits_len 2 p.toNat (by omega)
  have l3 := digits_len 1 (ab s) (by unfold ab; split <;> omega)
  refine ⟨⟨⟨by omega, by omega⟩, ⟨p1, p2⟩, s1, s2⟩, e, not_in (.inr (by decide)), ?_, ?_⟩
  · simp only [List.mem_append, List.mem_cons, not_or]
    refine ⟨not_in (.inr (by decide)), ?_, not_in (.inr (by decide))⟩
    unfold sb; split <;> decide
  · rw [← len_data, e]
    simp only [List.length_append, List.length_cons]
    omega
theorem sb_in {n m : Nat} {s : Int} {b : UInt8} (hb : b = 43 ∨ b = 45) (h : b ∈ (Lib.decDigits (n) ++ sb s :: Lib.decDigits (m))) : b = sb s := by
  simp only [List.mem_append, List.mem_cons] at h
  rcases h with h | h | h
  · exact absurd h (not_in (by rcases hb with rfl | rfl <;> decide))
  · exact h
  · exact absurd h (not_in (by rcases hb with rfl | rfl <;> decide))
theorem sign_free {n m : Nat} {s : Int} : sb s ∉ Lib.decDigits n ∧ sb s ∉ Lib.decDigits m := by
  have : sb s = 43 ∨ sb s = 45 := by unfold sb; split <;> simp
  rcases this with e | e <;> rw [e] <;> exact ⟨not_in (.inl (by decide)), not_in (.inl (by decide))⟩
theorem ab_sb {s s' : Int} (h1 : ab s = ab s') (h2 : sb s = sb s') : s = s' := by
  unfold ab sb at *
  by_cases g : s < 0 <;> by_cases g' : s' < 0 <;> simp [g, g'] at h1 h2 <;> omega
/-- a text of a walker, cut at @ and at its sign -/
theorem txW_cut {h p s : Int} (k : okWk 200 h p s = true) {x y : List UInt8} (e : (txW h p s).data.toList = x ++ 64 :: y) (n1 : (64 : UInt8) ∉ x) : x = Lib.decDigits h.toNat ∧ y = Lib.decDigits p.toNat ++ sb s :: Lib.decDigits (ab s) := by
  obtain ⟨_, e1, m1, m2, _⟩ := txW_parts k
  rw [e] at e1
  exact cut_unique n1 m1 e1
theorem txW_cut2 {p s : Int} {y u v : List UInt8} {b : UInt8} (hb : b = 43 ∨ b = 45) (e : y = Lib.decDigits p.toNat ++ sb s :: Lib.decDigits (ab s)) (h : y = u ++ b :: v) (n1 : b ∉ u) : b = sb s ∧ u = Lib.decDigits p.toNat ∧ v = Lib.decDigits (ab s) := by
  have hm : b ∈ (Lib.decDigits p.toNat ++ sb s :: Lib.decDigits (ab s)) := by rw [← e, h]; simp
  have hs := sb_in hb hm
  subst hs
  obtain ⟨q1, q2⟩ := cut_unique n1 (sign_free (n := p.toNat) (m := 0) (s := s)).1 (h.symm.trans e)
  exact ⟨rfl, q1, q2⟩
theorem txW_inj {h p s h' p' s' : Int} (k : okWk 200 h p s = true) (k' : okWk 200 h' p' s' = true) (e : txW h p s = txW h' p' s') : h = h' ∧ p = p' ∧ s = s' := by
  obtain ⟨⟨a1, a2, _⟩, e1, m1, m2, _⟩ := txW_parts k
  obtain ⟨⟨b1, b2, _⟩, _, _, _, _⟩ := txW_parts k'
  rw [e] at e1
  obtain ⟨q1, q2⟩ := txW_cut k' e1 m1
  obtain ⟨q3, q4, q5⟩ := txW_cut2 (b := sb s) (by unfold sb; split <;> simp) q2 rfl (sign_free (n := p.toNat) (m := 0) (s := s)).1
  have r1 := digits_inj q1
  have r2 := digits_inj q4
  have r3 := digits_inj q5
  exact ⟨by omega, by omega, ab_sb r3 q3⟩
def ParsedW (s : ByteArray) (h p v : Int) (ok : Bool) : Prop := (ok = true → okWk 200 h p v = true ∧ txW h p v = s) ∧ ∀ h' p' v', okWk 200 h' p' v' = true → txW h' p' v' = s → ok = true
theorem parsedW_no {s : ByteArray} (h : ∀ h' p' v', okWk 200 h' p' v' = true → txW h' p' v' ≠ s) (a b c : Int) : ParsedW s a b c false :=
  ⟨(fun e => by cases e), fun a' b' c' h1 h2 => absurd h2 (h a' b' c' h1)⟩
def ReadW (s : ByteArray) (a b c : Int) (ok : Bool) : Prop := ParsedW s a b c ok ∧ (ok = false → a = 0 ∧ b = 0 ∧ c = 0)
theorem readW_no {s : ByteArray} (h : ∀ h' p' v', okWk 200 h' p' v' = true → txW h' p' v' ≠ s) : ReadW s 0 0 0 false := ⟨parsedW_no h 0 0 0, fun _ => ⟨rfl, rfl, rfl⟩⟩
theorem readW_unique {s : ByteArray} {a b c a' b' c' : Int} {ok ok' : Bool} (h : ReadW s a b c ok) (h' : ReadW s a' b' c' ok') : a = a' ∧ b = b' ∧ c = c' ∧ ok = ok' := by
  obtain ⟨⟨h1, h2⟩, h3⟩ := h
  obtain ⟨⟨h1', h2'⟩, h3'⟩ := h'
  cases ok <;> cases ok'
  · obtain ⟨rfl, rfl, rfl⟩ := h3 rfl
    obtain ⟨rfl, rfl, rfl⟩ := h3' rfl
    exact ⟨rfl, rfl, rfl, rfl⟩
  · obtain ⟨q1, q2⟩ := h1' rfl
    exact absurd (h2 _ _ _ q1 q2) (by simp)
  · obtain ⟨q1, q2⟩ := h1 rfl
    exact absurd (h2' _ _ _ q1 q2) (by simp)
  · obtain ⟨q1, q2⟩ := h1 rfl
    obtain ⟨q1', q2'⟩ := h1' rfl
    obtain ⟨e1, e2, e3⟩ := txW_inj q1 q1' (q2.trans q2'.symm)
    exact ⟨e1, e2, e3, rfl⟩
/-- behind k of the two signs: who is told by the text has a sign not tried yet -/
def Left (s : ByteArray) (k : Nat) : Prop := ∀ h p v, okWk 200 h p v = true → txW h p v = s → k = 0 ∨ (k = 1 ∧ v < 0)
theorem left_no {s : ByteArray} (h : Left s 2) : ∀ h' p' v', okWk 200 h' p' v' = true → txW h' p' v' ≠ s := fun a b c k e => by
  rcases h a b c k e with q | q <;> omega
/-- the sign that is tried in round k -/
def bk (k : Nat) : UInt8 := if k = 0 then 43 else 45
theorem bk_two (k : Nat) : bk k = 43 ∨ bk k = 45 := by unfold bk; split <;> simp
theorem left_miss {s : ByteArray} {k : Nat} {x y : List UInt8} (hk : k < 2) (h : Left s k) (e : s.data.toList = x ++ 64 :: y) (n1 : (64 : UInt8) ∉ x) (hm : (sp (bk k) y y.length).1.length ≠ 1) : Left s (k + 1) := fun a b c ok ht => by
  have h0 := h a b c ok ht
  obtain ⟨_, q2⟩ := txW_cut ok (by rw [ht]; exact e) n1
  have : bk k ≠ sb c := fun hb => by
    have f := sign_free (n := b.toNat) (m := ab c) (s := c)
    have t := sp_two f.1 f.2
    rw [← q2, ← hb] at t
    exact hm (by rw [t]; rfl)
  unfold bk sb at this
  rcases h0 with rfl | ⟨rfl, h0⟩
  · simp only [if_true] at this
    refine .inr ⟨rfl, ?_⟩
    by_cases g : c < 0
    · exact g
    · rw [if_neg g] at this; exact absurd rfl this
  · rw [if_neg (by omega), if_pos h0] at this
    exact absurd rfl this
/-- the numbers that are read where a sign was found are those of whoever has this text -/
theorem left_hit {s : ByteArray} {k : Nat} {x y u v : List UInt8} (e : s.data.toList = x ++ 64 :: y) (n1 : (64 : UInt8) ∉ x) (e2 : y = u ++ bk k :: v) (n2 : bk k ∉ u) : ∀ a b c, okWk 200 a b c = true → txW a b c = s → rdV x = a ∧ rdV u = b ∧ 0 ≤ rdV v ∧ (if k = 0 then rdV v else -(rdV v)) = c := fun a b c ok ht => by
  obtain ⟨⟨⟨a1, a2⟩, ⟨b1, b2⟩, c1, c2⟩, _⟩ := txW_parts ok
  obtain ⟨q1, q2⟩ := txW_cut ok (by rw [ht]; exact e) n1
  obtain ⟨q3, q4, q5⟩ := txW_cut2 (bk_two k) q2 e2 n2
  rw [q1, q4, q5, rdV_digits _ (by omega), rdV_digits _ (by omega), rdV_digits _ (by unfold ab; split <;> omega)]
  refine ⟨by omega, by omega, by omega, ?_⟩
  unfold bk sb at q3
  unfold ab
  by_cases hk : k = 0
  · rw [if_pos hk] at q3 ⊢
    by_cases g : c < 0
    · rw [if_pos g] at q3; cases q3
    · rw [if_neg g]; omega
  · rw [if_neg hk] at q3 ⊢
    by_cases g : c < 0
    · rw [if_pos g]; omega
    · rw [if_neg g] at q3; cases q3
end Go.Proofs.YtkcncjoekbbolaaDoor
