/- What a text of an island is. -/
import Derived.Test.YtdlknbdgbmjkpaaDoorHTX
import Derived.Test.YtdlknbdgbmjkpaaDoorT4
import Derived.Test.YtdlknbdgbmjkpaaDoorP2
namespace Go.Proofs.YtdlknbdgbmjkpaaDoor
open Go.RowKit
set_option linter.unusedVariables false
set_option linter.unusedSimpArgs false
theorem dec_list (n : Int) (h : 0 ≤ n) : (dec n).data.toList = Lib.decDigits n.toNat := by
  unfold dec Lib.itoa
  rw [if_neg (by omega)]
theorem not_in {n : Nat} {b : UInt8} (h : b.toNat < 48 ∨ 57 < b.toNat) : b ∉ Lib.decDigits n := fun hb => by
  have := digits_of n b hb; omega
theorem toList_inj {s t : ByteArray} (h : s.toList = t.toList) : s = t := by
  rw [Lib.toList_data, Lib.toList_data] at h
  exact ByteArray.ext (Array.toList_inj.1 h)
theorem bytes_eq {s t : ByteArray} (h : s.data.toList = t.data.toList) : s = t := ByteArray.ext (Array.toList_inj.1 h)
theorem not_glue {b c : UInt8} {x y : List UInt8} (hx : b ∉ x) (hc : b ≠ c) (hy : b ∉ y) : b ∉ x ++ c :: y := by
  rw [List.mem_append, List.mem_cons]
  rintro (h | h | h)
  · exact hx h
  · exact hc h
  · exact hy h
theorem txI_list (a b c d : Int) (ha : 0 ≤ a) (hb : 0 ≤ b) (hc : 0 ≤ c) (hd : 0 ≤ d) : (txI a b c d).data.toList = Lib.decDigits a.toNat ++ 124 :: (Lib.decDigits b.toNat ++ 58 :: (Lib.decDigits c.toNat ++ 47 :: Lib.decDigits d.toNat)) := by
  have h1 := dec_list a ha; have h2 := dec_list b hb; have h3 := dec_list c hc; have h4 := dec_list d hd
  simp [txI, h1, h2, h3, h4]
theorem txI_parts {a b c d : Int} (h : okIs a b c d = true) : ∃ x y z u : Nat, (a = x ∧ b = y ∧ c = z ∧ d = u) ∧ (x < 1000000 ∧ y < 1000000 ∧ z < 1000000 ∧ u < 1000000) ∧
    (txI a b c d).data.toList = Lib.decDigits x ++ 124 :: (Lib.decDigits y ++ 58 :: (Lib.decDigits z ++ 47 :: Lib.decDigits u)) ∧ (txI a b c d).size ≤ 18 := by
  obtain ⟨⟨a0, a1⟩, ⟨b0, b1⟩, ⟨c0, c1⟩, ⟨d0, d1⟩, _⟩ := okIs_true h
  have e := txI_list a b c d (by omega) (by omega) (by omega) (by omega)
  have l1 := digits_len 2 a.toNat (by omega); have l2 := digits_len 3 b.toNat (by omega); have l3 := digits_len 3 c.toNat (by omega); have l4 := digits_len 3 d.toNat (by omega)
  refine ⟨a.toNat, b.toNat, c.toNat, d.toNat, ⟨by omega, by omega, by omega, by omega⟩, ⟨by omega, by omega, by omega, by omega⟩, e, ?_⟩
  rw [← len_data, e]
  simp only [List.length_append, List.length_cons]
  omega
theorem n124 (n : Nat) : (124 : UInt8) ∉ Lib.decDigits n := not_in (.inr (by decide))
theorem n58 (n : Nat) : (58 : UInt8) ∉ Lib.decDigits n := not_in (.inr (by decide))
theorem n47 (n : Nat) : (47 : UInt8) ∉ Lib.decDigits n := not_in (.inl (by decide))
theorem m124 (y z u : Nat) : (124 : UInt8) ∉ Lib.decDigits y ++ 58 :: (Lib.decDigits z ++ 47 :: Lib.decDigits u) := not_glue (n124 _) (by decide) (not_glue (n124 _) (by decide) (n124 _))
theorem m58 (z u : Nat) : (58 : UInt8) ∉ Lib.decDigits z ++ 47 :: Lib.decDigits u := not_glue (n58 _) (by decide) (n58 _)
theorem txI_inj {a b c d a' b' c' d' : Int} (h : okIs a b c d = true) (h' : okIs a' b' c' d' = true) (e : txI a b c d = txI a' b' c' d') : a = a' ∧ b = b' ∧ c = c' ∧ d = d' := by
  obtain ⟨x, y, z, u, ⟨rfl, rfl, rfl, rfl⟩, _, e1, _⟩ := txI_parts h
  obtain ⟨x', y', z', u', ⟨rfl, rfl, rfl, rfl⟩, _, e1', _⟩ := txI_parts h'
  rw [e, e1'] at e1
  obtain ⟨q1, q2⟩ := cut_unique (n124 _) (n124 _) e1
  obtain ⟨q3, q4⟩ := cut_unique (n58 _) (n58 _) q2
  obtain ⟨q5, q6⟩ := cut_unique (n47 _) (n47 _) q4
  have := digits_inj q1; have := digits_inj q3; have := digits_inj q5; have := digits_inj q6
  omega
/-- the island with a text, or zero -/
def ReadI (s : ByteArray) (a b c d : Int) (ok : Bool) : Prop := ((ok = true → okIs a b c d = true ∧ txI a b c d = s) ∧ ∀ a' b' c' d', okIs a' b' c' d' = true → txI a' b' c' d' = s → ok = true) ∧ (ok = false → a = 0 ∧ b = 0 ∧ c = 0 ∧ d = 0)
theorem readI_no {s : ByteArray} (h : ∀ a' b' c' d', okIs a' b' c' d' = true → txI a' b' c' d' ≠ s) : ReadI s 0 0 0 0 false :=
  ⟨⟨(fun e => by cases e), fun a' b' c' d' h1 h2 => absurd h2 (h a' b' c' d' h1)⟩, fun _ => ⟨rfl, rfl, rfl, rfl⟩⟩
theorem readI_yes {s : ByteArray} {a b c d : Int} (h : okIs a b c d = true) (e : txI a b c d = s) : ReadI s a b c d true :=
  ⟨⟨fun _ => ⟨h, e⟩, fun _ _ _ _ _ _ => rfl⟩, fun e => by cases e⟩
theorem readI_unique {s : ByteArray} {a b c d a' b' c' d' : Int} {ok ok' : Bool} (h : ReadI s a b c d ok) (h' : ReadI s a' b' c' d' ok') : (a = a' ∧ b = b' ∧ c = c' ∧ d = d') ∧ ok = ok' := by
  obtain ⟨⟨h1, h2⟩, h3⟩ := h
  obtain ⟨⟨h1', h2'⟩, h3'⟩ := h'
  cases ok <;> cases ok'
  · obtain ⟨rfl, rfl, rfl, rfl⟩ := h3 rfl
    obtain ⟨rfl, rfl, rfl, rfl⟩ := h3' rfl
    exact ⟨⟨rfl, rfl, rfl, rfl⟩, rfl⟩
  · obtain ⟨q1, q2⟩ := h1' rfl
    exact absurd (h2 _ _ _ _ q1 q2) (by simp)
  · obtain ⟨q1, q2⟩ := h1 rfl
    exact absurd (h2' _ _ _ _ q1 q2) (by simp)
  · obtain ⟨q1, q2⟩ := h1 rfl
    obtain ⟨q1', q2'⟩ := h1' rfl
    exact ⟨txI_inj q1 q1' (q2.trans q2'.symm), rfl⟩
theorem rd_sound {l : List UInt8} (h : 0 ≤ rdV l) : l = Lib.decDigits (rdV l).toNat := by
  unfold rdV at h ⊢
  split
  · rename_i h1; rw [if_pos h1] at h; omega
  · rename_i h1
    rw [if_neg h1] at h
    split
    · rename_i h2; rw [if_pos h2] at h; omega
    · rename_i h2
      rw [if_neg h2] at h
      cases hd : Lib.decFrom 0 l with
      | none => rw [hd] at h; simp at h
      | some m =>
        have h1' : within (l.length : Int) 1 6 = true := by simpa using h1
        obtain ⟨g1, g2⟩ := within_true h1'
        have hne : l ≠ [] := by intro e; subst e; simp at g1
        simp only [Int.toNat_natCast]
        refine (digits_read l.length l m rfl hne (fun e => ?_) hd).symm
        by_cases hl : l.length = 1
        · exact hl
        · exact absurd ⟨e, by omega⟩ h2
/-- numbers that are read are those of the text -/
theorem text_of {s : ByteArray} {x y z u : List UInt8} (e : s.data.toList = x ++ 124 :: (y ++ 58 :: (z ++ 47 :: u))) (h : okIs (rdV x) (rdV y) (rdV z) (rdV u) = true) : txI (rdV x) (rdV y) (rdV z) (rdV u) = s := by
  obtain ⟨⟨a0, a1⟩, ⟨b0, b1⟩, ⟨c0, c1⟩, ⟨d0, d1⟩, _⟩ := okIs_true h
  apply bytes_eq
  rw [txI_list _ _ _ _ (by omega) (by omega) (by omega) (by omega), e, ← rd_sound (l := x) (by omega), ← rd_sound (l := y) (by omega), ← rd_sound (l := z) (by omega), ← rd_sound (l := u) (by omega)]
theorem rdV_all {p q r t : Nat} (h : p < 1000000 ∧ q < 1000000 ∧ r < 1000000 ∧ t < 1000000) : rdV (Lib.decDigits p) = p ∧ rdV (Lib.decDigits q) = q ∧ rdV (Lib.decDigits r) = r ∧ rdV (Lib.decDigits t) = t :=
  ⟨rdV_digits _ h.1, rdV_digits _ h.2.1, rdV_digits _ h.2.2.1, rdV_digits _ h.2.2.2⟩
end Go.Proofs.YtdlknbdgbmjkpaaDoor
