/- Texts of numbers that are read back, by the model. -/
import Derived.Test.YtohlbnfncllhoaaDoorT3
namespace Go.Proofs.YtohlbnfncllhoaaDoor
open Go.RowKit
theorem pow_bd {k m : Nat} (hk : k ≤ 6) (h : m < 10 ^ k) : m < 1000000 := by
  have h2 := Nat.pow_le_pow_right (n := 10) (by omega) hk
  exact Nat.lt_of_lt_of_le h h2
theorem digit_val {b : UInt8} (h1 : 48 ≤ b.toNat) (h2 : b.toNat ≤ 57) : Lib.digitVal b = some (b.toNat - 48) := by
  unfold Lib.digitVal; rw [if_pos ⟨h1, h2⟩]
/-- the number that a canonical numeral of at most six digits spells, or -1 -/
def rdV (l : List UInt8) : Int := if within (l.length : Int) 1 6 = false then -1 else if l.getD 0 0 = 48 ∧ 1 < l.length then -1 else match Lib.decFrom 0 l with
  | some m => (m : Int)
  | none => -1
theorem rdV_digits (m : Nat) (h : m < 1000000) : rdV (Lib.decDigits m) = m := by
  have h1 := digits_len 5 m (by omega)
  have h2 : 0 < (Lib.decDigits m).length := List.length_pos_iff.2 (digits_ne m)
  have h3 : within ((Lib.decDigits m).length : Int) 1 6 = true := by simp [within]; omega
  have h4 : ¬ ((Lib.decDigits m).getD 0 0 = 48 ∧ 1 < (Lib.decDigits m).length) := by
    rintro ⟨e, e2⟩
    obtain rfl := head_digits m e
    rw [Lib.decDigits, dif_pos (by omega)] at e2
    simp at e2
  unfold rdV
  rw [h3, if_neg (by simp), if_neg h4, decFrom_digits]
theorem rdV_bound (l : List UInt8) : -1 ≤ rdV l := by
  unfold rdV
  split
  · omega
  · split
    · omega
    · split <;> omega

end Go.Proofs.YtohlbnfncllhoaaDoor
