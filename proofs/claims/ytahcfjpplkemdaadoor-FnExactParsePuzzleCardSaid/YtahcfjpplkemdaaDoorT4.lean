/- Texts of numbers that are read back, by the model. -/
import Derived.Test.YtahcfjpplkemdaaDoorT3
namespace Go.Proofs.YtahcfjpplkemdaaDoor
open Go.RowKit
theorem pow_bd {k m : Nat} (hk : k ≤ 6) (h : m < 10 ^ k) : m < 1000000 := by
  have h2 := Nat.pow_le_pow_right (n := 10) (by omega) hk
  exact Nat.lt_of_lt_of_le h h2
theorem digit_val {b : UInt8} (h1 : 48 ≤ b.toNat) (h2 : b.toNat ≤ 57) : Lib.digitVal b = some (b.toNat - 48) := by
  unfold Lib.digitVal; rw [if_pos ⟨h1, h2⟩]
/-- the number that a canonical numeral of at most six digits spells, or -1 -/
def rdV (l : List UInt8) : Int := if within (l.length : Int) 1 6 = false then -1 else if l.getD 0 0 = 48 ∧ 1 < l.length then -1 else match Lib.decFrom 0 l with
  | some m => (m : Int)
  | none => -1
theorem rdV_digits (m : Nat) (h : m < 1000000) : rdV (Lib.decDigits m) = m := by
  have h1 := digits_len 5 m (by omega)
  have h2 : 0 < (Lib.decDigits m).length := List.length_pos_iff.2 (digits_ne m)
  have h3 : within ((Lib.decDigits m).length : Int) 1 6 = true := by simp [within]; omega
  have h4 : ¬ ((Lib.decDigits m).getD 0 0 = 48 ∧ 1 < (Lib.decDigits m).length) := by
    rintro ⟨e, e2⟩
    obtain rfl := head_digits m e
    rw [Lib.decDigits, dif_pos (by omega)] at e2
    simp at e2
  unfold rdV
  rw [h3, if_neg (by simp), if_neg h4, decFrom_digits]
theorem rdV_bound (l : List UInt8) : -1 ≤ rdV l := by
  unfold rdV
  split
  · omega
  · split
    · omega
    · split <;> omega

set_option maxHeartbeats 1000000 in
theorem l1Read_any (s : ByteArray) (w : World) :
    Calls Tryd.prog 40 #[.string s] w fun e w' => e = .returned (.int .i64 (rdV s.data.toList)) ∧ w = w' := by
  have hlen := len_data s
  have HD := fun k (h : k < s.size) => Lib.hid (getD_data s k h)
  cases h1 : within (s.size : Int) 1 6
  · have F : rdV s.data.toList = -1 := by
      unfold rdV
      rw [hlen, if_pos h1]
    have F' := Lib.hid F
    clear F hlen HD
    go_enter Tryd.func40, Tryd.ntmps40
    go_wp2_with (go_at_call 44; refine (l1In_any _ _ _ _).mono ?_; rintro e w' ⟨rfl, rfl⟩)
    go_ret
    exact ⟨by rw [F'.out]; rfl, rfl⟩
  obtain ⟨g1, g2⟩ := within_true h1
  have hs0 : 0 < s.size := by omega
  have hs6 : s.size ≤ 6 := by omega
  by_cases hz : s[0] = 48 ∧ 1 < s.size
  · have F : rdV s.data.toList = -1 := by
      unfold rdV
      rw [hlen, if_neg (by rw [h1]; simp), if_pos ⟨(HD 0 hs0).out.trans hz.1, hz.2⟩]
    have F' := Lib.hid F
    have t1 : ((s[0].toNat : Int) == 48) = true := by rw [hz.1]; rfl
    have t2 : (1 : Int) < (s.size : Int) := by omega
    clear F hlen HD hz
    go_enter Tryd.func40, Tryd.ntmps40
    go_wp2_with (go_at_call 44; refine (l1In_any _ _ _ _).mono ?_; rintro e w' ⟨rfl, rfl⟩)
    go_ret
    exact ⟨by rw [F'.out]; rfl, rfl⟩
  have hrd : rdV s.data.toList = match Lib.decFrom 0 s.data.toList with
      | some m => (m : Int)
      | none => -1 := by
    unfold rdV
    rw [hlen, if_neg (by rw [h1]; simp), if_neg (by rw [(HD 0 hs0).out]; exact hz)]
  have F2 : ∀ k, (h : k < s.size) → ¬ (48 ≤ s[k].toNat ∧ s[k].toNat ≤ 57) → rdV s.data.toList = -1 := by
    intro k hk hd
    rw [hrd]
    cases hc : Lib.decFrom 0 s.data.toList with
    | none => rfl
    | some m =>
      exfalso
      have h3 : s.data.toList[k]? = some s[k] := by
        rw [List.getElem?_eq_getElem (by rw [hlen]; exact hk)]; rfl
      obtain ⟨d, e⟩ := Lib.digit_of_decFrom _ _ _ hc k _ h3
      unfold Lib.digitVal at e
      rw [if_neg hd] at e
      cases e
  have F3 : ∀ k m b, (h : k < s.size) → Lib.decFrom 0 (s.data.toList.take k) = some m → s[k] = b → 48 ≤ b.toNat → b.toNat ≤ 57 → Lib.decFrom 0 (s.data.toList.take (k + 1)) = some (m * 10 + (b.toNat - 48)) := by
    intro k m b h hm hb h1 h2
    refine Lib.decFrom_take _ _ _ _ b _ hm ?_ (digit_val h1 h2)
    rw [List.getElem?_eq_getElem (by rw [hlen]; exact h), ← hb, ← (HD k h).out, List.getD, List.getElem?_eq_getElem (by rw [hlen]; exact h)]
    rfl
  have F4 : ∀ m, Lib.decFrom 0 (s.data.toList.take s.size) = some m → rdV s.data.toList = m := by
    intro m hm
    rw [← hlen, List.take_length] at hm
    rw [hrd, hm]
  have G2 := Lib.hid F2
  have G3 := Lib.hid F3
  have G4 := Lib.hid F4
  have G0 : Hid (Lib.decFrom 0 (s.data.toList.take 0) = some 0) := Lib.hid (by simp [Lib.decFrom])
  have key : ∀ w : World, ((((s[0].toNat : Int) == 48) = false) ∨ ((((s[0].toNat : Int) == 48) = true) ∧ ¬ (1 : Int) < (s.size : Int))) → Calls Tryd.prog 40 #[.string s] w fun e w' => e = .returned (.int .i64 (rdV s.data.toList)) ∧ w = w' := by
    intro w hc
    clear hz F2 F3 F4 HD hlen hrd
    generalize rdV s.data.toList = rv at *
    rcases hc with hc | ⟨hc, hc'⟩
    all_goals
      go_enter Tryd.func40, Tryd.ntmps40
      go_wp2_with (go_at_call 44; refine (l1In_any _ _ _ _).mono ?_; rintro e w' ⟨rfl, rfl⟩)
      go_loop [3, 4] (fun n i => ∃ k m : Nat, k ≤ s.size ∧ i = .int .i64 k ∧ n = .int .i64 m ∧ Hid (Lib.decFrom 0 (s.data.toList.take k) = some m) ∧ Hid (m < 10 ^ k)) (fun _ i => s.size - (intOf i).toNat)
      case atStart => exact ⟨0, 0, Nat.zero_le _, rfl, rfl, G0, Lib.hid (by simp)⟩
      case round =>
        obtain ⟨k, m, hk, rfl, rfl, HM, HB⟩ := hrel
        have hm : m < 1000000 := pow_bd (by omega) HB.out
        by_cases hlt : k < s.size
        · by_cases hd : 48 ≤ s[k].toNat ∧ s[k].toNat ≤ 57
          · obtain ⟨d1, d2⟩ := hd
            have D1 : (48 : Int) ≤ (s[k].toNat : Int) := by omega
            have D2 : (s[k].toNat : Int) ≤ 57 := by omega
            have E := Lib.hid (G3.out k m s[k] hlt HM.out rfl d1 d2)
            have EB : Hid (m * 10 + (s[k].toNat - 48) < 10 ^ (k + 1)) := by
              have := HB.out
              refine Lib.hid ?_
              rw [Nat.pow_succ]
              omega
            clear d1 d2
            go_wp2
            go_round
            case rel => exact ⟨k + 1, m * 10 + (s[k].toNat - 48), by omega, by go_num, by congr 1; omega, E, EB⟩
            case measure => simp only [intOf]; omega
          · have E := Lib.hid (G2.out k hlt hd)
            by_cases d1 : (s[k].toNat : Int) < 48
            · clear hd
              go_wp2
              go_ret
              exact ⟨by rw [E.out]; rfl, rfl⟩
            · have d2 : (57 : Int) < (s[k].toNat : Int) := by omega
              clear hd
              go_wp2
              go_ret
              exact ⟨by rw [E.out]; rfl, rfl⟩
        · obtain rfl : k = s.size := by omega
          have E := Lib.hid (G4.out m HM.out)
          go_wp2
          go_ret
          exact ⟨by rw [E.out]; rfl, rfl⟩
  refine key w ?_
  by_cases h : s[0] = 48
  · refine .inr ⟨by rw [h]; rfl, ?_⟩
    by_cases h2 : 1 < s.size
    · exact absurd ⟨h, h2⟩ hz
    · omega
  · refine .inl (beq_eq_false_iff_ne.2 fun e => h (UInt8.toNat_inj.1 ?_))
    have : (48 : UInt8).toNat = 48 := rfl
    omega
end Go.Proofs.YtahcfjpplkemdaaDoor
