/- Words of reflections; where something seems to be behind them. -/
import Derived.Test.YtfcllmlecnffdaaMI1
namespace Go.Proofs.Ytfcllmlecnffdaa
open Go.RowKit
theorem len_data (s : ByteArray) : s.data.toList.length = s.size := by rw [Array.length_toList]; rfl
theorem getD_data (s : ByteArray) (k : Nat) (h : k < s.size) : s.data.toList.getD k 0 = s[k] := by
  have e : s.data.toList[k]? = some s[k] := by
    rw [List.getElem?_eq_getElem (by rw [len_data]; exact h)]; rfl
  rw [List.getD, e]; rfl
/-- the sign number k is a sign, and no other one of its kind is just before it -/
def goodAt (l : List UInt8) (k : Nat) : Bool := (l.getD k 0 == 108 || l.getD k 0 == 114) && (k == 0 || l.getD k 0 != l.getD (k - 1) 0)
def goodTo (l : List UInt8) (k : Nat) : Bool := (List.range k).all (goodAt l)
theorem goodTo_zero (l : List UInt8) : goodTo l 0 = true := rfl
theorem goodTo_succ (l : List UInt8) (k : Nat) : goodTo l (k + 1) = (goodTo l k && goodAt l k) := by simp [goodTo, List.range_succ]
theorem goodTo_no {l : List UInt8} {k n : Nat} (h : goodAt l k = false) (hk : k < n) : goodTo l n = false := by
  rw [goodTo, List.all_eq_false]
  exact ⟨k, by simp [hk], by simp [h]⟩
def okW (s : ByteArray) : Bool := decide (s.size ≤ 40) && goodTo s.data.toList s.size
theorem okW_true {s : ByteArray} (h : okW s = true) : s.size ≤ 40 ∧ goodTo s.data.toList s.size = true := by simpa [okW] using h
theorem okW_long {s : ByteArray} (h : ¬ s.size ≤ 40) : okW s = false := by simp [okW, h]
theorem byte_ne {a b : UInt8} (h : a ≠ b) : ((a.toNat : Int) == (b.toNat : Int)) = false := by
  rw [beq_eq_false_iff_ne]
  intro e
  exact h (UInt8.toNat_inj.1 (by omega))
theorem u8_ne (a b : UInt8) (n : Int) (hn : n = b.toNat) : ((a.toNat : Int) != n) = !(a == b) := by
  rw [bne, hn]
  congr 1
  rw [Bool.eq_iff_iff]
  simp only [beq_iff_eq, Int.natCast_inj]
  exact UInt8.toNat_inj
theorem u8_eq (a b : UInt8) : ((a.toNat : Int) == (b.toNat : Int)) = (a == b) := by
  rw [Bool.eq_iff_iff]
  simp only [beq_iff_eq, Int.natCast_inj]
  exact UInt8.toNat_inj
theorem byte_lt (a : UInt8) : (a.toNat : Int) ≤ 255 ∧ 0 ≤ (a.toNat : Int) := by
  have := a.toNat_lt
  omega

/-- where something is behind the first k reflections -/
def seemF (w a : Int) (l : List UInt8) : Nat → Int
  | 0 => a
  | k + 1 => if l.getD k 0 = 108 then -(seemF w a l k) else 2 * w - seemF w a l k
theorem seem_bd {w a : Int} (hw : 1 ≤ w ∧ w ≤ 500) (ha : 0 ≤ a ∧ a ≤ w) (l : List UInt8) (k : Nat) : -(1000 * (k : Int) + 1000) ≤ seemF w a l k ∧ seemF w a l k ≤ 1000 * (k : Int) + 1000 := by
  induction k with
  | zero => simp only [seemF]; omega
  | succ k ih =>
    simp only [seemF]
    split <;> omega
def IAok (w a : Int) (s : ByteArray) : Bool := okCor w a && okW s
def IA (w a : Int) (s : ByteArray) : Int := if IAok w a s then seemF w a s.data.toList s.size else 0
set_option maxHeartbeats 1000000 in
theorem isWord_any (s : ByteArray) (hs : s.size ≤ maxLen) (w : World) :
    Calls Try.prog 69 #[.string s] w fun e w' => e = .returned (.bool (okW s)) ∧ ∃ n, w' = w.drewN n := by
  unfold maxLen at hs
  by_cases h40 : s.size ≤ 40
  · go_enter Try.func69, Try.ntmps69
    go_wp2
    go_loopw [9] (fun i wr => ∃ k n : Nat, k ≤ s.size ∧ i = .int .i64 (k : Int) ∧ goodTo s.data.toList k = true ∧ wr = w.drewN n) (fun i _ => s.size - (intOf i).toNat)
    case atStart => exact ⟨0, 0, Nat.zero_le _, rfl, goodTo_zero _, rfl⟩
    case round =>
      obtain ⟨k, n, hk, rfl, hg, rfl⟩ := hrel
      by_cases hlt : k < s.size
      · have HG := Lib.hid hg
        clear hg
        by_cases hk0 : k = 0
        · subst hk0
          have hlt' : (0 : Int) < (s.size : Int) := by omega
          have F1 := u8_ne s[0] 108 108 (by decide)
          have F2 := u8_ne s[0] 114 114 (by decide)
          have HGA := Lib.hid (show goodAt s.data.toList 0 = (s[0] == 108 || s[0] == 114) by rw [goodAt, getD_data s 0 hlt]; exact Bool.and_true _)
          cases x1 : (s[0] == 108) <;> cases x2 : (s[0] == 114)
          all_goals
            have HA := Lib.hid (show goodAt s.data.toList 0 = _ by rw [HGA.out, x1, x2])
            rw [x1] at F1
            rw [x2] at F2
            clear x1 x2 HGA
            go_wp2_with fail
            go_quiet (fail)
            go_wp2
            first
            | (go_roundw
               case rel => exact ⟨1, n + nq, by omega, by first | rfl | go_num, by rw [show (1 : Nat) = 0 + 1 from rfl, goodTo_succ, HG.out, HA.out]; rfl, by simp⟩
               case measure => simp only [intOf]; omega)
            | (go_ret
               exact ⟨by rw [show okW s = false by simp [okW, goodTo_no (l := s.data.toList) (k := 0) (n := s.size) (by rw [HA.out]; rfl) hlt]]; first | done | rfl, n + nq, by simp⟩)
        · obtain ⟨m, hmk⟩ : ∃ m, k = m + 1 := ⟨k - 1, by omega⟩
          have hlt' : (k : Int) < (s.size : Int) := by omega
          have hk1 : 0 < k := by omega
          have hm : m < s.size := by omega
          have ix2 : IntKind.i64.wrap ((k : Int) - 1) = (m : Int) := by rw [show (k : Int) - 1 = (m : Int) by omega]; exact IntWalk.i64_in _ (by omega)
          have ix3 : (k : Int) - 1 = (m : Int) := by omega
          have F1 := u8_ne s[k] 108 108 (by decide)
          have F2 := u8_ne s[k] 114 114 (by decide)
          have F3 := u8_eq s[k] s[m]
          have HGA := Lib.hid (show goodAt s.data.toList k = ((s[k] == 108 || s[k] == 114) && !(s[k] == s[m])) by rw [goodAt, getD_data s k hlt, show k - 1 = m by omega, getD_data s m hm, show (k == 0) = false by simp; omega]; rfl)
          have HK := Lib.hid hmk
          clear hmk hk0
          cases x1 : (s[k] == 108) <;> cases x2 : (s[k] == 114) <;> cases x3 : (s[k] == s[m])
          all_goals
            have HA := Lib.hid (show goodAt s.data.toList k = _ by rw [HGA.out, x1, x2, x3])
            rw [x1] at F1
            rw [x2] at F2
            rw [x3] at F3
            clear x1 x2 x3 HGA
            go_wp2_with fail
            go_quiet (fail)
            go_wp2
            first
            | (go_roundw
               case rel => exact ⟨k + 1, n + nq, by omega, by go_num, by rw [goodTo_succ, HG.out, HA.out]; rfl, by simp⟩
               case measure => simp only [intOf]; omega)
            | (go_ret
               exact ⟨by rw [show okW s = false by simp [okW, goodTo_no (l := s.data.toList) (k := k) (n := s.size) (by rw [HA.out]; rfl) hlt]]; first | done | rfl, n + nq, by simp⟩)
      · obtain rfl : k = s.size := by omega
        have HE := Lib.hid (show okW s = true by simp [okW, h40, hg])
        clear hg
        go_wp2
        go_ret
        exact ⟨by rw [HE.out]; first | done | rfl, n, rfl⟩
  · rw [okW_long h40]
    go_enter Try.func69, Try.ntmps69
    go_wp2
    go_ret
    exact ⟨rfl, 0, rfl⟩
set_option maxHeartbeats 1000000 in
theorem miWord_any (s : ByteArray) (hs : s.size ≤ maxLen) (w : World) :
    Calls Try.prog 66 #[.string s] w fun e w' => e = .returned (.bool (okW s)) ∧ ∃ n, w' = w.drewN n := by
  unfold maxLen at hs
  by_cases h40 : s.size ≤ 40
  · go_enter Try.func66, Try.ntmps66
    go_wp2
    go_loopw [3] (fun i wr => ∃ k n : Nat, k ≤ s.size ∧ i = .int .i64 (k : Int) ∧ goodTo s.data.toList k = true ∧ wr = w.drewN n) (fun i _ => s.size - (intOf i).toNat)
    case atStart => exact ⟨0, 0, Nat.zero_le _, rfl, goodTo_zero _, rfl⟩
    case round =>
      obtain ⟨k, n, hk, rfl, hg, rfl⟩ := hrel
      by_cases hlt : k < s.size
      · have HG := Lib.hid hg
        clear hg
        by_cases hk0 : k = 0
        · subst hk0
          have hlt' : (0 : Int) < (s.size : Int) := by omega
          have F1 := u8_ne s[0] 108 108 (by decide)
          have F2 := u8_ne s[0] 114 114 (by decide)
          have HGA := Lib.hid (show goodAt s.data.toList 0 = (s[0] == 108 || s[0] == 114) by rw [goodAt, getD_data s 0 hlt]; exact Bool.and_true _)
          cases x1 : (s[0] == 108) <;> cases x2 : (s[0] == 114)
          all_goals
            have HA := Lib.hid (show goodAt s.data.toList 0 = _ by rw [HGA.out, x1, x2])
            rw [x1] at F1
            rw [x2] at F2
            clear x1 x2 HGA
            go_wp2_with fail
            go_quiet (fail)
            go_wp2
            first
            | (go_roundw
               case rel => exact ⟨1, n + nq, by omega, by first | rfl | go_num, by rw [show (1 : Nat) = 0 + 1 from rfl, goodTo_succ, HG.out, HA.out]; rfl, by simp⟩
               case measure => simp only [intOf]; omega)
            | (go_ret
               exact ⟨by rw [show okW s = false by simp [okW, goodTo_no (l := s.data.toList) (k := 0) (n := s.size) (by rw [HA.out]; rfl) hlt]]; first | done | rfl, n + nq, by simp⟩)
        · obtain ⟨m, hmk⟩ : ∃ m, k = m + 1 := ⟨k - 1, by omega⟩
          have hlt' : (k : Int) < (s.size : Int) := by omega
          have hk1 : 0 < k := by omega
          have hm : m < s.size := by omega
          have ix2 : IntKind.i64.wrap ((k : Int) - 1) = (m : Int) := by rw [show (k : Int) - 1 = (m : Int) by omega]; exact IntWalk.i64_in _ (by omega)
          have ix3 : (k : Int) - 1 = (m : Int) := by omega
          have F1 := u8_ne s[k] 108 108 (by decide)
          have F2 := u8_ne s[k] 114 114 (by decide)
          have F3 := u8_eq s[k] s[m]
          have HGA := Lib.hid (show goodAt s.data.toList k = ((s[k] == 108 || s[k] == 114) && !(s[k] == s[m])) by rw [goodAt, getD_data s k hlt, show k - 1 = m by omega, getD_data s m hm, show (k == 0) = false by simp; omega]; rfl)
          have HK := Lib.hid hmk
          clear hmk hk0
          cases x1 : (s[k] == 108) <;> cases x2 : (s[k] == 114) <;> cases x3 : (s[k] == s[m])
          all_goals
            have HA := Lib.hid (show goodAt s.data.toList k = _ by rw [HGA.out, x1, x2, x3])
            rw [x1] at F1
            rw [x2] at F2
            rw [x3] at F3
            clear x1 x2 x3 HGA
            go_wp2_with fail
            go_quiet (fail)
            go_wp2
            first
            | (go_roundw
               case rel => exact ⟨k + 1, n + nq, by omega, by go_num, by rw [goodTo_succ, HG.out, HA.out]; rfl, by simp⟩
               case measure => simp only [intOf]; omega)
            | (go_ret
               exact ⟨by rw [show okW s = false by simp [okW, goodTo_no (l := s.data.toList) (k := k) (n := s.size) (by rw [HA.out]; rfl) hlt]]; first | done | rfl, n + nq, by simp⟩)
      · obtain rfl : k = s.size := by omega
        have HE := Lib.hid (show okW s = true by simp [okW, h40, hg])
        clear hg
        go_wp2
        go_ret
        exact ⟨by rw [HE.out]; first | done | rfl, n, rfl⟩
  · rw [okW_long h40]
    go_enter Try.func66, Try.ntmps66
    go_wp2
    go_ret
    exact ⟨rfl, 0, rfl⟩
end Go.Proofs.Ytfcllmlecnffdaa
