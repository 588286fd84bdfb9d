/- Where something seems to be behind the reflections of a word. -/
import Derived.Test.YtfcllmlecnffdaaMI2
namespace Go.Proofs.Ytfcllmlecnffdaa
open Go.RowKit
theorem u8_eqn (a b : UInt8) (n : Int) (hn : n = b.toNat) : ((a.toNat : Int) == n) = (a == b) := by rw [hn]; exact u8_eq a b
theorem seem_l {w a : Int} {l : List UInt8} {k : Nat} (h : (l.getD k 0 == 108) = true) : seemF w a l (k + 1) = -(seemF w a l k) := if_pos (by simpa using h)
theorem seem_r {w a : Int} {l : List UInt8} {k : Nat} (h : (l.getD k 0 == 108) = false) : seemF w a l (k + 1) = 2 * w - seemF w a l k := if_neg (by simpa using h)
set_option maxHeartbeats 400000 in
theorem behindMirror_any (a p : Int) (b : UInt8) (ha : 1 ≤ a ∧ a ≤ 500) (hp : -100000 ≤ p ∧ p ≤ 100000) (w : World) :
    Calls Try.prog 70 #[.int .i64 a, .int .i64 p, .int .u8 b.toNat] w fun e w' => e = .returned (.int .i64 (if (b == 108) = true then -p else 2 * a - p)) ∧ w = w' := by
  have F := u8_eqn b 108 108 (by decide)
  cases x : (b == 108)
  all_goals
    rw [x] at F
    clear x
    go_enter Try.func70, Try.ntmps70
    go_wp2
    go_ret
    exact ⟨by simp, rfl⟩
set_option maxHeartbeats 400000 in
theorem miAfter_any (a b : Int) (s : ByteArray) (ha : 1 ≤ a ∧ a ≤ 500) (hb : 0 ≤ b ∧ b ≤ a) (hs : s.size ≤ 40) (w : World) :
    Calls Try.prog 67 #[.int .i64 a, .int .i64 b, .string s] w fun e w' => e = .returned (.int .i64 (seemF a b s.data.toList s.size)) ∧ ∃ n, w' = w.drewN n := by
  have HBD := Lib.hid (seem_bd (w := a) (a := b) ha hb s.data.toList)
  go_enter Try.func67, Try.ntmps67
  go_wp2
  go_loopw [1, 7] (fun x i wr => ∃ k n : Nat, k ≤ s.size ∧ i = .int .i64 (k : Int) ∧ x = .int .i64 (seemF a b s.data.toList k) ∧ wr = w.drewN n) (fun _ i _ => s.size - (intOf i).toNat)
  case atStart => exact ⟨0, 0, Nat.zero_le _, rfl, rfl, rfl⟩
  case round =>
    obtain ⟨k, n, hk, rfl, rfl, rfl⟩ := hrel
    by_cases hlt : k < s.size
    · have hlt' : (k : Int) < (s.size : Int) := by omega
      have F := u8_eqn s[k] 108 108 (by decide)
      obtain ⟨c1, c2⟩ := HBD.out k
      have hd := getD_data s k hlt
      cases x : (s[k] == 108)
      · have HS := Lib.hid (seem_r (w := a) (a := b) (l := s.data.toList) (k := k) (by rw [hd, x]))
        rw [x] at F
        clear x hd
        generalize seemF a b s.data.toList k = p at *
        go_wp2
        go_roundw
        case rel => exact ⟨k + 1, n, by omega, by go_num, by rw [HS.out]; first | done | rfl | exact congrArg _ (by omega), rfl⟩
        case measure => simp only [intOf]; omega
      · have HS := Lib.hid (seem_l (w := a) (a := b) (l := s.data.toList) (k := k) (by rw [hd, x]))
        rw [x] at F
        clear x hd
        generalize seemF a b s.data.toList k = p at *
        go_wp2
        go_roundw
        case rel => exact ⟨k + 1, n, by omega, by go_num, by rw [HS.out]; first | done | rfl | exact congrArg _ (by omega), rfl⟩
        case measure => simp only [intOf]; omega
    · obtain rfl : k = s.size := by omega
      go_wp2
      go_ret
      exact ⟨rfl, n, rfl⟩
set_option maxHeartbeats 400000 in
theorem impl_ImageAfter (a b : Int) (s : ByteArray) (hs : s.size ≤ maxLen) (w : World) :
    Calls Try.prog 22 #[.int .i64 a, .int .i64 b, .string s] w fun e w' => e = .returned (.tuple #[.int .i64 (IA a b s), .bool (IAok a b s)]) ∧ Below w.heap.size w w' := by
  cases h1 : okCor a b
  · have HO := Lib.hid (show IAok a b s = false by simp [IAok, h1])
    have HE := Lib.hid (show IA a b s = 0 by simp [IA, HO.out])
    go_enter Try.func22, Try.ntmps22
    go_wp2_with fail
    refine (isInCorridor_any _ _ _).mono ?_
    rintro e w' ⟨rfl, rfl⟩
    rw [h1]
    go_wp2
    go_ret2
    exact ⟨by rw [HO.out, HE.out]; first | done | rfl, (by repeat (first | exact Below.refl _ _ | refine bl_alloc ?_ _ | refine bl_drewN ?_ _ | refine bl_trans (by assumption) ?_ | refine bl_set ?_ (by first | omega | (simp; done) | (simp; omega)) _))⟩
  · cases h2 : okW s
    · have HO := Lib.hid (show IAok a b s = false by simp [IAok, h1, h2])
      have HE := Lib.hid (show IA a b s = 0 by simp [IA, HO.out])
      go_enter Try.func22, Try.ntmps22
      go_wp2_with fail
      refine (isInCorridor_any _ _ _).mono ?_
      rintro e w' ⟨rfl, rfl⟩
      rw [h1]
      go_wp2_with fail
      refine (isWord_any _ hs _).mono ?_
      rintro e w' ⟨rfl, n1, rfl⟩
      rw [h2]
      go_wp2
      go_ret2
      exact ⟨by rw [HO.out, HE.out]; first | done | rfl, (by repeat (first | exact Below.refl _ _ | refine bl_alloc ?_ _ | refine bl_drewN ?_ _ | refine bl_trans (by assumption) ?_ | refine bl_set ?_ (by first | omega | (simp; done) | (simp; omega)) _))⟩
    · have HO := Lib.hid (show IAok a b s = true by simp [IAok, h1, h2])
      have HE := Lib.hid (show IA a b s = seemF a b s.data.toList s.size by simp [IA, HO.out])
      obtain ⟨hcw, hca⟩ := okCor_true h1
      have h40 := (okW_true h2).1
      have HBD := Lib.hid (seem_bd (w := a) (a := b) hcw hca s.data.toList)
      go_enter Try.func22, Try.ntmps22
      go_wp2_with fail
      refine (isInCorridor_any _ _ _).mono ?_
      rintro e w' ⟨rfl, rfl⟩
      rw [h1]
      go_wp2_with fail
      refine (isWord_any _ hs _).mono ?_
      rintro e w' ⟨rfl, n1, rfl⟩
      rw [h2]
      go_wp2
      go_loopw [8, 22] (fun x i wr => ∃ k n : Nat, k ≤ s.size ∧ i = .int .i64 (k : Int) ∧ x = .int .i64 (seemF a b s.data.toList k) ∧ wr = w.drewN n) (fun _ i _ => s.size - (intOf i).toNat)
      case atStart => exact ⟨0, n1, Nat.zero_le _, rfl, rfl, rfl⟩
      case round =>
        obtain ⟨k, n, hk, rfl, rfl, rfl⟩ := hrel
        by_cases hlt : k < s.size
        · have hlt' : (k : Int) < (s.size : Int) := by omega
          obtain ⟨c1, c2⟩ := HBD.out k
          have HD := Lib.hid (getD_data s k hlt)
          have HN : Hid (seemF a b s.data.toList (k + 1) = if (s[k] == 108) = true then -(seemF a b s.data.toList k) else 2 * a - seemF a b s.data.toList k) := by
            cases x : (s[k] == 108)
            · exact Lib.hid (seem_r (by rw [HD.out, x]))
            · exact Lib.hid (seem_l (by rw [HD.out, x]))
          generalize seemF a b s.data.toList k = p at *
          go_wp2_with fail
          refine (behindMirror_any _ _ _ hcw (by omega) _).mono ?_
          rintro e w' ⟨rfl, rfl⟩
          rw [← HN.out]
          go_wp2
          go_roundw
          case rel => exact ⟨k + 1, n, by omega, by go_num, rfl, rfl⟩
          case measure => simp only [intOf]; omega
        · obtain rfl : k = s.size := by omega
          go_wp2
          go_ret2
          exact ⟨by rw [HO.out, HE.out]; first | done | rfl, bl_drewN (Below.refl _ _) _⟩
set_option maxHeartbeats 400000 in
theorem spec_ImageAfter (a b : Int) (s : ByteArray) (hs : s.size ≤ maxLen) (w : World) :
    Calls Try.prog 21 #[.int .i64 a, .int .i64 b, .string s] w fun e w' => e = .returned (.tuple #[.int .i64 (IA a b s), .bool (IAok a b s)]) ∧ Below w.heap.size w w' := by
  cases h1 : okCor a b
  · have HO := Lib.hid (show IAok a b s = false by simp [IAok, h1])
    have HE := Lib.hid (show IA a b s = 0 by simp [IA, HO.out])
    go_enter Try.func21, Try.ntmps21
    go_wp2_with fail
    refine (miGood_any _ _ _).mono ?_
    rintro e w' ⟨rfl, rfl⟩
    rw [h1]
    go_wp2
    go_ret2
    exact ⟨by rw [HO.out, HE.out]; first | done | rfl, (by repeat (first | exact Below.refl _ _ | refine bl_alloc ?_ _ | refine bl_drewN ?_ _ | refine bl_trans (by assumption) ?_ | refine bl_set ?_ (by first | omega | (simp; done) | (simp; omega)) _))⟩
  · cases h2 : okW s
    · have HO := Lib.hid (show IAok a b s = false by simp [IAok, h1, h2])
      have HE := Lib.hid (show IA a b s = 0 by simp [IA, HO.out])
      go_enter Try.func21, Try.ntmps21
      go_wp2_with fail
      refine (miGood_any _ _ _).mono ?_
      rintro e w' ⟨rfl, rfl⟩
      rw [h1]
      go_wp2_with fail
      refine (miWord_any _ hs _).mono ?_
      rintro e w' ⟨rfl, n1, rfl⟩
      rw [h2]
      go_wp2
      go_ret2
      exact ⟨by rw [HO.out, HE.out]; first | done | rfl, (by repeat (first | exact Below.refl _ _ | refine bl_alloc ?_ _ | refine bl_drewN ?_ _ | refine bl_trans (by assumption) ?_ | refine bl_set ?_ (by first | omega | (simp; done) | (simp; omega)) _))⟩
    · have HO := Lib.hid (show IAok a b s = true by simp [IAok, h1, h2])
      have HE := Lib.hid (show IA a b s = seemF a b s.data.toList s.size by simp [IA, HO.out])
      obtain ⟨hcw, hca⟩ := okCor_true h1
      have h40 := (okW_true h2).1
      have HBD := Lib.hid (seem_bd (w := a) (a := b) hcw hca s.data.toList)
      go_enter Try.func21, Try.ntmps21
      go_wp2_with fail
      refine (miGood_any _ _ _).mono ?_
      rintro e w' ⟨rfl, rfl⟩
      rw [h1]
      go_wp2_with fail
      refine (miWord_any _ hs _).mono ?_
      rintro e w' ⟨rfl, n1, rfl⟩
      rw [h2]
      go_wp2_with fail
      refine (miAfter_any _ _ _ hcw hca h40 _).mono ?_
      rintro e w' ⟨rfl, n2, rfl⟩
      go_wp2
      go_ret2
      exact ⟨by rw [HO.out, HE.out]; first | done | rfl, (by repeat (first | exact Below.refl _ _ | refine bl_alloc ?_ _ | refine bl_drewN ?_ _ | refine bl_trans (by assumption) ?_ | refine bl_set ?_ (by first | omega | (simp; done) | (simp; omega)) _))⟩
end Go.Proofs.Ytfcllmlecnffdaa
