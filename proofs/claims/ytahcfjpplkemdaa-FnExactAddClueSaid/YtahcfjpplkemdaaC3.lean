/- Contracts of the functions of chapter 1 that take ladders: squares, lengths, heights. -/
import Derived.Test.YtahcfjpplkemdaaC2
namespace Go.Proofs.Ytahcfjpplkemdaa
open Go.RowKit

theorem rt_nat (n : Nat) : rt n = ((rtN n : Nat) : Int) := by simp [rt]
theorem rt_unique {n r : Int} (hn : 0 ≤ n) (h0 : 0 ≤ r) (h1 : r * r ≤ n) (h2 : n < (r + 1) * (r + 1)) : rt n = r := by
  obtain ⟨k, rfl⟩ := Int.eq_ofNat_of_zero_le h0
  obtain ⟨m, rfl⟩ := Int.eq_ofNat_of_zero_le hn
  rw [rt_nat, rtN_unique (r := k) (by exact_mod_cast h1) (by exact_mod_cast h2)]
theorem rt_facts {n : Int} (h : 0 ≤ n) : 0 ≤ rt n ∧ rt n * rt n ≤ n ∧ n < (rt n + 1) * (rt n + 1) := by
  obtain ⟨m, rfl⟩ := Int.eq_ofNat_of_zero_le h
  obtain ⟨a, b⟩ := rtN_spec m
  rw [rt_nat]
  exact ⟨by omega, by exact_mod_cast a, by exact_mod_cast b⟩

set_option maxHeartbeats 400000 in
theorem rootBelow_any (n : Int) (h0 : 0 ≤ n) (h1 : n ≤ 4611686018427387903) (w : World) :
    Calls Try.prog 92 #[.int .i64 n] w fun e w' => e = .returned (.int .i64 (rt n)) ∧ w = w' := by
  obtain ⟨m, rfl⟩ := Int.eq_ofNat_of_zero_le h0
  rw [rt_nat]
  exact rootBelow_nat m (by omega) w

def whole (n : Int) : Bool := rt n * rt n == n
set_option maxHeartbeats 400000 in
theorem wholeRoot_any (n : Int) (h0 : 0 ≤ n) (h1 : n ≤ 4611686018427387903) (w : World) :
    Calls Try.prog 78 #[.int .i64 n] w fun e w' => e = .returned (.tuple #[.int .i64 (rt n), .bool (whole n)]) ∧ w = w' := by
  obtain ⟨r0, r1, r2⟩ := rt_facts h0
  have r3 : 0 ≤ rt n * rt n := Int.mul_nonneg r0 r0
  clear r2
  go_enter Try.func78, Try.ntmps78
  go_wp2_with (go_at_call 92; refine (rootBelow_any _ h0 h1 _).mono ?_; rintro e w' ⟨rfl, rfl⟩)
  go_ret2
  exact ⟨by simp [whole], rfl⟩

theorem sq_bd {a b : Int} (ha : 0 ≤ a) (ha' : a ≤ 1000000) (hb : 0 ≤ b) (hb' : b ≤ 1000000) : (0 ≤ a * a ∧ a * a ≤ 1000000000000) ∧ (0 ≤ b * b ∧ b * b ≤ 1000000000000) ∧ 0 ≤ sq a b ∧ sq a b ≤ 2000000000000 := by
  have x := mul_bd ha ha ha' ha'
  have y := mul_bd hb hb hb' hb'
  unfold sq
  omega
set_option maxHeartbeats 400000 in
theorem squareOfLength_any (a b : Int) (ha : 0 ≤ a) (ha' : a ≤ 1000000) (hb : 0 ≤ b) (hb' : b ≤ 1000000) (w : World) :
    Calls Try.prog 79 #[.int .i64 a, .int .i64 b] w fun e w' => e = .returned (.int .i64 (sq a b)) ∧ w = w' := by
  obtain ⟨⟨x1, x2⟩, ⟨x3, x4⟩, _⟩ := sq_bd ha ha' hb hb'
  go_enter Try.func79, Try.ntmps79
  go_wp2
  go_ret
  exact ⟨rfl, rfl⟩

set_option maxHeartbeats 400000 in
theorem clRoot_any (n : Int) (h0 : 0 ≤ n) (h1 : n ≤ 4611686018427387903) (w : World) :
    Calls Try.prog 90 #[.int .i64 n] w fun e w' => e = .returned (.int .i64 (rt n)) ∧ w = w' := by
  go_enter Try.func90, Try.ntmps90
  go_wp2
  go_loop [3, 4] (fun a b => ∃ p q : Int, a = .int .i64 p ∧ b = .int .i64 q ∧ 0 ≤ p ∧ p < q ∧ q ≤ 2147483648 ∧ p * p ≤ n ∧ n < q * q) (fun a b => (intOf b - intOf a).toNat)
  case atStart => exact ⟨0, 2147483648, rfl, rfl, by omega, by omega, by omega, by omega, by omega⟩
  case round =>
    obtain ⟨p, q, rfl, rfl, hp, hpq, hq, hl, hh⟩ := hrel
    have HL := Lib.hid hl
    have HH := Lib.hid hh
    clear hl hh
    by_cases hlt : p < q - 1
    · obtain ⟨m0, m1⟩ := mul_bd (a := (p + q) / 2) (b := (p + q) / 2) (m := 2147483648) (by omega) (by omega) (by omega) (by omega)
      by_cases hm : (p + q) / 2 * ((p + q) / 2) ≤ n
      · go_wp2
        go_round
        case rel => exact ⟨_, _, rfl, rfl, by omega, by omega, hq, hm, HH.out⟩
        case measure => simp only [intOf]; omega
      · go_wp2
        go_round
        case rel => exact ⟨_, _, rfl, rfl, hp, by omega, by omega, HL.out, by omega⟩
        case measure => simp only [intOf]; omega
    · obtain rfl : q = p + 1 := by omega
      have hr := rt_unique h0 hp HL.out HH.out
      subst hr
      go_wp2
      go_ret
      exact ⟨rfl, rfl⟩


def SQ (p q : Int) (a b c : Int) : Int := if okL a b c then sq p q else 0
set_option maxHeartbeats 400000 in
theorem clSquares_any (a b c : Int) (h : okL a b c = true) (w : World) :
    Calls Try.prog 89 #[.agg #[.int .i64 a, .int .i64 b, .int .i64 c]] w fun e w' => e = .returned (.tuple #[.int .i64 (sq a b), .int .i64 (sq a c)]) ∧ Below w.heap.size w w' := by
  obtain ⟨⟨a0, a1⟩, ⟨b0, b1⟩, c0, c1⟩ := okL_true h
  obtain ⟨⟨x1, x2⟩, ⟨x3, x4⟩, _⟩ := sq_bd (a := a) (b := b) (by omega) (by omega) (by omega) (by omega)
  obtain ⟨_, ⟨x5, x6⟩, _⟩ := sq_bd (a := a) (b := c) (by omega) (by omega) (by omega) (by omega)
  have e1 := Lib.hid (show sq a b = a * a + b * b from rfl)
  have e2 := Lib.hid (show sq a c = a * a + c * c from rfl)
  have wr1 : IntKind.i64.wrap (a * a) = a * a := IntWalk.i64_in _ (by omega)
  have wr2 : IntKind.i64.wrap (b * b) = b * b := IntWalk.i64_in _ (by omega)
  have wr3 : IntKind.i64.wrap (c * c) = c * c := IntWalk.i64_in _ (by omega)
  have wr4 : IntKind.i64.wrap (a * a + b * b) = a * a + b * b := IntWalk.i64_in _ (by omega)
  have wr5 : IntKind.i64.wrap (a * a + c * c) = a * a + c * c := IntWalk.i64_in _ (by omega)
  go_enter Try.func89, Try.ntmps89
  go_wp2
  go_quiet (fail)
  go_wp2
  go_ret2
  exact ⟨by rw [e1.out, e2.out]; rfl, (by repeat (first | exact Below.refl _ _ | refine bl_alloc ?_ _ | refine bl_drewN ?_ _ | refine bl_trans (by assumption) ?_))⟩


def okW (a b c : Int) : Bool := okL a b c && (whole (sq a b) && whole (sq a c))
def LO (p q : Int) (a b c : Int) : Int := if okW a b c then rt (sq p q) else 0




end Go.Proofs.Ytahcfjpplkemdaa
