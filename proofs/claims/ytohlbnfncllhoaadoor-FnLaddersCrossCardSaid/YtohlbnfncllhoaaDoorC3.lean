/- Contracts of the functions of chapter 1 that take ladders: squares, lengths, heights. -/
import Derived.Test.YtohlbnfncllhoaaDoorC2
namespace Go.Proofs.YtohlbnfncllhoaaDoor
open Go.RowKit

theorem rt_nat (n : Nat) : rt n = ((rtN n : Nat) : Int) := by simp [rt]
theorem rt_unique {n r : Int} (hn : 0 ≤ n) (h0 : 0 ≤ r) (h1 : r * r ≤ n) (h2 : n < (r + 1) * (r + 1)) : rt n = r := by
  obtain ⟨k, rfl⟩ := Int.eq_ofNat_of_zero_le h0
  obtain ⟨m, rfl⟩ := Int.eq_ofNat_of_zero_le hn
  rw [rt_nat, rtN_unique (r := k) (by exact_mod_cast h1) (by exact_mod_cast h2)]
theorem rt_facts {n : Int} (h : 0 ≤ n) : 0 ≤ rt n ∧ rt n * rt n ≤ n ∧ n < (rt n + 1) * (rt n + 1) := by
  obtain ⟨m, rfl⟩ := Int.eq_ofNat_of_zero_le h
  obtain ⟨a, b⟩ := rtN_spec m
  rw [rt_nat]
  exact ⟨by omega, by exact_mod_cast a, by exact_mod_cast b⟩


def whole (n : Int) : Bool := rt n * rt n == n

theorem sq_bd {a b : Int} (ha : 0 ≤ a) (ha' : a ≤ 1000000) (hb : 0 ≤ b) (hb' : b ≤ 1000000) : (0 ≤ a * a ∧ a * a ≤ 1000000000000) ∧ (0 ≤ b * b ∧ b * b ≤ 1000000000000) ∧ 0 ≤ sq a b ∧ sq a b ≤ 2000000000000 := by
  have x := mul_bd ha ha ha' ha'
  have y := mul_bd hb hb hb' hb'
  unfold sq
  omega


set_option maxHeartbeats 400000 in
theorem spec_AreLadders (a b c : Int) (w : World) :
    Calls Tryd.prog 22 #[.agg #[.int .i64 a, .int .i64 b, .int .i64 c]] w fun e w' => e = .returned (.bool (okL a b c)) ∧ Below w.heap.size w w' := by
  go_enter Tryd.func22, Tryd.ntmps22
  go_wp2_with (go_at_call 39; refine (spec_clGood _ _ _ _).mono ?_; rintro e w1 ⟨rfl, hb⟩; obtain ⟨hc, hf⟩ := bcell hb; have hz := bsize hb; (try simp only [World.size_alloc] at hz); (try have hz0 : w.heap.size < w1.heap.size := by omega))
  go_ret
  exact ⟨rfl, (by repeat (first | exact Below.refl _ _ | refine bl_alloc ?_ _ | refine bl_drewN ?_ _ | refine bl_trans (by assumption) ?_))⟩

def SQ (p q : Int) (a b c : Int) : Int := if okL a b c then sq p q else 0


def okW (a b c : Int) : Bool := okL a b c && (whole (sq a b) && whole (sq a c))
def LO (p q : Int) (a b c : Int) : Int := if okW a b c then rt (sq p q) else 0




end Go.Proofs.YtohlbnfncllhoaaDoor
