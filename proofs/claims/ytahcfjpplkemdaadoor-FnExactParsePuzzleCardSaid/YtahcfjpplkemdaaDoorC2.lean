/- Contracts of the functions of chapter 1 that take ladders: fractions. -/
import Derived.Test.YtahcfjpplkemdaaDoorC1
namespace Go.Proofs.YtahcfjpplkemdaaDoor
open Go.RowKit

theorem mul_bd {a b m : Int} (ha : 0 ≤ a) (hb : 0 ≤ b) (ha' : a ≤ m) (hb' : b ≤ m) : 0 ≤ a * b ∧ a * b ≤ m * m :=
  ⟨Int.mul_nonneg ha hb, Int.mul_le_mul ha' hb' hb (by omega)⟩
theorem mul_bd2 {a b m k : Int} (ha : 0 ≤ a) (hb : 0 ≤ b) (ha' : a ≤ m) (hb' : b ≤ k) : 0 ≤ a * b ∧ a * b ≤ m * k :=
  ⟨Int.mul_nonneg ha hb, Int.mul_le_mul ha' hb' hb (by omega)⟩
theorem sum_sq {b c : Int} (hb : 0 ≤ b) (hc : 0 ≤ c) : b * c ≤ (b + c) * (b + c) :=
  Int.mul_le_mul (by omega) (by omega) hc (by omega)
def CH (f : Int → Int → Int) (a b c : Int) : Int := if okL a b c then f (b * c) (b + c) else 0
def CP (f : Int → Int → Int) (a b c : Int) : Int := if okL a b c then f (a * b) (b + c) else 0
def AB (f : Int → Int → Int) (a b c : Int) : Int := if okL a b c then f (a * b * c) (2 * (b + c)) else 0
def AW (f : Int → Int → Int) (a b c : Int) : Int := if okL a b c then f (a * ((b + c) * (b + c) - b * c)) (2 * (b + c)) else 0
end Go.Proofs.YtahcfjpplkemdaaDoor
