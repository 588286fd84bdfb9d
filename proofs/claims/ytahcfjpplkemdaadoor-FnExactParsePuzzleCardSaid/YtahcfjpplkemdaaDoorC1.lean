/- Contracts of the functions of chapter 1 that compute with numbers: each call returns what the plain functions below name; the world has at most new blocks. -/
import Derived.Test.YtahcfjpplkemdaaDoorRows
import Derived.WalkKit
import Derived.WalkSpells
import Derived.WalkLawsBesides
import Derived.Lib.Hide
import Derived.LoopTactic
import Derived.Deep.QuietTactic
import Derived.BigQuiet
namespace Go.Proofs.YtahcfjpplkemdaaDoor
open Go.RowKit
set_option linter.unusedSimpArgs false

theorem bcell {W w1 : World} (hb : Below W.heap.size W w1) : (∀ b o, b < W.heap.size → w1.cell? ⟨b, o, none⟩ = W.cell? ⟨b, o, none⟩) ∧ (∀ b o, b < W.heap.size → w1.frozen? ⟨b, o, none⟩ = W.frozen? ⟨b, o, none⟩) :=
  ⟨fun b o h => hb.cell (p := ⟨b, o, none⟩) h, fun b o h => hb.frozen (p := ⟨b, o, none⟩) h⟩
theorem below_drewN {B : Nat} {a w : World} (h : Below B a w) (n : Nat) : Below B a (w.drewN n) := ⟨h.os, h.tape, h.output, h.size, h.block⟩
theorem bsize {W w1 : World} (hb : Below W.heap.size W w1) : W.heap.size ≤ w1.heap.size := hb.size
theorem bl_alloc {w u : World} (h : Below w.heap.size w u) (o : Obj) : Below w.heap.size w (u.alloc o) := h.alloc h.size o
theorem bl_drewN {w u : World} (h : Below w.heap.size w u) (n : Nat) : Below w.heap.size w (u.drewN n) := below_drewN h n
theorem bl_trans {w u v : World} (k : Below u.heap.size u v) (h : Below w.heap.size w u) : Below w.heap.size w v := h.trans (k.mono h.size)
theorem bl_set {w u : World} (h : Below w.heap.size w u) {p : Addr} (hp : w.heap.size ≤ p.block) (v : Value) : Below w.heap.size w (u.setCell p v) := h.setCell hp v
theorem quiet_eq {P : Program} {f : FuncId} {args : Array Value} {w : World} {n : Nat} {v : Value}
    (h : Calls P f args (w.drewN n) fun e w' => e = .returned v ∧ w.drewN n = w') : Calls P f args (w.drewN n) fun e w'' => e = .returned v ∧ ∃ m, w'' = w.drewN m :=
  h.mono fun _ _ ⟨he, hm⟩ => ⟨he, n, hm.symm⟩
theorem gcd_step (x y : Nat) (_h : 0 < y) : Nat.gcd y (x % y) = Nat.gcd x y := by
  rw [Nat.gcd_comm y, ← Nat.gcd_rec, Nat.gcd_comm]

def within (n a b : Int) : Bool := decide (a ≤ n) && decide (n ≤ b)
theorem within_true {n a b : Int} (h : within n a b = true) : a ≤ n ∧ n ≤ b := by simpa [within] using h
def okL (a b c : Int) : Bool := within a 1 1000 && within b 1 1000 && within c 1 1000
theorem okL_true {a b c : Int} (h : okL a b c = true) : (1 ≤ a ∧ a ≤ 1000) ∧ (1 ≤ b ∧ b ≤ 1000) ∧ 1 ≤ c ∧ c ≤ 1000 := by
  simp only [okL, Bool.and_eq_true] at h
  exact ⟨within_true h.1.1, within_true h.1.2, within_true h.2⟩
def ln (a b : Int) : Int := a / (Nat.gcd a.toNat b.toNat : Nat)
def ld (a b : Int) : Int := b / (Nat.gcd a.toNat b.toNat : Nat)

set_option maxHeartbeats 400000 in
theorem isWithin_any (n a b : Int) (w : World) :
    Calls Tryd.prog 45 #[.int .i64 n, .int .i64 a, .int .i64 b] w fun e w' => e = .returned (.bool (within n a b)) ∧ w = w' := by
  go_enter Tryd.func45, Tryd.ntmps45
  go_wp2
  all_goals (go_ret; exact ⟨by simp [within]; omega, rfl⟩)

set_option maxHeartbeats 400000 in
theorem l1In_any (n a b : Int) (w : World) :
    Calls Tryd.prog 44 #[.int .i64 n, .int .i64 a, .int .i64 b] w fun e w' => e = .returned (.bool (within n a b)) ∧ w = w' := by
  go_enter Tryd.func44, Tryd.ntmps44
  go_wp2
  all_goals (go_ret; exact ⟨by simp [within]; omega, rfl⟩)




theorem ln_nat (x y : Nat) : ln x y = ((x / Nat.gcd x y : Nat) : Int) := by simp [ln]
theorem ld_nat (x y : Nat) : ld x y = ((y / Nat.gcd x y : Nat) : Int) := by simp [ld]

theorem wrap_div (x z : Nat) (hx : x ≤ 4611686018427387904) : wrap64 ((x : Int) / (z : Int)) = (x : Int) / (z : Int) := by
  have h : x / z ≤ x := Nat.div_le_self _ _
  have e : (x : Int) / (z : Int) = ((x / z : Nat) : Int) := by simp
  rw [e]
  generalize x / z = q at h
  exact IntWalk.wrap64_in _ ⟨by omega, by omega⟩

def lnI (a b : Int) : Int := if a < 0 then -(ln (-a) b) else ln a b
def ldI (a b : Int) : Int := if a < 0 then ld (-a) b else ld a b
theorem lnI_nat {a : Int} (b : Int) (h : 0 ≤ a) : lnI a b = ln a b := if_neg (by omega)
theorem ldI_nat {a : Int} (b : Int) (h : 0 ≤ a) : ldI a b = ld a b := if_neg (by omega)
theorem tdiv_neg_nat (x z : Nat) : (-(x : Int)).tdiv (z : Int) = -((x : Int) / (z : Int)) := by
  rw [Int.neg_tdiv, Int.tdiv_eq_ediv_of_nonneg (by omega)]
theorem wrap_neg_div (x z : Nat) (hx : x ≤ 4611686018427387904) : wrap64 (-((x : Int) / (z : Int))) = -((x : Int) / (z : Int)) := by
  have h : x / z ≤ x := Nat.div_le_self _ _
  have e : (x : Int) / (z : Int) = ((x / z : Nat) : Int) := by simp
  rw [e]
  generalize x / z = q at h
  exact IntWalk.wrap64_in _ ⟨by omega, by omega⟩


def sq (a b : Int) : Int := a * a + b * b
/-- the greatest number whose square is not greater -/
def rtN : Nat → Nat
  | 0 => 0
  | n + 1 => if (rtN n + 1) * (rtN n + 1) ≤ n + 1 then rtN n + 1 else rtN n
def rt (n : Int) : Int := (rtN n.toNat : Nat)
theorem rtN_spec (n : Nat) : rtN n * rtN n ≤ n ∧ n < (rtN n + 1) * (rtN n + 1) := by
  induction n with
  | zero => simp [rtN]
  | succ n ih =>
    unfold rtN
    split
    · rename_i h
      refine ⟨h, ?_⟩
      have : (rtN n + 1 + 1) * (rtN n + 1 + 1) = (rtN n + 1) * (rtN n + 1) + 2 * (rtN n + 1) + 1 := by grind
      omega
    · omega
theorem sq_lt {a b : Nat} (h : a * a < b * b) : a < b := by
  by_cases c : a < b
  · exact c
  · exact absurd (Nat.mul_le_mul (Nat.le_of_not_lt c) (Nat.le_of_not_lt c)) (by omega)
theorem rtN_unique {n r : Nat} (h1 : r * r ≤ n) (h2 : n < (r + 1) * (r + 1)) : rtN n = r := by
  obtain ⟨a, b⟩ := rtN_spec n
  have c1 : rtN n < r + 1 := sq_lt (Nat.lt_of_le_of_lt a h2)
  have c2 : r < rtN n + 1 := sq_lt (Nat.lt_of_le_of_lt h1 b)
  omega
theorem div_nat (n q : Nat) : 0 ≤ (n : Int) / (q : Int) ∧ (n : Int) / (q : Int) ≤ n :=
  ⟨by exact_mod_cast Nat.zero_le (n / q), by exact_mod_cast Nat.div_le_self n q⟩
theorem newton {n r q : Nat} (hq : 0 < q) (hr : r * r ≤ n) : r ≤ (q + n / q) / 2 := by
  by_cases c : 2 * r ≤ q
  · generalize n / q = z
    omega
  · obtain ⟨d, hd⟩ : ∃ d, 2 * r = q + d := ⟨2 * r - q, by omega⟩
    have h1 : d ≤ n / q := by
      rw [Nat.le_div_iff_mul_le hq]
      refine Nat.le_trans ?_ hr
      have h4 : 4 * (d * q) ≤ 4 * (r * r) := by
        have e : 4 * (r * r) = (q + d) * (q + d) := by rw [← hd]; grind
        rw [e]
        rcases Nat.le_total q d with h | h <;> obtain ⟨k, rfl⟩ := Nat.exists_eq_add_of_le h <;> grind
      omega
    generalize n / q = z at *
    omega

end Go.Proofs.YtahcfjpplkemdaaDoor
