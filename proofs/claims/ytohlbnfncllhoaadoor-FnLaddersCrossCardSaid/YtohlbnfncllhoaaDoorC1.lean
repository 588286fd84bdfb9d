/- Contracts of the functions of chapter 1 that compute with numbers: each call returns what the plain functions below name; the world has at most new blocks. -/
import Derived.Test.YtohlbnfncllhoaaDoorRows
import Derived.WalkKit
import Derived.WalkSpells
import Derived.WalkLawsBesides
import Derived.Lib.Hide
import Derived.LoopTactic
import Derived.Deep.QuietTactic
import Derived.BigQuiet
namespace Go.Proofs.YtohlbnfncllhoaaDoor
open Go.RowKit
set_option linter.unusedSimpArgs false

theorem bcell {W w1 : World} (hb : Below W.heap.size W w1) : (∀ b o, b < W.heap.size → w1.cell? ⟨b, o, none⟩ = W.cell? ⟨b, o, none⟩) ∧ (∀ b o, b < W.heap.size → w1.frozen? ⟨b, o, none⟩ = W.frozen? ⟨b, o, none⟩) :=
  ⟨fun b o h => hb.cell (p := ⟨b, o, none⟩) h, fun b o h => hb.frozen (p := ⟨b, o, none⟩) h⟩
theorem below_drewN {B : Nat} {a w : World} (h : Below B a w) (n : Nat) : Below B a (w.drewN n) := ⟨h.os, h.tape, h.output, h.size, h.block⟩
theorem bsize {W w1 : World} (hb : Below W.heap.size W w1) : W.heap.size ≤ w1.heap.size := hb.size
theorem bl_alloc {w u : World} (h : Below w.heap.size w u) (o : Obj) : Below w.heap.size w (u.alloc o) := h.alloc h.size o
theorem bl_drewN {w u : World} (h : Below w.heap.size w u) (n : Nat) : Below w.heap.size w (u.drewN n) := below_drewN h n
theorem bl_trans {w u v : World} (k : Below u.heap.size u v) (h : Below w.heap.size w u) : Below w.heap.size w v := h.trans (k.mono h.size)
theorem bl_set {w u : World} (h : Below w.heap.size w u) {p : Addr} (hp : w.heap.size ≤ p.block) (v : Value) : Below w.heap.size w (u.setCell p v) := h.setCell hp v
theorem quiet_eq {P : Program} {f : FuncId} {args : Array Value} {w : World} {n : Nat} {v : Value}
    (h : Calls P f args (w.drewN n) fun e w' => e = .returned v ∧ w.drewN n = w') : Calls P f args (w.drewN n) fun e w'' => e = .returned v ∧ ∃ m, w'' = w.drewN m :=
  h.mono fun _ _ ⟨he, hm⟩ => ⟨he, n, hm.symm⟩
theorem gcd_step (x y : Nat) (_h : 0 < y) : Nat.gcd y (x % y) = Nat.gcd x y := by
  rw [Nat.gcd_comm y, ← Nat.gcd_rec, Nat.gcd_comm]

def within (n a b : Int) : Bool := decide (a ≤ n) && decide (n ≤ b)
theorem within_true {n a b : Int} (h : within n a b = true) : a ≤ n ∧ n ≤ b := by simpa [within] using h
def okL (a b c : Int) : Bool := within a 1 1000 && within b 1 1000 && within c 1 1000
theorem okL_true {a b c : Int} (h : okL a b c = true) : (1 ≤ a ∧ a ≤ 1000) ∧ (1 ≤ b ∧ b ≤ 1000) ∧ 1 ≤ c ∧ c ≤ 1000 := by
  simp only [okL, Bool.and_eq_true] at h
  exact ⟨within_true h.1.1, within_true h.1.2, within_true h.2⟩
def ln (a b : Int) : Int := a / (Nat.gcd a.toNat b.toNat : Nat)
def ld (a b : Int) : Int := b / (Nat.gcd a.toNat b.toNat : Nat)

set_option maxHeartbeats 400000 in
theorem isWithin_any (n a b : Int) (w : World) :
    Calls Tryd.prog 45 #[.int .i64 n, .int .i64 a, .int .i64 b] w fun e w' => e = .returned (.bool (within n a b)) ∧ w = w' := by
  go_enter Tryd.func45, Tryd.ntmps45
  go_wp2
  all_goals (go_ret; exact ⟨by simp [within]; omega, rfl⟩)

set_option maxHeartbeats 400000 in
theorem l1In_any (n a b : Int) (w : World) :
    Calls Tryd.prog 56 #[.int .i64 n, .int .i64 a, .int .i64 b] w fun e w' => e = .returned (.bool (within n a b)) ∧ w = w' := by
  go_enter Tryd.func56, Tryd.ntmps56
  go_wp2
  all_goals (go_ret; exact ⟨by simp [within]; omega, rfl⟩)

set_option maxHeartbeats 400000 in
theorem impl_AreLadders (a b c : Int) (w : World) :
    Calls Tryd.prog 21 #[.agg #[.int .i64 a, .int .i64 b, .int .i64 c]] w fun e w' => e = .returned (.bool (okL a b c)) ∧ Below w.heap.size w w' := by
  cases h1 : within a 1 1000 <;> cases h2 : within b 1 1000 <;> cases h3 : within c 1 1000
  all_goals
    go_enter Tryd.func21, Tryd.ntmps21
    go_wp2_with (go_at_call 45; refine (isWithin_any _ _ _ _).mono ?_; rintro e w' ⟨rfl, rfl⟩)
    go_ret
    exact ⟨by simp [okL, h1, h2, h3], (Below.refl _ _).alloc (Nat.le_refl _) _⟩

set_option maxHeartbeats 400000 in
theorem spec_clGood (a b c : Int) (w : World) :
    Calls Tryd.prog 39 #[.agg #[.int .i64 a, .int .i64 b, .int .i64 c]] w fun e w' => e = .returned (.bool (okL a b c)) ∧ Below w.heap.size w w' := by
  cases h1 : within a 1 1000 <;> cases h2 : within b 1 1000 <;> cases h3 : within c 1 1000
  all_goals
    go_enter Tryd.func39, Tryd.ntmps39
    go_wp2_with (go_at_call 56; refine (l1In_any _ _ _ _).mono ?_; rintro e w' ⟨rfl, rfl⟩)
    go_ret
    exact ⟨by simp [okL, h1, h2, h3], (Below.refl _ _).alloc (Nat.le_refl _) _⟩

set_option maxHeartbeats 400000 in
theorem gd_nat (x y : Nat) (hx : x ≤ 4611686018427387904) (hy : y ≤ 4611686018427387904) (w : World) :
    Calls Tryd.prog 57 #[.int .i64 x, .int .i64 y] w fun e w' => e = .returned (.int .i64 (Nat.gcd x y)) ∧ ∃ n, w' = w.drewN n := by
  go_enter Tryd.func57, Tryd.ntmps57
  go_wp2
  go_loopw [0, 1] (fun a b wr => ∃ p q n : Nat, a = .int .i64 p ∧ b = .int .i64 q ∧ p ≤ 4611686018427387904 ∧ q ≤ 4611686018427387904 ∧ Nat.gcd p q = Nat.gcd x y ∧ wr = w.drewN n) (fun _ b _ => (intOf b).toNat)
  case atStart => exact ⟨x, y, 0, rfl, rfl, hx, hy, rfl, rfl⟩
  case round =>
    obtain ⟨p, q, n, rfl, rfl, hp, hq, hg, rfl⟩ := hrel
    have Hg := Lib.hid hg
    clear hg
    by_cases hq0 : 1 ≤ q
    · have hne : ((q : Int) != 0) = true := by simp; omega
      go_wp2_with fail
      go_quiet (fail)
      go_wp2
      have hm : p % q < q := Nat.mod_lt _ (by omega)
      exact ⟨⟨q, p % q, n + nq, rfl, by simp, hq, by omega, by rw [gcd_step p q (by omega), Hg.out], by simp⟩, by simp only [intOf]; omega⟩
    · obtain rfl : q = 0 := by omega
      go_wp2
      go_ret
      exact ⟨by rw [← Hg.out, Nat.gcd_zero_right]; rfl, _, rfl⟩

theorem ln_nat (x y : Nat) : ln x y = ((x / Nat.gcd x y : Nat) : Int) := by simp [ln]
theorem ld_nat (x y : Nat) : ld x y = ((y / Nat.gcd x y : Nat) : Int) := by simp [ld]

theorem wrap_div (x z : Nat) (hx : x ≤ 4611686018427387904) : wrap64 ((x : Int) / (z : Int)) = (x : Int) / (z : Int) := by
  have h : x / z ≤ x := Nat.div_le_self _ _
  have e : (x : Int) / (z : Int) = ((x / z : Nat) : Int) := by simp
  rw [e]
  generalize x / z = q at h
  exact IntWalk.wrap64_in _ ⟨by omega, by omega⟩

def lnI (a b : Int) : Int := if a < 0 then -(ln (-a) b) else ln a b
def ldI (a b : Int) : Int := if a < 0 then ld (-a) b else ld a b
theorem lnI_nat {a : Int} (b : Int) (h : 0 ≤ a) : lnI a b = ln a b := if_neg (by omega)
theorem ldI_nat {a : Int} (b : Int) (h : 0 ≤ a) : ldI a b = ld a b := if_neg (by omega)
theorem tdiv_neg_nat (x z : Nat) : (-(x : Int)).tdiv (z : Int) = -((x : Int) / (z : Int)) := by
  rw [Int.neg_tdiv, Int.tdiv_eq_ediv_of_nonneg (by omega)]
theorem wrap_neg_div (x z : Nat) (hx : x ≤ 4611686018427387904) : wrap64 (-((x : Int) / (z : Int))) = -((x : Int) / (z : Int)) := by
  have h : x / z ≤ x := Nat.div_le_self _ _
  have e : (x : Int) / (z : Int) = ((x / z : Nat) : Int) := by simp
  rw [e]
  generalize x / z = q at h
  exact IntWalk.wrap64_in _ ⟨by omega, by omega⟩
set_option maxHeartbeats 400000 in
theorem toldFraction_any (a b : Int) (ha : 0 ≤ a) (ha' : a ≤ 4611686018427387904) (hb : 1 ≤ b) (hb' : b ≤ 4611686018427387904) (w : World) :
    Calls Tryd.prog 38 #[.int .i64 a, .int .i64 b] w fun e w' => e = .returned (.tuple #[.int .i64 (ln a b), .int .i64 (ld a b), .bool true]) ∧ ∃ n, w' = w.drewN n := by
  obtain ⟨x, rfl⟩ := Int.eq_ofNat_of_zero_le ha
  obtain ⟨y, rfl⟩ := Int.eq_ofNat_of_zero_le (show 0 ≤ b by omega)
  have hg : 1 ≤ Nat.gcd x y := Nat.gcd_pos_of_pos_right _ (by omega)
  have hg' : Nat.gcd x y ≤ y := Nat.gcd_le_right _ (by omega)
  have h1 := Lib.hid (ln_nat x y)
  have h2 := Lib.hid (ld_nat x y)
  have Hc := fun W => Lib.hid (gd_nat x y (by omega) (by omega) W)
  generalize Nat.gcd x y = z at *
  have hz : ((z : Int) == 0) = false := by simp; omega
  go_enter Tryd.func38, Tryd.ntmps38
  go_wp2_with fail
  refine ((Hc _).out).mono ?_
  rintro e w' ⟨rfl, n, rfl⟩
  go_wp2_with fail
  go_quiet (fail)
  go_wp2
  go_ret3
  exact ⟨by rw [h1.out, h2.out]; simp [wrap_div x z (by omega), wrap_div y z (by omega)], n + nq, by simp⟩
set_option maxHeartbeats 400000 in
theorem toldFraction_neg (x y : Nat) (ha : 1 ≤ x) (ha' : x ≤ 4611686018427387904) (hb : 1 ≤ y) (hb' : y ≤ 4611686018427387904) (w : World) :
    Calls Tryd.prog 38 #[.int .i64 (-(x : Int)), .int .i64 y] w fun e w' => e = .returned (.tuple #[.int .i64 (-(ln x y)), .int .i64 (ld x y), .bool true]) ∧ ∃ n, w' = w.drewN n := by
  have hg : 1 ≤ Nat.gcd x y := Nat.gcd_pos_of_pos_right _ (by omega)
  have hg' : Nat.gcd x y ≤ y := Nat.gcd_le_right _ (by omega)
  have h1 := Lib.hid (ln_nat x y)
  have h2 := Lib.hid (ld_nat x y)
  have Hc := fun W => Lib.hid (gd_nat x y (by omega) (by omega) W)
  generalize Nat.gcd x y = z at *
  have hz : ((z : Int) == 0) = false := by simp; omega
  go_enter Tryd.func38, Tryd.ntmps38
  go_wp2_with fail
  refine ((Hc _).out).mono ?_
  rintro e w' ⟨rfl, n, rfl⟩
  go_wp2_with fail
  go_quiet (fail)
  go_wp2
  go_ret3
  exact ⟨by rw [h1.out, h2.out]; simp [tdiv_neg_nat, wrap_neg_div x z (by omega), wrap_div y z (by omega)], n + nq, by simp⟩
theorem toldFraction_int (a b : Int) (ha : -4611686018427387904 ≤ a) (ha' : a ≤ 4611686018427387904) (hb : 1 ≤ b) (hb' : b ≤ 4611686018427387904) (w : World) :
    Calls Tryd.prog 38 #[.int .i64 a, .int .i64 b] w fun e w' => e = .returned (.tuple #[.int .i64 (lnI a b), .int .i64 (ldI a b), .bool true]) ∧ ∃ n, w' = w.drewN n := by
  by_cases h : 0 ≤ a
  · rw [lnI_nat b h, ldI_nat b h]
    exact toldFraction_any a b h ha' hb hb' w
  · obtain ⟨x, hx⟩ := Int.eq_ofNat_of_zero_le (show 0 ≤ -a by omega)
    obtain ⟨y, rfl⟩ := Int.eq_ofNat_of_zero_le (show 0 ≤ b by omega)
    obtain rfl : a = -(x : Int) := by omega
    have e1 : lnI (-(x : Int)) y = -(ln x y) := by unfold lnI; rw [if_pos (by omega), Int.neg_neg]
    have e2 : ldI (-(x : Int)) y = ld x y := by unfold ldI; rw [if_pos (by omega), Int.neg_neg]
    rw [e1, e2]
    exact toldFraction_neg x y (by omega) (by omega) (by omega) (by omega) w

set_option maxHeartbeats 400000 in
theorem clLow_any (a b : Int) (ha : 0 ≤ a) (ha' : a ≤ 4611686018427387904) (hb : 1 ≤ b) (hb' : b ≤ 4611686018427387904) (w : World) :
    Calls Tryd.prog 40 #[.int .i64 a, .int .i64 b] w fun e w' => e = .returned (.tuple #[.int .i64 (ln a b), .int .i64 (ld a b)]) ∧ ∃ n, w' = w.drewN n := by
  obtain ⟨x, rfl⟩ := Int.eq_ofNat_of_zero_le ha
  obtain ⟨y, rfl⟩ := Int.eq_ofNat_of_zero_le (show 0 ≤ b by omega)
  go_enter Tryd.func40, Tryd.ntmps40
  go_wp2
  go_loopw [6, 7] (fun a b wr => ∃ p q n : Nat, a = .int .i64 p ∧ b = .int .i64 q ∧ p ≤ 4611686018427387904 ∧ q ≤ 4611686018427387904 ∧ Nat.gcd p q = Nat.gcd x y ∧ wr = w.drewN n) (fun _ b _ => (intOf b).toNat)
  case atStart => exact ⟨x, y, 0, rfl, rfl, by omega, by omega, rfl, rfl⟩
  case round =>
    obtain ⟨p, q, n, rfl, rfl, hp, hq, hg, rfl⟩ := hrel
    have Hg := Lib.hid hg
    clear hg
    by_cases hq0 : 1 ≤ q
    · go_wp2_with fail
      go_quiet (fail)
      go_wp2
      have hm : p % q < q := Nat.mod_lt _ (by omega)
      exact ⟨⟨q, p % q, n + nq, rfl, by simp, hq, by omega, by rw [gcd_step p q (by omega), Hg.out], by simp⟩, by simp only [intOf]; omega⟩
    · obtain rfl : q = 0 := by omega
      have h1 := Lib.hid (ln_nat x y)
      have h2 := Lib.hid (ld_nat x y)
      have hgp : 1 ≤ Nat.gcd x y := Nat.gcd_pos_of_pos_right _ (by omega)
      rw [← Hg.out, Nat.gcd_zero_right] at h1 h2 hgp
      go_wp2
      go_quiet (fail)
      go_wp2
      go_ret2
      exact ⟨by rw [h1.out, h2.out]; simp [wrap_div x p (by omega), wrap_div y p (by omega)], n + nq, by simp⟩

def sq (a b : Int) : Int := a * a + b * b
/-- the greatest number whose square is not greater -/
def rtN : Nat → Nat
  | 0 => 0
  | n + 1 => if (rtN n + 1) * (rtN n + 1) ≤ n + 1 then rtN n + 1 else rtN n
def rt (n : Int) : Int := (rtN n.toNat : Nat)
theorem rtN_spec (n : Nat) : rtN n * rtN n ≤ n ∧ n < (rtN n + 1) * (rtN n + 1) := by
  induction n with
  | zero => simp [rtN]
  | succ n ih =>
    unfold rtN
    split
    · rename_i h
      refine ⟨h, ?_⟩
      have : (rtN n + 1 + 1) * (rtN n + 1 + 1) = (rtN n + 1) * (rtN n + 1) + 2 * (rtN n + 1) + 1 := by grind
      omega
    · omega
theorem sq_lt {a b : Nat} (h : a * a < b * b) : a < b := by
  by_cases c : a < b
  · exact c
  · exact absurd (Nat.mul_le_mul (Nat.le_of_not_lt c) (Nat.le_of_not_lt c)) (by omega)
theorem rtN_unique {n r : Nat} (h1 : r * r ≤ n) (h2 : n < (r + 1) * (r + 1)) : rtN n = r := by
  obtain ⟨a, b⟩ := rtN_spec n
  have c1 : rtN n < r + 1 := sq_lt (Nat.lt_of_le_of_lt a h2)
  have c2 : r < rtN n + 1 := sq_lt (Nat.lt_of_le_of_lt h1 b)
  omega
theorem div_nat (n q : Nat) : 0 ≤ (n : Int) / (q : Int) ∧ (n : Int) / (q : Int) ≤ n :=
  ⟨by exact_mod_cast Nat.zero_le (n / q), by exact_mod_cast Nat.div_le_self n q⟩
theorem newton {n r q : Nat} (hq : 0 < q) (hr : r * r ≤ n) : r ≤ (q + n / q) / 2 := by
  by_cases c : 2 * r ≤ q
  · generalize n / q = z
    omega
  · obtain ⟨d, hd⟩ : ∃ d, 2 * r = q + d := ⟨2 * r - q, by omega⟩
    have h1 : d ≤ n / q := by
      rw [Nat.le_div_iff_mul_le hq]
      refine Nat.le_trans ?_ hr
      have h4 : 4 * (d * q) ≤ 4 * (r * r) := by
        have e : 4 * (r * r) = (q + d) * (q + d) := by rw [← hd]; grind
        rw [e]
        rcases Nat.le_total q d with h | h <;> obtain ⟨k, rfl⟩ := Nat.exists_eq_add_of_le h <;> grind
      omega
    generalize n / q = z at *
    omega

end Go.Proofs.YtohlbnfncllhoaaDoor
