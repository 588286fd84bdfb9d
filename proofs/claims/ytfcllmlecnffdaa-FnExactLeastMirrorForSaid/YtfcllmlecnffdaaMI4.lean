/- What is seen in a mirror: one point, all of a list, and the least mirror for them. -/
import Derived.Test.YtfcllmlecnffdaaMI3
import Derived.Test.YtfcllmlecnffdaaQ2
namespace Go.Proofs.Ytfcllmlecnffdaa
open Go.RowKit
/-- the place that is looked at is in the part from l up to h -/
def sees (xs ys : List Int) (l h : Int) : Bool := decide (l * farX xs ys ≤ lookX xs ys) && decide (lookX xs ys ≤ h * farX xs ys)
theorem red {N D : Int} (hN : 0 ≤ N) (hD : 1 ≤ D) : ∃ g n d : Nat, 1 ≤ g ∧ 1 ≤ d ∧ ln N D = n ∧ ld N D = d ∧ N = ((g * n : Nat) : Int) ∧ D = ((g * d : Nat) : Int) := by
  obtain ⟨x, rfl⟩ := Int.eq_ofNat_of_zero_le hN
  obtain ⟨y, rfl⟩ := Int.eq_ofNat_of_zero_le (show 0 ≤ D by omega)
  have hy : 0 < y := by omega
  have hg : 0 < Nat.gcd x y := Nat.gcd_pos_of_pos_right _ hy
  refine ⟨Nat.gcd x y, x / Nat.gcd x y, y / Nat.gcd x y, hg, Nat.div_pos (Nat.le_of_dvd hy (Nat.gcd_dvd_right _ _)) hg, ln_nat x y, ld_nat x y, ?_, ?_⟩
  · rw [Nat.mul_div_cancel' (Nat.gcd_dvd_left _ _)]
  · rw [Nat.mul_div_cancel' (Nat.gcd_dvd_right _ _)]
theorem le_red {g n d : Nat} (hg : 1 ≤ g) (l : Int) : l * ((g * d : Nat) : Int) ≤ ((g * n : Nat) : Int) ↔ l * (d : Int) ≤ (n : Int) := by
  have e1 : l * ((g * d : Nat) : Int) = (g : Int) * (l * d) := by rw [Int.natCast_mul, Int.mul_left_comm]
  rw [e1, Int.natCast_mul]
  exact Int.mul_le_mul_left (by omega)
theorem ge_red {g n d : Nat} (hg : 1 ≤ g) (h : Int) : ((g * n : Nat) : Int) ≤ h * ((g * d : Nat) : Int) ↔ (n : Int) ≤ h * (d : Int) := by
  have e1 : h * ((g * d : Nat) : Int) = (g : Int) * (h * d) := by rw [Int.natCast_mul, Int.mul_left_comm]
  rw [e1, Int.natCast_mul]
  exact Int.mul_le_mul_left (by omega)
theorem up_red {g n d : Nat} (hg : 1 ≤ g) (hd : 1 ≤ d) : (g * n + g * d - 1) / (g * d) = (n + d - 1) / d := by
  have hgd : 0 < g * d := Nat.mul_pos hg hd
  have h1 := Nat.div_add_mod (n + d - 1) d
  have h2 : (n + d - 1) % d < d := Nat.mod_lt _ hd
  generalize (n + d - 1) / d = q at *
  generalize (n + d - 1) % d = r at *
  have e : g * n + g * d - 1 = (g * d) * q + (g * r + (g - 1)) := by
    have : g * (n + d) = g * (d * q + r + 1) := by rw [show n + d = d * q + r + 1 by omega]
    have e2 : g * (d * q + r + 1) = g * d * q + g * r + g := by grind
    have e3 : g * (n + d) = g * n + g * d := by grind
    omega
  have h3 : g * r + (g - 1) < g * d := by
    have : g * (r + 1) ≤ g * d := Nat.mul_le_mul_left _ h2
    have e4 : g * (r + 1) = g * r + g := by grind
    omega
  rw [e, Nat.mul_add_div hgd, Nat.div_eq_of_lt h3, Nat.add_zero]
theorem prod_bd {l D : Int} (hl : 0 ≤ l ∧ l ≤ 500) (hD : 0 ≤ D ∧ D ≤ 1000) : 0 ≤ l * D ∧ l * D ≤ 500000 := by
  have := Int.mul_nonneg hl.1 hD.1
  have h2 : l * D ≤ 500 * 1000 := Int.mul_le_mul hl.2 hD.2 hD.1 (by omega)
  omega

set_option maxHeartbeats 400000 in
theorem isSeen_any (v u : Value) (a b c d l h : Int) (w : World) (q1 : QRow w v [a, b]) (q2 : QRow w u [c, d]) (ha : 1 ≤ a ∧ a ≤ 500) (hb : 1 ≤ b ∧ b ≤ 500) (hc : 1 ≤ c ∧ c ≤ 500) (hd : 1 ≤ d ∧ d ≤ 500) (hl : 0 ≤ l ∧ l ≤ 500) (hh : 0 ≤ h ∧ h ≤ 500) :
    Calls Try.prog 109 #[v, u, .int .i64 l, .int .i64 h] w fun e w' => e = .returned (.bool (sees [a, b] [c, d] l h)) ∧ ∃ n, w' = w.drewN n := by
  have Q1 := Lib.hid q1
  have Q2 := Lib.hid q2
  have hD : farX [a, b] [c, d] = a + c := by simp [farX]
  obtain ⟨p1, p2⟩ := prod_bd (l := l) (D := a + c) hl (by omega)
  obtain ⟨p3, p4⟩ := prod_bd (l := h) (D := a + c) hh (by omega)
  have HW := Lib.hid (show within (lookX [a, b] [c, d]) (l * (a + c)) (h * (a + c)) = sees [a, b] [c, d] l h by rw [← hD]; rfl)
  clear q1 q2
  go_enter Try.func109, Try.ntmps109
  go_wp2_with fail
  refine (farOfBoth_any _ _ _ _ _ _ _ (by exact Q1.out) (by exact Q2.out) ha hb hc hd).mono ?_
  rintro e w' ⟨rfl, nf, rfl⟩
  rw [hD]
  clear hD
  go_wp2_with fail
  refine (lookTimesFar_any _ _ _ _ _ _ _ (by exact Q1.out) (by exact Q2.out) ha hb hc hd).mono ?_
  rintro e w' ⟨rfl, nl, rfl⟩
  go_wp2_with fail
  refine (isWithin_any _ _ _ _).mono ?_
  rintro e w' ⟨rfl, rfl⟩
  rw [HW.out]
  go_wp2
  go_ret
  exact ⟨rfl, nf + nl, by simp⟩

set_option maxHeartbeats 400000 in
theorem miSees_any (v u : Value) (a b c d l h : Int) (w : World) (q1 : QRow w v [a, b]) (q2 : QRow w u [c, d]) (ha : 1 ≤ a ∧ a ≤ 500) (hb : 1 ≤ b ∧ b ≤ 500) (hc : 1 ≤ c ∧ c ≤ 500) (hd : 1 ≤ d ∧ d ≤ 500) (hl : 0 ≤ l ∧ l ≤ 500) (hh : 0 ≤ h ∧ h ≤ 500) :
    Calls Try.prog 107 #[v, u, .int .i64 l, .int .i64 h] w fun e w' => e = .returned (.bool (sees [a, b] [c, d] l h)) ∧ Below w.heap.size w w' := by
  have Q1 := Lib.hid q1
  have Q2 := Lib.hid q2
  have hD : farX [a, b] [c, d] = a + c := by simp [farX]
  have hN : lookX [a, b] [c, d] = b * c + d * a := by simp [lookX]
  obtain ⟨m1, m2, m3, m4⟩ := look_bd (a := b) (b := c) (c := d) (d := a) hb hc hd ha
  obtain ⟨g, n, k, hg, hk, e1, e2, e3, e4⟩ := red (N := lookX [a, b] [c, d]) (D := farX [a, b] [c, d]) (by omega) (by omega)
  have hk' : k ≤ g * k := Nat.le_mul_of_pos_left _ hg
  have hn' : n ≤ g * n := Nat.le_mul_of_pos_left _ hg
  have bk : k ≤ 1000 := by omega
  have bn : n ≤ 500000 := by omega
  obtain ⟨p1, p2⟩ := prod_bd (l := l) (D := (k : Int)) hl (by omega)
  obtain ⟨p3, p4⟩ := prod_bd (l := h) (D := (k : Int)) hh (by omega)
  have HS := Lib.hid (show sees [a, b] [c, d] l h = (decide (l * (k : Int) ≤ (n : Int)) && decide ((n : Int) ≤ h * (k : Int))) by
    unfold sees
    rw [e3, e4]
    simp only [le_red hg, ge_red hg])
  have E1 := Lib.hid e1
  have E2 := Lib.hid e2
  clear q1 q2 e1 e2 e3 e4 hk' hn' hD hN m1 m2 m3 m4
  by_cases c1 : l * (k : Int) ≤ (n : Int) <;> by_cases c2 : (n : Int) ≤ h * (k : Int)
  all_goals
    go_enter Try.func107, Try.ntmps107
    go_wp2_with fail
    refine (miLook_any _ _ _ _ _ _ _ (by exact Q1.out) (by exact Q2.out) ha hb hc hd).mono ?_
    rintro e w1 ⟨rfl, hb1⟩
    rw [E1.out, E2.out]
    go_wp2
    go_ret
    exact ⟨by rw [HS.out]; simp [c1, c2], bl_trans hb1 (Below.refl _ _)⟩
def okSI (xs ys : List Int) (l h : Int) : Bool := okLk xs ys && okPart l h
def SI (xs ys : List Int) (l h : Int) : Bool := okSI xs ys l h && sees xs ys l h
set_option maxHeartbeats 400000 in
theorem impl_SeesIn (v u : Value) (xs ys : List Int) (l h : Int) (w : World) (q1 : QRow w v xs) (q2 : QRow w u ys) :
    Calls Try.prog 56 #[v, u, .int .i64 l, .int .i64 h] w fun e w' => e = .returned (.tuple #[.bool (SI xs ys l h), .bool (okSI xs ys l h)]) ∧ Below w.heap.size w w' := by
  have Q1 := Lib.hid q1
  have Q2 := Lib.hid q2
  clear q1 q2
  cases h1 : okPt xs
  · rw [show SI xs ys l h = false by simp [SI, okSI, okLk, h1], show okSI xs ys l h = false by simp [okSI, okLk, h1]]
    go_enter Try.func56, Try.ntmps56
    go_wp2_with fail
    refine (isPoint_any _ _ _ (by exact Q1.out)).mono ?_
    rintro e w' ⟨rfl, rfl⟩
    rw [h1]
    go_wp2
    go_ret2
    exact ⟨rfl, (by repeat (first | exact Below.refl _ _ | refine bl_alloc ?_ _ | refine bl_drewN ?_ _ | refine bl_trans (by assumption) ?_ | refine bl_set ?_ (by first | omega | (simp; done) | (simp; omega)) _))⟩
  · cases h2 : okPt ys
    · rw [show SI xs ys l h = false by simp [SI, okSI, okLk, h1, h2], show okSI xs ys l h = false by simp [okSI, okLk, h1, h2]]
      go_enter Try.func56, Try.ntmps56
      go_wp2_with fail
      refine (isPoint_any _ _ _ (by exact Q1.out)).mono ?_
      rintro e w' ⟨rfl, rfl⟩
      rw [h1]
      go_wp2_with fail
      refine (isPoint_any _ _ _ (by exact Q2.out)).mono ?_
      rintro e w' ⟨rfl, rfl⟩
      rw [h2]
      go_wp2
      go_ret2
      exact ⟨rfl, (by repeat (first | exact Below.refl _ _ | refine bl_alloc ?_ _ | refine bl_drewN ?_ _ | refine bl_trans (by assumption) ?_ | refine bl_set ?_ (by first | omega | (simp; done) | (simp; omega)) _))⟩
    · cases h3 : okPart l h
      · rw [show SI xs ys l h = false by simp [SI, okSI, okLk, h1, h2, h3], show okSI xs ys l h = false by simp [okSI, okLk, h1, h2, h3]]
        go_enter Try.func56, Try.ntmps56
        go_wp2_with fail
        refine (isPoint_any _ _ _ (by exact Q1.out)).mono ?_
        rintro e w' ⟨rfl, rfl⟩
        rw [h1]
        go_wp2_with fail
        refine (isPoint_any _ _ _ (by exact Q2.out)).mono ?_
        rintro e w' ⟨rfl, rfl⟩
        rw [h2]
        go_wp2_with fail
        refine (isPart_any _ _ _).mono ?_
        rintro e w' ⟨rfl, rfl⟩
        rw [h3]
        go_wp2
        go_ret2
        exact ⟨rfl, (by repeat (first | exact Below.refl _ _ | refine bl_alloc ?_ _ | refine bl_drewN ?_ _ | refine bl_trans (by assumption) ?_ | refine bl_set ?_ (by first | omega | (simp; done) | (simp; omega)) _))⟩
      · rw [show SI xs ys l h = sees xs ys l h by simp [SI, okSI, okLk, h1, h2, h3], show okSI xs ys l h = true by simp [okSI, okLk, h1, h2, h3]]
        obtain ⟨a, b, rfl, ha, hb⟩ := okPt_two h1
        obtain ⟨c, d, rfl, hc, hd⟩ := okPt_two h2
        obtain ⟨r1, r2⟩ := okPart_true h3
        go_enter Try.func56, Try.ntmps56
        go_wp2_with fail
        refine (isPoint_any _ _ _ (by exact Q1.out)).mono ?_
        rintro e w' ⟨rfl, rfl⟩
        rw [h1]
        go_wp2_with fail
        refine (isPoint_any _ _ _ (by exact Q2.out)).mono ?_
        rintro e w' ⟨rfl, rfl⟩
        rw [h2]
        go_wp2_with fail
        refine (isPart_any _ _ _).mono ?_
        rintro e w' ⟨rfl, rfl⟩
        rw [h3]
        go_wp2_with fail
        refine (isSeen_any _ _ _ _ _ _ _ _ _ (by exact Q1.out) (by exact Q2.out) ha hb hc hd (by omega) (by omega)).mono ?_
        rintro e w' ⟨rfl, n3, rfl⟩
        go_wp2
        go_ret2
        exact ⟨rfl, (by repeat (first | exact Below.refl _ _ | refine bl_alloc ?_ _ | refine bl_drewN ?_ _ | refine bl_trans (by assumption) ?_ | refine bl_set ?_ (by first | omega | (simp; done) | (simp; omega)) _))⟩
set_option maxHeartbeats 400000 in
theorem spec_SeesIn (v u : Value) (xs ys : List Int) (l h : Int) (w : World) (q1 : QRow w v xs) (q2 : QRow w u ys) :
    Calls Try.prog 55 #[v, u, .int .i64 l, .int .i64 h] w fun e w' => e = .returned (.tuple #[.bool (SI xs ys l h), .bool (okSI xs ys l h)]) ∧ Below w.heap.size w w' := by
  have Q1 := Lib.hid q1
  have Q2 := Lib.hid q2
  clear q1 q2
  cases h1 : okPt xs
  · rw [show SI xs ys l h = false by simp [SI, okSI, okLk, h1], show okSI xs ys l h = false by simp [okSI, okLk, h1]]
    go_enter Try.func55, Try.ntmps55
    go_wp2_with fail
    refine (miPoint_any _ _ _ (by exact Q1.out)).mono ?_
    rintro e w' ⟨rfl, n1, rfl⟩
    rw [h1]
    go_wp2
    go_ret2
    exact ⟨rfl, (by repeat (first | exact Below.refl _ _ | refine bl_alloc ?_ _ | refine bl_drewN ?_ _ | refine bl_trans (by assumption) ?_ | refine bl_set ?_ (by first | omega | (simp; done) | (simp; omega)) _))⟩
  · cases h2 : okPt ys
    · rw [show SI xs ys l h = false by simp [SI, okSI, okLk, h1, h2], show okSI xs ys l h = false by simp [okSI, okLk, h1, h2]]
      go_enter Try.func55, Try.ntmps55
      go_wp2_with fail
      refine (miPoint_any _ _ _ (by exact Q1.out)).mono ?_
      rintro e w' ⟨rfl, n1, rfl⟩
      rw [h1]
      go_wp2_with fail
      refine (miPoint_any _ _ _ (by exact Q2.out)).mono ?_
      rintro e w' ⟨rfl, n2, rfl⟩
      rw [h2]
      go_wp2
      go_ret2
      exact ⟨rfl, (by repeat (first | exact Below.refl _ _ | refine bl_alloc ?_ _ | refine bl_drewN ?_ _ | refine bl_trans (by assumption) ?_ | refine bl_set ?_ (by first | omega | (simp; done) | (simp; omega)) _))⟩
    · cases h3 : okPart l h
      · rw [show SI xs ys l h = false by simp [SI, okSI, okLk, h1, h2, h3], show okSI xs ys l h = false by simp [okSI, okLk, h1, h2, h3]]
        go_enter Try.func55, Try.ntmps55
        go_wp2_with fail
        refine (miPoint_any _ _ _ (by exact Q1.out)).mono ?_
        rintro e w' ⟨rfl, n1, rfl⟩
        rw [h1]
        go_wp2_with fail
        refine (miPoint_any _ _ _ (by exact Q2.out)).mono ?_
        rintro e w' ⟨rfl, n2, rfl⟩
        rw [h2]
        go_wp2_with fail
        refine (miRange_any _ _ _).mono ?_
        rintro e w' ⟨rfl, rfl⟩
        rw [h3]
        go_wp2
        go_ret2
        exact ⟨rfl, (by repeat (first | exact Below.refl _ _ | refine bl_alloc ?_ _ | refine bl_drewN ?_ _ | refine bl_trans (by assumption) ?_ | refine bl_set ?_ (by first | omega | (simp; done) | (simp; omega)) _))⟩
      · rw [show SI xs ys l h = sees xs ys l h by simp [SI, okSI, okLk, h1, h2, h3], show okSI xs ys l h = true by simp [okSI, okLk, h1, h2, h3]]
        obtain ⟨a, b, rfl, ha, hb⟩ := okPt_two h1
        obtain ⟨c, d, rfl, hc, hd⟩ := okPt_two h2
        obtain ⟨r1, r2⟩ := okPart_true h3
        go_enter Try.func55, Try.ntmps55
        go_wp2_with fail
        refine (miPoint_any _ _ _ (by exact Q1.out)).mono ?_
        rintro e w' ⟨rfl, n1, rfl⟩
        rw [h1]
        go_wp2_with fail
        refine (miPoint_any _ _ _ (by exact Q2.out)).mono ?_
        rintro e w' ⟨rfl, n2, rfl⟩
        rw [h2]
        go_wp2_with fail
        refine (miRange_any _ _ _).mono ?_
        rintro e w' ⟨rfl, rfl⟩
        rw [h3]
        go_wp2_with fail
        refine (miSees_any _ _ _ _ _ _ _ _ _ (by exact Q1.out) (by exact Q2.out) ha hb hc hd (by omega) (by omega)).mono ?_
        rintro e w1 ⟨rfl, hb1⟩
        go_wp2
        go_ret2
        exact ⟨rfl, bl_trans hb1 (by repeat (first | exact Below.refl _ _ | refine bl_alloc ?_ _ | refine bl_drewN ?_ _ | refine bl_trans (by assumption) ?_ | refine bl_set ?_ (by first | omega | (simp; done) | (simp; omega)) _))⟩
end Go.Proofs.Ytfcllmlecnffdaa
