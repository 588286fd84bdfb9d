/- Contracts of the functions of chapter 2 that take numbers and single poles. -/
import Derived.Test.YtfnamahdofigaaaC1
import Derived.Deep.RegionHeld3
namespace Go.Proofs.Ytfnamahdofigaaa
open Go.RowKit
theorem cell_after {u v : World} (hb : Below u.heap.size u v) {n o : Nat} {x : Value} (hn : n < u.heap.size) (hu : u.cell? ⟨n, o, none⟩ = some x) : v.cell? ⟨n, o, none⟩ = some x := by
  rw [(bcell hb).1 _ _ hn]; exact hu
theorem size_after {u v : World} (hb : Below u.heap.size u v) {n : Nat} (hn : n < u.heap.size) : n < v.heap.size := Nat.lt_of_lt_of_le hn hb.size
theorem S2_after {w u v : World} {x y : Value} (hb : Below u.heap.size u v) (h : u.cell? ⟨w.heap.size, 0, none⟩ = some x ∧ u.cell? ⟨w.heap.size, 1, none⟩ = some y ∧ w.heap.size < u.heap.size ∧ Below w.heap.size w u) :
    v.cell? ⟨w.heap.size, 0, none⟩ = some x ∧ v.cell? ⟨w.heap.size, 1, none⟩ = some y ∧ w.heap.size < v.heap.size ∧ Below w.heap.size w v :=
  ⟨cell_after hb h.2.2.1 h.1, cell_after hb h.2.2.1 h.2.1, size_after hb h.2.2.1, bl_trans hb h.2.2.2⟩

theorem mul_bd {a b m : Int} (ha : 0 ≤ a) (hb : 0 ≤ b) (ha' : a ≤ m) (hb' : b ≤ m) : 0 ≤ a * b ∧ a * b ≤ m * m :=
  ⟨Int.mul_nonneg ha hb, Int.mul_le_mul ha' hb' hb (by omega)⟩
theorem mul_bd2 {a b m k : Int} (ha : 0 ≤ a) (hb : 0 ≤ b) (ha' : a ≤ m) (hb' : b ≤ k) : 0 ≤ a * b ∧ a * b ≤ m * k :=
  ⟨Int.mul_nonneg ha hb, Int.mul_le_mul ha' hb' hb (by omega)⟩
def okM (l : Int) : Bool := within l 2 200
def okP (a b : Int) : Bool := within a 1 500 && within b 1 200
def okB (l a b : Int) : Bool := okM l && (okP a b && decide (b < l))
theorem okM_true {l : Int} (h : okM l = true) : 2 ≤ l ∧ l ≤ 200 := within_true h
theorem okP_true {a b : Int} (h : okP a b = true) : (1 ≤ a ∧ a ≤ 500) ∧ 1 ≤ b ∧ b ≤ 200 := by
  simp only [okP, Bool.and_eq_true] at h
  exact ⟨within_true h.1, within_true h.2⟩
theorem okB_true {l a b : Int} (h : okB l a b = true) : (2 ≤ l ∧ l ≤ 200) ∧ (1 ≤ a ∧ a ≤ 500) ∧ (1 ≤ b ∧ b ≤ 200) ∧ b < l := by
  simp only [okB, Bool.and_eq_true, decide_eq_true_eq] at h
  obtain ⟨h1, h2, h3⟩ := h
  have := okM_true h1
  have := okP_true h2
  omega
theorem ret_int {k : IntKind} {a b : Int} (h : a = b) : Ending.returned (.int k a) = .returned (.int k b) := by rw [h]

set_option maxHeartbeats 400000 in
theorem impl_isLamp (l : Int) (w : World) :
    Calls Try.prog 34 #[.int .i64 l] w fun e w' => e = .returned (.bool (okM l)) ∧ w = w' := by
  go_enter Try.func34, Try.ntmps34
  go_wp2_with (go_at_call 35; refine (isWithin_any _ _ _ _).mono ?_; rintro e w' ⟨rfl, rfl⟩)
  go_ret
  exact ⟨rfl, rfl⟩
set_option maxHeartbeats 400000 in
theorem spec_swLamp (l : Int) (w : World) :
    Calls Try.prog 52 #[.int .i64 l] w fun e w' => e = .returned (.bool (okM l)) ∧ w = w' := by
  go_enter Try.func52, Try.ntmps52
  go_wp2_with (go_at_call 47; refine (l1In_any _ _ _ _).mono ?_; rintro e w' ⟨rfl, rfl⟩)
  go_ret
  exact ⟨rfl, rfl⟩
def SL (f : Int → Int → Int) (l a b : Int) : Int := if okB l a b then f (a * b) (l - b) else 0
def SE (f : Int → Int → Int) (l a b : Int) : Int := if okB l a b then f (a * l) (l - b) else 0
def okSU (h r u : Int) : Bool := within h 1 200 && (within r 1 500 && (within u 1 500))
def SU (f : Int → Int → Int) (h r u : Int) : Int := if okSU h r u then f (h * u) (r) else 0
def okSP (h s : Int) : Bool := within h 1 200 && (within s 1 500)
def SP (f : Int → Int → Int) (h s : Int) : Int := if okSP h s then f (h) (s) else 0
def okPS (l p s : Int) : Bool := okM l && (within p 1 500 && (within s 1 500))
def PS (f : Int → Int → Int) (l p s : Int) : Int := if okPS l p s then f (l * s) (p + s) else 0
def okPL (l h s : Int) : Bool := okM l && (within h 1 (l - 1) && (within s 1 500))
def PL (f : Int → Int → Int) (l h s : Int) : Int := if okPL l h s then f (s * (l - h)) (h) else 0
def okLS (a b s : Int) : Bool := okP a b && within s 1 500
def LS (f : Int → Int → Int) (a b s : Int) : Int := if okLS a b s then f (b * (a + s)) s else 0

def line (l a b x : Int) : Int := l * a - (l - b) * x
def hgt (l a b x : Int) : Int := max 0 (line l a b x)
def okW (l a b x : Int) : Bool := okB l a b && within x (a + 1) 500
def HH (f : Int → Int → Int) (l a b x : Int) : Int := if okW l a b x then f (hgt l a b x) a else 0
theorem line_bd {l a b x : Int} (h : okB l a b = true) (x0 : 0 ≤ x) (x1 : x ≤ 501) : (0 ≤ l * a ∧ l * a ≤ 250000) ∧ (0 ≤ (l - b) * x ∧ (l - b) * x ≤ 251001) ∧ -251001 ≤ line l a b x ∧ line l a b x ≤ 250000 := by
  obtain ⟨⟨l0, l1⟩, ⟨a0, a1⟩, ⟨b0, b1⟩, b2⟩ := okB_true h
  have f1 := mul_bd (a := l) (b := a) (m := 500) (by omega) (by omega) (by omega) (by omega)
  have f2 := mul_bd (a := l - b) (b := x) (m := 501) (by omega) (by omega) (by omega) (by omega)
  unfold line
  omega
theorem ln_zero (a : Int) : ln 0 a = 0 := by simp [ln]
theorem ld_zero {a : Int} (h : 1 ≤ a) : ld 0 a = 1 := by
  obtain ⟨n, rfl⟩ := Int.eq_ofNat_of_zero_le (show 0 ≤ a by omega)
  simp only [ld]
  simp
  exact Int.ediv_self (by omega)
set_option maxHeartbeats 400000 in
theorem lineTimesPlace_any (l a b x : Int) (h : okB l a b = true) (x0 : 0 ≤ x) (x1 : x ≤ 501) (w : World) :
    Calls Try.prog 53 #[.int .i64 l, .agg #[.int .i64 a, .int .i64 b], .int .i64 x] w fun e w' => e = .returned (.int .i64 (line l a b x)) ∧ Below w.heap.size w w' := by
  obtain ⟨⟨l0, l1⟩, ⟨a0, a1⟩, ⟨b0, b1⟩, b2⟩ := okB_true h
  obtain ⟨⟨f1, f2⟩, ⟨f3, f4⟩, f5, f6⟩ := line_bd h x0 x1
  have e0 := Lib.hid (show line l a b x = l * a - (l - b) * x from rfl)
  go_enter Try.func53, Try.ntmps53
  go_wp2
  go_ret
  exact ⟨ret_int e0.out.symm, (by repeat (first | exact Below.refl _ _ | refine bl_alloc ?_ _ | refine bl_drewN ?_ _ | refine bl_trans (by assumption) ?_ | refine bl_set ?_ (by first | omega | (simp; done) | (simp; omega)) _))⟩

def hid_ (l a b c d : Int) : Bool := decide (a < c) && decide (d * a ≤ line l a b c)
def okI (l a b c d : Int) : Bool := okB l a b && okB l c d
def IH (l a b c d : Int) : Bool := okI l a b c d && hid_ l a b c d
theorem frac_le {n a d : Int} (hn : 0 ≤ n) (ha : 1 ≤ a) : d * ld n a ≤ ln n a ↔ d * a ≤ n := by
  obtain ⟨m, rfl⟩ := Int.eq_ofNat_of_zero_le hn
  obtain ⟨k, rfl⟩ := Int.eq_ofNat_of_zero_le (show 0 ≤ a by omega)
  have hg : 0 < Nat.gcd m k := Nat.gcd_pos_of_pos_right _ (by omega)
  obtain ⟨x, hx⟩ := Nat.gcd_dvd_left m k
  obtain ⟨y, hy⟩ := Nat.gcd_dvd_right m k
  have e1 : ln (m : Int) (k : Int) = (x : Int) := by
    rw [ln_nat]; congr 1; conv => lhs; lhs; rw [hx]
    exact Nat.mul_div_cancel_left _ hg
  have e2 : ld (m : Int) (k : Int) = (y : Int) := by
    rw [ld_nat]; congr 1; conv => lhs; lhs; rw [hy]
    exact Nat.mul_div_cancel_left _ hg
  rw [e1, e2]
  generalize hG : Nat.gcd m k = g at *
  have h1 : (m : Int) = (g : Int) * (x : Int) := by exact_mod_cast hx
  have h2 : (k : Int) = (g : Int) * (y : Int) := by exact_mod_cast hy
  have hg' : (0 : Int) < (g : Int) := by omega
  rw [h1, h2]
  constructor
  · intro h
    have := Int.mul_le_mul_of_nonneg_left h (Int.le_of_lt hg')
    calc d * ((g : Int) * y) = (g : Int) * (d * y) := Int.mul_left_comm _ _ _
      _ ≤ _ := this
  · intro h
    have h' : (g : Int) * (d * y) ≤ (g : Int) * x := by
      calc (g : Int) * (d * y) = d * ((g : Int) * y) := Int.mul_left_comm _ _ _
        _ ≤ _ := h
    exact Int.le_of_mul_le_mul_left h' hg'
theorem frac_hid {l a b x d : Int} (ha : 1 ≤ a) (hd : 1 ≤ d) : d * ld (hgt l a b x) a ≤ ln (hgt l a b x) a ↔ d * a ≤ line l a b x := by
  rw [frac_le (by unfold hgt; omega) ha]
  have : 1 ≤ d * a := by have := Int.mul_le_mul hd ha (by omega) (by omega); omega
  unfold hgt
  omega
theorem ld_bd {n a : Int} (hn : 0 ≤ n) (ha : 1 ≤ a) : 0 ≤ ld n a ∧ ld n a ≤ a := by
  obtain ⟨m, rfl⟩ := Int.eq_ofNat_of_zero_le hn
  obtain ⟨k, rfl⟩ := Int.eq_ofNat_of_zero_le (show 0 ≤ a by omega)
  rw [ld_nat]
  have := Nat.div_le_self k (Nat.gcd m k)
  generalize k / Nat.gcd m k = z at *
  omega
theorem ln_bd {n a : Int} (hn : 0 ≤ n) (ha : 1 ≤ a) : 0 ≤ ln n a ∧ ln n a ≤ n := by
  obtain ⟨m, rfl⟩ := Int.eq_ofNat_of_zero_le hn
  obtain ⟨k, rfl⟩ := Int.eq_ofNat_of_zero_le (show 0 ≤ a by omega)
  rw [ln_nat]
  have := Nat.div_le_self m (Nat.gcd m k)
  generalize m / Nat.gcd m k = z at *
  omega
end Go.Proofs.Ytfnamahdofigaaa
