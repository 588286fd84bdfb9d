/- Contracts of the functions of chapter 7: boxes, and what single feet tell. -/
import Derived.Test.YtjboffbhkffhkaaDoorS1
namespace Go.Proofs.YtjboffbhkffhkaaDoor
open Go.RowKit
set_option linter.unusedVariables false
set_option linter.unusedSimpArgs false
theorem frozen_after {u v : World} (hb : Below u.heap.size u v) {n o : Nat} {x : Bool} (hn : n < u.heap.size) (hu : u.frozen? ⟨n, o, none⟩ = x) : v.frozen? ⟨n, o, none⟩ = x := by
  rw [(bcell hb).2 _ _ hn]; exact hu
theorem rt_nat (n : Nat) : rt n = ((rtN n : Nat) : Int) := by simp [rt]
theorem rt_unique {n r : Int} (hn : 0 ≤ n) (h0 : 0 ≤ r) (h1 : r * r ≤ n) (h2 : n < (r + 1) * (r + 1)) : rt n = r := by
  obtain ⟨k, rfl⟩ := Int.eq_ofNat_of_zero_le h0
  obtain ⟨m, rfl⟩ := Int.eq_ofNat_of_zero_le hn
  rw [rt_nat, rtN_unique (r := k) (by exact_mod_cast h1) (by exact_mod_cast h2)]
theorem rt_facts {n : Int} (h : 0 ≤ n) : 0 ≤ rt n ∧ rt n * rt n ≤ n ∧ n < (rt n + 1) * (rt n + 1) := by
  obtain ⟨m, rfl⟩ := Int.eq_ofNat_of_zero_le h
  obtain ⟨a, b⟩ := rtN_spec m
  rw [rt_nat]
  exact ⟨by omega, by exact_mod_cast a, by exact_mod_cast b⟩


def whole (n : Int) : Bool := rt n * rt n == n


theorem sq_bd {a b : Int} (ha : 0 ≤ a) (ha' : a ≤ 1000000) (hb : 0 ≤ b) (hb' : b ≤ 1000000) : (0 ≤ a * a ∧ a * a ≤ 1000000000000) ∧ (0 ≤ b * b ∧ b * b ≤ 1000000000000) ∧ 0 ≤ sq a b ∧ sq a b ≤ 2000000000000 := by
  have x := mul_bd ha ha ha' ha'
  have y := mul_bd hb hb hb' hb'
  unfold sq
  omega


def Z (ok : Bool) (n : Int) : Int := if ok then n else 0
def okBx (a b : Int) : Bool := within a 1 60 && within b 1 60
theorem okBx_true {a b : Int} (h : okBx a b = true) : (1 ≤ a ∧ a ≤ 60) ∧ 1 ≤ b ∧ b ≤ 60 := by
  simp only [okBx, Bool.and_eq_true] at h
  exact ⟨within_true h.1, within_true h.2⟩
def okL7 (n : Int) : Bool := within n 1 1000
theorem okL7_true {n : Int} (h : okL7 n = true) : 1 ≤ n ∧ n ≤ 1000 := within_true h
def okSd (n : Int) : Bool := within n 1 60
theorem okSd_true {n : Int} (h : okSd n = true) : 1 ≤ n ∧ n ≤ 60 := within_true h
def okF (a f : Int) : Bool := okL7 f && decide (a < f)
theorem okF_true {a f : Int} (h : okF a f = true) : (1 ≤ f ∧ f ≤ 1000) ∧ a < f := by
  simp only [okF, Bool.and_eq_true, decide_eq_true_eq] at h
  exact ⟨okL7_true h.1, h.2⟩
set_option maxHeartbeats 400000 in
theorem impl_IsBox (a b : Int) (w : World) :
    Calls Tryd.prog 13 #[.agg #[.int .i64 a, .int .i64 b]] w fun e w' => e = .returned (.bool (okBx a b)) ∧ Below w.heap.size w w' := by
  cases h1 : within a 1 60 <;> cases h2 : within b 1 60
  all_goals
    go_enter Tryd.func13, Tryd.ntmps13
    go_wp2_with (go_at_call 20; refine (isWithin_any _ _ _ _).mono ?_; rintro e w' ⟨rfl, rfl⟩)
    go_ret
    exact ⟨by simp [okBx, h1, h2], (by repeat (first | exact Below.refl _ _ | refine bl_alloc ?_ _ | refine bl_drewN ?_ _ | refine bl_trans (by assumption) ?_ | refine bl_set ?_ (by first | omega | (simp; done) | (simp; omega)) _))⟩
set_option maxHeartbeats 400000 in
theorem spec_lnBox (a b : Int) (w : World) :
    Calls Tryd.prog 11 #[.agg #[.int .i64 a, .int .i64 b]] w fun e w' => e = .returned (.bool (okBx a b)) ∧ Below w.heap.size w w' := by
  cases h1 : within a 1 60 <;> cases h2 : within b 1 60
  all_goals
    go_enter Tryd.func11, Tryd.ntmps11
    go_wp2_with (go_at_call 18; refine (l1In_any _ _ _ _).mono ?_; rintro e w' ⟨rfl, rfl⟩)
    go_ret
    exact ⟨by simp [okBx, h1, h2], (by repeat (first | exact Below.refl _ _ | refine bl_alloc ?_ _ | refine bl_drewN ?_ _ | refine bl_trans (by assumption) ?_ | refine bl_set ?_ (by first | omega | (simp; done) | (simp; omega)) _))⟩
set_option maxHeartbeats 400000 in
theorem toBox_any (a b : Int) (w : World) :
    Calls Tryd.prog 6 #[.agg #[.int .i64 a, .int .i64 b]] w fun e w' => e = .returned (.agg #[.int .i64 a, .int .i64 b]) ∧ Below w.heap.size w w' := by
  go_enter Tryd.func6, Tryd.ntmps6
  go_wp2
  exact bodyPost_ret (v := .agg #[.int .i64 a, .int .i64 b]) (by simp [results, Tryd.results6, go_sem]) rfl ⟨rfl, (by repeat (first | exact Below.refl _ _ | refine bl_alloc ?_ _ | refine bl_drewN ?_ _ | refine bl_trans (by assumption) ?_ | refine bl_set ?_ (by first | omega | (simp; done) | (simp; omega)) _))⟩
set_option maxHeartbeats 400000 in
theorem eqBox_any (a b : Int) (w : World) :
    Calls Tryd.prog 10 #[.agg #[.int .i64 a, .int .i64 b], .agg #[.int .i64 a, .int .i64 b]] w fun e w' => e = .returned (.bool (true)) ∧ Below w.heap.size w w' := by
  go_enter Tryd.func10, Tryd.ntmps10
  go_wp2
  go_ret
  exact ⟨rfl, (by repeat (first | exact Below.refl _ _ | refine bl_alloc ?_ _ | refine bl_drewN ?_ _ | refine bl_trans (by assumption) ?_ | refine bl_set ?_ (by first | omega | (simp; done) | (simp; omega)) _))⟩
def okH (a b f : Int) : Bool := okBx a b && okF a f
def okC (a b f h : Int) : Bool := okBx a b && (okL7 f && okL7 h)
def ab (a b f h : Int) : Int := h * (f - a) - b * f
theorem ab_bd {a b f h : Int} (a1 : 1 ≤ a) (a2 : a ≤ 60) (b1 : 1 ≤ b) (b2 : b ≤ 60) (f1 : 1 ≤ f) (f2 : f ≤ 1000) (h1 : 1 ≤ h) (h2 : h ≤ 1000) : (0 ≤ b * f ∧ b * f ≤ 60000) ∧ -60000 ≤ h * (f - a) ∧ h * (f - a) ≤ 1000000 := by
  obtain ⟨m0, m1⟩ := mul_bd2 (a := b) (b := f) (m := 60) (k := 1000) (by omega) (by omega) (by omega) (by omega)
  obtain ⟨m2, m3⟩ := mul_bd2 (a := h) (b := f) (m := 1000) (k := 1000) (by omega) (by omega) (by omega) (by omega)
  obtain ⟨m4, m5⟩ := mul_bd2 (a := h) (b := a) (m := 1000) (k := 60) (by omega) (by omega) (by omega) (by omega)
  have e : h * (f - a) = h * f - h * a := Int.mul_sub _ _ _
  omega
def touch (a b f h : Int) : Bool := decide (ab a b f h = 0)
def lnW (a b f : Int) : Bool := decide (1 ≤ f - a) && (b * f % (f - a) == 0)
def lnA (a b f : Int) : Value := if lnW a b f then .agg #[.int .i64 f, .int .i64 (b * f / (f - a))] else .agg #[.int .i64 0, .int .i64 0]
theorem touch_lean {a b f h : Int} (b1 : 1 ≤ b) (f1 : 1 ≤ f) (h1 : 1 ≤ h) : (ab a b f h = 0) ↔ (lnW a b f = true ∧ b * f / (f - a) = h) := by
  have hp : 0 < b * f := Int.mul_pos (by omega) (by omega)
  unfold ab lnW
  simp only [Bool.and_eq_true, decide_eq_true_eq, beq_iff_eq]
  constructor
  · intro e
    have e' : b * f = h * (f - a) := by omega
    have hpos : 1 ≤ f - a := by
      rcases Int.lt_or_le 0 (f - a) with g | g
      · omega
      · have := Int.mul_nonneg (a := h) (b := -(f - a)) (by omega) (by omega)
        rw [Int.mul_neg] at this
        omega
    rw [e']
    exact ⟨⟨hpos, Int.mul_emod_left _ _⟩, Int.mul_ediv_cancel _ (by omega)⟩
  · rintro ⟨⟨h2, h3⟩, h4⟩
    have := Int.ediv_mul_cancel (Int.dvd_of_emod_eq_zero h3)
    rw [h4] at this
    omega
def lnNum (a b f : Int) : Int := f * f * sq (f - a) b
def lnDen (a f : Int) : Int := (f - a) * (f - a)
def LL (a b f : Int) : Int := rt ((lnNum a b f - 1) / lnDen a f) + 1
def rch (a b f l : Int) : Bool := decide (lnNum a b f ≤ l * l * (f - a) * (f - a))
theorem ln_num_bd {a b f : Int} (a1 : 1 ≤ a) (b1 : 1 ≤ b) (b2 : b ≤ 60) (f2 : f ≤ 1000) (h : a < f) : ((0 ≤ f * f ∧ f * f ≤ 1000000) ∧ (1 ≤ lnDen a f ∧ lnDen a f ≤ 1000000) ∧ (1 ≤ sq (f - a) b ∧ sq (f - a) b ≤ 1003600)) ∧ 1 ≤ lnNum a b f ∧ lnNum a b f ≤ 1003600000000 := by
  obtain ⟨m0, m1⟩ := mul_bd2 (a := f) (b := f) (m := 1000) (k := 1000) (by omega) (by omega) (by omega) (by omega)
  obtain ⟨m2, m3⟩ := mul_bd2 (a := f - a) (b := f - a) (m := 1000) (k := 1000) (by omega) (by omega) (by omega) (by omega)
  obtain ⟨m4, m5⟩ := mul_bd2 (a := b) (b := b) (m := 60) (k := 60) (by omega) (by omega) (by omega) (by omega)
  have p0 : 0 < (f - a) * (f - a) := Int.mul_pos (by omega) (by omega)
  have p1 : 0 < f * f := Int.mul_pos (by omega) (by omega)
  have hs : sq (f - a) b = (f - a) * (f - a) + b * b := rfl
  have hd : lnDen a f = (f - a) * (f - a) := rfl
  have hn : lnNum a b f = f * f * sq (f - a) b := rfl
  rw [hn, hd]
  have s1 : 1 ≤ sq (f - a) b := by omega
  have s2 : sq (f - a) b ≤ 1003600 := by omega
  obtain ⟨m6, m7⟩ := mul_bd2 (a := f * f) (b := sq (f - a) b) (m := 1000000) (k := 1003600) (by omega) (by omega) (by omega) (by omega)
  have p2 : 0 < f * f * sq (f - a) b := Int.mul_pos p1 (by omega)
  refine ⟨⟨⟨m0, by omega⟩, ⟨by omega, by omega⟩, s1, s2⟩, by omega, by omega⟩
theorem sq_lt_int {a b : Int} (ha : 0 ≤ a) (hb : 0 ≤ b) : a < b ↔ a * a < b * b := by
  constructor
  · intro h
    have := Int.mul_le_mul (show a ≤ b - 1 by omega) (show a ≤ b - 1 by omega) ha (by omega)
    have e : (b - 1) * (b - 1) = b * b - 2 * b + 1 := by grind
    omega
  · intro h
    rcases Int.lt_or_le a b with g | g
    · exact g
    · have := Int.mul_le_mul g g hb (by omega)
      omega
theorem rt_lt {n l : Int} (hn : 0 ≤ n) (hl : 0 ≤ l) : rt n < l ↔ n < l * l := by
  obtain ⟨r0, r1, r2⟩ := rt_facts hn
  constructor
  · intro h
    have := Int.mul_le_mul (show rt n + 1 ≤ l by omega) (show rt n + 1 ≤ l by omega) (by omega) (by omega)
    omega
  · intro h
    exact (sq_lt_int r0 hl).2 (by omega)
theorem LL_le {a b f l : Int} (hn : 1 ≤ lnNum a b f) (hd : 1 ≤ lnDen a f) (hl : 0 ≤ l) : LL a b f ≤ l ↔ lnNum a b f ≤ l * l * (f - a) * (f - a) := by
  have h0 : 0 ≤ (lnNum a b f - 1) / lnDen a f := Int.ediv_nonneg (by omega) (by omega)
  have h1 := rt_lt h0 hl
  have h2 : (lnNum a b f - 1) / lnDen a f < l * l ↔ lnNum a b f - 1 < l * l * lnDen a f := Int.ediv_lt_iff_lt_mul (by omega)
  have e : l * l * (f - a) * (f - a) = l * l * lnDen a f := by rw [Int.mul_assoc (l * l)]; rfl
  rw [e]
  unfold LL
  omega
theorem LL_bd {a b f : Int} (hn : 1 ≤ lnNum a b f) (hn' : lnNum a b f ≤ 1003600000000) (hd : 1 ≤ lnDen a f) : (0 ≤ (lnNum a b f - 1) / lnDen a f ∧ (lnNum a b f - 1) / lnDen a f ≤ 1003600000000) ∧ 1 ≤ LL a b f ∧ LL a b f ≤ 1003600000001 := by
  have h0 : 0 ≤ (lnNum a b f - 1) / lnDen a f := Int.ediv_nonneg (by omega) (by omega)
  have h1 : (lnNum a b f - 1) / lnDen a f ≤ lnNum a b f - 1 := Int.ediv_le_self _ (by omega)
  obtain ⟨r0, r1, r2⟩ := rt_facts h0
  have : rt ((lnNum a b f - 1) / lnDen a f) ≤ rt ((lnNum a b f - 1) / lnDen a f) * rt ((lnNum a b f - 1) / lnDen a f) := by
    rcases Int.lt_or_le 0 (rt ((lnNum a b f - 1) / lnDen a f)) with g | g
    · have := Int.mul_le_mul_of_nonneg_left (a := 1) (b := rt ((lnNum a b f - 1) / lnDen a f)) (c := rt ((lnNum a b f - 1) / lnDen a f)) (by omega) r0
      omega
    · have e : rt ((lnNum a b f - 1) / lnDen a f) = 0 := by omega
      rw [e]; omega
  unfold LL
  omega
def okR (a b f l : Int) : Bool := okBx a b && (okF a f && okL7 l)
end Go.Proofs.YtjboffbhkffhkaaDoor
