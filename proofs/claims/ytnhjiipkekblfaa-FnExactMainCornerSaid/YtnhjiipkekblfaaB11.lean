/- MainCorner: by the program and by the model alike. -/
import Derived.Test.YtnhjiipkekblfaaB9
namespace Go.Proofs.Ytnhjiipkekblfaa
open Go.RowKit Beam Go.Deep
set_option linter.unusedVariables false
set_option linter.unusedSimpArgs false
theorem tri_ends (W k : Nat) (h : 1 ≤ W) : ends W (tri W k) = decide (k % W = 0) := by
  have h1 := Nat.mod_lt k (show 0 < 2 * W by omega)
  have h2 : k % (2 * W) % W = k % W := Nat.mod_mod_of_dvd k ⟨2, by omega⟩
  rw [Bool.eq_iff_iff]
  unfold ends tri
  simp only [Bool.or_eq_true, decide_eq_true_eq]
  rw [← h2]
  by_cases c : k % (2 * W) < W
  · rw [if_pos c, Nat.mod_eq_of_lt c]; omega
  · rw [if_neg c]
    have e : k % (2 * W) % W = k % (2 * W) - W := by
      rw [Nat.mod_eq_sub_mod (by omega), Nat.mod_eq_of_lt (by omega)]
    rw [e]; omega
/-- the way from the first corner -/
def main_ (W H : Nat) : BWay := ⟨W, H, 0, 0⟩
theorem main_cor (W H k : Nat) (hW : 1 ≤ W) (hH : 1 ≤ H) : (main_ W H).cor k = decide (Nat.lcm W H ∣ k) := by
  unfold BWay.cor BWay.x BWay.y main_
  simp only [Nat.zero_add]
  rw [tri_ends W k hW, tri_ends H k hH, Bool.eq_iff_iff]
  simp only [Bool.and_eq_true, decide_eq_true_eq]
  constructor
  · rintro ⟨a, b⟩
    exact Nat.lcm_dvd (Nat.dvd_of_mod_eq_zero a) (Nat.dvd_of_mod_eq_zero b)
  · intro h
    exact ⟨Nat.mod_eq_zero_of_dvd (Nat.dvd_trans (Nat.dvd_lcm_left W H) h), Nat.mod_eq_zero_of_dvd (Nat.dvd_trans (Nat.dvd_lcm_right W H) h)⟩
theorem main_stop (W H k : Nat) (hW : 1 ≤ W) (hH : 1 ≤ H) (h : (main_ W H).stop k = true) : Nat.lcm W H ∣ k := by
  have h0 : (main_ W H).cor k = true := by
    unfold BWay.stop at h
    cases hc : (main_ W H).cor k
    · rw [hc, Bool.false_or] at h
      obtain ⟨a, b, _, _⟩ := eqs_of_same h
      have c0 : (main_ W H).cor 0 = true := by rw [main_cor W H 0 hW hH]; simp
      have : (main_ W H).cor k = (main_ W H).cor 0 := BWay.cor_of (by omega) (by omega)
      rw [hc, c0] at this; cases this
    · rfl
  rw [main_cor W H k hW hH] at h0
  simpa using h0
theorem main_M (W H : Nat) (h : (main_ W H).ok) : (main_ W H).M = Nat.lcm W H ∧ (main_ W H).e = true := by
  have hW : 1 ≤ W := h.1
  have hH : 1 ≤ H := h.2.1
  obtain ⟨h1, h2, h3, h4⟩ := (main_ W H).M_spec h
  have hl : 1 ≤ Nat.lcm W H := Nat.lcm_pos (by omega) (by omega)
  have hd := main_stop W H _ hW hH h4
  have hle : Nat.lcm W H ≤ (main_ W H).M := Nat.le_of_dvd (by omega) hd
  have hM : (main_ W H).M = Nat.lcm W H := by
    by_cases c : Nat.lcm W H < (main_ W H).M
    · have := h3 _ hl c
      rw [BWay.stop, main_cor W H _ hW hH] at this
      simp at this
    · omega
  refine ⟨hM, ?_⟩
  unfold BWay.e
  rw [hM, main_cor W H _ hW hH]
  simp
theorem tri_mul (W k : Nat) (h : 1 ≤ W) : tri W (W * k) = k % 2 * W := by
  have e : W * k % (2 * W) = W * (k % 2) := by rw [Nat.mul_comm 2 W, Nat.mul_mod_mul_left]
  unfold tri
  rw [e]
  rcases Nat.mod_two_eq_zero_or_one k with c | c
  · rw [c]; simp; omega
  · rw [c]; simp; omega
theorem main_xy (W H : Nat) (h : (main_ W H).ok) : (main_ W H).x (main_ W H).M = H / Nat.gcd W H % 2 * W ∧ (main_ W H).y (main_ W H).M = W / Nat.gcd W H % 2 * H := by
  have hW : 1 ≤ W := h.1
  have hH : 1 ≤ H := h.2.1
  have hg : 0 < Nat.gcd W H := Nat.gcd_pos_of_pos_left _ (by omega)
  rw [(main_M W H h).1]
  unfold BWay.x BWay.y main_
  simp only [Nat.zero_add]
  have e1 : Nat.lcm W H = W * (H / Nat.gcd W H) := by unfold Nat.lcm; exact Nat.mul_div_assoc W (Nat.gcd_dvd_right W H)
  have e2 : Nat.lcm W H = H * (W / Nat.gcd W H) := by unfold Nat.lcm; rw [Nat.mul_comm W H]; exact Nat.mul_div_assoc H (Nat.gcd_dvd_left W H)
  refine ⟨?_, ?_⟩
  · rw [e1, tri_mul W _ hW]
  · rw [e2, tri_mul H _ hH]
theorem wayI_main {a b : Int} (h : okT a b = true) : wayI a b 0 0 true true = main_ a.toNat b.toNat ∧ okB a b 0 0 = true ∧ (main_ a.toNat b.toNat).ok := by
  obtain ⟨⟨a0, a1⟩, b0, b1⟩ := okT_true h
  have hB : okB a b 0 0 = true := by
    unfold okB; rw [h]
    have e1 : within 0 0 a = true := by simp [within]; omega
    have e2 : within 0 0 b = true := by simp [within]; omega
    rw [e1, e2]; rfl
  have e : wayI a b 0 0 true true = main_ a.toNat b.toNat := by simp [wayI, wayAt, main_, phase]
  exact ⟨e, hB, by rw [← e]; exact wayAt_ok hB true true⟩
theorem main_vals {a b : Int} (h : okT a b = true) : okE a b 0 0 true true = true ∧ cX a b 0 0 true true = ld a b % 2 * a ∧ cY a b 0 0 true true = ln a b % 2 * b := by
  obtain ⟨e, hB, hk⟩ := wayI_main h
  obtain ⟨⟨a0, a1⟩, b0, b1⟩ := okT_true h
  obtain ⟨x, rfl⟩ := Int.eq_ofNat_of_zero_le (show 0 ≤ a by omega)
  obtain ⟨y, rfl⟩ := Int.eq_ofNat_of_zero_le (show 0 ≤ b by omega)
  simp only [Int.toNat_natCast] at e hk
  have hE : okE (x : Int) (y : Int) 0 0 true true = true := by unfold okE; rw [hB, e, (main_M x y hk).2]; rfl
  obtain ⟨p, q⟩ := main_xy x y hk
  refine ⟨hE, ?_, ?_⟩
  · unfold cX; rw [hE, if_pos rfl, e, p, ld_nat]; push_cast; rfl
  · unfold cY; rw [hE, if_pos rfl, e, q, ln_nat]; push_cast; rfl
theorem main_no {a b : Int} (h : okT a b = false) : okE a b 0 0 true true = false ∧ cX a b 0 0 true true = 0 ∧ cY a b 0 0 true true = 0 := by
  have hE : okE a b 0 0 true true = false := by simp [okE, okB, h]
  exact ⟨hE, by simp [cX, hE], by simp [cY, hE]⟩
set_option maxHeartbeats 400000 in
theorem impl_MainCorner (a b : Int) (w : World) :
    Calls Try.prog 56 #[.agg #[.int .i64 a, .int .i64 b]] w fun e w' => e = .returned (.tuple #[.int .i64 (cX a b 0 0 true true), .int .i64 (cY a b 0 0 true true), .bool (okE a b 0 0 true true)]) ∧ Below w.heap.size w w' := by
  go_enter Try.func56, Try.ntmps56
  go_wp2_with fail
  refine (impl_CornerOf _ _ _ _ _ _ _).mono ?_
  rintro e w1 ⟨rfl, hb⟩
  have HB := Lib.hid (show Below w.heap.size w w1 by exact (by repeat (first | exact Below.refl _ _ | refine bl_alloc ?_ _ | refine bl_drewN ?_ _ | refine bl_trans (by assumption) ?_ | refine bl_set ?_ (by first | omega | (simp; done) | (simp; omega)) _)))
  clear hb
  go_wp2
  go_ret3
  exact ⟨rfl, HB.out⟩
set_option maxHeartbeats 400000 in
theorem spec_MainCorner (a b : Int) (w : World) :
    Calls Try.prog 55 #[.agg #[.int .i64 a, .int .i64 b]] w fun e w' => e = .returned (.tuple #[.int .i64 (cX a b 0 0 true true), .int .i64 (cY a b 0 0 true true), .bool (okE a b 0 0 true true)]) ∧ Below w.heap.size w w' := by
  cases h : okT a b
  · obtain ⟨e1, e2, e3⟩ := main_no h
    rw [e1, e2, e3]
    clear e1 e2 e3
    go_enter Try.func55, Try.ntmps55
    go_wp2_with (go_at_call 66; refine (spec_beTable _ _ _).mono ?_; rintro e w1 ⟨rfl, hb⟩; obtain ⟨hc, hf⟩ := bcell hb; have hz := bsize hb; (try simp only [World.size_alloc] at hz); (try have hz0 : w.heap.size < w1.heap.size := by omega); rw [h])
    go_ret3
    exact ⟨rfl, (by repeat (first | exact Below.refl _ _ | refine bl_alloc ?_ _ | refine bl_drewN ?_ _ | refine bl_trans (by assumption) ?_ | refine bl_set ?_ (by first | omega | (simp; done) | (simp; omega)) _))⟩
  · obtain ⟨⟨a0, a1⟩, b0, b1⟩ := okT_true h
    have hq : (0 ≤ ln a b ∧ ln a b ≤ 60) ∧ 0 ≤ ld a b ∧ ld a b ≤ 60 := by
      obtain ⟨x, rfl⟩ := Int.eq_ofNat_of_zero_le (show 0 ≤ a by omega)
      obtain ⟨y, rfl⟩ := Int.eq_ofNat_of_zero_le (show 0 ≤ b by omega)
      have := ln_low x y (by omega) (by omega)
      rw [ln_nat, ld_nat]; omega
    obtain ⟨⟨q1, q2⟩, q3, q4⟩ := hq
    obtain ⟨e1, e2, e3⟩ := main_vals h
    rw [e1, e2, e3]
    clear e1 e2 e3
    have HM := fun W => Lib.hid (spec_beMain a b a0 a1 b0 b1 W)
    generalize ln a b = n at *
    generalize ld a b = m at *
    have f1 : 0 ≤ m % 2 * a ∧ m % 2 * a ≤ 60 := by
      rcases (show m % 2 = 0 ∨ m % 2 = 1 by omega) with c | c <;> rw [c] <;> omega
    have f2 : 0 ≤ n % 2 * b ∧ n % 2 * b ≤ 60 := by
      rcases (show n % 2 = 0 ∨ n % 2 = 1 by omega) with c | c <;> rw [c] <;> omega
    obtain ⟨f1, f1'⟩ := f1
    obtain ⟨f2, f2'⟩ := f2
    go_enter Try.func55, Try.ntmps55
    go_wp2_with (first | (go_at_call 66; refine (spec_beTable _ _ _).mono ?_; rintro e w1 ⟨rfl, hb⟩; obtain ⟨hc, hf⟩ := bcell hb; have hz := bsize hb; (try simp only [World.size_alloc] at hz); (try have hz0 : w.heap.size < w1.heap.size := by omega); rw [h]) | (go_at_call 91; refine ((HM _).out).mono ?_; rintro e w2 ⟨rfl, hb2⟩; obtain ⟨hd, hf⟩ := bcell hb2; have hy := bsize hb2; (try simp only [World.size_alloc] at hy); (try have hy0 : w.heap.size < w2.heap.size := by omega)))
    go_quiet (fail)
    go_wp2
    go_ret3
    exact ⟨rfl, (by repeat (first | exact Below.refl _ _ | refine bl_alloc ?_ _ | refine bl_drewN ?_ _ | refine bl_trans (by assumption) ?_ | refine bl_set ?_ (by first | omega | (simp; done) | (simp; omega)) _))⟩
end Go.Proofs.Ytnhjiipkekblfaa
