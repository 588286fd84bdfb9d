/- Chapter 6: when tips and walkers meet, by the program and by the model alike. -/
import Derived.Test.YtfnamahdofigaaaWK3
import Derived.Test.YtfnamahdofigaaaWK4
namespace Go.Proofs.Ytfnamahdofigaaa
open Go.RowKit
set_option linter.unusedVariables false
set_option linter.unusedSimpArgs false
theorem eqM_mul {l : Int} (hl : 1 ≤ l) (m g : Int) : eqM (l * m) (l * g) = l * eqM m g := by
  unfold eqM
  by_cases h : g < 0
  · rw [if_pos h, if_pos (by
      have := Int.mul_le_mul_of_nonneg_left (show g ≤ -1 by omega) (show 0 ≤ l by omega)
      omega), Int.mul_neg]
  · rw [if_neg h, if_neg (by
      have := Int.mul_nonneg (show 0 ≤ l by omega) (show 0 ≤ g by omega)
      omega)]
theorem eqG_mul {l : Int} (hl : 1 ≤ l) (g : Int) : eqG (l * g) = l * eqG g := by
  unfold eqG
  by_cases h : g < 0
  · rw [if_pos h, if_pos (by
      have := Int.mul_le_mul_of_nonneg_left (show g ≤ -1 by omega) (show 0 ≤ l by omega)
      omega), Int.mul_neg]
  · rw [if_neg h, if_neg (by
      have := Int.mul_nonneg (show 0 ≤ l by omega) (show 0 ≤ g by omega)
      omega)]
theorem mul_sign {l : Int} (hl : 1 ≤ l) (x : Int) : (l * x < 0 ↔ x < 0) ∧ (l * x = 0 ↔ x = 0) := by
  rcases (show x < 0 ∨ x = 0 ∨ 0 < x by omega) with h | h | h
  · have := Int.mul_le_mul_of_nonneg_left (show x ≤ -1 by omega) (show 0 ≤ l by omega)
    constructor <;> constructor <;> intro <;> omega
  · subst h; simp
  · have := Int.mul_le_mul hl (show 1 ≤ x by omega) (by omega) (by omega)
    constructor <;> constructor <;> intro <;> omega
theorem eqOk_mul {l : Int} (hl : 1 ≤ l) (m g : Int) : eqOk (l * m) (l * g) = eqOk m g := by
  unfold eqOk
  rw [eqM_mul hl, eqG_mul hl]
  have a := mul_sign hl (eqG g)
  have b := mul_sign hl (eqM m g)
  have e1 : (l * eqG g == 0) = (eqG g == 0) := by
    rw [Bool.eq_iff_iff]; simp only [beq_iff_eq]; exact a.2
  have e2 : decide (l * eqM m g < 0) = decide (eqM m g < 0) := by
    rw [Bool.eq_iff_iff]; simp only [decide_eq_true_eq]; exact b.1
  rw [e1, e2]
theorem low_mul {l x y : Int} (hl : 1 ≤ l) (hx : 0 ≤ x) (hy : 1 ≤ y) : ln (l * x) (l * y) = ln x y ∧ ld (l * x) (l * y) = ld x y := by
  obtain ⟨a, rfl⟩ := Int.eq_ofNat_of_zero_le (show 0 ≤ l by omega)
  obtain ⟨m, rfl⟩ := Int.eq_ofNat_of_zero_le hx
  obtain ⟨n, rfl⟩ := Int.eq_ofNat_of_zero_le (show 0 ≤ y by omega)
  rw [← Int.natCast_mul, ← Int.natCast_mul, ln_nat, ln_nat, ld_nat, ld_nat, Nat.gcd_mul_left]
  constructor
  · rw [Nat.mul_div_mul_left _ _ (by omega)]
  · rw [Nat.mul_div_mul_left _ _ (by omega)]
theorem cross {x y : Int} (hx : 0 ≤ x) (hy : 1 ≤ y) : ln x y * y = ld x y * x := by
  obtain ⟨m, rfl⟩ := Int.eq_ofNat_of_zero_le hx
  obtain ⟨n, rfl⟩ := Int.eq_ofNat_of_zero_le (show 0 ≤ y by omega)
  rw [ln_nat, ld_nat, ← Int.natCast_mul, ← Int.natCast_mul]
  have h1 : Nat.gcd m n ∣ m := Nat.gcd_dvd_left _ _
  have h2 : Nat.gcd m n ∣ n := Nat.gcd_dvd_right _ _
  have hg : 0 < Nat.gcd m n := Nat.gcd_pos_of_pos_right _ (by omega)
  congr 1
  obtain ⟨u, hu⟩ := h1
  obtain ⟨v, hv⟩ := h2
  generalize Nat.gcd m n = g at *
  subst hu hv
  rw [Nat.mul_div_cancel_left _ hg, Nat.mul_div_cancel_left _ hg, ← Nat.mul_assoc, ← Nat.mul_assoc, Nat.mul_comm u, Nat.mul_comm v, Nat.mul_assoc, Nat.mul_assoc, Nat.mul_comm u v]
theorem cross_signed {m g : Int} (h : eqOk m g = true) : g * ln (eqM m g) (eqG g) = m * ld (eqM m g) (eqG g) := by
  obtain ⟨a, b⟩ := eqOk_true h
  have c := cross b a
  generalize ln (eqM m g) (eqG g) = N at *
  generalize ld (eqM m g) (eqG g) = D at *
  unfold eqM eqG at c
  by_cases n : g < 0
  · rw [if_pos n, if_pos n, Int.mul_neg, Int.mul_neg] at c
    rw [Int.mul_comm g, Int.mul_comm m]; omega
  · rw [if_neg n, if_neg n] at c
    rw [Int.mul_comm g, Int.mul_comm m]; exact c
theorem meet_sign {P Q p s q t N D : Int} (hP : 1 ≤ P) (hQ : 1 ≤ Q) (h : (s * Q - t * P) * N = (q * P - p * Q) * D) : (0 ≤ p * D + s * N ↔ 0 ≤ q * D + t * N) := by
  have e : Q * (p * D + s * N) = P * (q * D + t * N) := by grind
  have a := mul_sign hQ (p * D + s * N)
  have b := mul_sign hP (q * D + t * N)
  omega
theorem Z_congr {k k' : Bool} {a b : Int} (hk : k = k') (h : k' = true → a = b) : Z k a = Z k' b := by
  subst hk
  cases k
  · rfl
  · exact h rfl
theorem tips_eq (l h p s j q t : Int) (K : Bool) (hK : K = true → 1 ≤ l) : okMt K (q * l * (l - h) - p * l * (l - j)) (s * l * (l - j) - t * l * (l - h)) (p * l) (s * l) = okMt K (q * (l - h) - p * (l - j)) (s * (l - j) - t * (l - h)) p s ∧
    (okMt K (q * (l - h) - p * (l - j)) (s * (l - j) - t * (l - h)) p s = true → ln (eqM (q * l * (l - h) - p * l * (l - j)) (s * l * (l - j) - t * l * (l - h))) (eqG (s * l * (l - j) - t * l * (l - h))) = ln (eqM (q * (l - h) - p * (l - j)) (s * (l - j) - t * (l - h))) (eqG (s * (l - j) - t * (l - h))) ∧ ld (eqM (q * l * (l - h) - p * l * (l - j)) (s * l * (l - j) - t * l * (l - h))) (eqG (s * l * (l - j) - t * l * (l - h))) = ld (eqM (q * (l - h) - p * (l - j)) (s * (l - j) - t * (l - h))) (eqG (s * (l - j) - t * (l - h)))) := by
  cases K
  · exact ⟨rfl, fun e => absurd e (by unfold okMt; simp)⟩
  have hl := hK rfl
  rw [show q * l * (l - h) - p * l * (l - j) = l * (q * (l - h) - p * (l - j)) by grind, show s * l * (l - j) - t * l * (l - h) = l * (s * (l - j) - t * (l - h)) by grind]
  generalize q * (l - h) - p * (l - j) = m
  generalize s * (l - j) - t * (l - h) = g
  unfold okMt
  rw [eqOk_mul hl]
  cases hk : eqOk m g
  · simp
  · obtain ⟨a, b⟩ := eqOk_true hk
    rw [eqM_mul hl, eqG_mul hl, (low_mul hl b a).1, (low_mul hl b a).2]
    generalize ln (eqM m g) (eqG g) = N
    generalize ld (eqM m g) (eqG g) = D
    have e : p * l * D + s * l * N = l * (p * D + s * N) := by grind
    have f := mul_sign hl (p * D + s * N)
    have e2 : decide (0 ≤ p * l * D + s * l * N) = decide (0 ≤ p * D + s * N) := by
      rw [Bool.eq_iff_iff]; simp only [decide_eq_true_eq]; omega
    rw [e2]
    exact ⟨rfl, fun _ => ⟨rfl, rfl⟩⟩
set_option maxHeartbeats 2000000 in
theorem impl_TipsMeet (l h p s j q t : Int) (w : World) :
    Calls Try.prog 7 #[.int .i64 l, .agg #[.int .i64 h, .int .i64 p, .int .i64 s], .agg #[.int .i64 j, .int .i64 q, .int .i64 t]] w fun e w' => e = .returned (.tuple #[.int .i64 (Z (okMt (okWk l h p s && okWk l j q t) (q * (l - h) - p * (l - j)) (s * (l - j) - t * (l - h)) p s) (ln (eqM (q * (l - h) - p * (l - j)) (s * (l - j) - t * (l - h))) (eqG (s * (l - j) - t * (l - h))))), .int .i64 (Z (okMt (okWk l h p s && okWk l j q t) (q * (l - h) - p * (l - j)) (s * (l - j) - t * (l - h)) p s) (ld (eqM (q * (l - h) - p * (l - j)) (s * (l - j) - t * (l - h))) (eqG (s * (l - j) - t * (l - h))))), .int .i64 (Z (okMt (okWk l h p s && okWk l j q t) (q * (l - h) - p * (l - j)) (s * (l - j) - t * (l - h)) p s) (ln ((p * ld (eqM (q * (l - h) - p * (l - j)) (s * (l - j) - t * (l - h))) (eqG (s * (l - j) - t * (l - h))) + s * ln (eqM (q * (l - h) - p * (l - j)) (s * (l - j) - t * (l - h))) (eqG (s * (l - j) - t * (l - h)))) * l) (ld (eqM (q * (l - h) - p * (l - j)) (s * (l - j) - t * (l - h))) (eqG (s * (l - j) - t * (l - h))) * (l - h)))), .int .i64 (Z (okMt (okWk l h p s && okWk l j q t) (q * (l - h) - p * (l - j)) (s * (l - j) - t * (l - h)) p s) (ld ((p * ld (eqM (q * (l - h) - p * (l - j)) (s * (l - j) - t * (l - h))) (eqG (s * (l - j) - t * (l - h))) + s * ln (eqM (q * (l - h) - p * (l - j)) (s * (l - j) - t * (l - h))) (eqG (s * (l - j) - t * (l - h)))) * l) (ld (eqM (q * (l - h) - p * (l - j)) (s * (l - j) - t * (l - h))) (eqG (s * (l - j) - t * (l - h))) * (l - h)))), .bool (okMt (okWk l h p s && okWk l j q t) (q * (l - h) - p * (l - j)) (s * (l - j) - t * (l - h)) p s)]) ∧ Below w.heap.size w w' := by
  have hl : (okWk l h p s && okWk l j q t) = true → 1 ≤ l := fun e => by
    simp only [Bool.and_eq_true] at e
    have := okWk_true e.1
    omega
  have HM := fun W => Lib.hid (meeting_tip l h p s j q t (p * l) (s * l) (l - h) (q * l) (t * l) (l - j) (tells_tip h p s l) fits_tip (tells_tip j q t l) fits_tip W)
  obtain ⟨E, F⟩ := tips_eq l h p s j q t (okWk l h p s && okWk l j q t) hl
  have F1 := fun hk => (F hk).1
  have F2 := fun hk => (F hk).2
  have F3 : okMt (okWk l h p s && okWk l j q t) (q * (l - h) - p * (l - j)) (s * (l - j) - t * (l - h)) p s = true → ln (p * l * ld (eqM (q * l * (l - h) - p * l * (l - j)) (s * l * (l - j) - t * l * (l - h))) (eqG (s * l * (l - j) - t * l * (l - h))) + s * l * ln (eqM (q * l * (l - h) - p * l * (l - j)) (s * l * (l - j) - t * l * (l - h))) (eqG (s * l * (l - j) - t * l * (l - h)))) ((l - h) * ld (eqM (q * l * (l - h) - p * l * (l - j)) (s * l * (l - j) - t * l * (l - h))) (eqG (s * l * (l - j) - t * l * (l - h)))) = ln ((p * ld (eqM (q * (l - h) - p * (l - j)) (s * (l - j) - t * (l - h))) (eqG (s * (l - j) - t * (l - h))) + s * ln (eqM (q * (l - h) - p * (l - j)) (s * (l - j) - t * (l - h))) (eqG (s * (l - j) - t * (l - h)))) * l) (ld (eqM (q * (l - h) - p * (l - j)) (s * (l - j) - t * (l - h))) (eqG (s * (l - j) - t * (l - h))) * (l - h)) := fun hk => by
    rw [F1 hk, F2 hk, Int.mul_comm (l - h)]
    congr 1
    grind
  have F4 : okMt (okWk l h p s && okWk l j q t) (q * (l - h) - p * (l - j)) (s * (l - j) - t * (l - h)) p s = true → ld (p * l * ld (eqM (q * l * (l - h) - p * l * (l - j)) (s * l * (l - j) - t * l * (l - h))) (eqG (s * l * (l - j) - t * l * (l - h))) + s * l * ln (eqM (q * l * (l - h) - p * l * (l - j)) (s * l * (l - j) - t * l * (l - h))) (eqG (s * l * (l - j) - t * l * (l - h)))) ((l - h) * ld (eqM (q * l * (l - h) - p * l * (l - j)) (s * l * (l - j) - t * l * (l - h))) (eqG (s * l * (l - j) - t * l * (l - h)))) = ld ((p * ld (eqM (q * (l - h) - p * (l - j)) (s * (l - j) - t * (l - h))) (eqG (s * (l - j) - t * (l - h))) + s * ln (eqM (q * (l - h) - p * (l - j)) (s * (l - j) - t * (l - h))) (eqG (s * (l - j) - t * (l - h)))) * l) (ld (eqM (q * (l - h) - p * (l - j)) (s * (l - j) - t * (l - h))) (eqG (s * (l - j) - t * (l - h))) * (l - h)) := fun hk => by
    rw [F1 hk, F2 hk, Int.mul_comm (l - h)]
    congr 1
    grind
  rw [Z_congr E F1, Z_congr E F2, Z_congr E F3, Z_congr E F4, E] at HM
  clear E F F1 F2 F3 F4 hl
  generalize ln (eqM (q * (l - h) - p * (l - j)) (s * (l - j) - t * (l - h))) (eqG (s * (l - j) - t * (l - h))) = N at *
  generalize ld (eqM (q * (l - h) - p * (l - j)) (s * (l - j) - t * (l - h))) (eqG (s * (l - j) - t * (l - h))) = D at *
  generalize okMt (okWk l h p s && okWk l j q t) (q * (l - h) - p * (l - j)) (s * (l - j) - t * (l - h)) p s = OK at *
  generalize ln ((p * D + s * N) * l) (D * (l - h)) = X at *
  generalize ld ((p * D + s * N) * l) (D * (l - h)) = Y at *
  go_enter Try.func7, Try.ntmps7
  go_wp2_with fail
  refine ((HM _).out).mono ?_
  rintro e w1 ⟨rfl, hbw1⟩
  obtain ⟨hcw1, hfw1⟩ := bcell hbw1
  have hzw1 := bsize hbw1
  (try simp only [World.size_alloc, World.size_setCell] at hzw1)
  have kw1_0_0 : w1.cell? ⟨w.heap.size, 0, none⟩ = some (.int .i64 h) := by rw [hcw1 _ _ (by first | (simp; done) | omega | (simp; omega))]; first | assumption | (simp [go_sem]; done) | (simp [go_sem]; done) | (simp [go_sem, *]; done)
  have kw1_0_1 : w1.cell? ⟨w.heap.size, 1, none⟩ = some (.int .i64 p) := by rw [hcw1 _ _ (by first | (simp; done) | omega | (simp; omega))]; first | assumption | (simp [go_sem]; done) | (simp [go_sem]; done) | (simp [go_sem, *]; done)
  have kw1_0_2 : w1.cell? ⟨w.heap.size, 2, none⟩ = some (.int .i64 s) := by rw [hcw1 _ _ (by first | (simp; done) | omega | (simp; omega))]; first | assumption | (simp [go_sem]; done) | (simp [go_sem]; done) | (simp [go_sem, *]; done)
  have sw1_0 : w.heap.size < w1.heap.size := by first | omega | (simp at *; omega)
  have kw1_1_0 : w1.cell? ⟨w.heap.size + 1, 0, none⟩ = some (.int .i64 j) := by rw [hcw1 _ _ (by first | (simp; done) | omega | (simp; omega))]; first | assumption | (simp [go_sem]; done) | (simp [go_sem]; done) | (simp [go_sem, *]; done)
  have kw1_1_1 : w1.cell? ⟨w.heap.size + 1, 1, none⟩ = some (.int .i64 q) := by rw [hcw1 _ _ (by first | (simp; done) | omega | (simp; omega))]; first | assumption | (simp [go_sem]; done) | (simp [go_sem]; done) | (simp [go_sem, *]; done)
  have kw1_1_2 : w1.cell? ⟨w.heap.size + 1, 2, none⟩ = some (.int .i64 t) := by rw [hcw1 _ _ (by first | (simp; done) | omega | (simp; omega))]; first | assumption | (simp [go_sem]; done) | (simp [go_sem]; done) | (simp [go_sem, *]; done)
  have sw1_1 : w.heap.size + 1 < w1.heap.size := by first | omega | (simp at *; omega)
  have hBw1 : Below w.heap.size w w1 := (by repeat (first | exact Below.refl _ _ | refine bl_alloc ?_ _ | refine bl_drewN ?_ _ | refine bl_trans (by assumption) ?_ | refine bl_set ?_ (by first | omega | (simp; done) | (simp; omega)) _))
  have HBw1 := Lib.hid hBw1
  clear hBw1 hcw1 hfw1 hbw1
  go_wp2
  ((try simp only [Exit.inBlock, Exit.then]); refine bodyPost_ret (results_tmp5 rfl _ _ _) rfl ?_)
  exact ⟨rfl, (by repeat (first | exact HBw1.out | exact Below.refl _ _ | refine bl_alloc ?_ _ | refine bl_drewN ?_ _ | refine bl_trans (by assumption) ?_ | refine bl_set ?_ (by first | omega | (simp; done) | (simp; omega)) _))⟩
set_option maxHeartbeats 1000000 in
theorem wkStill_any (h p s n d : Int) (p1 : 0 ≤ p) (p2 : p ≤ 500) (s1 : -50 ≤ s) (s2 : s ≤ 50) (n1 : 0 ≤ n) (n2 : n ≤ 1000000) (d1 : 0 ≤ d) (d2 : d ≤ 1000000) (w : World) :
    Calls Try.prog 31 #[.agg #[.int .i64 h, .int .i64 p, .int .i64 s], .int .i64 n, .int .i64 d] w fun e w' => e = .returned (.bool (decide (0 ≤ p * d + s * n))) ∧ Below w.heap.size w w' := by
  obtain ⟨f1, f2⟩ := mul_bd2 (a := p) (b := d) (m := 500) (k := 1000000) (by omega) (by omega) (by omega) (by omega)
  obtain ⟨f3, f4⟩ := mul_abs (a := s) (b := n) (m := 50) (k := 1000000) (by omega) (by omega) (by omega) (by omega)
  go_enter Try.func31, Try.ntmps31
  go_wp2
  go_ret
  exact ⟨rfl, (by repeat (first | exact Below.refl _ _ | refine bl_alloc ?_ _ | refine bl_drewN ?_ _ | refine bl_trans (by assumption) ?_ | refine bl_set ?_ (by first | omega | (simp; done) | (simp; omega)) _))⟩
set_option maxHeartbeats 2000000 in
theorem wkMeet_any (a b x y : Int) (a1 : -1000000 ≤ a) (a2 : a ≤ 1000000) (b1 : -1000000 ≤ b) (b2 : b ≤ 1000000) (x1 : -1000000 ≤ x) (x2 : x ≤ 1000000) (y1 : -1000000 ≤ y) (y2 : y ≤ 1000000) (w : World) :
    Calls Try.prog 30 #[.int .i64 a, .int .i64 b, .int .i64 x, .int .i64 y] w fun e w' => e = .returned (.tuple #[.int .i64 (Z (eqOk (b - a) (x - y)) (ln (eqM (b - a) (x - y)) (eqG (x - y)))), .int .i64 (Z (eqOk (b - a) (x - y)) (ld (eqM (b - a) (x - y)) (eqG (x - y)))), .bool (eqOk (b - a) (x - y))]) ∧ ∃ n, w' = w.drewN n := by
  have hM : eqM (b - a) (x - y) = if x - y < 0 then -(b - a) else b - a := rfl
  have hG : eqG (x - y) = if x - y < 0 then -(x - y) else x - y := rfl
  have hO : eqOk (b - a) (x - y) = (!(eqG (x - y) == 0) && !decide (eqM (b - a) (x - y) < 0)) := rfl
  by_cases g : x - y < 0
  · rw [if_pos g] at hM hG
    have g' : x < y := by omega
    have gz : (-(x - y) == 0) = false := by simp; omega
    have gz' : ¬ x - y = 0 := by omega
    by_cases q : a < b
    · have HO := Lib.hid (show eqOk (b - a) (x - y) = false by rw [hO, hM, hG]; simp; omega)
      clear hO hM hG
      go_enter Try.func30, Try.ntmps30
      go_wp2
      go_ret3
      exact ⟨by rw [HO.out]; rfl, ⟨0, rfl⟩⟩
    · have HO := Lib.hid (show eqOk (b - a) (x - y) = true by rw [hO, hM, hG]; simp; omega)
      have HL := fun W => Lib.hid (clLow_any (-(b - a)) (-(x - y)) (by omega) (by omega) (by omega) (by omega) W)
      rw [hM, hG]
      clear hO hM hG
      go_enter Try.func30, Try.ntmps30
      go_wp2_with fail
      refine ((HL _).out).mono ?_
      rintro e w' ⟨rfl, mm, rfl⟩
      go_wp2
      go_ret3
      exact ⟨by rw [HO.out]; rfl, ⟨mm, rfl⟩⟩
  · rw [if_neg g] at hM hG
    have g' : ¬ x < y := by omega
    by_cases z : x = y
    · subst z
      rw [Int.sub_self] at hO hG ⊢
      have HO := Lib.hid (show eqOk (b - a) 0 = false by rw [hO, hG]; simp)
      clear hO hM hG g g'
      go_enter Try.func30, Try.ntmps30
      go_wp2
      go_ret3
      exact ⟨by rw [HO.out]; rfl, ⟨0, rfl⟩⟩
    have gz : (x - y == 0) = false := by simp; omega
    have gz' : ¬ x - y = 0 := by omega
    by_cases q : b - a < 0
    · have HO := Lib.hid (show eqOk (b - a) (x - y) = false by rw [hO, hM, hG]; simp; omega)
      have q' : b < a := by omega
      clear hO hM hG
      go_enter Try.func30, Try.ntmps30
      go_wp2
      go_ret3
      exact ⟨by rw [HO.out]; rfl, ⟨0, rfl⟩⟩
    · have HO := Lib.hid (show eqOk (b - a) (x - y) = true by rw [hO, hM, hG]; simp; omega)
      have q' : ¬ b < a := by omega
      have HL := fun W => Lib.hid (clLow_any (b - a) (x - y) (by omega) (by omega) (by omega) (by omega) W)
      rw [hM, hG]
      clear hO hM hG
      go_enter Try.func30, Try.ntmps30
      go_wp2_with fail
      refine ((HL _).out).mono ?_
      rintro e w' ⟨rfl, mm, rfl⟩
      go_wp2
      go_ret3
      exact ⟨by rw [HO.out]; rfl, ⟨mm, rfl⟩⟩
set_option maxHeartbeats 4000000 in
theorem spec_TipsMeet (l h p s j q t : Int) (w : World) :
    Calls Try.prog 8 #[.int .i64 l, .agg #[.int .i64 h, .int .i64 p, .int .i64 s], .agg #[.int .i64 j, .int .i64 q, .int .i64 t]] w fun e w' => e = .returned (.tuple #[.int .i64 (Z (okMt (okWk l h p s && okWk l j q t) (q * (l - h) - p * (l - j)) (s * (l - j) - t * (l - h)) p s) (ln (eqM (q * (l - h) - p * (l - j)) (s * (l - j) - t * (l - h))) (eqG (s * (l - j) - t * (l - h))))), .int .i64 (Z (okMt (okWk l h p s && okWk l j q t) (q * (l - h) - p * (l - j)) (s * (l - j) - t * (l - h)) p s) (ld (eqM (q * (l - h) - p * (l - j)) (s * (l - j) - t * (l - h))) (eqG (s * (l - j) - t * (l - h))))), .int .i64 (Z (okMt (okWk l h p s && okWk l j q t) (q * (l - h) - p * (l - j)) (s * (l - j) - t * (l - h)) p s) (ln ((p * ld (eqM (q * (l - h) - p * (l - j)) (s * (l - j) - t * (l - h))) (eqG (s * (l - j) - t * (l - h))) + s * ln (eqM (q * (l - h) - p * (l - j)) (s * (l - j) - t * (l - h))) (eqG (s * (l - j) - t * (l - h)))) * l) (ld (eqM (q * (l - h) - p * (l - j)) (s * (l - j) - t * (l - h))) (eqG (s * (l - j) - t * (l - h))) * (l - h)))), .int .i64 (Z (okMt (okWk l h p s && okWk l j q t) (q * (l - h) - p * (l - j)) (s * (l - j) - t * (l - h)) p s) (ld ((p * ld (eqM (q * (l - h) - p * (l - j)) (s * (l - j) - t * (l - h))) (eqG (s * (l - j) - t * (l - h))) + s * ln (eqM (q * (l - h) - p * (l - j)) (s * (l - j) - t * (l - h))) (eqG (s * (l - j) - t * (l - h)))) * l) (ld (eqM (q * (l - h) - p * (l - j)) (s * (l - j) - t * (l - h))) (eqG (s * (l - j) - t * (l - h))) * (l - h)))), .bool (okMt (okWk l h p s && okWk l j q t) (q * (l - h) - p * (l - j)) (s * (l - j) - t * (l - h)) p s)]) ∧ Below w.heap.size w w' := by
  have hA : okMt (okWk l h p s && okWk l j q t) (q * (l - h) - p * (l - j)) (s * (l - j) - t * (l - h)) p s = (okWk l h p s && okWk l j q t && (eqOk (q * (l - h) - p * (l - j)) (s * (l - j) - t * (l - h)) && decide (0 ≤ p * ld (eqM (q * (l - h) - p * (l - j)) (s * (l - j) - t * (l - h))) (eqG (s * (l - j) - t * (l - h))) + s * ln (eqM (q * (l - h) - p * (l - j)) (s * (l - j) - t * (l - h))) (eqG (s * (l - j) - t * (l - h)))))) := rfl
  cases h1 : okWk l h p s
  · have HO := Lib.hid (show okMt (false && okWk l j q t) (q * (l - h) - p * (l - j)) (s * (l - j) - t * (l - h)) p s = false from rfl)
    clear hA
    go_enter Try.func8, Try.ntmps8
    go_wp2_with fail
    refine (spec_wkGood _ _ _ _ _).mono ?_
    rintro e w1 ⟨rfl, hbw1⟩
    obtain ⟨hcw1, hfw1⟩ := bcell hbw1
    have hzw1 := bsize hbw1
    (try simp only [World.size_alloc, World.size_setCell] at hzw1)
    have kw1_0_0 : w1.cell? ⟨w.heap.size, 0, none⟩ = some (.int .i64 h) := by rw [hcw1 _ _ (by first | (simp; done) | omega | (simp; omega))]; first | assumption | (simp [go_sem]; done) | (simp [go_sem]; done) | (simp [go_sem, *]; done)
    have kw1_0_1 : w1.cell? ⟨w.heap.size, 1, none⟩ = some (.int .i64 p) := by rw [hcw1 _ _ (by first | (simp; done) | omega | (simp; omega))]; first | assumption | (simp [go_sem]; done) | (simp [go_sem]; done) | (simp [go_sem, *]; done)
    have kw1_0_2 : w1.cell? ⟨w.heap.size, 2, none⟩ = some (.int .i64 s) := by rw [hcw1 _ _ (by first | (simp; done) | omega | (simp; omega))]; first | assumption | (simp [go_sem]; done) | (simp [go_sem]; done) | (simp [go_sem, *]; done)
    have sw1_0 : w.heap.size < w1.heap.size := by first | omega | (simp at *; omega)
    have kw1_1_0 : w1.cell? ⟨w.heap.size + 1, 0, none⟩ = some (.int .i64 j) := by rw [hcw1 _ _ (by first | (simp; done) | omega | (simp; omega))]; first | assumption | (simp [go_sem]; done) | (simp [go_sem]; done) | (simp [go_sem, *]; done)
    have kw1_1_1 : w1.cell? ⟨w.heap.size + 1, 1, none⟩ = some (.int .i64 q) := by rw [hcw1 _ _ (by first | (simp; done) | omega | (simp; omega))]; first | assumption | (simp [go_sem]; done) | (simp [go_sem]; done) | (simp [go_sem, *]; done)
    have kw1_1_2 : w1.cell? ⟨w.heap.size + 1, 2, none⟩ = some (.int .i64 t) := by rw [hcw1 _ _ (by first | (simp; done) | omega | (simp; omega))]; first | assumption | (simp [go_sem]; done) | (simp [go_sem]; done) | (simp [go_sem, *]; done)
    have sw1_1 : w.heap.size + 1 < w1.heap.size := by first | omega | (simp at *; omega)
    have hBw1 : Below w.heap.size w w1 := (by repeat (first | exact Below.refl _ _ | refine bl_alloc ?_ _ | refine bl_drewN ?_ _ | refine bl_trans (by assumption) ?_ | refine bl_set ?_ (by first | omega | (simp; done) | (simp; omega)) _))
    have HBw1 := Lib.hid hBw1
    clear hBw1 hcw1 hfw1 hbw1
    rw [h1]
    go_wp2
    ((try simp only [Exit.inBlock, Exit.then]); refine bodyPost_ret (results_tmp5 rfl _ _ _) rfl ?_)
    exact ⟨by rw [HO.out]; rfl, (by repeat (first | exact HBw1.out | exact Below.refl _ _ | refine bl_alloc ?_ _ | refine bl_drewN ?_ _ | refine bl_trans (by assumption) ?_ | refine bl_set ?_ (by first | omega | (simp; done) | (simp; omega)) _))⟩
  cases h2 : okWk l j q t
  · have HO := Lib.hid (show okMt (true && false) (q * (l - h) - p * (l - j)) (s * (l - j) - t * (l - h)) p s = false from rfl)
    clear hA
    go_enter Try.func8, Try.ntmps8
    go_wp2_with fail
    refine (spec_wkGood _ _ _ _ _).mono ?_
    rintro e w1 ⟨rfl, hbw1⟩
    obtain ⟨hcw1, hfw1⟩ := bcell hbw1
    have hzw1 := bsize hbw1
    (try simp only [World.size_alloc, World.size_setCell] at hzw1)
    have kw1_0_0 : w1.cell? ⟨w.heap.size, 0, none⟩ = some (.int .i64 h) := by rw [hcw1 _ _ (by first | (simp; done) | omega | (simp; omega))]; first | assumption | (simp [go_sem]; done) | (simp [go_sem]; done) | (simp [go_sem, *]; done)
    have kw1_0_1 : w1.cell? ⟨w.heap.size, 1, none⟩ = some (.int .i64 p) := by rw [hcw1 _ _ (by first | (simp; done) | omega | (simp; omega))]; first | assumption | (simp [go_sem]; done) | (simp [go_sem]; done) | (simp [go_sem, *]; done)
    have kw1_0_2 : w1.cell? ⟨w.heap.size, 2, none⟩ = some (.int .i64 s) := by rw [hcw1 _ _ (by first | (simp; done) | omega | (simp; omega))]; first | assumption | (simp [go_sem]; done) | (simp [go_sem]; done) | (simp [go_sem, *]; done)
    have sw1_0 : w.heap.size < w1.heap.size := by first | omega | (simp at *; omega)
    have kw1_1_0 : w1.cell? ⟨w.heap.size + 1, 0, none⟩ = some (.int .i64 j) := by rw [hcw1 _ _ (by first | (simp; done) | omega | (simp; omega))]; first | assumption | (simp [go_sem]; done) | (simp [go_sem]; done) | (simp [go_sem, *]; done)
    have kw1_1_1 : w1.cell? ⟨w.heap.size + 1, 1, none⟩ = some (.int .i64 q) := by rw [hcw1 _ _ (by first | (simp; done) | omega | (simp; omega))]; first | assumption | (simp [go_sem]; done) | (simp [go_sem]; done) | (simp [go_sem, *]; done)
    have kw1_1_2 : w1.cell? ⟨w.heap.size + 1, 2, none⟩ = some (.int .i64 t) := by rw [hcw1 _ _ (by first | (simp; done) | omega | (simp; omega))]; first | assumption | (simp [go_sem]; done) | (simp [go_sem]; done) | (simp [go_sem, *]; done)
    have sw1_1 : w.heap.size + 1 < w1.heap.size := by first | omega | (simp at *; omega)
    have hBw1 : Below w.heap.size w w1 := (by repeat (first | exact Below.refl _ _ | refine bl_alloc ?_ _ | refine bl_drewN ?_ _ | refine bl_trans (by assumption) ?_ | refine bl_set ?_ (by first | omega | (simp; done) | (simp; omega)) _))
    have HBw1 := Lib.hid hBw1
    clear hBw1 hcw1 hfw1 hbw1
    rw [h1]
    go_wp2_with fail
    refine (spec_wkGood _ _ _ _ _).mono ?_
    rintro e w2 ⟨rfl, hbw2⟩
    obtain ⟨hcw2, hfw2⟩ := bcell hbw2
    have hzw2 := bsize hbw2
    (try simp only [World.size_alloc, World.size_setCell] at hzw2)
    have hkw2 : Below w1.heap.size w1 w2 := (by repeat (first | exact Below.refl _ _ | refine bl_alloc ?_ _ | refine bl_drewN ?_ _ | refine bl_trans (by assumption) ?_ | refine bl_set ?_ (by first | omega | (simp; done) | (simp; omega)) _))
    have kw2_0_0 : w2.cell? ⟨w.heap.size, 0, none⟩ = some (.int .i64 h) := cell_after hkw2 sw1_0 kw1_0_0
    have kw2_0_1 : w2.cell? ⟨w.heap.size, 1, none⟩ = some (.int .i64 p) := cell_after hkw2 sw1_0 kw1_0_1
    have kw2_0_2 : w2.cell? ⟨w.heap.size, 2, none⟩ = some (.int .i64 s) := cell_after hkw2 sw1_0 kw1_0_2
    have sw2_0 : w.heap.size < w2.heap.size := size_after hkw2 sw1_0
    have kw2_1_0 : w2.cell? ⟨w.heap.size + 1, 0, none⟩ = some (.int .i64 j) := cell_after hkw2 sw1_1 kw1_1_0
    have kw2_1_1 : w2.cell? ⟨w.heap.size + 1, 1, none⟩ = some (.int .i64 q) := cell_after hkw2 sw1_1 kw1_1_1
    have kw2_1_2 : w2.cell? ⟨w.heap.size + 1, 2, none⟩ = some (.int .i64 t) := cell_after hkw2 sw1_1 kw1_1_2
    have sw2_1 : w.heap.size + 1 < w2.heap.size := size_after hkw2 sw1_1
    have hBw2 : Below w.heap.size w w2 := (by repeat (first | exact HBw1.out | exact Below.refl _ _ | refine bl_alloc ?_ _ | refine bl_drewN ?_ _ | refine bl_trans (by assumption) ?_ | refine bl_set ?_ (by first | omega | (simp; done) | (simp; omega)) _))
    have HBw2 := Lib.hid hBw2
    clear hBw2 hcw2 hfw2 hbw2 hkw2 kw1_0_0 kw1_0_1 kw1_0_2 sw1_0 kw1_1_0 kw1_1_1 kw1_1_2 sw1_1
    rw [h2]
    go_wp2
    ((try simp only [Exit.inBlock, Exit.then]); refine bodyPost_ret (results_tmp5 rfl _ _ _) rfl ?_)
    exact ⟨by rw [HO.out]; rfl, (by repeat (first | exact HBw2.out | exact Below.refl _ _ | refine bl_alloc ?_ _ | refine bl_drewN ?_ _ | refine bl_trans (by assumption) ?_ | refine bl_set ?_ (by first | omega | (simp; done) | (simp; omega)) _))⟩
  rw [h1, h2] at hA
  obtain ⟨⟨l1, l2⟩, ⟨g1, g2⟩, ⟨p1, p2⟩, s1, s2⟩ := okWk_true h1
  obtain ⟨_, ⟨j1, j2⟩, ⟨q1, q2⟩, t1, t2⟩ := okWk_true h2
  obtain ⟨f1, f2⟩ := mul_bd2 (a := q) (b := l - h) (m := 500) (k := 200) (by omega) (by omega) (by omega) (by omega)
  obtain ⟨f3, f4⟩ := mul_bd2 (a := p) (b := l - j) (m := 500) (k := 200) (by omega) (by omega) (by omega) (by omega)
  obtain ⟨f5, f6⟩ := mul_abs (a := s) (b := l - j) (m := 50) (k := 200) (by omega) (by omega) (by omega) (by omega)
  obtain ⟨f7, f8⟩ := mul_abs (a := t) (b := l - h) (m := 50) (k := 200) (by omega) (by omega) (by omega) (by omega)
  have HK := fun W => Lib.hid (wkMeet_any (p * (l - j)) (q * (l - h)) (s * (l - j)) (t * (l - h)) (by omega) (by omega) (by omega) (by omega) (by omega) (by omega) (by omega) (by omega) W)
  cases hq : eqOk (q * (l - h) - p * (l - j)) (s * (l - j) - t * (l - h))
  · rw [hq] at HK hA
    have HO := Lib.hid (show okMt (true && true) (q * (l - h) - p * (l - j)) (s * (l - j) - t * (l - h)) p s = false from hA)
    have HZ := fun n => Lib.hid (show Z false n = 0 from rfl)
    rw [(HZ _).out, (HZ _).out] at HK
    clear hA hq
    
    go_enter Try.func8, Try.ntmps8
    go_wp2_with fail
    refine (spec_wkGood _ _ _ _ _).mono ?_
    rintro e w1 ⟨rfl, hbw1⟩
    obtain ⟨hcw1, hfw1⟩ := bcell hbw1
    have hzw1 := bsize hbw1
    (try simp only [World.size_alloc, World.size_setCell] at hzw1)
    have kw1_0_0 : w1.cell? ⟨w.heap.size, 0, none⟩ = some (.int .i64 h) := by rw [hcw1 _ _ (by first | (simp; done) | omega | (simp; omega))]; first | assumption | (simp [go_sem]; done) | (simp [go_sem]; done) | (simp [go_sem, *]; done)
    have kw1_0_1 : w1.cell? ⟨w.heap.size, 1, none⟩ = some (.int .i64 p) := by rw [hcw1 _ _ (by first | (simp; done) | omega | (simp; omega))]; first | assumption | (simp [go_sem]; done) | (simp [go_sem]; done) | (simp [go_sem, *]; done)
    have kw1_0_2 : w1.cell? ⟨w.heap.size, 2, none⟩ = some (.int .i64 s) := by rw [hcw1 _ _ (by first | (simp; done) | omega | (simp; omega))]; first | assumption | (simp [go_sem]; done) | (simp [go_sem]; done) | (simp [go_sem, *]; done)
    have sw1_0 : w.heap.size < w1.heap.size := by first | omega | (simp at *; omega)
    have kw1_1_0 : w1.cell? ⟨w.heap.size + 1, 0, none⟩ = some (.int .i64 j) := by rw [hcw1 _ _ (by first | (simp; done) | omega | (simp; omega))]; first | assumption | (simp [go_sem]; done) | (simp [go_sem]; done) | (simp [go_sem, *]; done)
    have kw1_1_1 : w1.cell? ⟨w.heap.size + 1, 1, none⟩ = some (.int .i64 q) := by rw [hcw1 _ _ (by first | (simp; done) | omega | (simp; omega))]; first | assumption | (simp [go_sem]; done) | (simp [go_sem]; done) | (simp [go_sem, *]; done)
    have kw1_1_2 : w1.cell? ⟨w.heap.size + 1, 2, none⟩ = some (.int .i64 t) := by rw [hcw1 _ _ (by first | (simp; done) | omega | (simp; omega))]; first | assumption | (simp [go_sem]; done) | (simp [go_sem]; done) | (simp [go_sem, *]; done)
    have sw1_1 : w.heap.size + 1 < w1.heap.size := by first | omega | (simp at *; omega)
    have hBw1 : Below w.heap.size w w1 := (by repeat (first | exact Below.refl _ _ | refine bl_alloc ?_ _ | refine bl_drewN ?_ _ | refine bl_trans (by assumption) ?_ | refine bl_set ?_ (by first | omega | (simp; done) | (simp; omega)) _))
    have HBw1 := Lib.hid hBw1
    clear hBw1 hcw1 hfw1 hbw1
    rw [h1]
    go_wp2_with fail
    refine (spec_wkGood _ _ _ _ _).mono ?_
    rintro e w2 ⟨rfl, hbw2⟩
    obtain ⟨hcw2, hfw2⟩ := bcell hbw2
    have hzw2 := bsize hbw2
    (try simp only [World.size_alloc, World.size_setCell] at hzw2)
    have hkw2 : Below w1.heap.size w1 w2 := (by repeat (first | exact Below.refl _ _ | refine bl_alloc ?_ _ | refine bl_drewN ?_ _ | refine bl_trans (by assumption) ?_ | refine bl_set ?_ (by first | omega | (simp; done) | (simp; omega)) _))
    have kw2_0_0 : w2.cell? ⟨w.heap.size, 0, none⟩ = some (.int .i64 h) := cell_after hkw2 sw1_0 kw1_0_0
    have kw2_0_1 : w2.cell? ⟨w.heap.size, 1, none⟩ = some (.int .i64 p) := cell_after hkw2 sw1_0 kw1_0_1
    have kw2_0_2 : w2.cell? ⟨w.heap.size, 2, none⟩ = some (.int .i64 s) := cell_after hkw2 sw1_0 kw1_0_2
    have sw2_0 : w.heap.size < w2.heap.size := size_after hkw2 sw1_0
    have kw2_1_0 : w2.cell? ⟨w.heap.size + 1, 0, none⟩ = some (.int .i64 j) := cell_after hkw2 sw1_1 kw1_1_0
    have kw2_1_1 : w2.cell? ⟨w.heap.size + 1, 1, none⟩ = some (.int .i64 q) := cell_after hkw2 sw1_1 kw1_1_1
    have kw2_1_2 : w2.cell? ⟨w.heap.size + 1, 2, none⟩ = some (.int .i64 t) := cell_after hkw2 sw1_1 kw1_1_2
    have sw2_1 : w.heap.size + 1 < w2.heap.size := size_after hkw2 sw1_1
    have hBw2 : Below w.heap.size w w2 := (by repeat (first | exact HBw1.out | exact Below.refl _ _ | refine bl_alloc ?_ _ | refine bl_drewN ?_ _ | refine bl_trans (by assumption) ?_ | refine bl_set ?_ (by first | omega | (simp; done) | (simp; omega)) _))
    have HBw2 := Lib.hid hBw2
    clear hBw2 hcw2 hfw2 hbw2 hkw2 kw1_0_0 kw1_0_1 kw1_0_2 sw1_0 kw1_1_0 kw1_1_1 kw1_1_2 sw1_1
    rw [h2]
    go_wp2_with fail
    go_quiet (fail)
    go_wp2_with fail
    refine ((HK _).out).mono ?_
    rintro e w' ⟨rfl, nn, rfl⟩
    go_wp2
    ((try simp only [Exit.inBlock, Exit.then]); refine bodyPost_ret (results_tmp5 rfl _ _ _) rfl ?_)
    exact ⟨by rw [HO.out]; rfl, (by repeat (first | exact HBw2.out | exact Below.refl _ _ | refine bl_alloc ?_ _ | refine bl_drewN ?_ _ | refine bl_trans (by assumption) ?_ | refine bl_set ?_ (by first | omega | (simp; done) | (simp; omega)) _))⟩
  obtain ⟨e1, e2⟩ := eqOk_true hq
  have e3 := eqG_bd (g := s * (l - j) - t * (l - h)) (k := 100000) (by omega) (by omega)
  have e4 := (eqM_bd (m := q * (l - h) - p * (l - j)) (g := s * (l - j) - t * (l - h)) (k := 100000) (by omega) (by omega)).2
  obtain ⟨n1, n2⟩ := ln_bd (n := eqM (q * (l - h) - p * (l - j)) (s * (l - j) - t * (l - h))) (a := eqG (s * (l - j) - t * (l - h))) e2 e1
  obtain ⟨n3, n4⟩ := ld_bd (n := eqM (q * (l - h) - p * (l - j)) (s * (l - j) - t * (l - h))) (a := eqG (s * (l - j) - t * (l - h))) e2 e1
  have n5 := ld_pos (n := eqM (q * (l - h) - p * (l - j)) (s * (l - j) - t * (l - h))) (a := eqG (s * (l - j) - t * (l - h))) e1
  have hX := cross_signed hq
  rw [hq] at HK hA
  have HZ := fun n => Lib.hid (show Z true n = n from rfl)
  rw [(HZ _).out, (HZ _).out] at HK
  replace hA : okMt (true && true) (q * (l - h) - p * (l - j)) (s * (l - j) - t * (l - h)) p s = decide (0 ≤ p * ld (eqM (q * (l - h) - p * (l - j)) (s * (l - j) - t * (l - h))) (eqG (s * (l - j) - t * (l - h))) + s * ln (eqM (q * (l - h) - p * (l - j)) (s * (l - j) - t * (l - h))) (eqG (s * (l - j) - t * (l - h)))) := hA
  have hS := meet_sign (P := l - h) (Q := l - j) (p := p) (s := s) (q := q) (t := t) (by omega) (by omega) hX
  clear hX hq
  generalize eqM (q * (l - h) - p * (l - j)) (s * (l - j) - t * (l - h)) = P at *
  generalize eqG (s * (l - j) - t * (l - h)) = Q at *
  generalize okMt (true && true) (q * (l - h) - p * (l - j)) (s * (l - j) - t * (l - h)) p s = OK at *
  generalize ln P Q = N at *
  generalize ld P Q = D at *
  have HSA := fun W => Lib.hid (wkStill_any h p s N D p1 p2 s1 s2 n1 (by omega) n3 (by omega) W)
  have HSB := fun W => Lib.hid (wkStill_any j q t N D q1 q2 t1 t2 n1 (by omega) n3 (by omega) W)
  obtain ⟨k1, k2⟩ := mul_bd2 (a := p) (b := D) (m := 500) (k := 100000) (by omega) (by omega) (by omega) (by omega)
  obtain ⟨k3, k4⟩ := mul_abs (a := s) (b := N) (m := 50) (k := 100000) (by omega) (by omega) (by omega) (by omega)
  obtain ⟨k5, k6⟩ := mul_bd2 (a := D) (b := l - h) (m := 100000) (k := 200) (by omega) (by omega) (by omega) (by omega)
  have k7 : 1 ≤ D * (l - h) := by
    have := Int.mul_le_mul n5 (show 1 ≤ l - h by omega) (by omega) (by omega)
    omega
  by_cases z : 0 ≤ p * D + s * N
  · have z2 := hS.1 z
    have HO := Lib.hid (show OK = true by rw [hA, decide_eq_true z])
    rw [decide_eq_true z] at HSA
    rw [decide_eq_true z2] at HSB
    obtain ⟨k8, k9⟩ := mul_bd2 (a := p * D + s * N) (b := l) (m := 100000000) (k := 200) (by omega) (by omega) (by omega) (by omega)
    have HL := fun W => Lib.hid (clLow_any ((p * D + s * N) * l) (D * (l - h)) (by omega) (by omega) (by omega) (by omega) W)
    generalize ln ((p * D + s * N) * l) (D * (l - h)) = X at *
    generalize ld ((p * D + s * N) * l) (D * (l - h)) = Y at *
    clear hA hS z z2
    go_enter Try.func8, Try.ntmps8
    go_wp2_with fail
    refine (spec_wkGood _ _ _ _ _).mono ?_
    rintro e w1 ⟨rfl, hbw1⟩
    obtain ⟨hcw1, hfw1⟩ := bcell hbw1
    have hzw1 := bsize hbw1
    (try simp only [World.size_alloc, World.size_setCell] at hzw1)
    have kw1_0_0 : w1.cell? ⟨w.heap.size, 0, none⟩ = some (.int .i64 h) := by rw [hcw1 _ _ (by first | (simp; done) | omega | (simp; omega))]; first | assumption | (simp [go_sem]; done) | (simp [go_sem]; done) | (simp [go_sem, *]; done)
    have kw1_0_1 : w1.cell? ⟨w.heap.size, 1, none⟩ = some (.int .i64 p) := by rw [hcw1 _ _ (by first | (simp; done) | omega | (simp; omega))]; first | assumption | (simp [go_sem]; done) | (simp [go_sem]; done) | (simp [go_sem, *]; done)
    have kw1_0_2 : w1.cell? ⟨w.heap.size, 2, none⟩ = some (.int .i64 s) := by rw [hcw1 _ _ (by first | (simp; done) | omega | (simp; omega))]; first | assumption | (simp [go_sem]; done) | (simp [go_sem]; done) | (simp [go_sem, *]; done)
    have sw1_0 : w.heap.size < w1.heap.size := by first | omega | (simp at *; omega)
    have kw1_1_0 : w1.cell? ⟨w.heap.size + 1, 0, none⟩ = some (.int .i64 j) := by rw [hcw1 _ _ (by first | (simp; done) | omega | (simp; omega))]; first | assumption | (simp [go_sem]; done) | (simp [go_sem]; done) | (simp [go_sem, *]; done)
    have kw1_1_1 : w1.cell? ⟨w.heap.size + 1, 1, none⟩ = some (.int .i64 q) := by rw [hcw1 _ _ (by first | (simp; done) | omega | (simp; omega))]; first | assumption | (simp [go_sem]; done) | (simp [go_sem]; done) | (simp [go_sem, *]; done)
    have kw1_1_2 : w1.cell? ⟨w.heap.size + 1, 2, none⟩ = some (.int .i64 t) := by rw [hcw1 _ _ (by first | (simp; done) | omega | (simp; omega))]; first | assumption | (simp [go_sem]; done) | (simp [go_sem]; done) | (simp [go_sem, *]; done)
    have sw1_1 : w.heap.size + 1 < w1.heap.size := by first | omega | (simp at *; omega)
    have hBw1 : Below w.heap.size w w1 := (by repeat (first | exact Below.refl _ _ | refine bl_alloc ?_ _ | refine bl_drewN ?_ _ | refine bl_trans (by assumption) ?_ | refine bl_set ?_ (by first | omega | (simp; done) | (simp; omega)) _))
    have HBw1 := Lib.hid hBw1
    clear hBw1 hcw1 hfw1 hbw1
    rw [h1]
    go_wp2_with fail
    refine (spec_wkGood _ _ _ _ _).mono ?_
    rintro e w2 ⟨rfl, hbw2⟩
    obtain ⟨hcw2, hfw2⟩ := bcell hbw2
    have hzw2 := bsize hbw2
    (try simp only [World.size_alloc, World.size_setCell] at hzw2)
    have hkw2 : Below w1.heap.size w1 w2 := (by repeat (first | exact Below.refl _ _ | refine bl_alloc ?_ _ | refine bl_drewN ?_ _ | refine bl_trans (by assumption) ?_ | refine bl_set ?_ (by first | omega | (simp; done) | (simp; omega)) _))
    have kw2_0_0 : w2.cell? ⟨w.heap.size, 0, none⟩ = some (.int .i64 h) := cell_after hkw2 sw1_0 kw1_0_0
    have kw2_0_1 : w2.cell? ⟨w.heap.size, 1, none⟩ = some (.int .i64 p) := cell_after hkw2 sw1_0 kw1_0_1
    have kw2_0_2 : w2.cell? ⟨w.heap.size, 2, none⟩ = some (.int .i64 s) := cell_after hkw2 sw1_0 kw1_0_2
    have sw2_0 : w.heap.size < w2.heap.size := size_after hkw2 sw1_0
    have kw2_1_0 : w2.cell? ⟨w.heap.size + 1, 0, none⟩ = some (.int .i64 j) := cell_after hkw2 sw1_1 kw1_1_0
    have kw2_1_1 : w2.cell? ⟨w.heap.size + 1, 1, none⟩ = some (.int .i64 q) := cell_after hkw2 sw1_1 kw1_1_1
    have kw2_1_2 : w2.cell? ⟨w.heap.size + 1, 2, none⟩ = some (.int .i64 t) := cell_after hkw2 sw1_1 kw1_1_2
    have sw2_1 : w.heap.size + 1 < w2.heap.size := size_after hkw2 sw1_1
    have hBw2 : Below w.heap.size w w2 := (by repeat (first | exact HBw1.out | exact Below.refl _ _ | refine bl_alloc ?_ _ | refine bl_drewN ?_ _ | refine bl_trans (by assumption) ?_ | refine bl_set ?_ (by first | omega | (simp; done) | (simp; omega)) _))
    have HBw2 := Lib.hid hBw2
    clear hBw2 hcw2 hfw2 hbw2 hkw2 kw1_0_0 kw1_0_1 kw1_0_2 sw1_0 kw1_1_0 kw1_1_1 kw1_1_2 sw1_1
    rw [h2]
    go_wp2_with fail
    go_quiet (fail)
    go_wp2_with fail
    refine ((HK _).out).mono ?_
    rintro e w' ⟨rfl, nn, rfl⟩
    go_wp2_with fail
    refine ((HSA _).out).mono ?_
    rintro e w3 ⟨rfl, hbw3⟩
    obtain ⟨hcw3, hfw3⟩ := bcell hbw3
    have hzw3 := bsize hbw3
    (try simp only [World.size_alloc, World.size_setCell] at hzw3)
    have hkw3 : Below w2.heap.size w2 w3 := (by repeat (first | exact Below.refl _ _ | refine bl_alloc ?_ _ | refine bl_drewN ?_ _ | refine bl_trans (by assumption) ?_ | refine bl_set ?_ (by first | omega | (simp; done) | (simp; omega)) _))
    have kw3_0_0 : w3.cell? ⟨w.heap.size, 0, none⟩ = some (.int .i64 h) := cell_after hkw3 sw2_0 kw2_0_0
    have kw3_0_1 : w3.cell? ⟨w.heap.size, 1, none⟩ = some (.int .i64 p) := cell_after hkw3 sw2_0 kw2_0_1
    have kw3_0_2 : w3.cell? ⟨w.heap.size, 2, none⟩ = some (.int .i64 s) := cell_after hkw3 sw2_0 kw2_0_2
    have sw3_0 : w.heap.size < w3.heap.size := size_after hkw3 sw2_0
    have kw3_1_0 : w3.cell? ⟨w.heap.size + 1, 0, none⟩ = some (.int .i64 j) := cell_after hkw3 sw2_1 kw2_1_0
    have kw3_1_1 : w3.cell? ⟨w.heap.size + 1, 1, none⟩ = some (.int .i64 q) := cell_after hkw3 sw2_1 kw2_1_1
    have kw3_1_2 : w3.cell? ⟨w.heap.size + 1, 2, none⟩ = some (.int .i64 t) := cell_after hkw3 sw2_1 kw2_1_2
    have sw3_1 : w.heap.size + 1 < w3.heap.size := size_after hkw3 sw2_1
    have hBw3 : Below w.heap.size w w3 := (by repeat (first | exact HBw2.out | exact Below.refl _ _ | refine bl_alloc ?_ _ | refine bl_drewN ?_ _ | refine bl_trans (by assumption) ?_ | refine bl_set ?_ (by first | omega | (simp; done) | (simp; omega)) _))
    have HBw3 := Lib.hid hBw3
    clear hBw3 hcw3 hfw3 hbw3 hkw3 kw2_0_0 kw2_0_1 kw2_0_2 sw2_0 kw2_1_0 kw2_1_1 kw2_1_2 sw2_1
    go_wp2_with fail
    refine ((HSB _).out).mono ?_
    rintro e w4 ⟨rfl, hbw4⟩
    obtain ⟨hcw4, hfw4⟩ := bcell hbw4
    have hzw4 := bsize hbw4
    (try simp only [World.size_alloc, World.size_setCell] at hzw4)
    have hkw4 : Below w3.heap.size w3 w4 := (by repeat (first | exact Below.refl _ _ | refine bl_alloc ?_ _ | refine bl_drewN ?_ _ | refine bl_trans (by assumption) ?_ | refine bl_set ?_ (by first | omega | (simp; done) | (simp; omega)) _))
    have kw4_0_0 : w4.cell? ⟨w.heap.size, 0, none⟩ = some (.int .i64 h) := cell_after hkw4 sw3_0 kw3_0_0
    have kw4_0_1 : w4.cell? ⟨w.heap.size, 1, none⟩ = some (.int .i64 p) := cell_after hkw4 sw3_0 kw3_0_1
    have kw4_0_2 : w4.cell? ⟨w.heap.size, 2, none⟩ = some (.int .i64 s) := cell_after hkw4 sw3_0 kw3_0_2
    have sw4_0 : w.heap.size < w4.heap.size := size_after hkw4 sw3_0
    have kw4_1_0 : w4.cell? ⟨w.heap.size + 1, 0, none⟩ = some (.int .i64 j) := cell_after hkw4 sw3_1 kw3_1_0
    have kw4_1_1 : w4.cell? ⟨w.heap.size + 1, 1, none⟩ = some (.int .i64 q) := cell_after hkw4 sw3_1 kw3_1_1
    have kw4_1_2 : w4.cell? ⟨w.heap.size + 1, 2, none⟩ = some (.int .i64 t) := cell_after hkw4 sw3_1 kw3_1_2
    have sw4_1 : w.heap.size + 1 < w4.heap.size := size_after hkw4 sw3_1
    have hBw4 : Below w.heap.size w w4 := (by repeat (first | exact HBw3.out | exact Below.refl _ _ | refine bl_alloc ?_ _ | refine bl_drewN ?_ _ | refine bl_trans (by assumption) ?_ | refine bl_set ?_ (by first | omega | (simp; done) | (simp; omega)) _))
    have HBw4 := Lib.hid hBw4
    clear hBw4 hcw4 hfw4 hbw4 hkw4 kw3_0_0 kw3_0_1 kw3_0_2 sw3_0 kw3_1_0 kw3_1_1 kw3_1_2 sw3_1
    go_wp2_with fail
    refine ((HL _).out).mono ?_
    rintro e w' ⟨rfl, n3, rfl⟩
    go_wp2
    ((try simp only [Exit.inBlock, Exit.then]); refine bodyPost_ret (results_tmp5 rfl _ _ _) rfl ?_)
    exact ⟨by rw [HO.out]; rfl, (by repeat (first | exact HBw4.out | exact Below.refl _ _ | refine bl_alloc ?_ _ | refine bl_drewN ?_ _ | refine bl_trans (by assumption) ?_ | refine bl_set ?_ (by first | omega | (simp; done) | (simp; omega)) _))⟩
  · have HO := Lib.hid (show OK = false by rw [hA, decide_eq_false z])
    rw [decide_eq_false z] at HSA
    clear hA hS z
    generalize ln ((p * D + s * N) * l) (D * (l - h)) = X at *
    generalize ld ((p * D + s * N) * l) (D * (l - h)) = Y at *
    go_enter Try.func8, Try.ntmps8
    go_wp2_with fail
    refine (spec_wkGood _ _ _ _ _).mono ?_
    rintro e w1 ⟨rfl, hbw1⟩
    obtain ⟨hcw1, hfw1⟩ := bcell hbw1
    have hzw1 := bsize hbw1
    (try simp only [World.size_alloc, World.size_setCell] at hzw1)
    have kw1_0_0 : w1.cell? ⟨w.heap.size, 0, none⟩ = some (.int .i64 h) := by rw [hcw1 _ _ (by first | (simp; done) | omega | (simp; omega))]; first | assumption | (simp [go_sem]; done) | (simp [go_sem]; done) | (simp [go_sem, *]; done)
    have kw1_0_1 : w1.cell? ⟨w.heap.size, 1, none⟩ = some (.int .i64 p) := by rw [hcw1 _ _ (by first | (simp; done) | omega | (simp; omega))]; first | assumption | (simp [go_sem]; done) | (simp [go_sem]; done) | (simp [go_sem, *]; done)
    have kw1_0_2 : w1.cell? ⟨w.heap.size, 2, none⟩ = some (.int .i64 s) := by rw [hcw1 _ _ (by first | (simp; done) | omega | (simp; omega))]; first | assumption | (simp [go_sem]; done) | (simp [go_sem]; done) | (simp [go_sem, *]; done)
    have sw1_0 : w.heap.size < w1.heap.size := by first | omega | (simp at *; omega)
    have kw1_1_0 : w1.cell? ⟨w.heap.size + 1, 0, none⟩ = some (.int .i64 j) := by rw [hcw1 _ _ (by first | (simp; done) | omega | (simp; omega))]; first | assumption | (simp [go_sem]; done) | (simp [go_sem]; done) | (simp [go_sem, *]; done)
    have kw1_1_1 : w1.cell? ⟨w.heap.size + 1, 1, none⟩ = some (.int .i64 q) := by rw [hcw1 _ _ (by first | (simp; done) | omega | (simp; omega))]; first | assumption | (simp [go_sem]; done) | (simp [go_sem]; done) | (simp [go_sem, *]; done)
    have kw1_1_2 : w1.cell? ⟨w.heap.size + 1, 2, none⟩ = some (.int .i64 t) := by rw [hcw1 _ _ (by first | (simp; done) | omega | (simp; omega))]; first | assumption | (simp [go_sem]; done) | (simp [go_sem]; done) | (simp [go_sem, *]; done)
    have sw1_1 : w.heap.size + 1 < w1.heap.size := by first | omega | (simp at *; omega)
    have hBw1 : Below w.heap.size w w1 := (by repeat (first | exact Below.refl _ _ | refine bl_alloc ?_ _ | refine bl_drewN ?_ _ | refine bl_trans (by assumption) ?_ | refine bl_set ?_ (by first | omega | (simp; done) | (simp; omega)) _))
    have HBw1 := Lib.hid hBw1
    clear hBw1 hcw1 hfw1 hbw1
    rw [h1]
    go_wp2_with fail
    refine (spec_wkGood _ _ _ _ _).mono ?_
    rintro e w2 ⟨rfl, hbw2⟩
    obtain ⟨hcw2, hfw2⟩ := bcell hbw2
    have hzw2 := bsize hbw2
    (try simp only [World.size_alloc, World.size_setCell] at hzw2)
    have hkw2 : Below w1.heap.size w1 w2 := (by repeat (first | exact Below.refl _ _ | refine bl_alloc ?_ _ | refine bl_drewN ?_ _ | refine bl_trans (by assumption) ?_ | refine bl_set ?_ (by first | omega | (simp; done) | (simp; omega)) _))
    have kw2_0_0 : w2.cell? ⟨w.heap.size, 0, none⟩ = some (.int .i64 h) := cell_after hkw2 sw1_0 kw1_0_0
    have kw2_0_1 : w2.cell? ⟨w.heap.size, 1, none⟩ = some (.int .i64 p) := cell_after hkw2 sw1_0 kw1_0_1
    have kw2_0_2 : w2.cell? ⟨w.heap.size, 2, none⟩ = some (.int .i64 s) := cell_after hkw2 sw1_0 kw1_0_2
    have sw2_0 : w.heap.size < w2.heap.size := size_after hkw2 sw1_0
    have kw2_1_0 : w2.cell? ⟨w.heap.size + 1, 0, none⟩ = some (.int .i64 j) := cell_after hkw2 sw1_1 kw1_1_0
    have kw2_1_1 : w2.cell? ⟨w.heap.size + 1, 1, none⟩ = some (.int .i64 q) := cell_after hkw2 sw1_1 kw1_1_1
    have kw2_1_2 : w2.cell? ⟨w.heap.size + 1, 2, none⟩ = some (.int .i64 t) := cell_after hkw2 sw1_1 kw1_1_2
    have sw2_1 : w.heap.size + 1 < w2.heap.size := size_after hkw2 sw1_1
    have hBw2 : Below w.heap.size w w2 := (by repeat (first | exact HBw1.out | exact Below.refl _ _ | refine bl_alloc ?_ _ | refine bl_drewN ?_ _ | refine bl_trans (by assumption) ?_ | refine bl_set ?_ (by first | omega | (simp; done) | (simp; omega)) _))
    have HBw2 := Lib.hid hBw2
    clear hBw2 hcw2 hfw2 hbw2 hkw2 kw1_0_0 kw1_0_1 kw1_0_2 sw1_0 kw1_1_0 kw1_1_1 kw1_1_2 sw1_1
    rw [h2]
    go_wp2_with fail
    go_quiet (fail)
    go_wp2_with fail
    refine ((HK _).out).mono ?_
    rintro e w' ⟨rfl, nn, rfl⟩
    go_wp2_with fail
    refine ((HSA _).out).mono ?_
    rintro e w3 ⟨rfl, hbw3⟩
    obtain ⟨hcw3, hfw3⟩ := bcell hbw3
    have hzw3 := bsize hbw3
    (try simp only [World.size_alloc, World.size_setCell] at hzw3)
    have hkw3 : Below w2.heap.size w2 w3 := (by repeat (first | exact Below.refl _ _ | refine bl_alloc ?_ _ | refine bl_drewN ?_ _ | refine bl_trans (by assumption) ?_ | refine bl_set ?_ (by first | omega | (simp; done) | (simp; omega)) _))
    have kw3_0_0 : w3.cell? ⟨w.heap.size, 0, none⟩ = some (.int .i64 h) := cell_after hkw3 sw2_0 kw2_0_0
    have kw3_0_1 : w3.cell? ⟨w.heap.size, 1, none⟩ = some (.int .i64 p) := cell_after hkw3 sw2_0 kw2_0_1
    have kw3_0_2 : w3.cell? ⟨w.heap.size, 2, none⟩ = some (.int .i64 s) := cell_after hkw3 sw2_0 kw2_0_2
    have sw3_0 : w.heap.size < w3.heap.size := size_after hkw3 sw2_0
    have kw3_1_0 : w3.cell? ⟨w.heap.size + 1, 0, none⟩ = some (.int .i64 j) := cell_after hkw3 sw2_1 kw2_1_0
    have kw3_1_1 : w3.cell? ⟨w.heap.size + 1, 1, none⟩ = some (.int .i64 q) := cell_after hkw3 sw2_1 kw2_1_1
    have kw3_1_2 : w3.cell? ⟨w.heap.size + 1, 2, none⟩ = some (.int .i64 t) := cell_after hkw3 sw2_1 kw2_1_2
    have sw3_1 : w.heap.size + 1 < w3.heap.size := size_after hkw3 sw2_1
    have hBw3 : Below w.heap.size w w3 := (by repeat (first | exact HBw2.out | exact Below.refl _ _ | refine bl_alloc ?_ _ | refine bl_drewN ?_ _ | refine bl_trans (by assumption) ?_ | refine bl_set ?_ (by first | omega | (simp; done) | (simp; omega)) _))
    have HBw3 := Lib.hid hBw3
    clear hBw3 hcw3 hfw3 hbw3 hkw3 kw2_0_0 kw2_0_1 kw2_0_2 sw2_0 kw2_1_0 kw2_1_1 kw2_1_2 sw2_1
    go_wp2
    ((try simp only [Exit.inBlock, Exit.then]); refine bodyPost_ret (results_tmp5 rfl _ _ _) rfl ?_)
    exact ⟨by rw [HO.out]; rfl, (by repeat (first | exact HBw3.out | exact Below.refl _ _ | refine bl_alloc ?_ _ | refine bl_drewN ?_ _ | refine bl_trans (by assumption) ?_ | refine bl_set ?_ (by first | omega | (simp; done) | (simp; omega)) _))⟩
set_option maxHeartbeats 1000000 in
theorem impl_WalkersMeet (l h p s j q t : Int) (w : World) :
    Calls Try.prog 9 #[.int .i64 l, .agg #[.int .i64 h, .int .i64 p, .int .i64 s], .agg #[.int .i64 j, .int .i64 q, .int .i64 t]] w fun e w' => e = .returned (.tuple #[.int .i64 (Z (okMt (okWk l h p s && okWk l j q t) (q - p) (s - t) p s) (ln (eqM (q - p) (s - t)) (eqG (s - t)))), .int .i64 (Z (okMt (okWk l h p s && okWk l j q t) (q - p) (s - t) p s) (ld (eqM (q - p) (s - t)) (eqG (s - t)))), .bool (okMt (okWk l h p s && okWk l j q t) (q - p) (s - t) p s)]) ∧ Below w.heap.size w w' := by
  have HM := fun W => Lib.hid (meeting_foot l h p s j q t p s 1 q t 1 (tells_foot h p s l) fits_foot (tells_foot j q t l) fits_foot W)
  rw [show q * 1 - p * 1 = q - p by omega, show s * 1 - t * 1 = s - t by omega] at HM
  generalize ln (eqM (q - p) (s - t)) (eqG (s - t)) = N at *
  generalize ld (eqM (q - p) (s - t)) (eqG (s - t)) = D at *
  generalize okMt (okWk l h p s && okWk l j q t) (q - p) (s - t) p s = OK at *
  generalize ln (p * D + s * N) (1 * D) = X at *
  generalize ld (p * D + s * N) (1 * D) = Y at *
  go_enter Try.func9, Try.ntmps9
  go_wp2_with fail
  refine ((HM _).out).mono ?_
  rintro e w1 ⟨rfl, hbw1⟩
  obtain ⟨hcw1, hfw1⟩ := bcell hbw1
  have hzw1 := bsize hbw1
  (try simp only [World.size_alloc, World.size_setCell] at hzw1)
  have kw1_0_0 : w1.cell? ⟨w.heap.size, 0, none⟩ = some (.int .i64 h) := by rw [hcw1 _ _ (by first | (simp; done) | omega | (simp; omega))]; first | assumption | (simp [go_sem]; done) | (simp [go_sem]; done) | (simp [go_sem, *]; done)
  have kw1_0_1 : w1.cell? ⟨w.heap.size, 1, none⟩ = some (.int .i64 p) := by rw [hcw1 _ _ (by first | (simp; done) | omega | (simp; omega))]; first | assumption | (simp [go_sem]; done) | (simp [go_sem]; done) | (simp [go_sem, *]; done)
  have kw1_0_2 : w1.cell? ⟨w.heap.size, 2, none⟩ = some (.int .i64 s) := by rw [hcw1 _ _ (by first | (simp; done) | omega | (simp; omega))]; first | assumption | (simp [go_sem]; done) | (simp [go_sem]; done) | (simp [go_sem, *]; done)
  have sw1_0 : w.heap.size < w1.heap.size := by first | omega | (simp at *; omega)
  have kw1_1_0 : w1.cell? ⟨w.heap.size + 1, 0, none⟩ = some (.int .i64 j) := by rw [hcw1 _ _ (by first | (simp; done) | omega | (simp; omega))]; first | assumption | (simp [go_sem]; done) | (simp [go_sem]; done) | (simp [go_sem, *]; done)
  have kw1_1_1 : w1.cell? ⟨w.heap.size + 1, 1, none⟩ = some (.int .i64 q) := by rw [hcw1 _ _ (by first | (simp; done) | omega | (simp; omega))]; first | assumption | (simp [go_sem]; done) | (simp [go_sem]; done) | (simp [go_sem, *]; done)
  have kw1_1_2 : w1.cell? ⟨w.heap.size + 1, 2, none⟩ = some (.int .i64 t) := by rw [hcw1 _ _ (by first | (simp; done) | omega | (simp; omega))]; first | assumption | (simp [go_sem]; done) | (simp [go_sem]; done) | (simp [go_sem, *]; done)
  have sw1_1 : w.heap.size + 1 < w1.heap.size := by first | omega | (simp at *; omega)
  have hBw1 : Below w.heap.size w w1 := (by repeat (first | exact Below.refl _ _ | refine bl_alloc ?_ _ | refine bl_drewN ?_ _ | refine bl_trans (by assumption) ?_ | refine bl_set ?_ (by first | omega | (simp; done) | (simp; omega)) _))
  have HBw1 := Lib.hid hBw1
  clear hBw1 hcw1 hfw1 hbw1
  go_wp2
  go_ret3
  exact ⟨rfl, (by repeat (first | exact HBw1.out | exact Below.refl _ _ | refine bl_alloc ?_ _ | refine bl_drewN ?_ _ | refine bl_trans (by assumption) ?_ | refine bl_set ?_ (by first | omega | (simp; done) | (simp; omega)) _))⟩
set_option maxHeartbeats 4000000 in
theorem spec_WalkersMeet (l h p s j q t : Int) (w : World) :
    Calls Try.prog 10 #[.int .i64 l, .agg #[.int .i64 h, .int .i64 p, .int .i64 s], .agg #[.int .i64 j, .int .i64 q, .int .i64 t]] w fun e w' => e = .returned (.tuple #[.int .i64 (Z (okMt (okWk l h p s && okWk l j q t) (q - p) (s - t) p s) (ln (eqM (q - p) (s - t)) (eqG (s - t)))), .int .i64 (Z (okMt (okWk l h p s && okWk l j q t) (q - p) (s - t) p s) (ld (eqM (q - p) (s - t)) (eqG (s - t)))), .bool (okMt (okWk l h p s && okWk l j q t) (q - p) (s - t) p s)]) ∧ Below w.heap.size w w' := by
  have hA : okMt (okWk l h p s && okWk l j q t) (q - p) (s - t) p s = (okWk l h p s && okWk l j q t && (eqOk (q - p) (s - t) && decide (0 ≤ p * ld (eqM (q - p) (s - t)) (eqG (s - t)) + s * ln (eqM (q - p) (s - t)) (eqG (s - t))))) := rfl
  cases h1 : okWk l h p s
  · have HO := Lib.hid (show okMt (false && okWk l j q t) (q - p) (s - t) p s = false from rfl)
    clear hA
    go_enter Try.func10, Try.ntmps10
    go_wp2_with fail
    refine (spec_wkGood _ _ _ _ _).mono ?_
    rintro e w1 ⟨rfl, hbw1⟩
    obtain ⟨hcw1, hfw1⟩ := bcell hbw1
    have hzw1 := bsize hbw1
    (try simp only [World.size_alloc, World.size_setCell] at hzw1)
    have kw1_0_0 : w1.cell? ⟨w.heap.size, 0, none⟩ = some (.int .i64 h) := by rw [hcw1 _ _ (by first | (simp; done) | omega | (simp; omega))]; first | assumption | (simp [go_sem]; done) | (simp [go_sem]; done) | (simp [go_sem, *]; done)
    have kw1_0_1 : w1.cell? ⟨w.heap.size, 1, none⟩ = some (.int .i64 p) := by rw [hcw1 _ _ (by first | (simp; done) | omega | (simp; omega))]; first | assumption | (simp [go_sem]; done) | (simp [go_sem]; done) | (simp [go_sem, *]; done)
    have kw1_0_2 : w1.cell? ⟨w.heap.size, 2, none⟩ = some (.int .i64 s) := by rw [hcw1 _ _ (by first | (simp; done) | omega | (simp; omega))]; first | assumption | (simp [go_sem]; done) | (simp [go_sem]; done) | (simp [go_sem, *]; done)
    have sw1_0 : w.heap.size < w1.heap.size := by first | omega | (simp at *; omega)
    have kw1_1_0 : w1.cell? ⟨w.heap.size + 1, 0, none⟩ = some (.int .i64 j) := by rw [hcw1 _ _ (by first | (simp; done) | omega | (simp; omega))]; first | assumption | (simp [go_sem]; done) | (simp [go_sem]; done) | (simp [go_sem, *]; done)
    have kw1_1_1 : w1.cell? ⟨w.heap.size + 1, 1, none⟩ = some (.int .i64 q) := by rw [hcw1 _ _ (by first | (simp; done) | omega | (simp; omega))]; first | assumption | (simp [go_sem]; done) | (simp [go_sem]; done) | (simp [go_sem, *]; done)
    have kw1_1_2 : w1.cell? ⟨w.heap.size + 1, 2, none⟩ = some (.int .i64 t) := by rw [hcw1 _ _ (by first | (simp; done) | omega | (simp; omega))]; first | assumption | (simp [go_sem]; done) | (simp [go_sem]; done) | (simp [go_sem, *]; done)
    have sw1_1 : w.heap.size + 1 < w1.heap.size := by first | omega | (simp at *; omega)
    have hBw1 : Below w.heap.size w w1 := (by repeat (first | exact Below.refl _ _ | refine bl_alloc ?_ _ | refine bl_drewN ?_ _ | refine bl_trans (by assumption) ?_ | refine bl_set ?_ (by first | omega | (simp; done) | (simp; omega)) _))
    have HBw1 := Lib.hid hBw1
    clear hBw1 hcw1 hfw1 hbw1
    rw [h1]
    go_wp2
    go_ret3
    exact ⟨by rw [HO.out]; rfl, (by repeat (first | exact HBw1.out | exact Below.refl _ _ | refine bl_alloc ?_ _ | refine bl_drewN ?_ _ | refine bl_trans (by assumption) ?_ | refine bl_set ?_ (by first | omega | (simp; done) | (simp; omega)) _))⟩
  cases h2 : okWk l j q t
  · have HO := Lib.hid (show okMt (true && false) (q - p) (s - t) p s = false from rfl)
    clear hA
    go_enter Try.func10, Try.ntmps10
    go_wp2_with fail
    refine (spec_wkGood _ _ _ _ _).mono ?_
    rintro e w1 ⟨rfl, hbw1⟩
    obtain ⟨hcw1, hfw1⟩ := bcell hbw1
    have hzw1 := bsize hbw1
    (try simp only [World.size_alloc, World.size_setCell] at hzw1)
    have kw1_0_0 : w1.cell? ⟨w.heap.size, 0, none⟩ = some (.int .i64 h) := by rw [hcw1 _ _ (by first | (simp; done) | omega | (simp; omega))]; first | assumption | (simp [go_sem]; done) | (simp [go_sem]; done) | (simp [go_sem, *]; done)
    have kw1_0_1 : w1.cell? ⟨w.heap.size, 1, none⟩ = some (.int .i64 p) := by rw [hcw1 _ _ (by first | (simp; done) | omega | (simp; omega))]; first | assumption | (simp [go_sem]; done) | (simp [go_sem]; done) | (simp [go_sem, *]; done)
    have kw1_0_2 : w1.cell? ⟨w.heap.size, 2, none⟩ = some (.int .i64 s) := by rw [hcw1 _ _ (by first | (simp; done) | omega | (simp; omega))]; first | assumption | (simp [go_sem]; done) | (simp [go_sem]; done) | (simp [go_sem, *]; done)
    have sw1_0 : w.heap.size < w1.heap.size := by first | omega | (simp at *; omega)
    have kw1_1_0 : w1.cell? ⟨w.heap.size + 1, 0, none⟩ = some (.int .i64 j) := by rw [hcw1 _ _ (by first | (simp; done) | omega | (simp; omega))]; first | assumption | (simp [go_sem]; done) | (simp [go_sem]; done) | (simp [go_sem, *]; done)
    have kw1_1_1 : w1.cell? ⟨w.heap.size + 1, 1, none⟩ = some (.int .i64 q) := by rw [hcw1 _ _ (by first | (simp; done) | omega | (simp; omega))]; first | assumption | (simp [go_sem]; done) | (simp [go_sem]; done) | (simp [go_sem, *]; done)
    have kw1_1_2 : w1.cell? ⟨w.heap.size + 1, 2, none⟩ = some (.int .i64 t) := by rw [hcw1 _ _ (by first | (simp; done) | omega | (simp; omega))]; first | assumption | (simp [go_sem]; done) | (simp [go_sem]; done) | (simp [go_sem, *]; done)
    have sw1_1 : w.heap.size + 1 < w1.heap.size := by first | omega | (simp at *; omega)
    have hBw1 : Below w.heap.size w w1 := (by repeat (first | exact Below.refl _ _ | refine bl_alloc ?_ _ | refine bl_drewN ?_ _ | refine bl_trans (by assumption) ?_ | refine bl_set ?_ (by first | omega | (simp; done) | (simp; omega)) _))
    have HBw1 := Lib.hid hBw1
    clear hBw1 hcw1 hfw1 hbw1
    rw [h1]
    go_wp2_with fail
    refine (spec_wkGood _ _ _ _ _).mono ?_
    rintro e w2 ⟨rfl, hbw2⟩
    obtain ⟨hcw2, hfw2⟩ := bcell hbw2
    have hzw2 := bsize hbw2
    (try simp only [World.size_alloc, World.size_setCell] at hzw2)
    have hkw2 : Below w1.heap.size w1 w2 := (by repeat (first | exact Below.refl _ _ | refine bl_alloc ?_ _ | refine bl_drewN ?_ _ | refine bl_trans (by assumption) ?_ | refine bl_set ?_ (by first | omega | (simp; done) | (simp; omega)) _))
    have kw2_0_0 : w2.cell? ⟨w.heap.size, 0, none⟩ = some (.int .i64 h) := cell_after hkw2 sw1_0 kw1_0_0
    have kw2_0_1 : w2.cell? ⟨w.heap.size, 1, none⟩ = some (.int .i64 p) := cell_after hkw2 sw1_0 kw1_0_1
    have kw2_0_2 : w2.cell? ⟨w.heap.size, 2, none⟩ = some (.int .i64 s) := cell_after hkw2 sw1_0 kw1_0_2
    have sw2_0 : w.heap.size < w2.heap.size := size_after hkw2 sw1_0
    have kw2_1_0 : w2.cell? ⟨w.heap.size + 1, 0, none⟩ = some (.int .i64 j) := cell_after hkw2 sw1_1 kw1_1_0
    have kw2_1_1 : w2.cell? ⟨w.heap.size + 1, 1, none⟩ = some (.int .i64 q) := cell_after hkw2 sw1_1 kw1_1_1
    have kw2_1_2 : w2.cell? ⟨w.heap.size + 1, 2, none⟩ = some (.int .i64 t) := cell_after hkw2 sw1_1 kw1_1_2
    have sw2_1 : w.heap.size + 1 < w2.heap.size := size_after hkw2 sw1_1
    have hBw2 : Below w.heap.size w w2 := (by repeat (first | exact HBw1.out | exact Below.refl _ _ | refine bl_alloc ?_ _ | refine bl_drewN ?_ _ | refine bl_trans (by assumption) ?_ | refine bl_set ?_ (by first | omega | (simp; done) | (simp; omega)) _))
    have HBw2 := Lib.hid hBw2
    clear hBw2 hcw2 hfw2 hbw2 hkw2 kw1_0_0 kw1_0_1 kw1_0_2 sw1_0 kw1_1_0 kw1_1_1 kw1_1_2 sw1_1
    rw [h2]
    go_wp2
    go_ret3
    exact ⟨by rw [HO.out]; rfl, (by repeat (first | exact HBw2.out | exact Below.refl _ _ | refine bl_alloc ?_ _ | refine bl_drewN ?_ _ | refine bl_trans (by assumption) ?_ | refine bl_set ?_ (by first | omega | (simp; done) | (simp; omega)) _))⟩
  rw [h1, h2] at hA
  obtain ⟨⟨l1, l2⟩, ⟨g1, g2⟩, ⟨p1, p2⟩, s1, s2⟩ := okWk_true h1
  obtain ⟨_, ⟨j1, j2⟩, ⟨q1, q2⟩, t1, t2⟩ := okWk_true h2
  have HK := fun W => Lib.hid (wkMeet_any p q s t (by omega) (by omega) (by omega) (by omega) (by omega) (by omega) (by omega) (by omega) W)
  cases hq : eqOk (q - p) (s - t)
  · rw [hq] at HK hA
    have HO := Lib.hid (show okMt (true && true) (q - p) (s - t) p s = false from hA)
    have HZ := fun n => Lib.hid (show Z false n = 0 from rfl)
    rw [(HZ _).out, (HZ _).out] at HK
    clear hA hq
    
    go_enter Try.func10, Try.ntmps10
    go_wp2_with fail
    refine (spec_wkGood _ _ _ _ _).mono ?_
    rintro e w1 ⟨rfl, hbw1⟩
    obtain ⟨hcw1, hfw1⟩ := bcell hbw1
    have hzw1 := bsize hbw1
    (try simp only [World.size_alloc, World.size_setCell] at hzw1)
    have kw1_0_0 : w1.cell? ⟨w.heap.size, 0, none⟩ = some (.int .i64 h) := by rw [hcw1 _ _ (by first | (simp; done) | omega | (simp; omega))]; first | assumption | (simp [go_sem]; done) | (simp [go_sem]; done) | (simp [go_sem, *]; done)
    have kw1_0_1 : w1.cell? ⟨w.heap.size, 1, none⟩ = some (.int .i64 p) := by rw [hcw1 _ _ (by first | (simp; done) | omega | (simp; omega))]; first | assumption | (simp [go_sem]; done) | (simp [go_sem]; done) | (simp [go_sem, *]; done)
    have kw1_0_2 : w1.cell? ⟨w.heap.size, 2, none⟩ = some (.int .i64 s) := by rw [hcw1 _ _ (by first | (simp; done) | omega | (simp; omega))]; first | assumption | (simp [go_sem]; done) | (simp [go_sem]; done) | (simp [go_sem, *]; done)
    have sw1_0 : w.heap.size < w1.heap.size := by first | omega | (simp at *; omega)
    have kw1_1_0 : w1.cell? ⟨w.heap.size + 1, 0, none⟩ = some (.int .i64 j) := by rw [hcw1 _ _ (by first | (simp; done) | omega | (simp; omega))]; first | assumption | (simp [go_sem]; done) | (simp [go_sem]; done) | (simp [go_sem, *]; done)
    have kw1_1_1 : w1.cell? ⟨w.heap.size + 1, 1, none⟩ = some (.int .i64 q) := by rw [hcw1 _ _ (by first | (simp; done) | omega | (simp; omega))]; first | assumption | (simp [go_sem]; done) | (simp [go_sem]; done) | (simp [go_sem, *]; done)
    have kw1_1_2 : w1.cell? ⟨w.heap.size + 1, 2, none⟩ = some (.int .i64 t) := by rw [hcw1 _ _ (by first | (simp; done) | omega | (simp; omega))]; first | assumption | (simp [go_sem]; done) | (simp [go_sem]; done) | (simp [go_sem, *]; done)
    have sw1_1 : w.heap.size + 1 < w1.heap.size := by first | omega | (simp at *; omega)
    have hBw1 : Below w.heap.size w w1 := (by repeat (first | exact Below.refl _ _ | refine bl_alloc ?_ _ | refine bl_drewN ?_ _ | refine bl_trans (by assumption) ?_ | refine bl_set ?_ (by first | omega | (simp; done) | (simp; omega)) _))
    have HBw1 := Lib.hid hBw1
    clear hBw1 hcw1 hfw1 hbw1
    rw [h1]
    go_wp2_with fail
    refine (spec_wkGood _ _ _ _ _).mono ?_
    rintro e w2 ⟨rfl, hbw2⟩
    obtain ⟨hcw2, hfw2⟩ := bcell hbw2
    have hzw2 := bsize hbw2
    (try simp only [World.size_alloc, World.size_setCell] at hzw2)
    have hkw2 : Below w1.heap.size w1 w2 := (by repeat (first | exact Below.refl _ _ | refine bl_alloc ?_ _ | refine bl_drewN ?_ _ | refine bl_trans (by assumption) ?_ | refine bl_set ?_ (by first | omega | (simp; done) | (simp; omega)) _))
    have kw2_0_0 : w2.cell? ⟨w.heap.size, 0, none⟩ = some (.int .i64 h) := cell_after hkw2 sw1_0 kw1_0_0
    have kw2_0_1 : w2.cell? ⟨w.heap.size, 1, none⟩ = some (.int .i64 p) := cell_after hkw2 sw1_0 kw1_0_1
    have kw2_0_2 : w2.cell? ⟨w.heap.size, 2, none⟩ = some (.int .i64 s) := cell_after hkw2 sw1_0 kw1_0_2
    have sw2_0 : w.heap.size < w2.heap.size := size_after hkw2 sw1_0
    have kw2_1_0 : w2.cell? ⟨w.heap.size + 1, 0, none⟩ = some (.int .i64 j) := cell_after hkw2 sw1_1 kw1_1_0
    have kw2_1_1 : w2.cell? ⟨w.heap.size + 1, 1, none⟩ = some (.int .i64 q) := cell_after hkw2 sw1_1 kw1_1_1
    have kw2_1_2 : w2.cell? ⟨w.heap.size + 1, 2, none⟩ = some (.int .i64 t) := cell_after hkw2 sw1_1 kw1_1_2
    have sw2_1 : w.heap.size + 1 < w2.heap.size := size_after hkw2 sw1_1
    have hBw2 : Below w.heap.size w w2 := (by repeat (first | exact HBw1.out | exact Below.refl _ _ | refine bl_alloc ?_ _ | refine bl_drewN ?_ _ | refine bl_trans (by assumption) ?_ | refine bl_set ?_ (by first | omega | (simp; done) | (simp; omega)) _))
    have HBw2 := Lib.hid hBw2
    clear hBw2 hcw2 hfw2 hbw2 hkw2 kw1_0_0 kw1_0_1 kw1_0_2 sw1_0 kw1_1_0 kw1_1_1 kw1_1_2 sw1_1
    rw [h2]
    go_wp2_with fail
    refine ((HK _).out).mono ?_
    rintro e w' ⟨rfl, nn, rfl⟩
    go_wp2
    go_ret3
    exact ⟨by rw [HO.out]; rfl, (by repeat (first | exact HBw2.out | exact Below.refl _ _ | refine bl_alloc ?_ _ | refine bl_drewN ?_ _ | refine bl_trans (by assumption) ?_ | refine bl_set ?_ (by first | omega | (simp; done) | (simp; omega)) _))⟩
  obtain ⟨e1, e2⟩ := eqOk_true hq
  have e3 := eqG_bd (g := s - t) (k := 100000) (by omega) (by omega)
  have e4 := (eqM_bd (m := q - p) (g := s - t) (k := 100000) (by omega) (by omega)).2
  obtain ⟨n1, n2⟩ := ln_bd (n := eqM (q - p) (s - t)) (a := eqG (s - t)) e2 e1
  obtain ⟨n3, n4⟩ := ld_bd (n := eqM (q - p) (s - t)) (a := eqG (s - t)) e2 e1
  have n5 := ld_pos (n := eqM (q - p) (s - t)) (a := eqG (s - t)) e1
  have hX := cross_signed hq
  rw [hq] at HK hA
  have HZ := fun n => Lib.hid (show Z true n = n from rfl)
  rw [(HZ _).out, (HZ _).out] at HK
  replace hA : okMt (true && true) (q - p) (s - t) p s = decide (0 ≤ p * ld (eqM (q - p) (s - t)) (eqG (s - t)) + s * ln (eqM (q - p) (s - t)) (eqG (s - t))) := hA
  clear hX hq
  generalize eqM (q - p) (s - t) = P at *
  generalize eqG (s - t) = Q at *
  generalize okMt (true && true) (q - p) (s - t) p s = OK at *
  generalize ln P Q = N at *
  generalize ld P Q = D at *
  have HSA := fun W => Lib.hid (wkStill_any h p s N D p1 p2 s1 s2 n1 (by omega) n3 (by omega) W)
  rw [← hA] at HSA
  clear hA
  cases OK
  · go_enter Try.func10, Try.ntmps10
    go_wp2_with fail
    refine (spec_wkGood _ _ _ _ _).mono ?_
    rintro e w1 ⟨rfl, hbw1⟩
    obtain ⟨hcw1, hfw1⟩ := bcell hbw1
    have hzw1 := bsize hbw1
    (try simp only [World.size_alloc, World.size_setCell] at hzw1)
    have kw1_0_0 : w1.cell? ⟨w.heap.size, 0, none⟩ = some (.int .i64 h) := by rw [hcw1 _ _ (by first | (simp; done) | omega | (simp; omega))]; first | assumption | (simp [go_sem]; done) | (simp [go_sem]; done) | (simp [go_sem, *]; done)
    have kw1_0_1 : w1.cell? ⟨w.heap.size, 1, none⟩ = some (.int .i64 p) := by rw [hcw1 _ _ (by first | (simp; done) | omega | (simp; omega))]; first | assumption | (simp [go_sem]; done) | (simp [go_sem]; done) | (simp [go_sem, *]; done)
    have kw1_0_2 : w1.cell? ⟨w.heap.size, 2, none⟩ = some (.int .i64 s) := by rw [hcw1 _ _ (by first | (simp; done) | omega | (simp; omega))]; first | assumption | (simp [go_sem]; done) | (simp [go_sem]; done) | (simp [go_sem, *]; done)
    have sw1_0 : w.heap.size < w1.heap.size := by first | omega | (simp at *; omega)
    have kw1_1_0 : w1.cell? ⟨w.heap.size + 1, 0, none⟩ = some (.int .i64 j) := by rw [hcw1 _ _ (by first | (simp; done) | omega | (simp; omega))]; first | assumption | (simp [go_sem]; done) | (simp [go_sem]; done) | (simp [go_sem, *]; done)
    have kw1_1_1 : w1.cell? ⟨w.heap.size + 1, 1, none⟩ = some (.int .i64 q) := by rw [hcw1 _ _ (by first | (simp; done) | omega | (simp; omega))]; first | assumption | (simp [go_sem]; done) | (simp [go_sem]; done) | (simp [go_sem, *]; done)
    have kw1_1_2 : w1.cell? ⟨w.heap.size + 1, 2, none⟩ = some (.int .i64 t) := by rw [hcw1 _ _ (by first | (simp; done) | omega | (simp; omega))]; first | assumption | (simp [go_sem]; done) | (simp [go_sem]; done) | (simp [go_sem, *]; done)
    have sw1_1 : w.heap.size + 1 < w1.heap.size := by first | omega | (simp at *; omega)
    have hBw1 : Below w.heap.size w w1 := (by repeat (first | exact Below.refl _ _ | refine bl_alloc ?_ _ | refine bl_drewN ?_ _ | refine bl_trans (by assumption) ?_ | refine bl_set ?_ (by first | omega | (simp; done) | (simp; omega)) _))
    have HBw1 := Lib.hid hBw1
    clear hBw1 hcw1 hfw1 hbw1
    rw [h1]
    go_wp2_with fail
    refine (spec_wkGood _ _ _ _ _).mono ?_
    rintro e w2 ⟨rfl, hbw2⟩
    obtain ⟨hcw2, hfw2⟩ := bcell hbw2
    have hzw2 := bsize hbw2
    (try simp only [World.size_alloc, World.size_setCell] at hzw2)
    have hkw2 : Below w1.heap.size w1 w2 := (by repeat (first | exact Below.refl _ _ | refine bl_alloc ?_ _ | refine bl_drewN ?_ _ | refine bl_trans (by assumption) ?_ | refine bl_set ?_ (by first | omega | (simp; done) | (simp; omega)) _))
    have kw2_0_0 : w2.cell? ⟨w.heap.size, 0, none⟩ = some (.int .i64 h) := cell_after hkw2 sw1_0 kw1_0_0
    have kw2_0_1 : w2.cell? ⟨w.heap.size, 1, none⟩ = some (.int .i64 p) := cell_after hkw2 sw1_0 kw1_0_1
    have kw2_0_2 : w2.cell? ⟨w.heap.size, 2, none⟩ = some (.int .i64 s) := cell_after hkw2 sw1_0 kw1_0_2
    have sw2_0 : w.heap.size < w2.heap.size := size_after hkw2 sw1_0
    have kw2_1_0 : w2.cell? ⟨w.heap.size + 1, 0, none⟩ = some (.int .i64 j) := cell_after hkw2 sw1_1 kw1_1_0
    have kw2_1_1 : w2.cell? ⟨w.heap.size + 1, 1, none⟩ = some (.int .i64 q) := cell_after hkw2 sw1_1 kw1_1_1
    have kw2_1_2 : w2.cell? ⟨w.heap.size + 1, 2, none⟩ = some (.int .i64 t) := cell_after hkw2 sw1_1 kw1_1_2
    have sw2_1 : w.heap.size + 1 < w2.heap.size := size_after hkw2 sw1_1
    have hBw2 : Below w.heap.size w w2 := (by repeat (first | exact HBw1.out | exact Below.refl _ _ | refine bl_alloc ?_ _ | refine bl_drewN ?_ _ | refine bl_trans (by assumption) ?_ | refine bl_set ?_ (by first | omega | (simp; done) | (simp; omega)) _))
    have HBw2 := Lib.hid hBw2
    clear hBw2 hcw2 hfw2 hbw2 hkw2 kw1_0_0 kw1_0_1 kw1_0_2 sw1_0 kw1_1_0 kw1_1_1 kw1_1_2 sw1_1
    rw [h2]
    go_wp2_with fail
    refine ((HK _).out).mono ?_
    rintro e w' ⟨rfl, nn, rfl⟩
    go_wp2_with fail
    refine ((HSA _).out).mono ?_
    rintro e w3 ⟨rfl, hbw3⟩
    obtain ⟨hcw3, hfw3⟩ := bcell hbw3
    have hzw3 := bsize hbw3
    (try simp only [World.size_alloc, World.size_setCell] at hzw3)
    have hkw3 : Below w2.heap.size w2 w3 := (by repeat (first | exact Below.refl _ _ | refine bl_alloc ?_ _ | refine bl_drewN ?_ _ | refine bl_trans (by assumption) ?_ | refine bl_set ?_ (by first | omega | (simp; done) | (simp; omega)) _))
    have kw3_0_0 : w3.cell? ⟨w.heap.size, 0, none⟩ = some (.int .i64 h) := cell_after hkw3 sw2_0 kw2_0_0
    have kw3_0_1 : w3.cell? ⟨w.heap.size, 1, none⟩ = some (.int .i64 p) := cell_after hkw3 sw2_0 kw2_0_1
    have kw3_0_2 : w3.cell? ⟨w.heap.size, 2, none⟩ = some (.int .i64 s) := cell_after hkw3 sw2_0 kw2_0_2
    have sw3_0 : w.heap.size < w3.heap.size := size_after hkw3 sw2_0
    have kw3_1_0 : w3.cell? ⟨w.heap.size + 1, 0, none⟩ = some (.int .i64 j) := cell_after hkw3 sw2_1 kw2_1_0
    have kw3_1_1 : w3.cell? ⟨w.heap.size + 1, 1, none⟩ = some (.int .i64 q) := cell_after hkw3 sw2_1 kw2_1_1
    have kw3_1_2 : w3.cell? ⟨w.heap.size + 1, 2, none⟩ = some (.int .i64 t) := cell_after hkw3 sw2_1 kw2_1_2
    have sw3_1 : w.heap.size + 1 < w3.heap.size := size_after hkw3 sw2_1
    have hBw3 : Below w.heap.size w w3 := (by repeat (first | exact HBw2.out | exact Below.refl _ _ | refine bl_alloc ?_ _ | refine bl_drewN ?_ _ | refine bl_trans (by assumption) ?_ | refine bl_set ?_ (by first | omega | (simp; done) | (simp; omega)) _))
    have HBw3 := Lib.hid hBw3
    clear hBw3 hcw3 hfw3 hbw3 hkw3 kw2_0_0 kw2_0_1 kw2_0_2 sw2_0 kw2_1_0 kw2_1_1 kw2_1_2 sw2_1
    go_wp2
    go_ret3
    exact ⟨rfl, (by repeat (first | exact HBw3.out | exact Below.refl _ _ | refine bl_alloc ?_ _ | refine bl_drewN ?_ _ | refine bl_trans (by assumption) ?_ | refine bl_set ?_ (by first | omega | (simp; done) | (simp; omega)) _))⟩
  · go_enter Try.func10, Try.ntmps10
    go_wp2_with fail
    refine (spec_wkGood _ _ _ _ _).mono ?_
    rintro e w1 ⟨rfl, hbw1⟩
    obtain ⟨hcw1, hfw1⟩ := bcell hbw1
    have hzw1 := bsize hbw1
    (try simp only [World.size_alloc, World.size_setCell] at hzw1)
    have kw1_0_0 : w1.cell? ⟨w.heap.size, 0, none⟩ = some (.int .i64 h) := by rw [hcw1 _ _ (by first | (simp; done) | omega | (simp; omega))]; first | assumption | (simp [go_sem]; done) | (simp [go_sem]; done) | (simp [go_sem, *]; done)
    have kw1_0_1 : w1.cell? ⟨w.heap.size, 1, none⟩ = some (.int .i64 p) := by rw [hcw1 _ _ (by first | (simp; done) | omega | (simp; omega))]; first | assumption | (simp [go_sem]; done) | (simp [go_sem]; done) | (simp [go_sem, *]; done)
    have kw1_0_2 : w1.cell? ⟨w.heap.size, 2, none⟩ = some (.int .i64 s) := by rw [hcw1 _ _ (by first | (simp; done) | omega | (simp; omega))]; first | assumption | (simp [go_sem]; done) | (simp [go_sem]; done) | (simp [go_sem, *]; done)
    have sw1_0 : w.heap.size < w1.heap.size := by first | omega | (simp at *; omega)
    have kw1_1_0 : w1.cell? ⟨w.heap.size + 1, 0, none⟩ = some (.int .i64 j) := by rw [hcw1 _ _ (by first | (simp; done) | omega | (simp; omega))]; first | assumption | (simp [go_sem]; done) | (simp [go_sem]; done) | (simp [go_sem, *]; done)
    have kw1_1_1 : w1.cell? ⟨w.heap.size + 1, 1, none⟩ = some (.int .i64 q) := by rw [hcw1 _ _ (by first | (simp; done) | omega | (simp; omega))]; first | assumption | (simp [go_sem]; done) | (simp [go_sem]; done) | (simp [go_sem, *]; done)
    have kw1_1_2 : w1.cell? ⟨w.heap.size + 1, 2, none⟩ = some (.int .i64 t) := by rw [hcw1 _ _ (by first | (simp; done) | omega | (simp; omega))]; first | assumption | (simp [go_sem]; done) | (simp [go_sem]; done) | (simp [go_sem, *]; done)
    have sw1_1 : w.heap.size + 1 < w1.heap.size := by first | omega | (simp at *; omega)
    have hBw1 : Below w.heap.size w w1 := (by repeat (first | exact Below.refl _ _ | refine bl_alloc ?_ _ | refine bl_drewN ?_ _ | refine bl_trans (by assumption) ?_ | refine bl_set ?_ (by first | omega | (simp; done) | (simp; omega)) _))
    have HBw1 := Lib.hid hBw1
    clear hBw1 hcw1 hfw1 hbw1
    rw [h1]
    go_wp2_with fail
    refine (spec_wkGood _ _ _ _ _).mono ?_
    rintro e w2 ⟨rfl, hbw2⟩
    obtain ⟨hcw2, hfw2⟩ := bcell hbw2
    have hzw2 := bsize hbw2
    (try simp only [World.size_alloc, World.size_setCell] at hzw2)
    have hkw2 : Below w1.heap.size w1 w2 := (by repeat (first | exact Below.refl _ _ | refine bl_alloc ?_ _ | refine bl_drewN ?_ _ | refine bl_trans (by assumption) ?_ | refine bl_set ?_ (by first | omega | (simp; done) | (simp; omega)) _))
    have kw2_0_0 : w2.cell? ⟨w.heap.size, 0, none⟩ = some (.int .i64 h) := cell_after hkw2 sw1_0 kw1_0_0
    have kw2_0_1 : w2.cell? ⟨w.heap.size, 1, none⟩ = some (.int .i64 p) := cell_after hkw2 sw1_0 kw1_0_1
    have kw2_0_2 : w2.cell? ⟨w.heap.size, 2, none⟩ = some (.int .i64 s) := cell_after hkw2 sw1_0 kw1_0_2
    have sw2_0 : w.heap.size < w2.heap.size := size_after hkw2 sw1_0
    have kw2_1_0 : w2.cell? ⟨w.heap.size + 1, 0, none⟩ = some (.int .i64 j) := cell_after hkw2 sw1_1 kw1_1_0
    have kw2_1_1 : w2.cell? ⟨w.heap.size + 1, 1, none⟩ = some (.int .i64 q) := cell_after hkw2 sw1_1 kw1_1_1
    have kw2_1_2 : w2.cell? ⟨w.heap.size + 1, 2, none⟩ = some (.int .i64 t) := cell_after hkw2 sw1_1 kw1_1_2
    have sw2_1 : w.heap.size + 1 < w2.heap.size := size_after hkw2 sw1_1
    have hBw2 : Below w.heap.size w w2 := (by repeat (first | exact HBw1.out | exact Below.refl _ _ | refine bl_alloc ?_ _ | refine bl_drewN ?_ _ | refine bl_trans (by assumption) ?_ | refine bl_set ?_ (by first | omega | (simp; done) | (simp; omega)) _))
    have HBw2 := Lib.hid hBw2
    clear hBw2 hcw2 hfw2 hbw2 hkw2 kw1_0_0 kw1_0_1 kw1_0_2 sw1_0 kw1_1_0 kw1_1_1 kw1_1_2 sw1_1
    rw [h2]
    go_wp2_with fail
    refine ((HK _).out).mono ?_
    rintro e w' ⟨rfl, nn, rfl⟩
    go_wp2_with fail
    refine ((HSA _).out).mono ?_
    rintro e w3 ⟨rfl, hbw3⟩
    obtain ⟨hcw3, hfw3⟩ := bcell hbw3
    have hzw3 := bsize hbw3
    (try simp only [World.size_alloc, World.size_setCell] at hzw3)
    have hkw3 : Below w2.heap.size w2 w3 := (by repeat (first | exact Below.refl _ _ | refine bl_alloc ?_ _ | refine bl_drewN ?_ _ | refine bl_trans (by assumption) ?_ | refine bl_set ?_ (by first | omega | (simp; done) | (simp; omega)) _))
    have kw3_0_0 : w3.cell? ⟨w.heap.size, 0, none⟩ = some (.int .i64 h) := cell_after hkw3 sw2_0 kw2_0_0
    have kw3_0_1 : w3.cell? ⟨w.heap.size, 1, none⟩ = some (.int .i64 p) := cell_after hkw3 sw2_0 kw2_0_1
    have kw3_0_2 : w3.cell? ⟨w.heap.size, 2, none⟩ = some (.int .i64 s) := cell_after hkw3 sw2_0 kw2_0_2
    have sw3_0 : w.heap.size < w3.heap.size := size_after hkw3 sw2_0
    have kw3_1_0 : w3.cell? ⟨w.heap.size + 1, 0, none⟩ = some (.int .i64 j) := cell_after hkw3 sw2_1 kw2_1_0
    have kw3_1_1 : w3.cell? ⟨w.heap.size + 1, 1, none⟩ = some (.int .i64 q) := cell_after hkw3 sw2_1 kw2_1_1
    have kw3_1_2 : w3.cell? ⟨w.heap.size + 1, 2, none⟩ = some (.int .i64 t) := cell_after hkw3 sw2_1 kw2_1_2
    have sw3_1 : w.heap.size + 1 < w3.heap.size := size_after hkw3 sw2_1
    have hBw3 : Below w.heap.size w w3 := (by repeat (first | exact HBw2.out | exact Below.refl _ _ | refine bl_alloc ?_ _ | refine bl_drewN ?_ _ | refine bl_trans (by assumption) ?_ | refine bl_set ?_ (by first | omega | (simp; done) | (simp; omega)) _))
    have HBw3 := Lib.hid hBw3
    clear hBw3 hcw3 hfw3 hbw3 hkw3 kw2_0_0 kw2_0_1 kw2_0_2 sw2_0 kw2_1_0 kw2_1_1 kw2_1_2 sw2_1
    go_wp2
    go_ret3
    exact ⟨rfl, (by repeat (first | exact HBw3.out | exact Below.refl _ _ | refine bl_alloc ?_ _ | refine bl_drewN ?_ _ | refine bl_trans (by assumption) ?_ | refine bl_set ?_ (by first | omega | (simp; done) | (simp; omega)) _))⟩
end Go.Proofs.Ytfnamahdofigaaa
