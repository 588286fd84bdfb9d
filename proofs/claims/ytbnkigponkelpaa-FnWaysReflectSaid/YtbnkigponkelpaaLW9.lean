/- TouchesByCorner: by the program and by the model alike; fractions whose numerator may be less than 0. -/
import Derived.Test.YtbnkigponkelpaaLW8
namespace Go.Proofs.Ytbnkigponkelpaa
open Go.RowKit
set_option linter.unusedVariables false
set_option linter.unusedSimpArgs false
theorem ln_bd {n a : Int} (hn : 0 ≤ n) (ha : 1 ≤ a) : 0 ≤ ln n a ∧ ln n a ≤ n := by
  obtain ⟨m, rfl⟩ := Int.eq_ofNat_of_zero_le hn
  obtain ⟨k, rfl⟩ := Int.eq_ofNat_of_zero_le (show 0 ≤ a by omega)
  rw [ln_nat]
  have := Nat.div_le_self m (Nat.gcd m k)
  generalize m / Nat.gcd m k = z at *
  omega
theorem lnI_bd {n a m : Int} (h1 : -m ≤ n) (h2 : n ≤ m) (ha : 1 ≤ a) : -m ≤ lnI n a ∧ lnI n a ≤ m := by
  unfold lnI
  split
  · have := ln_bd (n := -n) (a := a) (by omega) ha
    omega
  · have := ln_bd (n := n) (a := a) (by omega) ha
    omega
theorem lnI_abs (n a : Int) (ha : 1 ≤ a) : max (lnI n a) (-(lnI n a)) = ln (max n (-n)) a := by
  unfold lnI
  split
  · have := ln_bd (n := -n) (a := a) (by omega) ha
    rw [show max n (-n) = -n by omega]
    omega
  · have := ln_bd (n := n) (a := a) (by omega) ha
    rw [show max n (-n) = n by omega]
    omega
theorem ldI_abs (n a : Int) : ldI n a = ld (max n (-n)) a := by
  unfold ldI
  split
  · rw [show max n (-n) = -n by omega]
  · rw [show max n (-n) = n by omega]
theorem IRow.made (w : World) (B : Nat) (xs : List Int) (hB : B ≤ w.heap.size) (hl : xs.length ≤ maxLen) :
    IRow (w.alloc (.cells (xs.map (Value.int .i64)).toArray 3)) B (.slice (some ⟨w.heap.size, 0, none⟩) xs.length xs.length) xs := by
  have h := World.ownsRow_lit (base := B) (e := 3) (size := 1) w (xs.map (Value.int .i64)).toArray xs.length hB hl (by simp)
  simpa [IRow] using h
set_option maxHeartbeats 1000000 in
theorem lwLow_any (n a : Int) (h1 : -1000000000 ≤ n) (h2 : n ≤ 1000000000) (h3 : 1 ≤ a) (h4 : a ≤ 1000000000) (w : World) :
    Calls Try.prog 55 #[.int .i64 n, .int .i64 a] w fun e w' => e = .returned (.tuple #[.int .i64 (lnI n a), .int .i64 (ldI n a)]) ∧ ∃ m, w' = w.drewN m := by
  by_cases g : n < 0
  · have HL := fun W => Lib.hid (clLow_any (-n) a (by omega) (by omega) h3 (by omega) W)
    have e1 := Lib.hid (show lnI n a = -(ln (-n) a) from if_pos g)
    have e2 := Lib.hid (show ldI n a = ld (-n) a from if_pos g)
    have hb := ln_bd (n := -n) (a := a) (by omega) h3
    obtain ⟨b1, b2⟩ := hb
    generalize ln (-n) a = P at *
    generalize ld (-n) a = Q at *
    go_enter Try.func55, Try.ntmps55
    go_wp2_with fail
    refine ((HL _).out).mono ?_
    rintro e w' ⟨rfl, m, rfl⟩
    go_wp2
    go_ret2
    exact ⟨by rw [e1.out, e2.out]; rfl, m, rfl⟩
  · have HL := fun W => Lib.hid (clLow_any n a (by omega) (by omega) h3 (by omega) W)
    have e1 := Lib.hid (show lnI n a = ln n a from if_neg g)
    have e2 := Lib.hid (show ldI n a = ld n a from if_neg g)
    generalize ln n a = P at *
    generalize ld n a = Q at *
    go_enter Try.func55, Try.ntmps55
    go_wp2_with fail
    refine ((HL _).out).mono ?_
    rintro e w' ⟨rfl, m, rfl⟩
    go_wp2
    go_ret2
    exact ⟨by rw [e1.out, e2.out]; rfl, m, rfl⟩
/-- how far from 0 a way is when it rose by p of r, times r -/
def tN (f t p r : Int) : Int := f * r + (t - f) * p
theorem tN_bd {f t p r : Int} (f1 : -1000 ≤ f) (f2 : f ≤ 1000) (t1 : -1000 ≤ t) (t2 : t ≤ 1000) (p0 : 0 ≤ p) (pr : p ≤ r) (r2 : r ≤ 100000) : (-100000000 ≤ f * r ∧ f * r ≤ 100000000) ∧ (-200000000 ≤ (t - f) * p ∧ (t - f) * p ≤ 200000000) ∧ -300000000 ≤ tN f t p r ∧ tN f t p r ≤ 300000000 := by
  have h1 := mul_abs (a := f) (b := r) (m := 1000) (k := 100000) (by omega) (by omega) (by omega) (by omega)
  have h2 := mul_abs (a := t - f) (b := p) (m := 2000) (k := 100000) (by omega) (by omega) (by omega) (by omega)
  unfold tN
  omega
set_option maxHeartbeats 1000000 in
theorem lwTouch_any (f t p r : Int) (f1 : -1000 ≤ f) (f2 : f ≤ 1000) (t1 : -1000 ≤ t) (t2 : t ≤ 1000) (p0 : 0 ≤ p) (pr : p ≤ r) (r1 : 1 ≤ r) (r2 : r ≤ 100000) (w : World) :
    Calls Try.prog 34 #[.int .i64 f, .int .i64 t, .int .i64 p, .int .i64 r] w fun e w' => e = .returned (.tuple #[.int .i64 (lnI (tN f t p r) r), .int .i64 (ldI (tN f t p r) r)]) ∧ ∃ m, w' = w.drewN m := by
  obtain ⟨⟨a1, a2⟩, ⟨a3, a4⟩, a5, a6⟩ := tN_bd f1 f2 t1 t2 p0 pr r2
  have HL := fun W => Lib.hid (lwLow_any (tN f t p r) r (by omega) (by omega) r1 (by omega) W)
  have et : tN f t p r = f * r + (t - f) * p := rfl
  rw [et] at HL a5 a6
  have HT := Lib.hid et
  clear et
  go_enter Try.func34, Try.ntmps34
  go_wp2_with fail
  refine ((HL _).out).mono ?_
  rintro e w' ⟨rfl, m, rfl⟩
  go_wp2
  go_ret2
  exact ⟨by rw [HT.out]; rfl, m, rfl⟩
def tbP (a b c d : Int) : Int := max (a * d - b * c) (b * c - a * d)
def TB1 (a b c d : Int) : List Int := if okCs2 a b c d then [ln (tbP a b c d) (b + d), ld (tbP a b c d) (b + d)] else []
def TB2 (a b c d : Int) : List Int := if okCs2 a b c d then [ln (tbP a b c d) (a + c), ld (tbP a b c d) (a + c)] else []
theorem TB_len (a b c d : Int) : (TB1 a b c d).length ≤ 2 ∧ (TB2 a b c d).length ≤ 2 := by
  unfold TB1 TB2
  split <;> simp
theorem tb_n1 (a b c d : Int) : tN a (-c) b (b + d) = a * d - b * c := by
  unfold tN
  rw [Int.mul_add, Int.sub_mul, Int.neg_mul, Int.mul_comm c b]
  omega
theorem tb_n2 (a b c d : Int) : tN b (-d) a (a + c) = b * c - a * d := by
  unfold tN
  rw [Int.mul_add, Int.sub_mul, Int.neg_mul, Int.mul_comm d a]
  omega
set_option maxHeartbeats 4000000 in
theorem impl_TouchesByCorner (a b c d : Int) (w : World) :
    Calls Try.prog 25 #[.agg #[.int .i64 a, .int .i64 b], .agg #[.int .i64 c, .int .i64 d]] w fun e w' => ∃ v u, e = .returned (.tuple #[v, u, .bool (okCs2 a b c d)]) ∧ IRow w' w.heap.size v (TB1 a b c d) ∧ IRow w' w.heap.size u (TB2 a b c d) ∧ (v.ownBlock = none ∨ v.ownBlock ≠ u.ownBlock) ∧ Below w.heap.size w w' := by
  cases h1 : okCs a b
  · have HO := Lib.hid (show okCs2 a b c d = false by simp [okCs2, h1])
    have HE1 := Lib.hid (show TB1 a b c d = [] by simp [TB1, okCs2, h1])
    have HE2 := Lib.hid (show TB2 a b c d = [] by simp [TB2, okCs2, h1])
    go_enter Try.func25, Try.ntmps25
    go_wp2_with fail
    refine (isInCorner_any _ _ _).mono ?_
    rintro e w1 ⟨rfl, hbw1⟩
    obtain ⟨hcw1, hfw1⟩ := bcell hbw1
    have hzw1 := bsize hbw1
    (try simp only [World.size_alloc, World.size_setCell] at hzw1)
    have kw1_0_0 : w1.cell? ⟨w.heap.size, 0, none⟩ = some (.int .i64 a) := by rw [hcw1 _ _ (by first | (simp; done) | omega | (simp; omega))]; first | assumption | (simp [go_sem]; done) | (simp [go_sem]; done) | (simp [go_sem, *]; done)
    have kw1_0_1 : w1.cell? ⟨w.heap.size, 1, none⟩ = some (.int .i64 b) := by rw [hcw1 _ _ (by first | (simp; done) | omega | (simp; omega))]; first | assumption | (simp [go_sem]; done) | (simp [go_sem]; done) | (simp [go_sem, *]; done)
    have sw1_0 : w.heap.size < w1.heap.size := by first | omega | (simp at *; omega)
    have kw1_1_0 : w1.cell? ⟨w.heap.size + 1, 0, none⟩ = some (.int .i64 c) := by rw [hcw1 _ _ (by first | (simp; done) | omega | (simp; omega))]; first | assumption | (simp [go_sem]; done) | (simp [go_sem]; done) | (simp [go_sem, *]; done)
    have kw1_1_1 : w1.cell? ⟨w.heap.size + 1, 1, none⟩ = some (.int .i64 d) := by rw [hcw1 _ _ (by first | (simp; done) | omega | (simp; omega))]; first | assumption | (simp [go_sem]; done) | (simp [go_sem]; done) | (simp [go_sem, *]; done)
    have sw1_1 : w.heap.size + 1 < w1.heap.size := by first | omega | (simp at *; omega)
    have hBw1 : Below w.heap.size w w1 := (by repeat (first | exact Below.refl _ _ | refine bl_alloc ?_ _ | refine bl_drewN ?_ _ | refine bl_trans (by assumption) ?_ | refine bl_set ?_ (by first | omega | (simp; done) | (simp; omega)) _))
    have HBw1 := Lib.hid hBw1
    clear hBw1 hcw1 hfw1 hbw1
    rw [h1]
    go_wp2
    go_ret3
    exact ⟨_, _, by rw [HO.out]; rfl, by rw [HE1.out]; exact IRow.nil _ _, by rw [HE2.out]; exact IRow.nil _ _, .inl rfl, (by repeat (first | exact HBw1.out | exact Below.refl _ _ | refine bl_alloc ?_ _ | refine bl_drewN ?_ _ | refine bl_trans (by assumption) ?_ | refine bl_set ?_ (by first | omega | (simp; done) | (simp; omega)) _))⟩
  cases h2 : okCs c d
  · have HO := Lib.hid (show okCs2 a b c d = false by simp [okCs2, h1, h2])
    have HE1 := Lib.hid (show TB1 a b c d = [] by simp [TB1, okCs2, h1, h2])
    have HE2 := Lib.hid (show TB2 a b c d = [] by simp [TB2, okCs2, h1, h2])
    go_enter Try.func25, Try.ntmps25
    go_wp2_with fail
    refine (isInCorner_any _ _ _).mono ?_
    rintro e w1 ⟨rfl, hbw1⟩
    obtain ⟨hcw1, hfw1⟩ := bcell hbw1
    have hzw1 := bsize hbw1
    (try simp only [World.size_alloc, World.size_setCell] at hzw1)
    have kw1_0_0 : w1.cell? ⟨w.heap.size, 0, none⟩ = some (.int .i64 a) := by rw [hcw1 _ _ (by first | (simp; done) | omega | (simp; omega))]; first | assumption | (simp [go_sem]; done) | (simp [go_sem]; done) | (simp [go_sem, *]; done)
    have kw1_0_1 : w1.cell? ⟨w.heap.size, 1, none⟩ = some (.int .i64 b) := by rw [hcw1 _ _ (by first | (simp; done) | omega | (simp; omega))]; first | assumption | (simp [go_sem]; done) | (simp [go_sem]; done) | (simp [go_sem, *]; done)
    have sw1_0 : w.heap.size < w1.heap.size := by first | omega | (simp at *; omega)
    have kw1_1_0 : w1.cell? ⟨w.heap.size + 1, 0, none⟩ = some (.int .i64 c) := by rw [hcw1 _ _ (by first | (simp; done) | omega | (simp; omega))]; first | assumption | (simp [go_sem]; done) | (simp [go_sem]; done) | (simp [go_sem, *]; done)
    have kw1_1_1 : w1.cell? ⟨w.heap.size + 1, 1, none⟩ = some (.int .i64 d) := by rw [hcw1 _ _ (by first | (simp; done) | omega | (simp; omega))]; first | assumption | (simp [go_sem]; done) | (simp [go_sem]; done) | (simp [go_sem, *]; done)
    have sw1_1 : w.heap.size + 1 < w1.heap.size := by first | omega | (simp at *; omega)
    have hBw1 : Below w.heap.size w w1 := (by repeat (first | exact Below.refl _ _ | refine bl_alloc ?_ _ | refine bl_drewN ?_ _ | refine bl_trans (by assumption) ?_ | refine bl_set ?_ (by first | omega | (simp; done) | (simp; omega)) _))
    have HBw1 := Lib.hid hBw1
    clear hBw1 hcw1 hfw1 hbw1
    rw [h1]
    go_wp2_with fail
    refine (isInCorner_any _ _ _).mono ?_
    rintro e w2 ⟨rfl, hbw2⟩
    obtain ⟨hcw2, hfw2⟩ := bcell hbw2
    have hzw2 := bsize hbw2
    (try simp only [World.size_alloc, World.size_setCell] at hzw2)
    have hkw2 : Below w1.heap.size w1 w2 := (by repeat (first | exact Below.refl _ _ | refine bl_alloc ?_ _ | refine bl_drewN ?_ _ | refine bl_trans (by assumption) ?_ | refine bl_set ?_ (by first | omega | (simp; done) | (simp; omega)) _))
    have kw2_0_0 : w2.cell? ⟨w.heap.size, 0, none⟩ = some (.int .i64 a) := cell_after hkw2 sw1_0 kw1_0_0
    have kw2_0_1 : w2.cell? ⟨w.heap.size, 1, none⟩ = some (.int .i64 b) := cell_after hkw2 sw1_0 kw1_0_1
    have sw2_0 : w.heap.size < w2.heap.size := size_after hkw2 sw1_0
    have kw2_1_0 : w2.cell? ⟨w.heap.size + 1, 0, none⟩ = some (.int .i64 c) := cell_after hkw2 sw1_1 kw1_1_0
    have kw2_1_1 : w2.cell? ⟨w.heap.size + 1, 1, none⟩ = some (.int .i64 d) := cell_after hkw2 sw1_1 kw1_1_1
    have sw2_1 : w.heap.size + 1 < w2.heap.size := size_after hkw2 sw1_1
    have hBw2 : Below w.heap.size w w2 := (by repeat (first | exact HBw1.out | exact Below.refl _ _ | refine bl_alloc ?_ _ | refine bl_drewN ?_ _ | refine bl_trans (by assumption) ?_ | refine bl_set ?_ (by first | omega | (simp; done) | (simp; omega)) _))
    have HBw2 := Lib.hid hBw2
    clear hBw2 hcw2 hfw2 hbw2 hkw2 kw1_0_0 kw1_0_1 sw1_0 kw1_1_0 kw1_1_1 sw1_1
    rw [h2]
    go_wp2
    go_ret3
    exact ⟨_, _, by rw [HO.out]; rfl, by rw [HE1.out]; exact IRow.nil _ _, by rw [HE2.out]; exact IRow.nil _ _, .inl rfl, (by repeat (first | exact HBw2.out | exact Below.refl _ _ | refine bl_alloc ?_ _ | refine bl_drewN ?_ _ | refine bl_trans (by assumption) ?_ | refine bl_set ?_ (by first | omega | (simp; done) | (simp; omega)) _))⟩
  · have HO := Lib.hid (show okCs2 a b c d = true by simp [okCs2, h1, h2])
    obtain ⟨⟨a1, a2⟩, b1, b2⟩ := okCs_true h1
    obtain ⟨⟨c1, c2⟩, d1, d2⟩ := okCs_true h2
    have HE1 := Lib.hid (show TB1 a b c d = [ln (tbP a b c d) (b + d), ld (tbP a b c d) (b + d)] by simp [TB1, HO.out])
    have HE2 := Lib.hid (show TB2 a b c d = [ln (tbP a b c d) (a + c), ld (tbP a b c d) (a + c)] by simp [TB2, HO.out])
    obtain ⟨f1, f2⟩ := mul_bd2 (a := a) (b := d) (m := 1000) (k := 1000) (by omega) (by omega) (by omega) (by omega)
    obtain ⟨f3, f4⟩ := mul_bd2 (a := b) (b := c) (m := 1000) (k := 1000) (by omega) (by omega) (by omega) (by omega)
    have HP := Lib.hid (show tbP a b c d = max (a * d - b * c) (b * c - a * d) from rfl)
    have p1 : 0 ≤ tbP a b c d := by unfold tbP; omega
    have p2 : tbP a b c d ≤ 1000000 := by unfold tbP; omega
    have HD := fun W => Lib.hid (distance_any (a * d) (b * c) (by omega) (by omega) (by omega) (by omega) W)
    rw [← HP.out] at HD
    have HF1 := fun W => Lib.hid (toldFraction_any (tbP a b c d) (b + d) (by omega) (by omega) (by omega) (by omega) W)
    have HF2 := fun W => Lib.hid (toldFraction_any (tbP a b c d) (a + c) (by omega) (by omega) (by omega) (by omega) W)
    generalize tbP a b c d = P at *
    go_enter Try.func25, Try.ntmps25
    go_wp2_with fail
    refine (isInCorner_any _ _ _).mono ?_
    rintro e w1 ⟨rfl, hbw1⟩
    obtain ⟨hcw1, hfw1⟩ := bcell hbw1
    have hzw1 := bsize hbw1
    (try simp only [World.size_alloc, World.size_setCell] at hzw1)
    have kw1_0_0 : w1.cell? ⟨w.heap.size, 0, none⟩ = some (.int .i64 a) := by rw [hcw1 _ _ (by first | (simp; done) | omega | (simp; omega))]; first | assumption | (simp [go_sem]; done) | (simp [go_sem]; done) | (simp [go_sem, *]; done)
    have kw1_0_1 : w1.cell? ⟨w.heap.size, 1, none⟩ = some (.int .i64 b) := by rw [hcw1 _ _ (by first | (simp; done) | omega | (simp; omega))]; first | assumption | (simp [go_sem]; done) | (simp [go_sem]; done) | (simp [go_sem, *]; done)
    have sw1_0 : w.heap.size < w1.heap.size := by first | omega | (simp at *; omega)
    have kw1_1_0 : w1.cell? ⟨w.heap.size + 1, 0, none⟩ = some (.int .i64 c) := by rw [hcw1 _ _ (by first | (simp; done) | omega | (simp; omega))]; first | assumption | (simp [go_sem]; done) | (simp [go_sem]; done) | (simp [go_sem, *]; done)
    have kw1_1_1 : w1.cell? ⟨w.heap.size + 1, 1, none⟩ = some (.int .i64 d) := by rw [hcw1 _ _ (by first | (simp; done) | omega | (simp; omega))]; first | assumption | (simp [go_sem]; done) | (simp [go_sem]; done) | (simp [go_sem, *]; done)
    have sw1_1 : w.heap.size + 1 < w1.heap.size := by first | omega | (simp at *; omega)
    have hBw1 : Below w.heap.size w w1 := (by repeat (first | exact Below.refl _ _ | refine bl_alloc ?_ _ | refine bl_drewN ?_ _ | refine bl_trans (by assumption) ?_ | refine bl_set ?_ (by first | omega | (simp; done) | (simp; omega)) _))
    have HBw1 := Lib.hid hBw1
    clear hBw1 hcw1 hfw1 hbw1
    rw [h1]
    go_wp2_with fail
    refine (isInCorner_any _ _ _).mono ?_
    rintro e w2 ⟨rfl, hbw2⟩
    obtain ⟨hcw2, hfw2⟩ := bcell hbw2
    have hzw2 := bsize hbw2
    (try simp only [World.size_alloc, World.size_setCell] at hzw2)
    have hkw2 : Below w1.heap.size w1 w2 := (by repeat (first | exact Below.refl _ _ | refine bl_alloc ?_ _ | refine bl_drewN ?_ _ | refine bl_trans (by assumption) ?_ | refine bl_set ?_ (by first | omega | (simp; done) | (simp; omega)) _))
    have kw2_0_0 : w2.cell? ⟨w.heap.size, 0, none⟩ = some (.int .i64 a) := cell_after hkw2 sw1_0 kw1_0_0
    have kw2_0_1 : w2.cell? ⟨w.heap.size, 1, none⟩ = some (.int .i64 b) := cell_after hkw2 sw1_0 kw1_0_1
    have sw2_0 : w.heap.size < w2.heap.size := size_after hkw2 sw1_0
    have kw2_1_0 : w2.cell? ⟨w.heap.size + 1, 0, none⟩ = some (.int .i64 c) := cell_after hkw2 sw1_1 kw1_1_0
    have kw2_1_1 : w2.cell? ⟨w.heap.size + 1, 1, none⟩ = some (.int .i64 d) := cell_after hkw2 sw1_1 kw1_1_1
    have sw2_1 : w.heap.size + 1 < w2.heap.size := size_after hkw2 sw1_1
    have hBw2 : Below w.heap.size w w2 := (by repeat (first | exact HBw1.out | exact Below.refl _ _ | refine bl_alloc ?_ _ | refine bl_drewN ?_ _ | refine bl_trans (by assumption) ?_ | refine bl_set ?_ (by first | omega | (simp; done) | (simp; omega)) _))
    have HBw2 := Lib.hid hBw2
    clear hBw2 hcw2 hfw2 hbw2 hkw2 kw1_0_0 kw1_0_1 sw1_0 kw1_1_0 kw1_1_1 sw1_1
    rw [h2]
    go_wp2_with fail
    refine ((HD _).out).mono ?_
    rintro e w' ⟨rfl, rfl⟩
    go_wp2_with fail
    refine ((HF1 _).out).mono ?_
    rintro e w' ⟨rfl, n1, rfl⟩
    go_wp2_with fail
    refine ((HF2 _).out).mono ?_
    rintro e w' ⟨rfl, n2, rfl⟩
    go_wp2
    go_ret3
    have hsz := HBw2.out.size
    have HM1 := IRow.made (w2.drewN (n1 + n2)) w.heap.size [ln P (b + d), ld P (b + d)] (by first | omega | (simp; omega)) (by simp [maxLen])
    have HM2 := IRow.made ((w2.drewN (n1 + n2)).alloc (.cells ([ln P (b + d), ld P (b + d)].map (Value.int .i64)).toArray 3)) w.heap.size [ln P (a + c), ld P (a + c)] (by first | omega | (simp; omega)) (by simp [maxLen])
    refine ⟨_, _, by rw [HO.out]; rfl, ?_, ?_, ?_, ?_⟩
    · rw [HE1.out]
      exact IRow.keep HM1 (bl_alloc (Below.refl _ _) _)
    · rw [HE2.out]
      simp only [World.size_alloc] at HM2
      exact HM2
    · exact .inr (by simp [Value.ownBlock])
    · exact (by repeat (first | exact HBw2.out | exact Below.refl _ _ | refine bl_alloc ?_ _ | refine bl_drewN ?_ _ | refine bl_trans (by assumption) ?_ | refine bl_set ?_ (by first | omega | (simp; done) | (simp; omega)) _))
set_option maxHeartbeats 4000000 in
theorem spec_TouchesByCorner (a b c d : Int) (w : World) :
    Calls Try.prog 26 #[.agg #[.int .i64 a, .int .i64 b], .agg #[.int .i64 c, .int .i64 d]] w fun e w' => ∃ v u, e = .returned (.tuple #[v, u, .bool (okCs2 a b c d)]) ∧ IRow w' w.heap.size v (TB1 a b c d) ∧ IRow w' w.heap.size u (TB2 a b c d) ∧ (v.ownBlock = none ∨ v.ownBlock ≠ u.ownBlock) ∧ Below w.heap.size w w' := by
  cases h1 : okCs2 a b c d
  · have HE1 := Lib.hid (show TB1 a b c d = [] by simp [TB1, h1])
    have HE2 := Lib.hid (show TB2 a b c d = [] by simp [TB2, h1])
    go_enter Try.func26, Try.ntmps26
    go_wp2_with fail
    refine (lwCorner_any _ _ _ _ _).mono ?_
    rintro e w1 ⟨rfl, hbw1⟩
    obtain ⟨hcw1, hfw1⟩ := bcell hbw1
    have hzw1 := bsize hbw1
    (try simp only [World.size_alloc, World.size_setCell] at hzw1)
    have kw1_0_0 : w1.cell? ⟨w.heap.size, 0, none⟩ = some (.int .i64 a) := by rw [hcw1 _ _ (by first | (simp; done) | omega | (simp; omega))]; first | assumption | (simp [go_sem]; done) | (simp [go_sem]; done) | (simp [go_sem, *]; done)
    have kw1_0_1 : w1.cell? ⟨w.heap.size, 1, none⟩ = some (.int .i64 b) := by rw [hcw1 _ _ (by first | (simp; done) | omega | (simp; omega))]; first | assumption | (simp [go_sem]; done) | (simp [go_sem]; done) | (simp [go_sem, *]; done)
    have sw1_0 : w.heap.size < w1.heap.size := by first | omega | (simp at *; omega)
    have kw1_1_0 : w1.cell? ⟨w.heap.size + 1, 0, none⟩ = some (.int .i64 c) := by rw [hcw1 _ _ (by first | (simp; done) | omega | (simp; omega))]; first | assumption | (simp [go_sem]; done) | (simp [go_sem]; done) | (simp [go_sem, *]; done)
    have kw1_1_1 : w1.cell? ⟨w.heap.size + 1, 1, none⟩ = some (.int .i64 d) := by rw [hcw1 _ _ (by first | (simp; done) | omega | (simp; omega))]; first | assumption | (simp [go_sem]; done) | (simp [go_sem]; done) | (simp [go_sem, *]; done)
    have sw1_1 : w.heap.size + 1 < w1.heap.size := by first | omega | (simp at *; omega)
    have hBw1 : Below w.heap.size w w1 := (by repeat (first | exact Below.refl _ _ | refine bl_alloc ?_ _ | refine bl_drewN ?_ _ | refine bl_trans (by assumption) ?_ | refine bl_set ?_ (by first | omega | (simp; done) | (simp; omega)) _))
    have HBw1 := Lib.hid hBw1
    clear hBw1 hcw1 hfw1 hbw1
    rw [h1]
    go_wp2
    go_ret3
    exact ⟨_, _, by first | rfl | (rw [h1]; rfl), by rw [HE1.out]; exact IRow.nil _ _, by rw [HE2.out]; exact IRow.nil _ _, .inl rfl, (by repeat (first | exact HBw1.out | exact Below.refl _ _ | refine bl_alloc ?_ _ | refine bl_drewN ?_ _ | refine bl_trans (by assumption) ?_ | refine bl_set ?_ (by first | omega | (simp; done) | (simp; omega)) _))⟩
  · have HO := Lib.hid h1
    have hh := h1
    simp only [okCs2, Bool.and_eq_true] at hh
    obtain ⟨⟨a1, a2⟩, b1, b2⟩ := okCs_true hh.1
    obtain ⟨⟨c1, c2⟩, d1, d2⟩ := okCs_true hh.2
    clear hh
    have HE1 := Lib.hid (show TB1 a b c d = [ln (tbP a b c d) (b + d), ld (tbP a b c d) (b + d)] by simp [TB1, HO.out])
    have HE2 := Lib.hid (show TB2 a b c d = [ln (tbP a b c d) (a + c), ld (tbP a b c d) (a + c)] by simp [TB2, HO.out])
    obtain ⟨f1, f2⟩ := mul_bd2 (a := a) (b := d) (m := 1000) (k := 1000) (by omega) (by omega) (by omega) (by omega)
    obtain ⟨f3, f4⟩ := mul_bd2 (a := b) (b := c) (m := 1000) (k := 1000) (by omega) (by omega) (by omega) (by omega)
    have HP := Lib.hid (show tbP a b c d = max (a * d - b * c) (b * c - a * d) from rfl)
    have p1 : 0 ≤ tbP a b c d := by unfold tbP; omega
    have p2 : tbP a b c d ≤ 1000000 := by unfold tbP; omega
    have HF1 := fun W => Lib.hid (lwTouch_any a (-c) b (b + d) (by omega) (by omega) (by omega) (by omega) (by omega) (by omega) (by omega) (by omega) W)
    have HF2 := fun W => Lib.hid (lwTouch_any b (-d) a (a + c) (by omega) (by omega) (by omega) (by omega) (by omega) (by omega) (by omega) (by omega) W)
    rw [tb_n1, ldI_abs, show max (a * d - b * c) (-(a * d - b * c)) = tbP a b c d by unfold tbP; omega] at HF1
    rw [tb_n2, ldI_abs, show max (b * c - a * d) (-(b * c - a * d)) = tbP a b c d by unfold tbP; omega] at HF2
    have q1 := lnI_bd (n := a * d - b * c) (a := b + d) (m := 1000000) (by omega) (by omega) (by omega)
    have q2 := lnI_bd (n := b * c - a * d) (a := a + c) (m := 1000000) (by omega) (by omega) (by omega)
    have HA1 := fun W => Lib.hid (l1Abs_any (lnI (a * d - b * c) (b + d)) (by omega) (by omega) W)
    have HA2 := fun W => Lib.hid (l1Abs_any (lnI (b * c - a * d) (a + c)) (by omega) (by omega) W)
    rw [lnI_abs _ _ (by omega), show max (a * d - b * c) (-(a * d - b * c)) = tbP a b c d by unfold tbP; omega] at HA1
    rw [lnI_abs _ _ (by omega), show max (b * c - a * d) (-(b * c - a * d)) = tbP a b c d by unfold tbP; omega] at HA2
    clear q1 q2
    generalize tbP a b c d = P at *
    generalize lnI (a * d - b * c) (b + d) = X at *
    generalize lnI (b * c - a * d) (a + c) = Y at *
    go_enter Try.func26, Try.ntmps26
    go_wp2_with fail
    refine (lwCorner_any _ _ _ _ _).mono ?_
    rintro e w1 ⟨rfl, hbw1⟩
    obtain ⟨hcw1, hfw1⟩ := bcell hbw1
    have hzw1 := bsize hbw1
    (try simp only [World.size_alloc, World.size_setCell] at hzw1)
    have kw1_0_0 : w1.cell? ⟨w.heap.size, 0, none⟩ = some (.int .i64 a) := by rw [hcw1 _ _ (by first | (simp; done) | omega | (simp; omega))]; first | assumption | (simp [go_sem]; done) | (simp [go_sem]; done) | (simp [go_sem, *]; done)
    have kw1_0_1 : w1.cell? ⟨w.heap.size, 1, none⟩ = some (.int .i64 b) := by rw [hcw1 _ _ (by first | (simp; done) | omega | (simp; omega))]; first | assumption | (simp [go_sem]; done) | (simp [go_sem]; done) | (simp [go_sem, *]; done)
    have sw1_0 : w.heap.size < w1.heap.size := by first | omega | (simp at *; omega)
    have kw1_1_0 : w1.cell? ⟨w.heap.size + 1, 0, none⟩ = some (.int .i64 c) := by rw [hcw1 _ _ (by first | (simp; done) | omega | (simp; omega))]; first | assumption | (simp [go_sem]; done) | (simp [go_sem]; done) | (simp [go_sem, *]; done)
    have kw1_1_1 : w1.cell? ⟨w.heap.size + 1, 1, none⟩ = some (.int .i64 d) := by rw [hcw1 _ _ (by first | (simp; done) | omega | (simp; omega))]; first | assumption | (simp [go_sem]; done) | (simp [go_sem]; done) | (simp [go_sem, *]; done)
    have sw1_1 : w.heap.size + 1 < w1.heap.size := by first | omega | (simp at *; omega)
    have hBw1 : Below w.heap.size w w1 := (by repeat (first | exact Below.refl _ _ | refine bl_alloc ?_ _ | refine bl_drewN ?_ _ | refine bl_trans (by assumption) ?_ | refine bl_set ?_ (by first | omega | (simp; done) | (simp; omega)) _))
    have HBw1 := Lib.hid hBw1
    clear hBw1 hcw1 hfw1 hbw1
    rw [h1]
    go_wp2_with fail
    refine ((HF1 _).out).mono ?_
    rintro e w' ⟨rfl, n1, rfl⟩
    go_wp2_with fail
    refine ((HF2 _).out).mono ?_
    rintro e w' ⟨rfl, n2, rfl⟩
    go_wp2_with fail
    refine ((HA1 _).out).mono ?_
    rintro e w' ⟨rfl, rfl⟩
    go_wp2_with fail
    refine ((HA2 _).out).mono ?_
    rintro e w' ⟨rfl, rfl⟩
    go_wp2
    go_ret3
    have hsz := HBw1.out.size
    have HM1 := IRow.made (w1.drewN (n1 + n2)) w.heap.size [ln P (b + d), ld P (b + d)] (by first | omega | (simp; omega)) (by simp [maxLen])
    have HM2 := IRow.made ((w1.drewN (n1 + n2)).alloc (.cells ([ln P (b + d), ld P (b + d)].map (Value.int .i64)).toArray 3)) w.heap.size [ln P (a + c), ld P (a + c)] (by first | omega | (simp; omega)) (by simp [maxLen])
    refine ⟨_, _, by first | rfl | (rw [HO.out]; rfl), ?_, ?_, ?_, ?_⟩
    · rw [HE1.out]
      exact IRow.keep HM1 (bl_alloc (Below.refl _ _) _)
    · rw [HE2.out]
      simp only [World.size_alloc] at HM2
      exact HM2
    · exact .inr (by simp [Value.ownBlock])
    · exact (by repeat (first | exact HBw1.out | exact Below.refl _ _ | refine bl_alloc ?_ _ | refine bl_drewN ?_ _ | refine bl_trans (by assumption) ?_ | refine bl_set ?_ (by first | omega | (simp; done) | (simp; omega)) _))
end Go.Proofs.Ytbnkigponkelpaa
