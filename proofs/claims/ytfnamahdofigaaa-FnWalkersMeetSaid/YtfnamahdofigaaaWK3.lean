/- When the feet or the tips of two walkers meet, by the program. -/
import Derived.Test.YtfnamahdofigaaaWK2
import Derived.Deep.RegionHeld3
namespace Go.Proofs.Ytfnamahdofigaaa
open Go.RowKit
set_option linter.unusedVariables false
set_option linter.unusedSimpArgs false
theorem results_tmp5 {fn : Func} {t u v x y : Tmp} (h : fn.results = #[.tmp t, .tmp u, .tmp v, .tmp x, .tmp y]) (tmps : Array Value) (P : Program) (w : World) :
    (results fn tmps).run P w = .ok (.tuple #[tmps.getD t undef, tmps.getD u undef, tmps.getD v undef, tmps.getD x undef, tmps.getD y undef]) w := by
  simp [results, h]
theorem ln_pos {n a : Int} (hn : 1 ≤ n) : 1 ≤ ln n a := by
  obtain ⟨m, rfl⟩ := Int.eq_ofNat_of_zero_le (show 0 ≤ n by omega)
  unfold ln
  have hd : Nat.gcd m a.toNat ∣ m := Nat.gcd_dvd_left _ _
  have hg : 0 < Nat.gcd m a.toNat := Nat.gcd_pos_of_pos_left _ (by omega)
  have h := Nat.div_pos (Nat.le_of_dvd (by omega) hd) hg
  simp only [Int.toNat_natCast]
  rw [← Int.natCast_ediv]
  omega
theorem ld_pos {n a : Int} (ha : 1 ≤ a) : 1 ≤ ld n a := by
  obtain ⟨m, rfl⟩ := Int.eq_ofNat_of_zero_le (show 0 ≤ a by omega)
  unfold ld
  have hd : Nat.gcd n.toNat m ∣ m := Nat.gcd_dvd_right _ _
  have hg : 0 < Nat.gcd n.toNat m := Nat.gcd_pos_of_pos_right _ (by omega)
  have h := Nat.div_pos (Nat.le_of_dvd (by omega) hd) hg
  simp only [Int.toNat_natCast]
  rw [← Int.natCast_ediv]
  omega
theorem lnI_neg {n a : Int} (hn : n < 0) : lnI n a < 0 := by
  have := ln_pos (n := -n) (a := a) (by omega)
  unfold lnI
  rw [if_pos hn]
  omega
def okMt (k : Bool) (M G S T : Int) : Bool := k && (eqOk M G && decide (0 ≤ S * ld (eqM M G) (eqG G) + T * ln (eqM M G) (eqG G)))
theorem S8_after {w u v : World} {A : Nat} {x1 x2 x3 x4 x5 x6 : Value} (hb : Below u.heap.size u v) (h : u.cell? ⟨w.heap.size + 1, 0, none⟩ = some x1 ∧ u.cell? ⟨w.heap.size + 1, 1, none⟩ = some x2 ∧ u.cell? ⟨w.heap.size + 1, 2, none⟩ = some x3 ∧ u.cell? ⟨A, 0, none⟩ = some x4 ∧ u.cell? ⟨A, 1, none⟩ = some x5 ∧ u.cell? ⟨A, 2, none⟩ = some x6 ∧ w.heap.size + 1 < u.heap.size ∧ A < u.heap.size ∧ Below w.heap.size w u) :
    v.cell? ⟨w.heap.size + 1, 0, none⟩ = some x1 ∧ v.cell? ⟨w.heap.size + 1, 1, none⟩ = some x2 ∧ v.cell? ⟨w.heap.size + 1, 2, none⟩ = some x3 ∧ v.cell? ⟨A, 0, none⟩ = some x4 ∧ v.cell? ⟨A, 1, none⟩ = some x5 ∧ v.cell? ⟨A, 2, none⟩ = some x6 ∧ w.heap.size + 1 < v.heap.size ∧ A < v.heap.size ∧ Below w.heap.size w v := by
  obtain ⟨h1, h2, h3, h4, h5, h6, h7, h8, h9⟩ := h
  exact ⟨cell_after hb h7 h1, cell_after hb h7 h2, cell_after hb h7 h3, cell_after hb h8 h4, cell_after hb h8 h5, cell_after hb h8 h6, size_after hb h7, size_after hb h8, bl_trans hb h9⟩
theorem last9 {a b c d e f g h D : Prop} (k : a ∧ b ∧ c ∧ d ∧ e ∧ f ∧ g ∧ h ∧ D) : D := k.2.2.2.2.2.2.2.2
theorem mid3 {a b c d e f g h D : Prop} (k : a ∧ b ∧ c ∧ d ∧ e ∧ f ∧ g ∧ h ∧ D) : d ∧ e ∧ f ∧ h := ⟨k.2.2.2.1, k.2.2.2.2.1, k.2.2.2.2.2.1, k.2.2.2.2.2.2.2.1⟩
set_option maxHeartbeats 4000000 in
theorem meeting_tip (l h p s j q t : Int) (S T B X Y C : Int) (hF : okWk l h p s = true → Tells 28 h p s l S T B) (hB : okWk l h p s = true → Fits p s 0 S T B) (hF2 : okWk l j q t = true → Tells 28 j q t l X Y C) (hB2 : okWk l j q t = true → Fits q t 0 X Y C) (w : World) :
    Calls Try.prog 27 #[.int .i64 l, .agg #[.int .i64 h, .int .i64 p, .int .i64 s], .agg #[.int .i64 j, .int .i64 q, .int .i64 t], fnv 28] w fun e w' => e = .returned (.tuple #[.int .i64 (Z (okMt (okWk l h p s && okWk l j q t) (X * B - S * C) (T * C - Y * B) S T) (ln (eqM (X * B - S * C) (T * C - Y * B)) (eqG (T * C - Y * B)))), .int .i64 (Z (okMt (okWk l h p s && okWk l j q t) (X * B - S * C) (T * C - Y * B) S T) (ld (eqM (X * B - S * C) (T * C - Y * B)) (eqG (T * C - Y * B)))), .int .i64 (Z (okMt (okWk l h p s && okWk l j q t) (X * B - S * C) (T * C - Y * B) S T) (ln (S * ld (eqM (X * B - S * C) (T * C - Y * B)) (eqG (T * C - Y * B)) + T * ln (eqM (X * B - S * C) (T * C - Y * B)) (eqG (T * C - Y * B))) (B * ld (eqM (X * B - S * C) (T * C - Y * B)) (eqG (T * C - Y * B))))), .int .i64 (Z (okMt (okWk l h p s && okWk l j q t) (X * B - S * C) (T * C - Y * B) S T) (ld (S * ld (eqM (X * B - S * C) (T * C - Y * B)) (eqG (T * C - Y * B)) + T * ln (eqM (X * B - S * C) (T * C - Y * B)) (eqG (T * C - Y * B))) (B * ld (eqM (X * B - S * C) (T * C - Y * B)) (eqG (T * C - Y * B))))), .bool (okMt (okWk l h p s && okWk l j q t) (X * B - S * C) (T * C - Y * B) S T)]) ∧ Below w.heap.size w w' := by
  have hA : okMt (okWk l h p s && okWk l j q t) (X * B - S * C) (T * C - Y * B) S T = (okWk l h p s && okWk l j q t && (eqOk (X * B - S * C) (T * C - Y * B) && decide (0 ≤ S * ld (eqM (X * B - S * C) (T * C - Y * B)) (eqG (T * C - Y * B)) + T * ln (eqM (X * B - S * C) (T * C - Y * B)) (eqG (T * C - Y * B))))) := rfl
  cases h1 : okWk l h p s
  · have HO := Lib.hid (show okMt (false && okWk l j q t) (X * B - S * C) (T * C - Y * B) S T = false from rfl)
    clear hA hF hB hF2 hB2
    go_enter Try.func27, Try.ntmps27
    go_wp2_with fail
    refine (impl_IsWalker _ _ _ _ _).mono ?_
    rintro e w1 ⟨rfl, hbw1⟩
    obtain ⟨hcw1, hfw1⟩ := bcell hbw1
    have hzw1 := bsize hbw1
    (try simp only [World.size_alloc, World.size_setCell] at hzw1)
    have kw1_0_0 : w1.cell? ⟨w.heap.size, 0, none⟩ = some (.int .i64 h) := by rw [hcw1 _ _ (by first | (simp; done) | omega | (simp; omega))]; first | assumption | (simp [go_sem]; done) | (simp [go_sem]; done) | (simp [go_sem, *]; done)
    have kw1_0_1 : w1.cell? ⟨w.heap.size, 1, none⟩ = some (.int .i64 p) := by rw [hcw1 _ _ (by first | (simp; done) | omega | (simp; omega))]; first | assumption | (simp [go_sem]; done) | (simp [go_sem]; done) | (simp [go_sem, *]; done)
    have kw1_0_2 : w1.cell? ⟨w.heap.size, 2, none⟩ = some (.int .i64 s) := by rw [hcw1 _ _ (by first | (simp; done) | omega | (simp; omega))]; first | assumption | (simp [go_sem]; done) | (simp [go_sem]; done) | (simp [go_sem, *]; done)
    have sw1_0 : w.heap.size < w1.heap.size := by first | omega | (simp at *; omega)
    have kw1_1_0 : w1.cell? ⟨w.heap.size + 1, 0, none⟩ = some (.int .i64 j) := by rw [hcw1 _ _ (by first | (simp; done) | omega | (simp; omega))]; first | assumption | (simp [go_sem]; done) | (simp [go_sem]; done) | (simp [go_sem, *]; done)
    have kw1_1_1 : w1.cell? ⟨w.heap.size + 1, 1, none⟩ = some (.int .i64 q) := by rw [hcw1 _ _ (by first | (simp; done) | omega | (simp; omega))]; first | assumption | (simp [go_sem]; done) | (simp [go_sem]; done) | (simp [go_sem, *]; done)
    have kw1_1_2 : w1.cell? ⟨w.heap.size + 1, 2, none⟩ = some (.int .i64 t) := by rw [hcw1 _ _ (by first | (simp; done) | omega | (simp; omega))]; first | assumption | (simp [go_sem]; done) | (simp [go_sem]; done) | (simp [go_sem, *]; done)
    have sw1_1 : w.heap.size + 1 < w1.heap.size := by first | omega | (simp at *; omega)
    have hBw1 : Below w.heap.size w w1 := (by repeat (first | exact Below.refl _ _ | refine bl_alloc ?_ _ | refine bl_drewN ?_ _ | refine bl_trans (by assumption) ?_ | refine bl_set ?_ (by first | omega | (simp; done) | (simp; omega)) _))
    have HBw1 := Lib.hid hBw1
    clear hBw1 hcw1 hfw1 hbw1
    rw [h1]
    go_wp2
    ((try simp only [Exit.inBlock, Exit.then]); refine bodyPost_ret (results_tmp5 rfl _ _ _) rfl ?_)
    exact ⟨by rw [HO.out]; rfl, (by repeat (first | exact HBw1.out | exact Below.refl _ _ | refine bl_alloc ?_ _ | refine bl_drewN ?_ _ | refine bl_trans (by assumption) ?_ | refine bl_set ?_ (by first | omega | (simp; done) | (simp; omega)) _))⟩
  cases h2 : okWk l j q t
  · have HO := Lib.hid (show okMt (true && false) (X * B - S * C) (T * C - Y * B) S T = false from rfl)
    clear hA hF hB hF2 hB2
    go_enter Try.func27, Try.ntmps27
    go_wp2_with fail
    refine (impl_IsWalker _ _ _ _ _).mono ?_
    rintro e w1 ⟨rfl, hbw1⟩
    obtain ⟨hcw1, hfw1⟩ := bcell hbw1
    have hzw1 := bsize hbw1
    (try simp only [World.size_alloc, World.size_setCell] at hzw1)
    have kw1_0_0 : w1.cell? ⟨w.heap.size, 0, none⟩ = some (.int .i64 h) := by rw [hcw1 _ _ (by first | (simp; done) | omega | (simp; omega))]; first | assumption | (simp [go_sem]; done) | (simp [go_sem]; done) | (simp [go_sem, *]; done)
    have kw1_0_1 : w1.cell? ⟨w.heap.size, 1, none⟩ = some (.int .i64 p) := by rw [hcw1 _ _ (by first | (simp; done) | omega | (simp; omega))]; first | assumption | (simp [go_sem]; done) | (simp [go_sem]; done) | (simp [go_sem, *]; done)
    have kw1_0_2 : w1.cell? ⟨w.heap.size, 2, none⟩ = some (.int .i64 s) := by rw [hcw1 _ _ (by first | (simp; done) | omega | (simp; omega))]; first | assumption | (simp [go_sem]; done) | (simp [go_sem]; done) | (simp [go_sem, *]; done)
    have sw1_0 : w.heap.size < w1.heap.size := by first | omega | (simp at *; omega)
    have kw1_1_0 : w1.cell? ⟨w.heap.size + 1, 0, none⟩ = some (.int .i64 j) := by rw [hcw1 _ _ (by first | (simp; done) | omega | (simp; omega))]; first | assumption | (simp [go_sem]; done) | (simp [go_sem]; done) | (simp [go_sem, *]; done)
    have kw1_1_1 : w1.cell? ⟨w.heap.size + 1, 1, none⟩ = some (.int .i64 q) := by rw [hcw1 _ _ (by first | (simp; done) | omega | (simp; omega))]; first | assumption | (simp [go_sem]; done) | (simp [go_sem]; done) | (simp [go_sem, *]; done)
    have kw1_1_2 : w1.cell? ⟨w.heap.size + 1, 2, none⟩ = some (.int .i64 t) := by rw [hcw1 _ _ (by first | (simp; done) | omega | (simp; omega))]; first | assumption | (simp [go_sem]; done) | (simp [go_sem]; done) | (simp [go_sem, *]; done)
    have sw1_1 : w.heap.size + 1 < w1.heap.size := by first | omega | (simp at *; omega)
    have hBw1 : Below w.heap.size w w1 := (by repeat (first | exact Below.refl _ _ | refine bl_alloc ?_ _ | refine bl_drewN ?_ _ | refine bl_trans (by assumption) ?_ | refine bl_set ?_ (by first | omega | (simp; done) | (simp; omega)) _))
    have HBw1 := Lib.hid hBw1
    clear hBw1 hcw1 hfw1 hbw1
    rw [h1]
    go_wp2_with fail
    refine (impl_IsWalker _ _ _ _ _).mono ?_
    rintro e w2 ⟨rfl, hbw2⟩
    obtain ⟨hcw2, hfw2⟩ := bcell hbw2
    have hzw2 := bsize hbw2
    (try simp only [World.size_alloc, World.size_setCell] at hzw2)
    have hkw2 : Below w1.heap.size w1 w2 := (by repeat (first | exact Below.refl _ _ | refine bl_alloc ?_ _ | refine bl_drewN ?_ _ | refine bl_trans (by assumption) ?_ | refine bl_set ?_ (by first | omega | (simp; done) | (simp; omega)) _))
    have kw2_0_0 : w2.cell? ⟨w.heap.size, 0, none⟩ = some (.int .i64 h) := cell_after hkw2 sw1_0 kw1_0_0
    have kw2_0_1 : w2.cell? ⟨w.heap.size, 1, none⟩ = some (.int .i64 p) := cell_after hkw2 sw1_0 kw1_0_1
    have kw2_0_2 : w2.cell? ⟨w.heap.size, 2, none⟩ = some (.int .i64 s) := cell_after hkw2 sw1_0 kw1_0_2
    have sw2_0 : w.heap.size < w2.heap.size := size_after hkw2 sw1_0
    have kw2_1_0 : w2.cell? ⟨w.heap.size + 1, 0, none⟩ = some (.int .i64 j) := cell_after hkw2 sw1_1 kw1_1_0
    have kw2_1_1 : w2.cell? ⟨w.heap.size + 1, 1, none⟩ = some (.int .i64 q) := cell_after hkw2 sw1_1 kw1_1_1
    have kw2_1_2 : w2.cell? ⟨w.heap.size + 1, 2, none⟩ = some (.int .i64 t) := cell_after hkw2 sw1_1 kw1_1_2
    have sw2_1 : w.heap.size + 1 < w2.heap.size := size_after hkw2 sw1_1
    have hBw2 : Below w.heap.size w w2 := (by repeat (first | exact HBw1.out | exact Below.refl _ _ | refine bl_alloc ?_ _ | refine bl_drewN ?_ _ | refine bl_trans (by assumption) ?_ | refine bl_set ?_ (by first | omega | (simp; done) | (simp; omega)) _))
    have HBw2 := Lib.hid hBw2
    clear hBw2 hcw2 hfw2 hbw2 hkw2 kw1_0_0 kw1_0_1 kw1_0_2 sw1_0 kw1_1_0 kw1_1_1 kw1_1_2 sw1_1
    rw [h2]
    go_wp2
    ((try simp only [Exit.inBlock, Exit.then]); refine bodyPost_ret (results_tmp5 rfl _ _ _) rfl ?_)
    exact ⟨by rw [HO.out]; rfl, (by repeat (first | exact HBw2.out | exact Below.refl _ _ | refine bl_alloc ?_ _ | refine bl_drewN ?_ _ | refine bl_trans (by assumption) ?_ | refine bl_set ?_ (by first | omega | (simp; done) | (simp; omega)) _))⟩
  rw [h1, h2] at hA
  have HT := fun W => Lib.hid (hF h1 W)
  have HT2 := fun W => Lib.hid (hF2 h2 W)
  obtain ⟨c1, c2, c3, c4, c5, c6⟩ := hB h1
  obtain ⟨d1, d2, d3, d4, d5, d6⟩ := hB2 h2
  clear hF hB hF2 hB2
  have HL := fun W => Lib.hid (equals_any S T B X Y C (by omega) (by omega) (by omega) (by omega) (by omega) (by omega) (by omega) (by omega) (by omega) (by omega) (by omega) (by omega) W)
  obtain ⟨f1, f2⟩ := mul_abs (a := X) (b := B) (m := 100000) (k := 200) (by omega) (by omega) (by omega) (by omega)
  obtain ⟨f3, f4⟩ := mul_abs (a := S) (b := C) (m := 100000) (k := 200) (by omega) (by omega) (by omega) (by omega)
  obtain ⟨f5, f6⟩ := mul_abs (a := T) (b := C) (m := 100000) (k := 200) (by omega) (by omega) (by omega) (by omega)
  obtain ⟨f7, f8⟩ := mul_abs (a := Y) (b := B) (m := 100000) (k := 200) (by omega) (by omega) (by omega) (by omega)
  obtain ⟨M, hM⟩ : ∃ M, M = X * B - S * C := ⟨_, rfl⟩
  obtain ⟨G, hG⟩ : ∃ G, G = T * C - Y * B := ⟨_, rfl⟩
  have m1 : -40000000 ≤ M := by omega
  have m2 : M ≤ 40000000 := by omega
  have g1 : -40000000 ≤ G := by omega
  have g2 : G ≤ 40000000 := by omega
  rw [← hM, ← hG] at HL hA ⊢
  clear hM hG f1 f2 f3 f4 f5 f6 f7 f8
  cases hq : eqOk M G
  · rw [hq] at HL hA
    have HO := Lib.hid (show okMt (true && true) M G S T = false from hA)
    have HZ := fun n => Lib.hid (show Z false n = 0 from rfl)
    rw [(HZ _).out, (HZ _).out] at HL
    clear hA hq
    go_enter Try.func27, Try.ntmps27
    go_wp2_with fail
    refine (impl_IsWalker _ _ _ _ _).mono ?_
    rintro e w1 ⟨rfl, hbw1⟩
    obtain ⟨hcw1, hfw1⟩ := bcell hbw1
    have hzw1 := bsize hbw1
    (try simp only [World.size_alloc, World.size_setCell] at hzw1)
    have kw1_0_0 : w1.cell? ⟨w.heap.size, 0, none⟩ = some (.int .i64 h) := by rw [hcw1 _ _ (by first | (simp; done) | omega | (simp; omega))]; first | assumption | (simp [go_sem]; done) | (simp [go_sem]; done) | (simp [go_sem, *]; done)
    have kw1_0_1 : w1.cell? ⟨w.heap.size, 1, none⟩ = some (.int .i64 p) := by rw [hcw1 _ _ (by first | (simp; done) | omega | (simp; omega))]; first | assumption | (simp [go_sem]; done) | (simp [go_sem]; done) | (simp [go_sem, *]; done)
    have kw1_0_2 : w1.cell? ⟨w.heap.size, 2, none⟩ = some (.int .i64 s) := by rw [hcw1 _ _ (by first | (simp; done) | omega | (simp; omega))]; first | assumption | (simp [go_sem]; done) | (simp [go_sem]; done) | (simp [go_sem, *]; done)
    have sw1_0 : w.heap.size < w1.heap.size := by first | omega | (simp at *; omega)
    have kw1_1_0 : w1.cell? ⟨w.heap.size + 1, 0, none⟩ = some (.int .i64 j) := by rw [hcw1 _ _ (by first | (simp; done) | omega | (simp; omega))]; first | assumption | (simp [go_sem]; done) | (simp [go_sem]; done) | (simp [go_sem, *]; done)
    have kw1_1_1 : w1.cell? ⟨w.heap.size + 1, 1, none⟩ = some (.int .i64 q) := by rw [hcw1 _ _ (by first | (simp; done) | omega | (simp; omega))]; first | assumption | (simp [go_sem]; done) | (simp [go_sem]; done) | (simp [go_sem, *]; done)
    have kw1_1_2 : w1.cell? ⟨w.heap.size + 1, 2, none⟩ = some (.int .i64 t) := by rw [hcw1 _ _ (by first | (simp; done) | omega | (simp; omega))]; first | assumption | (simp [go_sem]; done) | (simp [go_sem]; done) | (simp [go_sem, *]; done)
    have sw1_1 : w.heap.size + 1 < w1.heap.size := by first | omega | (simp at *; omega)
    have hBw1 : Below w.heap.size w w1 := (by repeat (first | exact Below.refl _ _ | refine bl_alloc ?_ _ | refine bl_drewN ?_ _ | refine bl_trans (by assumption) ?_ | refine bl_set ?_ (by first | omega | (simp; done) | (simp; omega)) _))
    have HBw1 := Lib.hid hBw1
    clear hBw1 hcw1 hfw1 hbw1
    rw [h1]
    go_wp2_with fail
    refine (impl_IsWalker _ _ _ _ _).mono ?_
    rintro e w2 ⟨rfl, hbw2⟩
    obtain ⟨hcw2, hfw2⟩ := bcell hbw2
    have hzw2 := bsize hbw2
    (try simp only [World.size_alloc, World.size_setCell] at hzw2)
    have hkw2 : Below w1.heap.size w1 w2 := (by repeat (first | exact Below.refl _ _ | refine bl_alloc ?_ _ | refine bl_drewN ?_ _ | refine bl_trans (by assumption) ?_ | refine bl_set ?_ (by first | omega | (simp; done) | (simp; omega)) _))
    have kw2_0_0 : w2.cell? ⟨w.heap.size, 0, none⟩ = some (.int .i64 h) := cell_after hkw2 sw1_0 kw1_0_0
    have kw2_0_1 : w2.cell? ⟨w.heap.size, 1, none⟩ = some (.int .i64 p) := cell_after hkw2 sw1_0 kw1_0_1
    have kw2_0_2 : w2.cell? ⟨w.heap.size, 2, none⟩ = some (.int .i64 s) := cell_after hkw2 sw1_0 kw1_0_2
    have sw2_0 : w.heap.size < w2.heap.size := size_after hkw2 sw1_0
    have kw2_1_0 : w2.cell? ⟨w.heap.size + 1, 0, none⟩ = some (.int .i64 j) := cell_after hkw2 sw1_1 kw1_1_0
    have kw2_1_1 : w2.cell? ⟨w.heap.size + 1, 1, none⟩ = some (.int .i64 q) := cell_after hkw2 sw1_1 kw1_1_1
    have kw2_1_2 : w2.cell? ⟨w.heap.size + 1, 2, none⟩ = some (.int .i64 t) := cell_after hkw2 sw1_1 kw1_1_2
    have sw2_1 : w.heap.size + 1 < w2.heap.size := size_after hkw2 sw1_1
    have hBw2 : Below w.heap.size w w2 := (by repeat (first | exact HBw1.out | exact Below.refl _ _ | refine bl_alloc ?_ _ | refine bl_drewN ?_ _ | refine bl_trans (by assumption) ?_ | refine bl_set ?_ (by first | omega | (simp; done) | (simp; omega)) _))
    have HBw2 := Lib.hid hBw2
    clear hBw2 hcw2 hfw2 hbw2 hkw2 kw1_0_0 kw1_0_1 kw1_0_2 sw1_0 kw1_1_0 kw1_1_1 kw1_1_2 sw1_1
    rw [h2]
    go_wp2_with fail
    refine ((HT _).out).mono ?_
    rintro e w3 ⟨rfl, hbw3⟩
    obtain ⟨hcw3, hfw3⟩ := bcell hbw3
    have hzw3 := bsize hbw3
    (try simp only [World.size_alloc, World.size_setCell] at hzw3)
    have hkw3 : Below w2.heap.size w2 w3 := (by repeat (first | exact Below.refl _ _ | refine bl_alloc ?_ _ | refine bl_drewN ?_ _ | refine bl_trans (by assumption) ?_ | refine bl_set ?_ (by first | omega | (simp; done) | (simp; omega)) _))
    have kw3_0_0 : w3.cell? ⟨w.heap.size, 0, none⟩ = some (.int .i64 h) := cell_after hkw3 sw2_0 kw2_0_0
    have kw3_0_1 : w3.cell? ⟨w.heap.size, 1, none⟩ = some (.int .i64 p) := cell_after hkw3 sw2_0 kw2_0_1
    have kw3_0_2 : w3.cell? ⟨w.heap.size, 2, none⟩ = some (.int .i64 s) := cell_after hkw3 sw2_0 kw2_0_2
    have sw3_0 : w.heap.size < w3.heap.size := size_after hkw3 sw2_0
    have kw3_1_0 : w3.cell? ⟨w.heap.size + 1, 0, none⟩ = some (.int .i64 j) := cell_after hkw3 sw2_1 kw2_1_0
    have kw3_1_1 : w3.cell? ⟨w.heap.size + 1, 1, none⟩ = some (.int .i64 q) := cell_after hkw3 sw2_1 kw2_1_1
    have kw3_1_2 : w3.cell? ⟨w.heap.size + 1, 2, none⟩ = some (.int .i64 t) := cell_after hkw3 sw2_1 kw2_1_2
    have sw3_1 : w.heap.size + 1 < w3.heap.size := size_after hkw3 sw2_1
    have hBw3 : Below w.heap.size w w3 := (by repeat (first | exact HBw2.out | exact Below.refl _ _ | refine bl_alloc ?_ _ | refine bl_drewN ?_ _ | refine bl_trans (by assumption) ?_ | refine bl_set ?_ (by first | omega | (simp; done) | (simp; omega)) _))
    have HBw3 := Lib.hid hBw3
    clear hBw3 hcw3 hfw3 hbw3 hkw3 kw2_0_0 kw2_0_1 kw2_0_2 sw2_0 kw2_1_0 kw2_1_1 kw2_1_2 sw2_1
    go_wp2_with fail
    have hS : (w3.alloc (.cells #[.int .i64 S, .int .i64 T, .int .i64 B] 74)).cell? ⟨w.heap.size + 1, 0, none⟩ = some (.int .i64 j) ∧ (w3.alloc (.cells #[.int .i64 S, .int .i64 T, .int .i64 B] 74)).cell? ⟨w.heap.size + 1, 1, none⟩ = some (.int .i64 q) ∧ (w3.alloc (.cells #[.int .i64 S, .int .i64 T, .int .i64 B] 74)).cell? ⟨w.heap.size + 1, 2, none⟩ = some (.int .i64 t) ∧ (w3.alloc (.cells #[.int .i64 S, .int .i64 T, .int .i64 B] 74)).cell? ⟨w3.heap.size, 0, none⟩ = some (.int .i64 S) ∧ (w3.alloc (.cells #[.int .i64 S, .int .i64 T, .int .i64 B] 74)).cell? ⟨w3.heap.size, 1, none⟩ = some (.int .i64 T) ∧ (w3.alloc (.cells #[.int .i64 S, .int .i64 T, .int .i64 B] 74)).cell? ⟨w3.heap.size, 2, none⟩ = some (.int .i64 B) ∧ w.heap.size + 1 < (w3.alloc (.cells #[.int .i64 S, .int .i64 T, .int .i64 B] 74)).heap.size ∧ w3.heap.size < (w3.alloc (.cells #[.int .i64 S, .int .i64 T, .int .i64 B] 74)).heap.size ∧ Below w.heap.size w (w3.alloc (.cells #[.int .i64 S, .int .i64 T, .int .i64 B] 74)) := ⟨by simp [go_sem, *], by simp [go_sem, *], by simp [go_sem, *], by simp [go_sem], by simp [go_sem], by simp [go_sem], by first | omega | (simp; omega), by first | omega | (simp; done) | (simp; omega), (by repeat (first | exact HBw3.out | exact Below.refl _ _ | refine bl_alloc ?_ _ | refine bl_drewN ?_ _ | refine bl_trans (by assumption) ?_ | refine bl_set ?_ (by first | omega | (simp; done) | (simp; omega)) _))⟩
    generalize (w3.alloc (.cells #[.int .i64 S, .int .i64 T, .int .i64 B] 74)) = wz at *
    clear kw3_0_0 kw3_0_1 kw3_0_2 sw3_0 kw3_1_0 kw3_1_1 kw3_1_2 sw3_1
    go_region_held3 (fun w' => w'.cell? ⟨w.heap.size + 1, 0, none⟩ = some (.int .i64 j) ∧ w'.cell? ⟨w.heap.size + 1, 1, none⟩ = some (.int .i64 q) ∧ w'.cell? ⟨w.heap.size + 1, 2, none⟩ = some (.int .i64 t) ∧ w'.cell? ⟨w3.heap.size, 0, none⟩ = some (.int .i64 S) ∧ w'.cell? ⟨w3.heap.size, 1, none⟩ = some (.int .i64 T) ∧ w'.cell? ⟨w3.heap.size, 2, none⟩ = some (.int .i64 B) ∧ w.heap.size + 1 < w'.heap.size ∧ w3.heap.size < w'.heap.size ∧ Below w.heap.size w w') (first | exact S8_after hb5 (by assumption) | exact S8_after (below_drewN (Below.refl _ _) _) (by assumption) | exact S8_after (Below.drew (Below.refl _ _)) (by assumption) | assumption) (first | (go_at_call 51; refine ((HL _).out).mono ?_; rintro e w5 ⟨rfl, hb5⟩) | (go_at_call 28; refine ((HT2 _).out).mono ?_; rintro e w5 ⟨rfl, hb5⟩))
    have hfin := last9 (by assumption)
    obtain ⟨kS, kT, kB, kz⟩ := mid3 (by assumption)
    go_wp2_with fail
    go_wp2
    ((try simp only [Exit.inBlock, Exit.then]); refine bodyPost_ret (results_tmp5 rfl _ _ _) rfl ?_)
    exact ⟨by rw [HO.out]; rfl, hfin⟩
  · obtain ⟨e1, e2⟩ := eqOk_true hq
    have e3 := eqG_bd (g := G) (k := 40000000) (by omega) (by omega)
    have e4 := eqM_bd (m := M) (g := G) (k := 40000000) (by omega) (by omega)
    have n0 := ln_bd (n := eqM M G) (a := eqG G) e2 e1
    have n1 := ld_bd (n := eqM M G) (a := eqG G) e2 e1
    have n2 := ld_pos (n := eqM M G) (a := eqG G) e1
    rw [hq] at HL hA
    have HZ := fun n => Lib.hid (show Z true n = n from rfl)
    rw [(HZ _).out, (HZ _).out] at HL
    have hd : okMt (true && true) M G S T = decide (0 ≤ S * ld (eqM M G) (eqG G) + T * ln (eqM M G) (eqG G)) := hA
    clear hA hq
    generalize eqM M G = P at *
    generalize eqG G = Q at *
    have HD := Lib.hid hd
    clear hd
    generalize ln P Q = NN at *
    generalize ld P Q = DD at *
    have HO0 := HD.out
    clear HD
    obtain ⟨r1, r2⟩ := mul_abs (a := S) (b := DD) (m := 100000) (k := 40000000) (by omega) (by omega) (by omega) (by omega)
    obtain ⟨r3, r4⟩ := mul_abs (a := T) (b := NN) (m := 100000) (k := 40000000) (by omega) (by omega) (by omega) (by omega)
    obtain ⟨r5, r6⟩ := mul_bd2 (a := B) (b := DD) (m := 200) (k := 40000000) (by omega) (by omega) (by omega) (by omega)
    have r7 : 1 ≤ B * DD := by
      have := Int.mul_le_mul c5 n2 (by omega) (by omega)
      omega
    have HL2 := fun W => Lib.hid (toldFraction_int (S * DD + T * NN) (B * DD) (by omega) (by omega) (by omega) (by omega) W)
    by_cases hz : 0 ≤ S * DD + T * NN
    · have HO := Lib.hid (show okMt (true && true) M G S T = true by rw [HO0, decide_eq_true hz])
      rw [lnI_nat _ hz, ldI_nat _ hz] at HL2
      have b0 := (ln_bd (n := S * DD + T * NN) (a := B * DD) hz r7).1
      have b1 : ¬ ln (S * DD + T * NN) (B * DD) < 0 := by omega
      clear HO0 hz
      generalize ln (S * DD + T * NN) (B * DD) = U at *
      generalize ld (S * DD + T * NN) (B * DD) = V at *
      go_enter Try.func27, Try.ntmps27
      go_wp2_with fail
      refine (impl_IsWalker _ _ _ _ _).mono ?_
      rintro e w1 ⟨rfl, hbw1⟩
      obtain ⟨hcw1, hfw1⟩ := bcell hbw1
      have hzw1 := bsize hbw1
      (try simp only [World.size_alloc, World.size_setCell] at hzw1)
      have kw1_0_0 : w1.cell? ⟨w.heap.size, 0, none⟩ = some (.int .i64 h) := by rw [hcw1 _ _ (by first | (simp; done) | omega | (simp; omega))]; first | assumption | (simp [go_sem]; done) | (simp [go_sem]; done) | (simp [go_sem, *]; done)
      have kw1_0_1 : w1.cell? ⟨w.heap.size, 1, none⟩ = some (.int .i64 p) := by rw [hcw1 _ _ (by first | (simp; done) | omega | (simp; omega))]; first | assumption | (simp [go_sem]; done) | (simp [go_sem]; done) | (simp [go_sem, *]; done)
      have kw1_0_2 : w1.cell? ⟨w.heap.size, 2, none⟩ = some (.int .i64 s) := by rw [hcw1 _ _ (by first | (simp; done) | omega | (simp; omega))]; first | assumption | (simp [go_sem]; done) | (simp [go_sem]; done) | (simp [go_sem, *]; done)
      have sw1_0 : w.heap.size < w1.heap.size := by first | omega | (simp at *; omega)
      have kw1_1_0 : w1.cell? ⟨w.heap.size + 1, 0, none⟩ = some (.int .i64 j) := by rw [hcw1 _ _ (by first | (simp; done) | omega | (simp; omega))]; first | assumption | (simp [go_sem]; done) | (simp [go_sem]; done) | (simp [go_sem, *]; done)
      have kw1_1_1 : w1.cell? ⟨w.heap.size + 1, 1, none⟩ = some (.int .i64 q) := by rw [hcw1 _ _ (by first | (simp; done) | omega | (simp; omega))]; first | assumption | (simp [go_sem]; done) | (simp [go_sem]; done) | (simp [go_sem, *]; done)
      have kw1_1_2 : w1.cell? ⟨w.heap.size + 1, 2, none⟩ = some (.int .i64 t) := by rw [hcw1 _ _ (by first | (simp; done) | omega | (simp; omega))]; first | assumption | (simp [go_sem]; done) | (simp [go_sem]; done) | (simp [go_sem, *]; done)
      have sw1_1 : w.heap.size + 1 < w1.heap.size := by first | omega | (simp at *; omega)
      have hBw1 : Below w.heap.size w w1 := (by repeat (first | exact Below.refl _ _ | refine bl_alloc ?_ _ | refine bl_drewN ?_ _ | refine bl_trans (by assumption) ?_ | refine bl_set ?_ (by first | omega | (simp; done) | (simp; omega)) _))
      have HBw1 := Lib.hid hBw1
      clear hBw1 hcw1 hfw1 hbw1
      rw [h1]
      go_wp2_with fail
      refine (impl_IsWalker _ _ _ _ _).mono ?_
      rintro e w2 ⟨rfl, hbw2⟩
      obtain ⟨hcw2, hfw2⟩ := bcell hbw2
      have hzw2 := bsize hbw2
      (try simp only [World.size_alloc, World.size_setCell] at hzw2)
      have hkw2 : Below w1.heap.size w1 w2 := (by repeat (first | exact Below.refl _ _ | refine bl_alloc ?_ _ | refine bl_drewN ?_ _ | refine bl_trans (by assumption) ?_ | refine bl_set ?_ (by first | omega | (simp; done) | (simp; omega)) _))
      have kw2_0_0 : w2.cell? ⟨w.heap.size, 0, none⟩ = some (.int .i64 h) := cell_after hkw2 sw1_0 kw1_0_0
      have kw2_0_1 : w2.cell? ⟨w.heap.size, 1, none⟩ = some (.int .i64 p) := cell_after hkw2 sw1_0 kw1_0_1
      have kw2_0_2 : w2.cell? ⟨w.heap.size, 2, none⟩ = some (.int .i64 s) := cell_after hkw2 sw1_0 kw1_0_2
      have sw2_0 : w.heap.size < w2.heap.size := size_after hkw2 sw1_0
      have kw2_1_0 : w2.cell? ⟨w.heap.size + 1, 0, none⟩ = some (.int .i64 j) := cell_after hkw2 sw1_1 kw1_1_0
      have kw2_1_1 : w2.cell? ⟨w.heap.size + 1, 1, none⟩ = some (.int .i64 q) := cell_after hkw2 sw1_1 kw1_1_1
      have kw2_1_2 : w2.cell? ⟨w.heap.size + 1, 2, none⟩ = some (.int .i64 t) := cell_after hkw2 sw1_1 kw1_1_2
      have sw2_1 : w.heap.size + 1 < w2.heap.size := size_after hkw2 sw1_1
      have hBw2 : Below w.heap.size w w2 := (by repeat (first | exact HBw1.out | exact Below.refl _ _ | refine bl_alloc ?_ _ | refine bl_drewN ?_ _ | refine bl_trans (by assumption) ?_ | refine bl_set ?_ (by first | omega | (simp; done) | (simp; omega)) _))
      have HBw2 := Lib.hid hBw2
      clear hBw2 hcw2 hfw2 hbw2 hkw2 kw1_0_0 kw1_0_1 kw1_0_2 sw1_0 kw1_1_0 kw1_1_1 kw1_1_2 sw1_1
      rw [h2]
      go_wp2_with fail
      refine ((HT _).out).mono ?_
      rintro e w3 ⟨rfl, hbw3⟩
      obtain ⟨hcw3, hfw3⟩ := bcell hbw3
      have hzw3 := bsize hbw3
      (try simp only [World.size_alloc, World.size_setCell] at hzw3)
      have hkw3 : Below w2.heap.size w2 w3 := (by repeat (first | exact Below.refl _ _ | refine bl_alloc ?_ _ | refine bl_drewN ?_ _ | refine bl_trans (by assumption) ?_ | refine bl_set ?_ (by first | omega | (simp; done) | (simp; omega)) _))
      have kw3_0_0 : w3.cell? ⟨w.heap.size, 0, none⟩ = some (.int .i64 h) := cell_after hkw3 sw2_0 kw2_0_0
      have kw3_0_1 : w3.cell? ⟨w.heap.size, 1, none⟩ = some (.int .i64 p) := cell_after hkw3 sw2_0 kw2_0_1
      have kw3_0_2 : w3.cell? ⟨w.heap.size, 2, none⟩ = some (.int .i64 s) := cell_after hkw3 sw2_0 kw2_0_2
      have sw3_0 : w.heap.size < w3.heap.size := size_after hkw3 sw2_0
      have kw3_1_0 : w3.cell? ⟨w.heap.size + 1, 0, none⟩ = some (.int .i64 j) := cell_after hkw3 sw2_1 kw2_1_0
      have kw3_1_1 : w3.cell? ⟨w.heap.size + 1, 1, none⟩ = some (.int .i64 q) := cell_after hkw3 sw2_1 kw2_1_1
      have kw3_1_2 : w3.cell? ⟨w.heap.size + 1, 2, none⟩ = some (.int .i64 t) := cell_after hkw3 sw2_1 kw2_1_2
      have sw3_1 : w.heap.size + 1 < w3.heap.size := size_after hkw3 sw2_1
      have hBw3 : Below w.heap.size w w3 := (by repeat (first | exact HBw2.out | exact Below.refl _ _ | refine bl_alloc ?_ _ | refine bl_drewN ?_ _ | refine bl_trans (by assumption) ?_ | refine bl_set ?_ (by first | omega | (simp; done) | (simp; omega)) _))
      have HBw3 := Lib.hid hBw3
      clear hBw3 hcw3 hfw3 hbw3 hkw3 kw2_0_0 kw2_0_1 kw2_0_2 sw2_0 kw2_1_0 kw2_1_1 kw2_1_2 sw2_1
      go_wp2_with fail
      have hS : (w3.alloc (.cells #[.int .i64 S, .int .i64 T, .int .i64 B] 74)).cell? ⟨w.heap.size + 1, 0, none⟩ = some (.int .i64 j) ∧ (w3.alloc (.cells #[.int .i64 S, .int .i64 T, .int .i64 B] 74)).cell? ⟨w.heap.size + 1, 1, none⟩ = some (.int .i64 q) ∧ (w3.alloc (.cells #[.int .i64 S, .int .i64 T, .int .i64 B] 74)).cell? ⟨w.heap.size + 1, 2, none⟩ = some (.int .i64 t) ∧ (w3.alloc (.cells #[.int .i64 S, .int .i64 T, .int .i64 B] 74)).cell? ⟨w3.heap.size, 0, none⟩ = some (.int .i64 S) ∧ (w3.alloc (.cells #[.int .i64 S, .int .i64 T, .int .i64 B] 74)).cell? ⟨w3.heap.size, 1, none⟩ = some (.int .i64 T) ∧ (w3.alloc (.cells #[.int .i64 S, .int .i64 T, .int .i64 B] 74)).cell? ⟨w3.heap.size, 2, none⟩ = some (.int .i64 B) ∧ w.heap.size + 1 < (w3.alloc (.cells #[.int .i64 S, .int .i64 T, .int .i64 B] 74)).heap.size ∧ w3.heap.size < (w3.alloc (.cells #[.int .i64 S, .int .i64 T, .int .i64 B] 74)).heap.size ∧ Below w.heap.size w (w3.alloc (.cells #[.int .i64 S, .int .i64 T, .int .i64 B] 74)) := ⟨by simp [go_sem, *], by simp [go_sem, *], by simp [go_sem, *], by simp [go_sem], by simp [go_sem], by simp [go_sem], by first | omega | (simp; omega), by first | omega | (simp; done) | (simp; omega), (by repeat (first | exact HBw3.out | exact Below.refl _ _ | refine bl_alloc ?_ _ | refine bl_drewN ?_ _ | refine bl_trans (by assumption) ?_ | refine bl_set ?_ (by first | omega | (simp; done) | (simp; omega)) _))⟩
      generalize (w3.alloc (.cells #[.int .i64 S, .int .i64 T, .int .i64 B] 74)) = wz at *
      clear kw3_0_0 kw3_0_1 kw3_0_2 sw3_0 kw3_1_0 kw3_1_1 kw3_1_2 sw3_1
      go_region_held3 (fun w' => w'.cell? ⟨w.heap.size + 1, 0, none⟩ = some (.int .i64 j) ∧ w'.cell? ⟨w.heap.size + 1, 1, none⟩ = some (.int .i64 q) ∧ w'.cell? ⟨w.heap.size + 1, 2, none⟩ = some (.int .i64 t) ∧ w'.cell? ⟨w3.heap.size, 0, none⟩ = some (.int .i64 S) ∧ w'.cell? ⟨w3.heap.size, 1, none⟩ = some (.int .i64 T) ∧ w'.cell? ⟨w3.heap.size, 2, none⟩ = some (.int .i64 B) ∧ w.heap.size + 1 < w'.heap.size ∧ w3.heap.size < w'.heap.size ∧ Below w.heap.size w w') (first | exact S8_after hb5 (by assumption) | exact S8_after (below_drewN (Below.refl _ _) _) (by assumption) | exact S8_after (Below.drew (Below.refl _ _)) (by assumption) | assumption) (first | (go_at_call 51; refine ((HL _).out).mono ?_; rintro e w5 ⟨rfl, hb5⟩) | (go_at_call 28; refine ((HT2 _).out).mono ?_; rintro e w5 ⟨rfl, hb5⟩))
      have hfin := last9 (by assumption)
      obtain ⟨kS, kT, kB, kz⟩ := mid3 (by assumption)
      go_wp2_with fail
      refine ((HL2 _).out).mono ?_
      rintro e w' ⟨rfl, nn, rfl⟩
      go_wp2
      ((try simp only [Exit.inBlock, Exit.then]); refine bodyPost_ret (results_tmp5 rfl _ _ _) rfl ?_)
      exact ⟨by rw [HO.out]; rfl, bl_drewN hfin _⟩
    · have HO := Lib.hid (show okMt (true && true) M G S T = false by rw [HO0, decide_eq_false hz])
      have b1 := lnI_neg (n := S * DD + T * NN) (a := B * DD) (by omega)
      clear HO0 hz
      generalize lnI (S * DD + T * NN) (B * DD) = U at *
      generalize ldI (S * DD + T * NN) (B * DD) = V at *
      go_enter Try.func27, Try.ntmps27
      go_wp2_with fail
      refine (impl_IsWalker _ _ _ _ _).mono ?_
      rintro e w1 ⟨rfl, hbw1⟩
      obtain ⟨hcw1, hfw1⟩ := bcell hbw1
      have hzw1 := bsize hbw1
      (try simp only [World.size_alloc, World.size_setCell] at hzw1)
      have kw1_0_0 : w1.cell? ⟨w.heap.size, 0, none⟩ = some (.int .i64 h) := by rw [hcw1 _ _ (by first | (simp; done) | omega | (simp; omega))]; first | assumption | (simp [go_sem]; done) | (simp [go_sem]; done) | (simp [go_sem, *]; done)
      have kw1_0_1 : w1.cell? ⟨w.heap.size, 1, none⟩ = some (.int .i64 p) := by rw [hcw1 _ _ (by first | (simp; done) | omega | (simp; omega))]; first | assumption | (simp [go_sem]; done) | (simp [go_sem]; done) | (simp [go_sem, *]; done)
      have kw1_0_2 : w1.cell? ⟨w.heap.size, 2, none⟩ = some (.int .i64 s) := by rw [hcw1 _ _ (by first | (simp; done) | omega | (simp; omega))]; first | assumption | (simp [go_sem]; done) | (simp [go_sem]; done) | (simp [go_sem, *]; done)
      have sw1_0 : w.heap.size < w1.heap.size := by first | omega | (simp at *; omega)
      have kw1_1_0 : w1.cell? ⟨w.heap.size + 1, 0, none⟩ = some (.int .i64 j) := by rw [hcw1 _ _ (by first | (simp; done) | omega | (simp; omega))]; first | assumption | (simp [go_sem]; done) | (simp [go_sem]; done) | (simp [go_sem, *]; done)
      have kw1_1_1 : w1.cell? ⟨w.heap.size + 1, 1, none⟩ = some (.int .i64 q) := by rw [hcw1 _ _ (by first | (simp; done) | omega | (simp; omega))]; first | assumption | (simp [go_sem]; done) | (simp [go_sem]; done) | (simp [go_sem, *]; done)
      have kw1_1_2 : w1.cell? ⟨w.heap.size + 1, 2, none⟩ = some (.int .i64 t) := by rw [hcw1 _ _ (by first | (simp; done) | omega | (simp; omega))]; first | assumption | (simp [go_sem]; done) | (simp [go_sem]; done) | (simp [go_sem, *]; done)
      have sw1_1 : w.heap.size + 1 < w1.heap.size := by first | omega | (simp at *; omega)
      have hBw1 : Below w.heap.size w w1 := (by repeat (first | exact Below.refl _ _ | refine bl_alloc ?_ _ | refine bl_drewN ?_ _ | refine bl_trans (by assumption) ?_ | refine bl_set ?_ (by first | omega | (simp; done) | (simp; omega)) _))
      have HBw1 := Lib.hid hBw1
      clear hBw1 hcw1 hfw1 hbw1
      rw [h1]
      go_wp2_with fail
      refine (impl_IsWalker _ _ _ _ _).mono ?_
      rintro e w2 ⟨rfl, hbw2⟩
      obtain ⟨hcw2, hfw2⟩ := bcell hbw2
      have hzw2 := bsize hbw2
      (try simp only [World.size_alloc, World.size_setCell] at hzw2)
      have hkw2 : Below w1.heap.size w1 w2 := (by repeat (first | exact Below.refl _ _ | refine bl_alloc ?_ _ | refine bl_drewN ?_ _ | refine bl_trans (by assumption) ?_ | refine bl_set ?_ (by first | omega | (simp; done) | (simp; omega)) _))
      have kw2_0_0 : w2.cell? ⟨w.heap.size, 0, none⟩ = some (.int .i64 h) := cell_after hkw2 sw1_0 kw1_0_0
      have kw2_0_1 : w2.cell? ⟨w.heap.size, 1, none⟩ = some (.int .i64 p) := cell_after hkw2 sw1_0 kw1_0_1
      have kw2_0_2 : w2.cell? ⟨w.heap.size, 2, none⟩ = some (.int .i64 s) := cell_after hkw2 sw1_0 kw1_0_2
      have sw2_0 : w.heap.size < w2.heap.size := size_after hkw2 sw1_0
      have kw2_1_0 : w2.cell? ⟨w.heap.size + 1, 0, none⟩ = some (.int .i64 j) := cell_after hkw2 sw1_1 kw1_1_0
      have kw2_1_1 : w2.cell? ⟨w.heap.size + 1, 1, none⟩ = some (.int .i64 q) := cell_after hkw2 sw1_1 kw1_1_1
      have kw2_1_2 : w2.cell? ⟨w.heap.size + 1, 2, none⟩ = some (.int .i64 t) := cell_after hkw2 sw1_1 kw1_1_2
      have sw2_1 : w.heap.size + 1 < w2.heap.size := size_after hkw2 sw1_1
      have hBw2 : Below w.heap.size w w2 := (by repeat (first | exact HBw1.out | exact Below.refl _ _ | refine bl_alloc ?_ _ | refine bl_drewN ?_ _ | refine bl_trans (by assumption) ?_ | refine bl_set ?_ (by first | omega | (simp; done) | (simp; omega)) _))
      have HBw2 := Lib.hid hBw2
      clear hBw2 hcw2 hfw2 hbw2 hkw2 kw1_0_0 kw1_0_1 kw1_0_2 sw1_0 kw1_1_0 kw1_1_1 kw1_1_2 sw1_1
      rw [h2]
      go_wp2_with fail
      refine ((HT _).out).mono ?_
      rintro e w3 ⟨rfl, hbw3⟩
      obtain ⟨hcw3, hfw3⟩ := bcell hbw3
      have hzw3 := bsize hbw3
      (try simp only [World.size_alloc, World.size_setCell] at hzw3)
      have hkw3 : Below w2.heap.size w2 w3 := (by repeat (first | exact Below.refl _ _ | refine bl_alloc ?_ _ | refine bl_drewN ?_ _ | refine bl_trans (by assumption) ?_ | refine bl_set ?_ (by first | omega | (simp; done) | (simp; omega)) _))
      have kw3_0_0 : w3.cell? ⟨w.heap.size, 0, none⟩ = some (.int .i64 h) := cell_after hkw3 sw2_0 kw2_0_0
      have kw3_0_1 : w3.cell? ⟨w.heap.size, 1, none⟩ = some (.int .i64 p) := cell_after hkw3 sw2_0 kw2_0_1
      have kw3_0_2 : w3.cell? ⟨w.heap.size, 2, none⟩ = some (.int .i64 s) := cell_after hkw3 sw2_0 kw2_0_2
      have sw3_0 : w.heap.size < w3.heap.size := size_after hkw3 sw2_0
      have kw3_1_0 : w3.cell? ⟨w.heap.size + 1, 0, none⟩ = some (.int .i64 j) := cell_after hkw3 sw2_1 kw2_1_0
      have kw3_1_1 : w3.cell? ⟨w.heap.size + 1, 1, none⟩ = some (.int .i64 q) := cell_after hkw3 sw2_1 kw2_1_1
      have kw3_1_2 : w3.cell? ⟨w.heap.size + 1, 2, none⟩ = some (.int .i64 t) := cell_after hkw3 sw2_1 kw2_1_2
      have sw3_1 : w.heap.size + 1 < w3.heap.size := size_after hkw3 sw2_1
      have hBw3 : Below w.heap.size w w3 := (by repeat (first | exact HBw2.out | exact Below.refl _ _ | refine bl_alloc ?_ _ | refine bl_drewN ?_ _ | refine bl_trans (by assumption) ?_ | refine bl_set ?_ (by first | omega | (simp; done) | (simp; omega)) _))
      have HBw3 := Lib.hid hBw3
      clear hBw3 hcw3 hfw3 hbw3 hkw3 kw2_0_0 kw2_0_1 kw2_0_2 sw2_0 kw2_1_0 kw2_1_1 kw2_1_2 sw2_1
      go_wp2_with fail
      have hS : (w3.alloc (.cells #[.int .i64 S, .int .i64 T, .int .i64 B] 74)).cell? ⟨w.heap.size + 1, 0, none⟩ = some (.int .i64 j) ∧ (w3.alloc (.cells #[.int .i64 S, .int .i64 T, .int .i64 B] 74)).cell? ⟨w.heap.size + 1, 1, none⟩ = some (.int .i64 q) ∧ (w3.alloc (.cells #[.int .i64 S, .int .i64 T, .int .i64 B] 74)).cell? ⟨w.heap.size + 1, 2, none⟩ = some (.int .i64 t) ∧ (w3.alloc (.cells #[.int .i64 S, .int .i64 T, .int .i64 B] 74)).cell? ⟨w3.heap.size, 0, none⟩ = some (.int .i64 S) ∧ (w3.alloc (.cells #[.int .i64 S, .int .i64 T, .int .i64 B] 74)).cell? ⟨w3.heap.size, 1, none⟩ = some (.int .i64 T) ∧ (w3.alloc (.cells #[.int .i64 S, .int .i64 T, .int .i64 B] 74)).cell? ⟨w3.heap.size, 2, none⟩ = some (.int .i64 B) ∧ w.heap.size + 1 < (w3.alloc (.cells #[.int .i64 S, .int .i64 T, .int .i64 B] 74)).heap.size ∧ w3.heap.size < (w3.alloc (.cells #[.int .i64 S, .int .i64 T, .int .i64 B] 74)).heap.size ∧ Below w.heap.size w (w3.alloc (.cells #[.int .i64 S, .int .i64 T, .int .i64 B] 74)) := ⟨by simp [go_sem, *], by simp [go_sem, *], by simp [go_sem, *], by simp [go_sem], by simp [go_sem], by simp [go_sem], by first | omega | (simp; omega), by first | omega | (simp; done) | (simp; omega), (by repeat (first | exact HBw3.out | exact Below.refl _ _ | refine bl_alloc ?_ _ | refine bl_drewN ?_ _ | refine bl_trans (by assumption) ?_ | refine bl_set ?_ (by first | omega | (simp; done) | (simp; omega)) _))⟩
      generalize (w3.alloc (.cells #[.int .i64 S, .int .i64 T, .int .i64 B] 74)) = wz at *
      clear kw3_0_0 kw3_0_1 kw3_0_2 sw3_0 kw3_1_0 kw3_1_1 kw3_1_2 sw3_1
      go_region_held3 (fun w' => w'.cell? ⟨w.heap.size + 1, 0, none⟩ = some (.int .i64 j) ∧ w'.cell? ⟨w.heap.size + 1, 1, none⟩ = some (.int .i64 q) ∧ w'.cell? ⟨w.heap.size + 1, 2, none⟩ = some (.int .i64 t) ∧ w'.cell? ⟨w3.heap.size, 0, none⟩ = some (.int .i64 S) ∧ w'.cell? ⟨w3.heap.size, 1, none⟩ = some (.int .i64 T) ∧ w'.cell? ⟨w3.heap.size, 2, none⟩ = some (.int .i64 B) ∧ w.heap.size + 1 < w'.heap.size ∧ w3.heap.size < w'.heap.size ∧ Below w.heap.size w w') (first | exact S8_after hb5 (by assumption) | exact S8_after (below_drewN (Below.refl _ _) _) (by assumption) | exact S8_after (Below.drew (Below.refl _ _)) (by assumption) | assumption) (first | (go_at_call 51; refine ((HL _).out).mono ?_; rintro e w5 ⟨rfl, hb5⟩) | (go_at_call 28; refine ((HT2 _).out).mono ?_; rintro e w5 ⟨rfl, hb5⟩))
      have hfin := last9 (by assumption)
      obtain ⟨kS, kT, kB, kz⟩ := mid3 (by assumption)
      go_wp2_with fail
      refine ((HL2 _).out).mono ?_
      rintro e w' ⟨rfl, nn, rfl⟩
      go_wp2
      ((try simp only [Exit.inBlock, Exit.then]); refine bodyPost_ret (results_tmp5 rfl _ _ _) rfl ?_)
      exact ⟨by rw [HO.out]; rfl, bl_drewN hfin _⟩
set_option maxHeartbeats 4000000 in
theorem meeting_foot (l h p s j q t : Int) (S T B X Y C : Int) (hF : okWk l h p s = true → Tells 33 h p s l S T B) (hB : okWk l h p s = true → Fits p s 0 S T B) (hF2 : okWk l j q t = true → Tells 33 j q t l X Y C) (hB2 : okWk l j q t = true → Fits q t 0 X Y C) (w : World) :
    Calls Try.prog 27 #[.int .i64 l, .agg #[.int .i64 h, .int .i64 p, .int .i64 s], .agg #[.int .i64 j, .int .i64 q, .int .i64 t], fnv 33] w fun e w' => e = .returned (.tuple #[.int .i64 (Z (okMt (okWk l h p s && okWk l j q t) (X * B - S * C) (T * C - Y * B) S T) (ln (eqM (X * B - S * C) (T * C - Y * B)) (eqG (T * C - Y * B)))), .int .i64 (Z (okMt (okWk l h p s && okWk l j q t) (X * B - S * C) (T * C - Y * B) S T) (ld (eqM (X * B - S * C) (T * C - Y * B)) (eqG (T * C - Y * B)))), .int .i64 (Z (okMt (okWk l h p s && okWk l j q t) (X * B - S * C) (T * C - Y * B) S T) (ln (S * ld (eqM (X * B - S * C) (T * C - Y * B)) (eqG (T * C - Y * B)) + T * ln (eqM (X * B - S * C) (T * C - Y * B)) (eqG (T * C - Y * B))) (B * ld (eqM (X * B - S * C) (T * C - Y * B)) (eqG (T * C - Y * B))))), .int .i64 (Z (okMt (okWk l h p s && okWk l j q t) (X * B - S * C) (T * C - Y * B) S T) (ld (S * ld (eqM (X * B - S * C) (T * C - Y * B)) (eqG (T * C - Y * B)) + T * ln (eqM (X * B - S * C) (T * C - Y * B)) (eqG (T * C - Y * B))) (B * ld (eqM (X * B - S * C) (T * C - Y * B)) (eqG (T * C - Y * B))))), .bool (okMt (okWk l h p s && okWk l j q t) (X * B - S * C) (T * C - Y * B) S T)]) ∧ Below w.heap.size w w' := by
  have hA : okMt (okWk l h p s && okWk l j q t) (X * B - S * C) (T * C - Y * B) S T = (okWk l h p s && okWk l j q t && (eqOk (X * B - S * C) (T * C - Y * B) && decide (0 ≤ S * ld (eqM (X * B - S * C) (T * C - Y * B)) (eqG (T * C - Y * B)) + T * ln (eqM (X * B - S * C) (T * C - Y * B)) (eqG (T * C - Y * B))))) := rfl
  cases h1 : okWk l h p s
  · have HO := Lib.hid (show okMt (false && okWk l j q t) (X * B - S * C) (T * C - Y * B) S T = false from rfl)
    clear hA hF hB hF2 hB2
    go_enter Try.func27, Try.ntmps27
    go_wp2_with fail
    refine (impl_IsWalker _ _ _ _ _).mono ?_
    rintro e w1 ⟨rfl, hbw1⟩
    obtain ⟨hcw1, hfw1⟩ := bcell hbw1
    have hzw1 := bsize hbw1
    (try simp only [World.size_alloc, World.size_setCell] at hzw1)
    have kw1_0_0 : w1.cell? ⟨w.heap.size, 0, none⟩ = some (.int .i64 h) := by rw [hcw1 _ _ (by first | (simp; done) | omega | (simp; omega))]; first | assumption | (simp [go_sem]; done) | (simp [go_sem]; done) | (simp [go_sem, *]; done)
    have kw1_0_1 : w1.cell? ⟨w.heap.size, 1, none⟩ = some (.int .i64 p) := by rw [hcw1 _ _ (by first | (simp; done) | omega | (simp; omega))]; first | assumption | (simp [go_sem]; done) | (simp [go_sem]; done) | (simp [go_sem, *]; done)
    have kw1_0_2 : w1.cell? ⟨w.heap.size, 2, none⟩ = some (.int .i64 s) := by rw [hcw1 _ _ (by first | (simp; done) | omega | (simp; omega))]; first | assumption | (simp [go_sem]; done) | (simp [go_sem]; done) | (simp [go_sem, *]; done)
    have sw1_0 : w.heap.size < w1.heap.size := by first | omega | (simp at *; omega)
    have kw1_1_0 : w1.cell? ⟨w.heap.size + 1, 0, none⟩ = some (.int .i64 j) := by rw [hcw1 _ _ (by first | (simp; done) | omega | (simp; omega))]; first | assumption | (simp [go_sem]; done) | (simp [go_sem]; done) | (simp [go_sem, *]; done)
    have kw1_1_1 : w1.cell? ⟨w.heap.size + 1, 1, none⟩ = some (.int .i64 q) := by rw [hcw1 _ _ (by first | (simp; done) | omega | (simp; omega))]; first | assumption | (simp [go_sem]; done) | (simp [go_sem]; done) | (simp [go_sem, *]; done)
    have kw1_1_2 : w1.cell? ⟨w.heap.size + 1, 2, none⟩ = some (.int .i64 t) := by rw [hcw1 _ _ (by first | (simp; done) | omega | (simp; omega))]; first | assumption | (simp [go_sem]; done) | (simp [go_sem]; done) | (simp [go_sem, *]; done)
    have sw1_1 : w.heap.size + 1 < w1.heap.size := by first | omega | (simp at *; omega)
    have hBw1 : Below w.heap.size w w1 := (by repeat (first | exact Below.refl _ _ | refine bl_alloc ?_ _ | refine bl_drewN ?_ _ | refine bl_trans (by assumption) ?_ | refine bl_set ?_ (by first | omega | (simp; done) | (simp; omega)) _))
    have HBw1 := Lib.hid hBw1
    clear hBw1 hcw1 hfw1 hbw1
    rw [h1]
    go_wp2
    ((try simp only [Exit.inBlock, Exit.then]); refine bodyPost_ret (results_tmp5 rfl _ _ _) rfl ?_)
    exact ⟨by rw [HO.out]; rfl, (by repeat (first | exact HBw1.out | exact Below.refl _ _ | refine bl_alloc ?_ _ | refine bl_drewN ?_ _ | refine bl_trans (by assumption) ?_ | refine bl_set ?_ (by first | omega | (simp; done) | (simp; omega)) _))⟩
  cases h2 : okWk l j q t
  · have HO := Lib.hid (show okMt (true && false) (X * B - S * C) (T * C - Y * B) S T = false from rfl)
    clear hA hF hB hF2 hB2
    go_enter Try.func27, Try.ntmps27
    go_wp2_with fail
    refine (impl_IsWalker _ _ _ _ _).mono ?_
    rintro e w1 ⟨rfl, hbw1⟩
    obtain ⟨hcw1, hfw1⟩ := bcell hbw1
    have hzw1 := bsize hbw1
    (try simp only [World.size_alloc, World.size_setCell] at hzw1)
    have kw1_0_0 : w1.cell? ⟨w.heap.size, 0, none⟩ = some (.int .i64 h) := by rw [hcw1 _ _ (by first | (simp; done) | omega | (simp; omega))]; first | assumption | (simp [go_sem]; done) | (simp [go_sem]; done) | (simp [go_sem, *]; done)
    have kw1_0_1 : w1.cell? ⟨w.heap.size, 1, none⟩ = some (.int .i64 p) := by rw [hcw1 _ _ (by first | (simp; done) | omega | (simp; omega))]; first | assumption | (simp [go_sem]; done) | (simp [go_sem]; done) | (simp [go_sem, *]; done)
    have kw1_0_2 : w1.cell? ⟨w.heap.size, 2, none⟩ = some (.int .i64 s) := by rw [hcw1 _ _ (by first | (simp; done) | omega | (simp; omega))]; first | assumption | (simp [go_sem]; done) | (simp [go_sem]; done) | (simp [go_sem, *]; done)
    have sw1_0 : w.heap.size < w1.heap.size := by first | omega | (simp at *; omega)
    have kw1_1_0 : w1.cell? ⟨w.heap.size + 1, 0, none⟩ = some (.int .i64 j) := by rw [hcw1 _ _ (by first | (simp; done) | omega | (simp; omega))]; first | assumption | (simp [go_sem]; done) | (simp [go_sem]; done) | (simp [go_sem, *]; done)
    have kw1_1_1 : w1.cell? ⟨w.heap.size + 1, 1, none⟩ = some (.int .i64 q) := by rw [hcw1 _ _ (by first | (simp; done) | omega | (simp; omega))]; first | assumption | (simp [go_sem]; done) | (simp [go_sem]; done) | (simp [go_sem, *]; done)
    have kw1_1_2 : w1.cell? ⟨w.heap.size + 1, 2, none⟩ = some (.int .i64 t) := by rw [hcw1 _ _ (by first | (simp; done) | omega | (simp; omega))]; first | assumption | (simp [go_sem]; done) | (simp [go_sem]; done) | (simp [go_sem, *]; done)
    have sw1_1 : w.heap.size + 1 < w1.heap.size := by first | omega | (simp at *; omega)
    have hBw1 : Below w.heap.size w w1 := (by repeat (first | exact Below.refl _ _ | refine bl_alloc ?_ _ | refine bl_drewN ?_ _ | refine bl_trans (by assumption) ?_ | refine bl_set ?_ (by first | omega | (simp; done) | (simp; omega)) _))
    have HBw1 := Lib.hid hBw1
    clear hBw1 hcw1 hfw1 hbw1
    rw [h1]
    go_wp2_with fail
    refine (impl_IsWalker _ _ _ _ _).mono ?_
    rintro e w2 ⟨rfl, hbw2⟩
    obtain ⟨hcw2, hfw2⟩ := bcell hbw2
    have hzw2 := bsize hbw2
    (try simp only [World.size_alloc, World.size_setCell] at hzw2)
    have hkw2 : Below w1.heap.size w1 w2 := (by repeat (first | exact Below.refl _ _ | refine bl_alloc ?_ _ | refine bl_drewN ?_ _ | refine bl_trans (by assumption) ?_ | refine bl_set ?_ (by first | omega | (simp; done) | (simp; omega)) _))
    have kw2_0_0 : w2.cell? ⟨w.heap.size, 0, none⟩ = some (.int .i64 h) := cell_after hkw2 sw1_0 kw1_0_0
    have kw2_0_1 : w2.cell? ⟨w.heap.size, 1, none⟩ = some (.int .i64 p) := cell_after hkw2 sw1_0 kw1_0_1
    have kw2_0_2 : w2.cell? ⟨w.heap.size, 2, none⟩ = some (.int .i64 s) := cell_after hkw2 sw1_0 kw1_0_2
    have sw2_0 : w.heap.size < w2.heap.size := size_after hkw2 sw1_0
    have kw2_1_0 : w2.cell? ⟨w.heap.size + 1, 0, none⟩ = some (.int .i64 j) := cell_after hkw2 sw1_1 kw1_1_0
    have kw2_1_1 : w2.cell? ⟨w.heap.size + 1, 1, none⟩ = some (.int .i64 q) := cell_after hkw2 sw1_1 kw1_1_1
    have kw2_1_2 : w2.cell? ⟨w.heap.size + 1, 2, none⟩ = some (.int .i64 t) := cell_after hkw2 sw1_1 kw1_1_2
    have sw2_1 : w.heap.size + 1 < w2.heap.size := size_after hkw2 sw1_1
    have hBw2 : Below w.heap.size w w2 := (by repeat (first | exact HBw1.out | exact Below.refl _ _ | refine bl_alloc ?_ _ | refine bl_drewN ?_ _ | refine bl_trans (by assumption) ?_ | refine bl_set ?_ (by first | omega | (simp; done) | (simp; omega)) _))
    have HBw2 := Lib.hid hBw2
    clear hBw2 hcw2 hfw2 hbw2 hkw2 kw1_0_0 kw1_0_1 kw1_0_2 sw1_0 kw1_1_0 kw1_1_1 kw1_1_2 sw1_1
    rw [h2]
    go_wp2
    ((try simp only [Exit.inBlock, Exit.then]); refine bodyPost_ret (results_tmp5 rfl _ _ _) rfl ?_)
    exact ⟨by rw [HO.out]; rfl, (by repeat (first | exact HBw2.out | exact Below.refl _ _ | refine bl_alloc ?_ _ | refine bl_drewN ?_ _ | refine bl_trans (by assumption) ?_ | refine bl_set ?_ (by first | omega | (simp; done) | (simp; omega)) _))⟩
  rw [h1, h2] at hA
  have HT := fun W => Lib.hid (hF h1 W)
  have HT2 := fun W => Lib.hid (hF2 h2 W)
  obtain ⟨c1, c2, c3, c4, c5, c6⟩ := hB h1
  obtain ⟨d1, d2, d3, d4, d5, d6⟩ := hB2 h2
  clear hF hB hF2 hB2
  have HL := fun W => Lib.hid (equals_any S T B X Y C (by omega) (by omega) (by omega) (by omega) (by omega) (by omega) (by omega) (by omega) (by omega) (by omega) (by omega) (by omega) W)
  obtain ⟨f1, f2⟩ := mul_abs (a := X) (b := B) (m := 100000) (k := 200) (by omega) (by omega) (by omega) (by omega)
  obtain ⟨f3, f4⟩ := mul_abs (a := S) (b := C) (m := 100000) (k := 200) (by omega) (by omega) (by omega) (by omega)
  obtain ⟨f5, f6⟩ := mul_abs (a := T) (b := C) (m := 100000) (k := 200) (by omega) (by omega) (by omega) (by omega)
  obtain ⟨f7, f8⟩ := mul_abs (a := Y) (b := B) (m := 100000) (k := 200) (by omega) (by omega) (by omega) (by omega)
  obtain ⟨M, hM⟩ : ∃ M, M = X * B - S * C := ⟨_, rfl⟩
  obtain ⟨G, hG⟩ : ∃ G, G = T * C - Y * B := ⟨_, rfl⟩
  have m1 : -40000000 ≤ M := by omega
  have m2 : M ≤ 40000000 := by omega
  have g1 : -40000000 ≤ G := by omega
  have g2 : G ≤ 40000000 := by omega
  rw [← hM, ← hG] at HL hA ⊢
  clear hM hG f1 f2 f3 f4 f5 f6 f7 f8
  cases hq : eqOk M G
  · rw [hq] at HL hA
    have HO := Lib.hid (show okMt (true && true) M G S T = false from hA)
    have HZ := fun n => Lib.hid (show Z false n = 0 from rfl)
    rw [(HZ _).out, (HZ _).out] at HL
    clear hA hq
    go_enter Try.func27, Try.ntmps27
    go_wp2_with fail
    refine (impl_IsWalker _ _ _ _ _).mono ?_
    rintro e w1 ⟨rfl, hbw1⟩
    obtain ⟨hcw1, hfw1⟩ := bcell hbw1
    have hzw1 := bsize hbw1
    (try simp only [World.size_alloc, World.size_setCell] at hzw1)
    have kw1_0_0 : w1.cell? ⟨w.heap.size, 0, none⟩ = some (.int .i64 h) := by rw [hcw1 _ _ (by first | (simp; done) | omega | (simp; omega))]; first | assumption | (simp [go_sem]; done) | (simp [go_sem]; done) | (simp [go_sem, *]; done)
    have kw1_0_1 : w1.cell? ⟨w.heap.size, 1, none⟩ = some (.int .i64 p) := by rw [hcw1 _ _ (by first | (simp; done) | omega | (simp; omega))]; first | assumption | (simp [go_sem]; done) | (simp [go_sem]; done) | (simp [go_sem, *]; done)
    have kw1_0_2 : w1.cell? ⟨w.heap.size, 2, none⟩ = some (.int .i64 s) := by rw [hcw1 _ _ (by first | (simp; done) | omega | (simp; omega))]; first | assumption | (simp [go_sem]; done) | (simp [go_sem]; done) | (simp [go_sem, *]; done)
    have sw1_0 : w.heap.size < w1.heap.size := by first | omega | (simp at *; omega)
    have kw1_1_0 : w1.cell? ⟨w.heap.size + 1, 0, none⟩ = some (.int .i64 j) := by rw [hcw1 _ _ (by first | (simp; done) | omega | (simp; omega))]; first | assumption | (simp [go_sem]; done) | (simp [go_sem]; done) | (simp [go_sem, *]; done)
    have kw1_1_1 : w1.cell? ⟨w.heap.size + 1, 1, none⟩ = some (.int .i64 q) := by rw [hcw1 _ _ (by first | (simp; done) | omega | (simp; omega))]; first | assumption | (simp [go_sem]; done) | (simp [go_sem]; done) | (simp [go_sem, *]; done)
    have kw1_1_2 : w1.cell? ⟨w.heap.size + 1, 2, none⟩ = some (.int .i64 t) := by rw [hcw1 _ _ (by first | (simp; done) | omega | (simp; omega))]; first | assumption | (simp [go_sem]; done) | (simp [go_sem]; done) | (simp [go_sem, *]; done)
    have sw1_1 : w.heap.size + 1 < w1.heap.size := by first | omega | (simp at *; omega)
    have hBw1 : Below w.heap.size w w1 := (by repeat (first | exact Below.refl _ _ | refine bl_alloc ?_ _ | refine bl_drewN ?_ _ | refine bl_trans (by assumption) ?_ | refine bl_set ?_ (by first | omega | (simp; done) | (simp; omega)) _))
    have HBw1 := Lib.hid hBw1
    clear hBw1 hcw1 hfw1 hbw1
    rw [h1]
    go_wp2_with fail
    refine (impl_IsWalker _ _ _ _ _).mono ?_
    rintro e w2 ⟨rfl, hbw2⟩
    obtain ⟨hcw2, hfw2⟩ := bcell hbw2
    have hzw2 := bsize hbw2
    (try simp only [World.size_alloc, World.size_setCell] at hzw2)
    have hkw2 : Below w1.heap.size w1 w2 := (by repeat (first | exact Below.refl _ _ | refine bl_alloc ?_ _ | refine bl_drewN ?_ _ | refine bl_trans (by assumption) ?_ | refine bl_set ?_ (by first | omega | (simp; done) | (simp; omega)) _))
    have kw2_0_0 : w2.cell? ⟨w.heap.size, 0, none⟩ = some (.int .i64 h) := cell_after hkw2 sw1_0 kw1_0_0
    have kw2_0_1 : w2.cell? ⟨w.heap.size, 1, none⟩ = some (.int .i64 p) := cell_after hkw2 sw1_0 kw1_0_1
    have kw2_0_2 : w2.cell? ⟨w.heap.size, 2, none⟩ = some (.int .i64 s) := cell_after hkw2 sw1_0 kw1_0_2
    have sw2_0 : w.heap.size < w2.heap.size := size_after hkw2 sw1_0
    have kw2_1_0 : w2.cell? ⟨w.heap.size + 1, 0, none⟩ = some (.int .i64 j) := cell_after hkw2 sw1_1 kw1_1_0
    have kw2_1_1 : w2.cell? ⟨w.heap.size + 1, 1, none⟩ = some (.int .i64 q) := cell_after hkw2 sw1_1 kw1_1_1
    have kw2_1_2 : w2.cell? ⟨w.heap.size + 1, 2, none⟩ = some (.int .i64 t) := cell_after hkw2 sw1_1 kw1_1_2
    have sw2_1 : w.heap.size + 1 < w2.heap.size := size_after hkw2 sw1_1
    have hBw2 : Below w.heap.size w w2 := (by repeat (first | exact HBw1.out | exact Below.refl _ _ | refine bl_alloc ?_ _ | refine bl_drewN ?_ _ | refine bl_trans (by assumption) ?_ | refine bl_set ?_ (by first | omega | (simp; done) | (simp; omega)) _))
    have HBw2 := Lib.hid hBw2
    clear hBw2 hcw2 hfw2 hbw2 hkw2 kw1_0_0 kw1_0_1 kw1_0_2 sw1_0 kw1_1_0 kw1_1_1 kw1_1_2 sw1_1
    rw [h2]
    go_wp2_with fail
    refine ((HT _).out).mono ?_
    rintro e w3 ⟨rfl, hbw3⟩
    obtain ⟨hcw3, hfw3⟩ := bcell hbw3
    have hzw3 := bsize hbw3
    (try simp only [World.size_alloc, World.size_setCell] at hzw3)
    have hkw3 : Below w2.heap.size w2 w3 := (by repeat (first | exact Below.refl _ _ | refine bl_alloc ?_ _ | refine bl_drewN ?_ _ | refine bl_trans (by assumption) ?_ | refine bl_set ?_ (by first | omega | (simp; done) | (simp; omega)) _))
    have kw3_0_0 : w3.cell? ⟨w.heap.size, 0, none⟩ = some (.int .i64 h) := cell_after hkw3 sw2_0 kw2_0_0
    have kw3_0_1 : w3.cell? ⟨w.heap.size, 1, none⟩ = some (.int .i64 p) := cell_after hkw3 sw2_0 kw2_0_1
    have kw3_0_2 : w3.cell? ⟨w.heap.size, 2, none⟩ = some (.int .i64 s) := cell_after hkw3 sw2_0 kw2_0_2
    have sw3_0 : w.heap.size < w3.heap.size := size_after hkw3 sw2_0
    have kw3_1_0 : w3.cell? ⟨w.heap.size + 1, 0, none⟩ = some (.int .i64 j) := cell_after hkw3 sw2_1 kw2_1_0
    have kw3_1_1 : w3.cell? ⟨w.heap.size + 1, 1, none⟩ = some (.int .i64 q) := cell_after hkw3 sw2_1 kw2_1_1
    have kw3_1_2 : w3.cell? ⟨w.heap.size + 1, 2, none⟩ = some (.int .i64 t) := cell_after hkw3 sw2_1 kw2_1_2
    have sw3_1 : w.heap.size + 1 < w3.heap.size := size_after hkw3 sw2_1
    have hBw3 : Below w.heap.size w w3 := (by repeat (first | exact HBw2.out | exact Below.refl _ _ | refine bl_alloc ?_ _ | refine bl_drewN ?_ _ | refine bl_trans (by assumption) ?_ | refine bl_set ?_ (by first | omega | (simp; done) | (simp; omega)) _))
    have HBw3 := Lib.hid hBw3
    clear hBw3 hcw3 hfw3 hbw3 hkw3 kw2_0_0 kw2_0_1 kw2_0_2 sw2_0 kw2_1_0 kw2_1_1 kw2_1_2 sw2_1
    go_wp2_with fail
    have hS : (w3.alloc (.cells #[.int .i64 S, .int .i64 T, .int .i64 B] 74)).cell? ⟨w.heap.size + 1, 0, none⟩ = some (.int .i64 j) ∧ (w3.alloc (.cells #[.int .i64 S, .int .i64 T, .int .i64 B] 74)).cell? ⟨w.heap.size + 1, 1, none⟩ = some (.int .i64 q) ∧ (w3.alloc (.cells #[.int .i64 S, .int .i64 T, .int .i64 B] 74)).cell? ⟨w.heap.size + 1, 2, none⟩ = some (.int .i64 t) ∧ (w3.alloc (.cells #[.int .i64 S, .int .i64 T, .int .i64 B] 74)).cell? ⟨w3.heap.size, 0, none⟩ = some (.int .i64 S) ∧ (w3.alloc (.cells #[.int .i64 S, .int .i64 T, .int .i64 B] 74)).cell? ⟨w3.heap.size, 1, none⟩ = some (.int .i64 T) ∧ (w3.alloc (.cells #[.int .i64 S, .int .i64 T, .int .i64 B] 74)).cell? ⟨w3.heap.size, 2, none⟩ = some (.int .i64 B) ∧ w.heap.size + 1 < (w3.alloc (.cells #[.int .i64 S, .int .i64 T, .int .i64 B] 74)).heap.size ∧ w3.heap.size < (w3.alloc (.cells #[.int .i64 S, .int .i64 T, .int .i64 B] 74)).heap.size ∧ Below w.heap.size w (w3.alloc (.cells #[.int .i64 S, .int .i64 T, .int .i64 B] 74)) := ⟨by simp [go_sem, *], by simp [go_sem, *], by simp [go_sem, *], by simp [go_sem], by simp [go_sem], by simp [go_sem], by first | omega | (simp; omega), by first | omega | (simp; done) | (simp; omega), (by repeat (first | exact HBw3.out | exact Below.refl _ _ | refine bl_alloc ?_ _ | refine bl_drewN ?_ _ | refine bl_trans (by assumption) ?_ | refine bl_set ?_ (by first | omega | (simp; done) | (simp; omega)) _))⟩
    generalize (w3.alloc (.cells #[.int .i64 S, .int .i64 T, .int .i64 B] 74)) = wz at *
    clear kw3_0_0 kw3_0_1 kw3_0_2 sw3_0 kw3_1_0 kw3_1_1 kw3_1_2 sw3_1
    go_region_held3 (fun w' => w'.cell? ⟨w.heap.size + 1, 0, none⟩ = some (.int .i64 j) ∧ w'.cell? ⟨w.heap.size + 1, 1, none⟩ = some (.int .i64 q) ∧ w'.cell? ⟨w.heap.size + 1, 2, none⟩ = some (.int .i64 t) ∧ w'.cell? ⟨w3.heap.size, 0, none⟩ = some (.int .i64 S) ∧ w'.cell? ⟨w3.heap.size, 1, none⟩ = some (.int .i64 T) ∧ w'.cell? ⟨w3.heap.size, 2, none⟩ = some (.int .i64 B) ∧ w.heap.size + 1 < w'.heap.size ∧ w3.heap.size < w'.heap.size ∧ Below w.heap.size w w') (first | exact S8_after hb5 (by assumption) | exact S8_after (below_drewN (Below.refl _ _) _) (by assumption) | exact S8_after (Below.drew (Below.refl _ _)) (by assumption) | assumption) (first | (go_at_call 51; refine ((HL _).out).mono ?_; rintro e w5 ⟨rfl, hb5⟩) | (go_at_call 33; refine ((HT2 _).out).mono ?_; rintro e w5 ⟨rfl, hb5⟩))
    have hfin := last9 (by assumption)
    obtain ⟨kS, kT, kB, kz⟩ := mid3 (by assumption)
    go_wp2_with fail
    go_wp2
    ((try simp only [Exit.inBlock, Exit.then]); refine bodyPost_ret (results_tmp5 rfl _ _ _) rfl ?_)
    exact ⟨by rw [HO.out]; rfl, hfin⟩
  · obtain ⟨e1, e2⟩ := eqOk_true hq
    have e3 := eqG_bd (g := G) (k := 40000000) (by omega) (by omega)
    have e4 := eqM_bd (m := M) (g := G) (k := 40000000) (by omega) (by omega)
    have n0 := ln_bd (n := eqM M G) (a := eqG G) e2 e1
    have n1 := ld_bd (n := eqM M G) (a := eqG G) e2 e1
    have n2 := ld_pos (n := eqM M G) (a := eqG G) e1
    rw [hq] at HL hA
    have HZ := fun n => Lib.hid (show Z true n = n from rfl)
    rw [(HZ _).out, (HZ _).out] at HL
    have hd : okMt (true && true) M G S T = decide (0 ≤ S * ld (eqM M G) (eqG G) + T * ln (eqM M G) (eqG G)) := hA
    clear hA hq
    generalize eqM M G = P at *
    generalize eqG G = Q at *
    have HD := Lib.hid hd
    clear hd
    generalize ln P Q = NN at *
    generalize ld P Q = DD at *
    have HO0 := HD.out
    clear HD
    obtain ⟨r1, r2⟩ := mul_abs (a := S) (b := DD) (m := 100000) (k := 40000000) (by omega) (by omega) (by omega) (by omega)
    obtain ⟨r3, r4⟩ := mul_abs (a := T) (b := NN) (m := 100000) (k := 40000000) (by omega) (by omega) (by omega) (by omega)
    obtain ⟨r5, r6⟩ := mul_bd2 (a := B) (b := DD) (m := 200) (k := 40000000) (by omega) (by omega) (by omega) (by omega)
    have r7 : 1 ≤ B * DD := by
      have := Int.mul_le_mul c5 n2 (by omega) (by omega)
      omega
    have HL2 := fun W => Lib.hid (toldFraction_int (S * DD + T * NN) (B * DD) (by omega) (by omega) (by omega) (by omega) W)
    by_cases hz : 0 ≤ S * DD + T * NN
    · have HO := Lib.hid (show okMt (true && true) M G S T = true by rw [HO0, decide_eq_true hz])
      rw [lnI_nat _ hz, ldI_nat _ hz] at HL2
      have b0 := (ln_bd (n := S * DD + T * NN) (a := B * DD) hz r7).1
      have b1 : ¬ ln (S * DD + T * NN) (B * DD) < 0 := by omega
      clear HO0 hz
      generalize ln (S * DD + T * NN) (B * DD) = U at *
      generalize ld (S * DD + T * NN) (B * DD) = V at *
      go_enter Try.func27, Try.ntmps27
      go_wp2_with fail
      refine (impl_IsWalker _ _ _ _ _).mono ?_
      rintro e w1 ⟨rfl, hbw1⟩
      obtain ⟨hcw1, hfw1⟩ := bcell hbw1
      have hzw1 := bsize hbw1
      (try simp only [World.size_alloc, World.size_setCell] at hzw1)
      have kw1_0_0 : w1.cell? ⟨w.heap.size, 0, none⟩ = some (.int .i64 h) := by rw [hcw1 _ _ (by first | (simp; done) | omega | (simp; omega))]; first | assumption | (simp [go_sem]; done) | (simp [go_sem]; done) | (simp [go_sem, *]; done)
      have kw1_0_1 : w1.cell? ⟨w.heap.size, 1, none⟩ = some (.int .i64 p) := by rw [hcw1 _ _ (by first | (simp; done) | omega | (simp; omega))]; first | assumption | (simp [go_sem]; done) | (simp [go_sem]; done) | (simp [go_sem, *]; done)
      have kw1_0_2 : w1.cell? ⟨w.heap.size, 2, none⟩ = some (.int .i64 s) := by rw [hcw1 _ _ (by first | (simp; done) | omega | (simp; omega))]; first | assumption | (simp [go_sem]; done) | (simp [go_sem]; done) | (simp [go_sem, *]; done)
      have sw1_0 : w.heap.size < w1.heap.size := by first | omega | (simp at *; omega)
      have kw1_1_0 : w1.cell? ⟨w.heap.size + 1, 0, none⟩ = some (.int .i64 j) := by rw [hcw1 _ _ (by first | (simp; done) | omega | (simp; omega))]; first | assumption | (simp [go_sem]; done) | (simp [go_sem]; done) | (simp [go_sem, *]; done)
      have kw1_1_1 : w1.cell? ⟨w.heap.size + 1, 1, none⟩ = some (.int .i64 q) := by rw [hcw1 _ _ (by first | (simp; done) | omega | (simp; omega))]; first | assumption | (simp [go_sem]; done) | (simp [go_sem]; done) | (simp [go_sem, *]; done)
      have kw1_1_2 : w1.cell? ⟨w.heap.size + 1, 2, none⟩ = some (.int .i64 t) := by rw [hcw1 _ _ (by first | (simp; done) | omega | (simp; omega))]; first | assumption | (simp [go_sem]; done) | (simp [go_sem]; done) | (simp [go_sem, *]; done)
      have sw1_1 : w.heap.size + 1 < w1.heap.size := by first | omega | (simp at *; omega)
      have hBw1 : Below w.heap.size w w1 := (by repeat (first | exact Below.refl _ _ | refine bl_alloc ?_ _ | refine bl_drewN ?_ _ | refine bl_trans (by assumption) ?_ | refine bl_set ?_ (by first | omega | (simp; done) | (simp; omega)) _))
      have HBw1 := Lib.hid hBw1
      clear hBw1 hcw1 hfw1 hbw1
      rw [h1]
      go_wp2_with fail
      refine (impl_IsWalker _ _ _ _ _).mono ?_
      rintro e w2 ⟨rfl, hbw2⟩
      obtain ⟨hcw2, hfw2⟩ := bcell hbw2
      have hzw2 := bsize hbw2
      (try simp only [World.size_alloc, World.size_setCell] at hzw2)
      have hkw2 : Below w1.heap.size w1 w2 := (by repeat (first | exact Below.refl _ _ | refine bl_alloc ?_ _ | refine bl_drewN ?_ _ | refine bl_trans (by assumption) ?_ | refine bl_set ?_ (by first | omega | (simp; done) | (simp; omega)) _))
      have kw2_0_0 : w2.cell? ⟨w.heap.size, 0, none⟩ = some (.int .i64 h) := cell_after hkw2 sw1_0 kw1_0_0
      have kw2_0_1 : w2.cell? ⟨w.heap.size, 1, none⟩ = some (.int .i64 p) := cell_after hkw2 sw1_0 kw1_0_1
      have kw2_0_2 : w2.cell? ⟨w.heap.size, 2, none⟩ = some (.int .i64 s) := cell_after hkw2 sw1_0 kw1_0_2
      have sw2_0 : w.heap.size < w2.heap.size := size_after hkw2 sw1_0
      have kw2_1_0 : w2.cell? ⟨w.heap.size + 1, 0, none⟩ = some (.int .i64 j) := cell_after hkw2 sw1_1 kw1_1_0
      have kw2_1_1 : w2.cell? ⟨w.heap.size + 1, 1, none⟩ = some (.int .i64 q) := cell_after hkw2 sw1_1 kw1_1_1
      have kw2_1_2 : w2.cell? ⟨w.heap.size + 1, 2, none⟩ = some (.int .i64 t) := cell_after hkw2 sw1_1 kw1_1_2
      have sw2_1 : w.heap.size + 1 < w2.heap.size := size_after hkw2 sw1_1
      have hBw2 : Below w.heap.size w w2 := (by repeat (first | exact HBw1.out | exact Below.refl _ _ | refine bl_alloc ?_ _ | refine bl_drewN ?_ _ | refine bl_trans (by assumption) ?_ | refine bl_set ?_ (by first | omega | (simp; done) | (simp; omega)) _))
      have HBw2 := Lib.hid hBw2
      clear hBw2 hcw2 hfw2 hbw2 hkw2 kw1_0_0 kw1_0_1 kw1_0_2 sw1_0 kw1_1_0 kw1_1_1 kw1_1_2 sw1_1
      rw [h2]
      go_wp2_with fail
      refine ((HT _).out).mono ?_
      rintro e w3 ⟨rfl, hbw3⟩
      obtain ⟨hcw3, hfw3⟩ := bcell hbw3
      have hzw3 := bsize hbw3
      (try simp only [World.size_alloc, World.size_setCell] at hzw3)
      have hkw3 : Below w2.heap.size w2 w3 := (by repeat (first | exact Below.refl _ _ | refine bl_alloc ?_ _ | refine bl_drewN ?_ _ | refine bl_trans (by assumption) ?_ | refine bl_set ?_ (by first | omega | (simp; done) | (simp; omega)) _))
      have kw3_0_0 : w3.cell? ⟨w.heap.size, 0, none⟩ = some (.int .i64 h) := cell_after hkw3 sw2_0 kw2_0_0
      have kw3_0_1 : w3.cell? ⟨w.heap.size, 1, none⟩ = some (.int .i64 p) := cell_after hkw3 sw2_0 kw2_0_1
      have kw3_0_2 : w3.cell? ⟨w.heap.size, 2, none⟩ = some (.int .i64 s) := cell_after hkw3 sw2_0 kw2_0_2
      have sw3_0 : w.heap.size < w3.heap.size := size_after hkw3 sw2_0
      have kw3_1_0 : w3.cell? ⟨w.heap.size + 1, 0, none⟩ = some (.int .i64 j) := cell_after hkw3 sw2_1 kw2_1_0
      have kw3_1_1 : w3.cell? ⟨w.heap.size + 1, 1, none⟩ = some (.int .i64 q) := cell_after hkw3 sw2_1 kw2_1_1
      have kw3_1_2 : w3.cell? ⟨w.heap.size + 1, 2, none⟩ = some (.int .i64 t) := cell_after hkw3 sw2_1 kw2_1_2
      have sw3_1 : w.heap.size + 1 < w3.heap.size := size_after hkw3 sw2_1
      have hBw3 : Below w.heap.size w w3 := (by repeat (first | exact HBw2.out | exact Below.refl _ _ | refine bl_alloc ?_ _ | refine bl_drewN ?_ _ | refine bl_trans (by assumption) ?_ | refine bl_set ?_ (by first | omega | (simp; done) | (simp; omega)) _))
      have HBw3 := Lib.hid hBw3
      clear hBw3 hcw3 hfw3 hbw3 hkw3 kw2_0_0 kw2_0_1 kw2_0_2 sw2_0 kw2_1_0 kw2_1_1 kw2_1_2 sw2_1
      go_wp2_with fail
      have hS : (w3.alloc (.cells #[.int .i64 S, .int .i64 T, .int .i64 B] 74)).cell? ⟨w.heap.size + 1, 0, none⟩ = some (.int .i64 j) ∧ (w3.alloc (.cells #[.int .i64 S, .int .i64 T, .int .i64 B] 74)).cell? ⟨w.heap.size + 1, 1, none⟩ = some (.int .i64 q) ∧ (w3.alloc (.cells #[.int .i64 S, .int .i64 T, .int .i64 B] 74)).cell? ⟨w.heap.size + 1, 2, none⟩ = some (.int .i64 t) ∧ (w3.alloc (.cells #[.int .i64 S, .int .i64 T, .int .i64 B] 74)).cell? ⟨w3.heap.size, 0, none⟩ = some (.int .i64 S) ∧ (w3.alloc (.cells #[.int .i64 S, .int .i64 T, .int .i64 B] 74)).cell? ⟨w3.heap.size, 1, none⟩ = some (.int .i64 T) ∧ (w3.alloc (.cells #[.int .i64 S, .int .i64 T, .int .i64 B] 74)).cell? ⟨w3.heap.size, 2, none⟩ = some (.int .i64 B) ∧ w.heap.size + 1 < (w3.alloc (.cells #[.int .i64 S, .int .i64 T, .int .i64 B] 74)).heap.size ∧ w3.heap.size < (w3.alloc (.cells #[.int .i64 S, .int .i64 T, .int .i64 B] 74)).heap.size ∧ Below w.heap.size w (w3.alloc (.cells #[.int .i64 S, .int .i64 T, .int .i64 B] 74)) := ⟨by simp [go_sem, *], by simp [go_sem, *], by simp [go_sem, *], by simp [go_sem], by simp [go_sem], by simp [go_sem], by first | omega | (simp; omega), by first | omega | (simp; done) | (simp; omega), (by repeat (first | exact HBw3.out | exact Below.refl _ _ | refine bl_alloc ?_ _ | refine bl_drewN ?_ _ | refine bl_trans (by assumption) ?_ | refine bl_set ?_ (by first | omega | (simp; done) | (simp; omega)) _))⟩
      generalize (w3.alloc (.cells #[.int .i64 S, .int .i64 T, .int .i64 B] 74)) = wz at *
      clear kw3_0_0 kw3_0_1 kw3_0_2 sw3_0 kw3_1_0 kw3_1_1 kw3_1_2 sw3_1
      go_region_held3 (fun w' => w'.cell? ⟨w.heap.size + 1, 0, none⟩ = some (.int .i64 j) ∧ w'.cell? ⟨w.heap.size + 1, 1, none⟩ = some (.int .i64 q) ∧ w'.cell? ⟨w.heap.size + 1, 2, none⟩ = some (.int .i64 t) ∧ w'.cell? ⟨w3.heap.size, 0, none⟩ = some (.int .i64 S) ∧ w'.cell? ⟨w3.heap.size, 1, none⟩ = some (.int .i64 T) ∧ w'.cell? ⟨w3.heap.size, 2, none⟩ = some (.int .i64 B) ∧ w.heap.size + 1 < w'.heap.size ∧ w3.heap.size < w'.heap.size ∧ Below w.heap.size w w') (first | exact S8_after hb5 (by assumption) | exact S8_after (below_drewN (Below.refl _ _) _) (by assumption) | exact S8_after (Below.drew (Below.refl _ _)) (by assumption) | assumption) (first | (go_at_call 51; refine ((HL _).out).mono ?_; rintro e w5 ⟨rfl, hb5⟩) | (go_at_call 33; refine ((HT2 _).out).mono ?_; rintro e w5 ⟨rfl, hb5⟩))
      have hfin := last9 (by assumption)
      obtain ⟨kS, kT, kB, kz⟩ := mid3 (by assumption)
      go_wp2_with fail
      refine ((HL2 _).out).mono ?_
      rintro e w' ⟨rfl, nn, rfl⟩
      go_wp2
      ((try simp only [Exit.inBlock, Exit.then]); refine bodyPost_ret (results_tmp5 rfl _ _ _) rfl ?_)
      exact ⟨by rw [HO.out]; rfl, bl_drewN hfin _⟩
    · have HO := Lib.hid (show okMt (true && true) M G S T = false by rw [HO0, decide_eq_false hz])
      have b1 := lnI_neg (n := S * DD + T * NN) (a := B * DD) (by omega)
      clear HO0 hz
      generalize lnI (S * DD + T * NN) (B * DD) = U at *
      generalize ldI (S * DD + T * NN) (B * DD) = V at *
      go_enter Try.func27, Try.ntmps27
      go_wp2_with fail
      refine (impl_IsWalker _ _ _ _ _).mono ?_
      rintro e w1 ⟨rfl, hbw1⟩
      obtain ⟨hcw1, hfw1⟩ := bcell hbw1
      have hzw1 := bsize hbw1
      (try simp only [World.size_alloc, World.size_setCell] at hzw1)
      have kw1_0_0 : w1.cell? ⟨w.heap.size, 0, none⟩ = some (.int .i64 h) := by rw [hcw1 _ _ (by first | (simp; done) | omega | (simp; omega))]; first | assumption | (simp [go_sem]; done) | (simp [go_sem]; done) | (simp [go_sem, *]; done)
      have kw1_0_1 : w1.cell? ⟨w.heap.size, 1, none⟩ = some (.int .i64 p) := by rw [hcw1 _ _ (by first | (simp; done) | omega | (simp; omega))]; first | assumption | (simp [go_sem]; done) | (simp [go_sem]; done) | (simp [go_sem, *]; done)
      have kw1_0_2 : w1.cell? ⟨w.heap.size, 2, none⟩ = some (.int .i64 s) := by rw [hcw1 _ _ (by first | (simp; done) | omega | (simp; omega))]; first | assumption | (simp [go_sem]; done) | (simp [go_sem]; done) | (simp [go_sem, *]; done)
      have sw1_0 : w.heap.size < w1.heap.size := by first | omega | (simp at *; omega)
      have kw1_1_0 : w1.cell? ⟨w.heap.size + 1, 0, none⟩ = some (.int .i64 j) := by rw [hcw1 _ _ (by first | (simp; done) | omega | (simp; omega))]; first | assumption | (simp [go_sem]; done) | (simp [go_sem]; done) | (simp [go_sem, *]; done)
      have kw1_1_1 : w1.cell? ⟨w.heap.size + 1, 1, none⟩ = some (.int .i64 q) := by rw [hcw1 _ _ (by first | (simp; done) | omega | (simp; omega))]; first | assumption | (simp [go_sem]; done) | (simp [go_sem]; done) | (simp [go_sem, *]; done)
      have kw1_1_2 : w1.cell? ⟨w.heap.size + 1, 2, none⟩ = some (.int .i64 t) := by rw [hcw1 _ _ (by first | (simp; done) | omega | (simp; omega))]; first | assumption | (simp [go_sem]; done) | (simp [go_sem]; done) | (simp [go_sem, *]; done)
      have sw1_1 : w.heap.size + 1 < w1.heap.size := by first | omega | (simp at *; omega)
      have hBw1 : Below w.heap.size w w1 := (by repeat (first | exact Below.refl _ _ | refine bl_alloc ?_ _ | refine bl_drewN ?_ _ | refine bl_trans (by assumption) ?_ | refine bl_set ?_ (by first | omega | (simp; done) | (simp; omega)) _))
      have HBw1 := Lib.hid hBw1
      clear hBw1 hcw1 hfw1 hbw1
      rw [h1]
      go_wp2_with fail
      refine (impl_IsWalker _ _ _ _ _).mono ?_
      rintro e w2 ⟨rfl, hbw2⟩
      obtain ⟨hcw2, hfw2⟩ := bcell hbw2
      have hzw2 := bsize hbw2
      (try simp only [World.size_alloc, World.size_setCell] at hzw2)
      have hkw2 : Below w1.heap.size w1 w2 := (by repeat (first | exact Below.refl _ _ | refine bl_alloc ?_ _ | refine bl_drewN ?_ _ | refine bl_trans (by assumption) ?_ | refine bl_set ?_ (by first | omega | (simp; done) | (simp; omega)) _))
      have kw2_0_0 : w2.cell? ⟨w.heap.size, 0, none⟩ = some (.int .i64 h) := cell_after hkw2 sw1_0 kw1_0_0
      have kw2_0_1 : w2.cell? ⟨w.heap.size, 1, none⟩ = some (.int .i64 p) := cell_after hkw2 sw1_0 kw1_0_1
      have kw2_0_2 : w2.cell? ⟨w.heap.size, 2, none⟩ = some (.int .i64 s) := cell_after hkw2 sw1_0 kw1_0_2
      have sw2_0 : w.heap.size < w2.heap.size := size_after hkw2 sw1_0
      have kw2_1_0 : w2.cell? ⟨w.heap.size + 1, 0, none⟩ = some (.int .i64 j) := cell_after hkw2 sw1_1 kw1_1_0
      have kw2_1_1 : w2.cell? ⟨w.heap.size + 1, 1, none⟩ = some (.int .i64 q) := cell_after hkw2 sw1_1 kw1_1_1
      have kw2_1_2 : w2.cell? ⟨w.heap.size + 1, 2, none⟩ = some (.int .i64 t) := cell_after hkw2 sw1_1 kw1_1_2
      have sw2_1 : w.heap.size + 1 < w2.heap.size := size_after hkw2 sw1_1
      have hBw2 : Below w.heap.size w w2 := (by repeat (first | exact HBw1.out | exact Below.refl _ _ | refine bl_alloc ?_ _ | refine bl_drewN ?_ _ | refine bl_trans (by assumption) ?_ | refine bl_set ?_ (by first | omega | (simp; done) | (simp; omega)) _))
      have HBw2 := Lib.hid hBw2
      clear hBw2 hcw2 hfw2 hbw2 hkw2 kw1_0_0 kw1_0_1 kw1_0_2 sw1_0 kw1_1_0 kw1_1_1 kw1_1_2 sw1_1
      rw [h2]
      go_wp2_with fail
      refine ((HT _).out).mono ?_
      rintro e w3 ⟨rfl, hbw3⟩
      obtain ⟨hcw3, hfw3⟩ := bcell hbw3
      have hzw3 := bsize hbw3
      (try simp only [World.size_alloc, World.size_setCell] at hzw3)
      have hkw3 : Below w2.heap.size w2 w3 := (by repeat (first | exact Below.refl _ _ | refine bl_alloc ?_ _ | refine bl_drewN ?_ _ | refine bl_trans (by assumption) ?_ | refine bl_set ?_ (by first | omega | (simp; done) | (simp; omega)) _))
      have kw3_0_0 : w3.cell? ⟨w.heap.size, 0, none⟩ = some (.int .i64 h) := cell_after hkw3 sw2_0 kw2_0_0
      have kw3_0_1 : w3.cell? ⟨w.heap.size, 1, none⟩ = some (.int .i64 p) := cell_after hkw3 sw2_0 kw2_0_1
      have kw3_0_2 : w3.cell? ⟨w.heap.size, 2, none⟩ = some (.int .i64 s) := cell_after hkw3 sw2_0 kw2_0_2
      have sw3_0 : w.heap.size < w3.heap.size := size_after hkw3 sw2_0
      have kw3_1_0 : w3.cell? ⟨w.heap.size + 1, 0, none⟩ = some (.int .i64 j) := cell_after hkw3 sw2_1 kw2_1_0
      have kw3_1_1 : w3.cell? ⟨w.heap.size + 1, 1, none⟩ = some (.int .i64 q) := cell_after hkw3 sw2_1 kw2_1_1
      have kw3_1_2 : w3.cell? ⟨w.heap.size + 1, 2, none⟩ = some (.int .i64 t) := cell_after hkw3 sw2_1 kw2_1_2
      have sw3_1 : w.heap.size + 1 < w3.heap.size := size_after hkw3 sw2_1
      have hBw3 : Below w.heap.size w w3 := (by repeat (first | exact HBw2.out | exact Below.refl _ _ | refine bl_alloc ?_ _ | refine bl_drewN ?_ _ | refine bl_trans (by assumption) ?_ | refine bl_set ?_ (by first | omega | (simp; done) | (simp; omega)) _))
      have HBw3 := Lib.hid hBw3
      clear hBw3 hcw3 hfw3 hbw3 hkw3 kw2_0_0 kw2_0_1 kw2_0_2 sw2_0 kw2_1_0 kw2_1_1 kw2_1_2 sw2_1
      go_wp2_with fail
      have hS : (w3.alloc (.cells #[.int .i64 S, .int .i64 T, .int .i64 B] 74)).cell? ⟨w.heap.size + 1, 0, none⟩ = some (.int .i64 j) ∧ (w3.alloc (.cells #[.int .i64 S, .int .i64 T, .int .i64 B] 74)).cell? ⟨w.heap.size + 1, 1, none⟩ = some (.int .i64 q) ∧ (w3.alloc (.cells #[.int .i64 S, .int .i64 T, .int .i64 B] 74)).cell? ⟨w.heap.size + 1, 2, none⟩ = some (.int .i64 t) ∧ (w3.alloc (.cells #[.int .i64 S, .int .i64 T, .int .i64 B] 74)).cell? ⟨w3.heap.size, 0, none⟩ = some (.int .i64 S) ∧ (w3.alloc (.cells #[.int .i64 S, .int .i64 T, .int .i64 B] 74)).cell? ⟨w3.heap.size, 1, none⟩ = some (.int .i64 T) ∧ (w3.alloc (.cells #[.int .i64 S, .int .i64 T, .int .i64 B] 74)).cell? ⟨w3.heap.size, 2, none⟩ = some (.int .i64 B) ∧ w.heap.size + 1 < (w3.alloc (.cells #[.int .i64 S, .int .i64 T, .int .i64 B] 74)).heap.size ∧ w3.heap.size < (w3.alloc (.cells #[.int .i64 S, .int .i64 T, .int .i64 B] 74)).heap.size ∧ Below w.heap.size w (w3.alloc (.cells #[.int .i64 S, .int .i64 T, .int .i64 B] 74)) := ⟨by simp [go_sem, *], by simp [go_sem, *], by simp [go_sem, *], by simp [go_sem], by simp [go_sem], by simp [go_sem], by first | omega | (simp; omega), by first | omega | (simp; done) | (simp; omega), (by repeat (first | exact HBw3.out | exact Below.refl _ _ | refine bl_alloc ?_ _ | refine bl_drewN ?_ _ | refine bl_trans (by assumption) ?_ | refine bl_set ?_ (by first | omega | (simp; done) | (simp; omega)) _))⟩
      generalize (w3.alloc (.cells #[.int .i64 S, .int .i64 T, .int .i64 B] 74)) = wz at *
      clear kw3_0_0 kw3_0_1 kw3_0_2 sw3_0 kw3_1_0 kw3_1_1 kw3_1_2 sw3_1
      go_region_held3 (fun w' => w'.cell? ⟨w.heap.size + 1, 0, none⟩ = some (.int .i64 j) ∧ w'.cell? ⟨w.heap.size + 1, 1, none⟩ = some (.int .i64 q) ∧ w'.cell? ⟨w.heap.size + 1, 2, none⟩ = some (.int .i64 t) ∧ w'.cell? ⟨w3.heap.size, 0, none⟩ = some (.int .i64 S) ∧ w'.cell? ⟨w3.heap.size, 1, none⟩ = some (.int .i64 T) ∧ w'.cell? ⟨w3.heap.size, 2, none⟩ = some (.int .i64 B) ∧ w.heap.size + 1 < w'.heap.size ∧ w3.heap.size < w'.heap.size ∧ Below w.heap.size w w') (first | exact S8_after hb5 (by assumption) | exact S8_after (below_drewN (Below.refl _ _) _) (by assumption) | exact S8_after (Below.drew (Below.refl _ _)) (by assumption) | assumption) (first | (go_at_call 51; refine ((HL _).out).mono ?_; rintro e w5 ⟨rfl, hb5⟩) | (go_at_call 33; refine ((HT2 _).out).mono ?_; rintro e w5 ⟨rfl, hb5⟩))
      have hfin := last9 (by assumption)
      obtain ⟨kS, kT, kB, kz⟩ := mid3 (by assumption)
      go_wp2_with fail
      refine ((HL2 _).out).mono ?_
      rintro e w' ⟨rfl, nn, rfl⟩
      go_wp2
      ((try simp only [Exit.inBlock, Exit.then]); refine bodyPost_ret (results_tmp5 rfl _ _ _) rfl ?_)
      exact ⟨by rw [HO.out]; rfl, bl_drewN hfin _⟩
end Go.Proofs.Ytfnamahdofigaaa
