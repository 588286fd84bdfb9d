/- Contracts of the functions of chapter 5: orders at corners, spots that are moved. -/
import Derived.Test.YtbnkigponkelpaaLW2
namespace Go.Proofs.Ytbnkigponkelpaa
open Go.RowKit
set_option linter.unusedVariables false
set_option linter.unusedSimpArgs false
def OCv (a b c d : Int) : ByteArray := if okCs2 a b c d then (if b * c < a * d then ⟨#[103, 119]⟩ else if a * d < b * c then ⟨#[119, 103]⟩ else ⟨#[99]⟩) else ByteArray.empty
theorem oc_diff (a b c d : Int) : b * (a + c) - a * (b + d) = b * c - a * d := by
  rw [Int.mul_add, Int.mul_add, Int.mul_comm b a]; omega
set_option maxRecDepth 100000 in
set_option maxHeartbeats 4000000 in
theorem impl_OrderByCorner (a b c d : Int) (w : World) :
    Calls Try.prog 21 #[.agg #[.int .i64 a, .int .i64 b], .agg #[.int .i64 c, .int .i64 d]] w fun e w' => e = .returned (.tuple #[.string (OCv a b c d), .bool (okCs2 a b c d)]) ∧ Below w.heap.size w w' := by
  cases h1 : okCs a b
  · go_enter Try.func21, Try.ntmps21
    go_wp2_with fail
    refine (isInCorner_any _ _ _).mono ?_
    rintro e w1 ⟨rfl, hb1⟩
    obtain ⟨hc1, hf1⟩ := bcell hb1
    have hz1 := bsize hb1
    (try simp only [World.size_alloc, World.size_setCell] at hz1)
    have k1_0_0 : w1.cell? ⟨w.heap.size, 0, none⟩ = some (.int .i64 a) := by rw [hc1 _ _ (by first | (simp; done) | omega | (simp; omega))]; first | assumption | (simp [go_sem]; done) | (simp [go_sem]; done) | (simp [go_sem, *]; done)
    have k1_0_1 : w1.cell? ⟨w.heap.size, 1, none⟩ = some (.int .i64 b) := by rw [hc1 _ _ (by first | (simp; done) | omega | (simp; omega))]; first | assumption | (simp [go_sem]; done) | (simp [go_sem]; done) | (simp [go_sem, *]; done)
    have s1_0 : w.heap.size < w1.heap.size := by omega
    have k1_1_0 : w1.cell? ⟨w.heap.size + 1, 0, none⟩ = some (.int .i64 c) := by rw [hc1 _ _ (by first | (simp; done) | omega | (simp; omega))]; first | assumption | (simp [go_sem]; done) | (simp [go_sem]; done) | (simp [go_sem, *]; done)
    have k1_1_1 : w1.cell? ⟨w.heap.size + 1, 1, none⟩ = some (.int .i64 d) := by rw [hc1 _ _ (by first | (simp; done) | omega | (simp; omega))]; first | assumption | (simp [go_sem]; done) | (simp [go_sem]; done) | (simp [go_sem, *]; done)
    have s1_1 : w.heap.size + 1 < w1.heap.size := by omega
    have hB1 : Below w.heap.size w w1 := (by repeat (first | exact Below.refl _ _ | refine bl_alloc ?_ _ | refine bl_drewN ?_ _ | refine bl_trans (by assumption) ?_ | refine bl_set ?_ (by first | omega | (simp; done) | (simp; omega)) _))
    have HB1 := Lib.hid hB1
    clear hB1 hc1 hf1 hb1
    rw [h1]
    go_wp2
    go_ret2
    exact ⟨by simp [OCv, okCs2, h1]; try rfl, (by repeat (first | exact HB1.out | exact Below.refl _ _ | refine bl_alloc ?_ _ | refine bl_drewN ?_ _ | refine bl_trans (by assumption) ?_ | refine bl_set ?_ (by first | omega | (simp; done) | (simp; omega)) _))⟩
  cases h2 : okCs c d
  · go_enter Try.func21, Try.ntmps21
    go_wp2_with fail
    refine (isInCorner_any _ _ _).mono ?_
    rintro e w1 ⟨rfl, hb1⟩
    obtain ⟨hc1, hf1⟩ := bcell hb1
    have hz1 := bsize hb1
    (try simp only [World.size_alloc, World.size_setCell] at hz1)
    have k1_0_0 : w1.cell? ⟨w.heap.size, 0, none⟩ = some (.int .i64 a) := by rw [hc1 _ _ (by first | (simp; done) | omega | (simp; omega))]; first | assumption | (simp [go_sem]; done) | (simp [go_sem]; done) | (simp [go_sem, *]; done)
    have k1_0_1 : w1.cell? ⟨w.heap.size, 1, none⟩ = some (.int .i64 b) := by rw [hc1 _ _ (by first | (simp; done) | omega | (simp; omega))]; first | assumption | (simp [go_sem]; done) | (simp [go_sem]; done) | (simp [go_sem, *]; done)
    have s1_0 : w.heap.size < w1.heap.size := by omega
    have k1_1_0 : w1.cell? ⟨w.heap.size + 1, 0, none⟩ = some (.int .i64 c) := by rw [hc1 _ _ (by first | (simp; done) | omega | (simp; omega))]; first | assumption | (simp [go_sem]; done) | (simp [go_sem]; done) | (simp [go_sem, *]; done)
    have k1_1_1 : w1.cell? ⟨w.heap.size + 1, 1, none⟩ = some (.int .i64 d) := by rw [hc1 _ _ (by first | (simp; done) | omega | (simp; omega))]; first | assumption | (simp [go_sem]; done) | (simp [go_sem]; done) | (simp [go_sem, *]; done)
    have s1_1 : w.heap.size + 1 < w1.heap.size := by omega
    have hB1 : Below w.heap.size w w1 := (by repeat (first | exact Below.refl _ _ | refine bl_alloc ?_ _ | refine bl_drewN ?_ _ | refine bl_trans (by assumption) ?_ | refine bl_set ?_ (by first | omega | (simp; done) | (simp; omega)) _))
    have HB1 := Lib.hid hB1
    clear hB1 hc1 hf1 hb1
    rw [h1]
    have HBp2 := HB1
    go_wp2_with fail
    refine (isInCorner_any _ _ _).mono ?_
    rintro e w2 ⟨rfl, hb2⟩
    obtain ⟨hc2, hf2⟩ := bcell hb2
    have hz2 := bsize hb2
    (try simp only [World.size_alloc, World.size_setCell] at hz2)
    have k2_0_0 : w2.cell? ⟨w.heap.size, 0, none⟩ = some (.int .i64 a) := by rw [hc2 _ _ (by first | (simp; done) | omega | (simp; omega))]; first | assumption | (simp [go_sem]; done) | (simp [go_sem, k1_0_0, k1_0_1, k1_1_0, k1_1_1]; done) | (simp [go_sem, *]; done)
    have k2_0_1 : w2.cell? ⟨w.heap.size, 1, none⟩ = some (.int .i64 b) := by rw [hc2 _ _ (by first | (simp; done) | omega | (simp; omega))]; first | assumption | (simp [go_sem]; done) | (simp [go_sem, k1_0_0, k1_0_1, k1_1_0, k1_1_1]; done) | (simp [go_sem, *]; done)
    have s2_0 : w.heap.size < w2.heap.size := by omega
    have k2_1_0 : w2.cell? ⟨w.heap.size + 1, 0, none⟩ = some (.int .i64 c) := by rw [hc2 _ _ (by first | (simp; done) | omega | (simp; omega))]; first | assumption | (simp [go_sem]; done) | (simp [go_sem, k1_0_0, k1_0_1, k1_1_0, k1_1_1]; done) | (simp [go_sem, *]; done)
    have k2_1_1 : w2.cell? ⟨w.heap.size + 1, 1, none⟩ = some (.int .i64 d) := by rw [hc2 _ _ (by first | (simp; done) | omega | (simp; omega))]; first | assumption | (simp [go_sem]; done) | (simp [go_sem, k1_0_0, k1_0_1, k1_1_0, k1_1_1]; done) | (simp [go_sem, *]; done)
    have s2_1 : w.heap.size + 1 < w2.heap.size := by omega
    have hB2 : Below w.heap.size w w2 := (by repeat (first | exact Below.refl _ _ | exact HB1.out | refine bl_alloc ?_ _ | refine bl_drewN ?_ _ | refine bl_trans (by assumption) ?_ | refine bl_set ?_ (by first | omega | (simp; done) | (simp; omega)) _))
    have HB2 := Lib.hid hB2
    clear hB2 hc2 hf2 hb2 k1_0_0 k1_0_1 k1_1_0 k1_1_1
    rw [h2]
    go_wp2
    go_ret2
    exact ⟨by simp [OCv, okCs2, h1, h2]; try rfl, (by repeat (first | exact HB2.out | exact Below.refl _ _ | refine bl_alloc ?_ _ | refine bl_drewN ?_ _ | refine bl_trans (by assumption) ?_ | refine bl_set ?_ (by first | omega | (simp; done) | (simp; omega)) _))⟩
  have HO := Lib.hid (show okCs2 a b c d = true by simp [okCs2, h1, h2])
  obtain ⟨⟨a1, a2⟩, b1, b2⟩ := okCs_true h1
  obtain ⟨⟨c1, c2⟩, d1, d2⟩ := okCs_true h2
  obtain ⟨f1, f2⟩ := mul_bd2 (a := b) (b := c) (m := 1000) (k := 1000) (by omega) (by omega) (by omega) (by omega)
  obtain ⟨f3, f4⟩ := mul_bd2 (a := a) (b := d) (m := 1000) (k := 1000) (by omega) (by omega) (by omega) (by omega)
  rcases (show b * c < a * d ∨ a * d < b * c ∨ b * c = a * d by omega) with m | m | m
  · have HV := Lib.hid (show OCv a b c d = ⟨#[103, 119]⟩ by unfold OCv; rw [HO.out]; simp only [if_true]; rw [if_pos m])
    go_enter Try.func21, Try.ntmps21
    go_wp2_with fail
    refine (isInCorner_any _ _ _).mono ?_
    rintro e w1 ⟨rfl, hb1⟩
    obtain ⟨hc1, hf1⟩ := bcell hb1
    have hz1 := bsize hb1
    (try simp only [World.size_alloc, World.size_setCell] at hz1)
    have k1_0_0 : w1.cell? ⟨w.heap.size, 0, none⟩ = some (.int .i64 a) := by rw [hc1 _ _ (by first | (simp; done) | omega | (simp; omega))]; first | assumption | (simp [go_sem]; done) | (simp [go_sem]; done) | (simp [go_sem, *]; done)
    have k1_0_1 : w1.cell? ⟨w.heap.size, 1, none⟩ = some (.int .i64 b) := by rw [hc1 _ _ (by first | (simp; done) | omega | (simp; omega))]; first | assumption | (simp [go_sem]; done) | (simp [go_sem]; done) | (simp [go_sem, *]; done)
    have s1_0 : w.heap.size < w1.heap.size := by omega
    have k1_1_0 : w1.cell? ⟨w.heap.size + 1, 0, none⟩ = some (.int .i64 c) := by rw [hc1 _ _ (by first | (simp; done) | omega | (simp; omega))]; first | assumption | (simp [go_sem]; done) | (simp [go_sem]; done) | (simp [go_sem, *]; done)
    have k1_1_1 : w1.cell? ⟨w.heap.size + 1, 1, none⟩ = some (.int .i64 d) := by rw [hc1 _ _ (by first | (simp; done) | omega | (simp; omega))]; first | assumption | (simp [go_sem]; done) | (simp [go_sem]; done) | (simp [go_sem, *]; done)
    have s1_1 : w.heap.size + 1 < w1.heap.size := by omega
    have hB1 : Below w.heap.size w w1 := (by repeat (first | exact Below.refl _ _ | refine bl_alloc ?_ _ | refine bl_drewN ?_ _ | refine bl_trans (by assumption) ?_ | refine bl_set ?_ (by first | omega | (simp; done) | (simp; omega)) _))
    have HB1 := Lib.hid hB1
    clear hB1 hc1 hf1 hb1
    rw [h1]
    have HBp2 := HB1
    go_wp2_with fail
    refine (isInCorner_any _ _ _).mono ?_
    rintro e w2 ⟨rfl, hb2⟩
    obtain ⟨hc2, hf2⟩ := bcell hb2
    have hz2 := bsize hb2
    (try simp only [World.size_alloc, World.size_setCell] at hz2)
    have k2_0_0 : w2.cell? ⟨w.heap.size, 0, none⟩ = some (.int .i64 a) := by rw [hc2 _ _ (by first | (simp; done) | omega | (simp; omega))]; first | assumption | (simp [go_sem]; done) | (simp [go_sem, k1_0_0, k1_0_1, k1_1_0, k1_1_1]; done) | (simp [go_sem, *]; done)
    have k2_0_1 : w2.cell? ⟨w.heap.size, 1, none⟩ = some (.int .i64 b) := by rw [hc2 _ _ (by first | (simp; done) | omega | (simp; omega))]; first | assumption | (simp [go_sem]; done) | (simp [go_sem, k1_0_0, k1_0_1, k1_1_0, k1_1_1]; done) | (simp [go_sem, *]; done)
    have s2_0 : w.heap.size < w2.heap.size := by omega
    have k2_1_0 : w2.cell? ⟨w.heap.size + 1, 0, none⟩ = some (.int .i64 c) := by rw [hc2 _ _ (by first | (simp; done) | omega | (simp; omega))]; first | assumption | (simp [go_sem]; done) | (simp [go_sem, k1_0_0, k1_0_1, k1_1_0, k1_1_1]; done) | (simp [go_sem, *]; done)
    have k2_1_1 : w2.cell? ⟨w.heap.size + 1, 1, none⟩ = some (.int .i64 d) := by rw [hc2 _ _ (by first | (simp; done) | omega | (simp; omega))]; first | assumption | (simp [go_sem]; done) | (simp [go_sem, k1_0_0, k1_0_1, k1_1_0, k1_1_1]; done) | (simp [go_sem, *]; done)
    have s2_1 : w.heap.size + 1 < w2.heap.size := by omega
    have hB2 : Below w.heap.size w w2 := (by repeat (first | exact Below.refl _ _ | exact HB1.out | refine bl_alloc ?_ _ | refine bl_drewN ?_ _ | refine bl_trans (by assumption) ?_ | refine bl_set ?_ (by first | omega | (simp; done) | (simp; omega)) _))
    have HB2 := Lib.hid hB2
    clear hB2 hc2 hf2 hb2 k1_0_0 k1_0_1 k1_1_0 k1_1_1
    rw [h2]
    go_wp2_with fail
    go_quiet (fail)
    go_wp2
    go_ret2
    exact ⟨by rw [HO.out, HV.out]; rfl, (by repeat (first | exact HB2.out | exact Below.refl _ _ | refine bl_alloc ?_ _ | refine bl_drewN ?_ _ | refine bl_trans (by assumption) ?_ | refine bl_set ?_ (by first | omega | (simp; done) | (simp; omega)) _))⟩
  · have HV := Lib.hid (show OCv a b c d = ⟨#[119, 103]⟩ by unfold OCv; rw [HO.out]; simp only [if_true]; rw [if_neg (by omega), if_pos m])
    have m1 : ¬ b * c < a * d := by omega
    go_enter Try.func21, Try.ntmps21
    go_wp2_with fail
    refine (isInCorner_any _ _ _).mono ?_
    rintro e w1 ⟨rfl, hb1⟩
    obtain ⟨hc1, hf1⟩ := bcell hb1
    have hz1 := bsize hb1
    (try simp only [World.size_alloc, World.size_setCell] at hz1)
    have k1_0_0 : w1.cell? ⟨w.heap.size, 0, none⟩ = some (.int .i64 a) := by rw [hc1 _ _ (by first | (simp; done) | omega | (simp; omega))]; first | assumption | (simp [go_sem]; done) | (simp [go_sem]; done) | (simp [go_sem, *]; done)
    have k1_0_1 : w1.cell? ⟨w.heap.size, 1, none⟩ = some (.int .i64 b) := by rw [hc1 _ _ (by first | (simp; done) | omega | (simp; omega))]; first | assumption | (simp [go_sem]; done) | (simp [go_sem]; done) | (simp [go_sem, *]; done)
    have s1_0 : w.heap.size < w1.heap.size := by omega
    have k1_1_0 : w1.cell? ⟨w.heap.size + 1, 0, none⟩ = some (.int .i64 c) := by rw [hc1 _ _ (by first | (simp; done) | omega | (simp; omega))]; first | assumption | (simp [go_sem]; done) | (simp [go_sem]; done) | (simp [go_sem, *]; done)
    have k1_1_1 : w1.cell? ⟨w.heap.size + 1, 1, none⟩ = some (.int .i64 d) := by rw [hc1 _ _ (by first | (simp; done) | omega | (simp; omega))]; first | assumption | (simp [go_sem]; done) | (simp [go_sem]; done) | (simp [go_sem, *]; done)
    have s1_1 : w.heap.size + 1 < w1.heap.size := by omega
    have hB1 : Below w.heap.size w w1 := (by repeat (first | exact Below.refl _ _ | refine bl_alloc ?_ _ | refine bl_drewN ?_ _ | refine bl_trans (by assumption) ?_ | refine bl_set ?_ (by first | omega | (simp; done) | (simp; omega)) _))
    have HB1 := Lib.hid hB1
    clear hB1 hc1 hf1 hb1
    rw [h1]
    have HBp2 := HB1
    go_wp2_with fail
    refine (isInCorner_any _ _ _).mono ?_
    rintro e w2 ⟨rfl, hb2⟩
    obtain ⟨hc2, hf2⟩ := bcell hb2
    have hz2 := bsize hb2
    (try simp only [World.size_alloc, World.size_setCell] at hz2)
    have k2_0_0 : w2.cell? ⟨w.heap.size, 0, none⟩ = some (.int .i64 a) := by rw [hc2 _ _ (by first | (simp; done) | omega | (simp; omega))]; first | assumption | (simp [go_sem]; done) | (simp [go_sem, k1_0_0, k1_0_1, k1_1_0, k1_1_1]; done) | (simp [go_sem, *]; done)
    have k2_0_1 : w2.cell? ⟨w.heap.size, 1, none⟩ = some (.int .i64 b) := by rw [hc2 _ _ (by first | (simp; done) | omega | (simp; omega))]; first | assumption | (simp [go_sem]; done) | (simp [go_sem, k1_0_0, k1_0_1, k1_1_0, k1_1_1]; done) | (simp [go_sem, *]; done)
    have s2_0 : w.heap.size < w2.heap.size := by omega
    have k2_1_0 : w2.cell? ⟨w.heap.size + 1, 0, none⟩ = some (.int .i64 c) := by rw [hc2 _ _ (by first | (simp; done) | omega | (simp; omega))]; first | assumption | (simp [go_sem]; done) | (simp [go_sem, k1_0_0, k1_0_1, k1_1_0, k1_1_1]; done) | (simp [go_sem, *]; done)
    have k2_1_1 : w2.cell? ⟨w.heap.size + 1, 1, none⟩ = some (.int .i64 d) := by rw [hc2 _ _ (by first | (simp; done) | omega | (simp; omega))]; first | assumption | (simp [go_sem]; done) | (simp [go_sem, k1_0_0, k1_0_1, k1_1_0, k1_1_1]; done) | (simp [go_sem, *]; done)
    have s2_1 : w.heap.size + 1 < w2.heap.size := by omega
    have hB2 : Below w.heap.size w w2 := (by repeat (first | exact Below.refl _ _ | exact HB1.out | refine bl_alloc ?_ _ | refine bl_drewN ?_ _ | refine bl_trans (by assumption) ?_ | refine bl_set ?_ (by first | omega | (simp; done) | (simp; omega)) _))
    have HB2 := Lib.hid hB2
    clear hB2 hc2 hf2 hb2 k1_0_0 k1_0_1 k1_1_0 k1_1_1
    rw [h2]
    go_wp2_with fail
    go_quiet (fail)
    go_wp2
    go_ret2
    exact ⟨by rw [HO.out, HV.out]; rfl, (by repeat (first | exact HB2.out | exact Below.refl _ _ | refine bl_alloc ?_ _ | refine bl_drewN ?_ _ | refine bl_trans (by assumption) ?_ | refine bl_set ?_ (by first | omega | (simp; done) | (simp; omega)) _))⟩
  · have HV := Lib.hid (show OCv a b c d = ⟨#[99]⟩ by unfold OCv; rw [HO.out]; simp only [if_true]; rw [if_neg (by omega), if_neg (by omega)])
    have m1 : ¬ b * c < a * d := by omega
    have m2 : ¬ a * d < b * c := by omega
    go_enter Try.func21, Try.ntmps21
    go_wp2_with fail
    refine (isInCorner_any _ _ _).mono ?_
    rintro e w1 ⟨rfl, hb1⟩
    obtain ⟨hc1, hf1⟩ := bcell hb1
    have hz1 := bsize hb1
    (try simp only [World.size_alloc, World.size_setCell] at hz1)
    have k1_0_0 : w1.cell? ⟨w.heap.size, 0, none⟩ = some (.int .i64 a) := by rw [hc1 _ _ (by first | (simp; done) | omega | (simp; omega))]; first | assumption | (simp [go_sem]; done) | (simp [go_sem]; done) | (simp [go_sem, *]; done)
    have k1_0_1 : w1.cell? ⟨w.heap.size, 1, none⟩ = some (.int .i64 b) := by rw [hc1 _ _ (by first | (simp; done) | omega | (simp; omega))]; first | assumption | (simp [go_sem]; done) | (simp [go_sem]; done) | (simp [go_sem, *]; done)
    have s1_0 : w.heap.size < w1.heap.size := by omega
    have k1_1_0 : w1.cell? ⟨w.heap.size + 1, 0, none⟩ = some (.int .i64 c) := by rw [hc1 _ _ (by first | (simp; done) | omega | (simp; omega))]; first | assumption | (simp [go_sem]; done) | (simp [go_sem]; done) | (simp [go_sem, *]; done)
    have k1_1_1 : w1.cell? ⟨w.heap.size + 1, 1, none⟩ = some (.int .i64 d) := by rw [hc1 _ _ (by first | (simp; done) | omega | (simp; omega))]; first | assumption | (simp [go_sem]; done) | (simp [go_sem]; done) | (simp [go_sem, *]; done)
    have s1_1 : w.heap.size + 1 < w1.heap.size := by omega
    have hB1 : Below w.heap.size w w1 := (by repeat (first | exact Below.refl _ _ | refine bl_alloc ?_ _ | refine bl_drewN ?_ _ | refine bl_trans (by assumption) ?_ | refine bl_set ?_ (by first | omega | (simp; done) | (simp; omega)) _))
    have HB1 := Lib.hid hB1
    clear hB1 hc1 hf1 hb1
    rw [h1]
    have HBp2 := HB1
    go_wp2_with fail
    refine (isInCorner_any _ _ _).mono ?_
    rintro e w2 ⟨rfl, hb2⟩
    obtain ⟨hc2, hf2⟩ := bcell hb2
    have hz2 := bsize hb2
    (try simp only [World.size_alloc, World.size_setCell] at hz2)
    have k2_0_0 : w2.cell? ⟨w.heap.size, 0, none⟩ = some (.int .i64 a) := by rw [hc2 _ _ (by first | (simp; done) | omega | (simp; omega))]; first | assumption | (simp [go_sem]; done) | (simp [go_sem, k1_0_0, k1_0_1, k1_1_0, k1_1_1]; done) | (simp [go_sem, *]; done)
    have k2_0_1 : w2.cell? ⟨w.heap.size, 1, none⟩ = some (.int .i64 b) := by rw [hc2 _ _ (by first | (simp; done) | omega | (simp; omega))]; first | assumption | (simp [go_sem]; done) | (simp [go_sem, k1_0_0, k1_0_1, k1_1_0, k1_1_1]; done) | (simp [go_sem, *]; done)
    have s2_0 : w.heap.size < w2.heap.size := by omega
    have k2_1_0 : w2.cell? ⟨w.heap.size + 1, 0, none⟩ = some (.int .i64 c) := by rw [hc2 _ _ (by first | (simp; done) | omega | (simp; omega))]; first | assumption | (simp [go_sem]; done) | (simp [go_sem, k1_0_0, k1_0_1, k1_1_0, k1_1_1]; done) | (simp [go_sem, *]; done)
    have k2_1_1 : w2.cell? ⟨w.heap.size + 1, 1, none⟩ = some (.int .i64 d) := by rw [hc2 _ _ (by first | (simp; done) | omega | (simp; omega))]; first | assumption | (simp [go_sem]; done) | (simp [go_sem, k1_0_0, k1_0_1, k1_1_0, k1_1_1]; done) | (simp [go_sem, *]; done)
    have s2_1 : w.heap.size + 1 < w2.heap.size := by omega
    have hB2 : Below w.heap.size w w2 := (by repeat (first | exact Below.refl _ _ | exact HB1.out | refine bl_alloc ?_ _ | refine bl_drewN ?_ _ | refine bl_trans (by assumption) ?_ | refine bl_set ?_ (by first | omega | (simp; done) | (simp; omega)) _))
    have HB2 := Lib.hid hB2
    clear hB2 hc2 hf2 hb2 k1_0_0 k1_0_1 k1_1_0 k1_1_1
    rw [h2]
    go_wp2_with fail
    go_quiet (fail)
    go_wp2
    go_ret2
    exact ⟨by rw [HO.out, HV.out]; rfl, (by repeat (first | exact HB2.out | exact Below.refl _ _ | refine bl_alloc ?_ _ | refine bl_drewN ?_ _ | refine bl_trans (by assumption) ?_ | refine bl_set ?_ (by first | omega | (simp; done) | (simp; omega)) _))⟩
set_option maxRecDepth 100000 in
set_option maxHeartbeats 4000000 in
theorem spec_OrderByCorner (a b c d : Int) (w : World) :
    Calls Try.prog 22 #[.agg #[.int .i64 a, .int .i64 b], .agg #[.int .i64 c, .int .i64 d]] w fun e w' => e = .returned (.tuple #[.string (OCv a b c d), .bool (okCs2 a b c d)]) ∧ Below w.heap.size w w' := by
  cases h1 : okCs2 a b c d
  · go_enter Try.func22, Try.ntmps22
    go_wp2_with fail
    refine (lwCorner_any _ _ _ _ _).mono ?_
    rintro e w1 ⟨rfl, hb1⟩
    obtain ⟨hc1, hf1⟩ := bcell hb1
    have hz1 := bsize hb1
    (try simp only [World.size_alloc, World.size_setCell] at hz1)
    have k1_0_0 : w1.cell? ⟨w.heap.size, 0, none⟩ = some (.int .i64 a) := by rw [hc1 _ _ (by first | (simp; done) | omega | (simp; omega))]; first | assumption | (simp [go_sem]; done) | (simp [go_sem]; done) | (simp [go_sem, *]; done)
    have k1_0_1 : w1.cell? ⟨w.heap.size, 1, none⟩ = some (.int .i64 b) := by rw [hc1 _ _ (by first | (simp; done) | omega | (simp; omega))]; first | assumption | (simp [go_sem]; done) | (simp [go_sem]; done) | (simp [go_sem, *]; done)
    have s1_0 : w.heap.size < w1.heap.size := by omega
    have k1_1_0 : w1.cell? ⟨w.heap.size + 1, 0, none⟩ = some (.int .i64 c) := by rw [hc1 _ _ (by first | (simp; done) | omega | (simp; omega))]; first | assumption | (simp [go_sem]; done) | (simp [go_sem]; done) | (simp [go_sem, *]; done)
    have k1_1_1 : w1.cell? ⟨w.heap.size + 1, 1, none⟩ = some (.int .i64 d) := by rw [hc1 _ _ (by first | (simp; done) | omega | (simp; omega))]; first | assumption | (simp [go_sem]; done) | (simp [go_sem]; done) | (simp [go_sem, *]; done)
    have s1_1 : w.heap.size + 1 < w1.heap.size := by omega
    have hB1 : Below w.heap.size w w1 := (by repeat (first | exact Below.refl _ _ | refine bl_alloc ?_ _ | refine bl_drewN ?_ _ | refine bl_trans (by assumption) ?_ | refine bl_set ?_ (by first | omega | (simp; done) | (simp; omega)) _))
    have HB1 := Lib.hid hB1
    clear hB1 hc1 hf1 hb1
    rw [h1]
    go_wp2
    go_ret2
    exact ⟨by simp [OCv, h1]; try rfl, (by repeat (first | exact HB1.out | exact Below.refl _ _ | refine bl_alloc ?_ _ | refine bl_drewN ?_ _ | refine bl_trans (by assumption) ?_ | refine bl_set ?_ (by first | omega | (simp; done) | (simp; omega)) _))⟩
  have HO := Lib.hid h1
  have hh := h1
  simp only [okCs2, Bool.and_eq_true] at hh
  obtain ⟨⟨a1, a2⟩, b1, b2⟩ := okCs_true hh.1
  obtain ⟨⟨c1, c2⟩, d1, d2⟩ := okCs_true hh.2
  clear hh
  obtain ⟨g1, g2⟩ := mul_bd2 (a := b) (b := a + c) (m := 1000) (k := 2000) (by omega) (by omega) (by omega) (by omega)
  obtain ⟨g3, g4⟩ := mul_bd2 (a := a) (b := b + d) (m := 1000) (k := 2000) (by omega) (by omega) (by omega) (by omega)
  have hd := oc_diff a b c d
  obtain ⟨f1, f2⟩ := mul_bd2 (a := b) (b := c) (m := 1000) (k := 1000) (by omega) (by omega) (by omega) (by omega)
  obtain ⟨f3, f4⟩ := mul_bd2 (a := a) (b := d) (m := 1000) (k := 1000) (by omega) (by omega) (by omega) (by omega)
  rcases (show b * c < a * d ∨ a * d < b * c ∨ b * c = a * d by omega) with m | m | m
  · have HV := Lib.hid (show OCv a b c d = ⟨#[103, 119]⟩ by unfold OCv; rw [HO.out]; simp only [if_true]; rw [if_pos m])
    have HSG := fun W => Lib.hid (l1Sign_any (b * (a + c) - a * (b + d)) W)
    rw [if_neg (by omega), if_pos (by omega)] at HSG
    clear hd
    go_enter Try.func22, Try.ntmps22
    go_wp2_with fail
    refine (lwCorner_any _ _ _ _ _).mono ?_
    rintro e w1 ⟨rfl, hb1⟩
    obtain ⟨hc1, hf1⟩ := bcell hb1
    have hz1 := bsize hb1
    (try simp only [World.size_alloc, World.size_setCell] at hz1)
    have k1_0_0 : w1.cell? ⟨w.heap.size, 0, none⟩ = some (.int .i64 a) := by rw [hc1 _ _ (by first | (simp; done) | omega | (simp; omega))]; first | assumption | (simp [go_sem]; done) | (simp [go_sem]; done) | (simp [go_sem, *]; done)
    have k1_0_1 : w1.cell? ⟨w.heap.size, 1, none⟩ = some (.int .i64 b) := by rw [hc1 _ _ (by first | (simp; done) | omega | (simp; omega))]; first | assumption | (simp [go_sem]; done) | (simp [go_sem]; done) | (simp [go_sem, *]; done)
    have s1_0 : w.heap.size < w1.heap.size := by omega
    have k1_1_0 : w1.cell? ⟨w.heap.size + 1, 0, none⟩ = some (.int .i64 c) := by rw [hc1 _ _ (by first | (simp; done) | omega | (simp; omega))]; first | assumption | (simp [go_sem]; done) | (simp [go_sem]; done) | (simp [go_sem, *]; done)
    have k1_1_1 : w1.cell? ⟨w.heap.size + 1, 1, none⟩ = some (.int .i64 d) := by rw [hc1 _ _ (by first | (simp; done) | omega | (simp; omega))]; first | assumption | (simp [go_sem]; done) | (simp [go_sem]; done) | (simp [go_sem, *]; done)
    have s1_1 : w.heap.size + 1 < w1.heap.size := by omega
    have hB1 : Below w.heap.size w w1 := (by repeat (first | exact Below.refl _ _ | refine bl_alloc ?_ _ | refine bl_drewN ?_ _ | refine bl_trans (by assumption) ?_ | refine bl_set ?_ (by first | omega | (simp; done) | (simp; omega)) _))
    have HB1 := Lib.hid hB1
    clear hB1 hc1 hf1 hb1
    rw [h1]
    go_wp2_with fail
    refine ((HSG _).out).mono ?_
    rintro e w' ⟨rfl, rfl⟩
    go_wp2
    go_ret2
    exact ⟨by rw [HV.out]; first | done | rfl | (rw [HO.out]; rfl), (by repeat (first | exact HB1.out | exact Below.refl _ _ | refine bl_alloc ?_ _ | refine bl_drewN ?_ _ | refine bl_trans (by assumption) ?_ | refine bl_set ?_ (by first | omega | (simp; done) | (simp; omega)) _))⟩
  · have HV := Lib.hid (show OCv a b c d = ⟨#[119, 103]⟩ by unfold OCv; rw [HO.out]; simp only [if_true]; rw [if_neg (by omega), if_pos m])
    have HSG := fun W => Lib.hid (l1Sign_any (b * (a + c) - a * (b + d)) W)
    rw [if_pos (by omega)] at HSG
    clear hd
    go_enter Try.func22, Try.ntmps22
    go_wp2_with fail
    refine (lwCorner_any _ _ _ _ _).mono ?_
    rintro e w1 ⟨rfl, hb1⟩
    obtain ⟨hc1, hf1⟩ := bcell hb1
    have hz1 := bsize hb1
    (try simp only [World.size_alloc, World.size_setCell] at hz1)
    have k1_0_0 : w1.cell? ⟨w.heap.size, 0, none⟩ = some (.int .i64 a) := by rw [hc1 _ _ (by first | (simp; done) | omega | (simp; omega))]; first | assumption | (simp [go_sem]; done) | (simp [go_sem]; done) | (simp [go_sem, *]; done)
    have k1_0_1 : w1.cell? ⟨w.heap.size, 1, none⟩ = some (.int .i64 b) := by rw [hc1 _ _ (by first | (simp; done) | omega | (simp; omega))]; first | assumption | (simp [go_sem]; done) | (simp [go_sem]; done) | (simp [go_sem, *]; done)
    have s1_0 : w.heap.size < w1.heap.size := by omega
    have k1_1_0 : w1.cell? ⟨w.heap.size + 1, 0, none⟩ = some (.int .i64 c) := by rw [hc1 _ _ (by first | (simp; done) | omega | (simp; omega))]; first | assumption | (simp [go_sem]; done) | (simp [go_sem]; done) | (simp [go_sem, *]; done)
    have k1_1_1 : w1.cell? ⟨w.heap.size + 1, 1, none⟩ = some (.int .i64 d) := by rw [hc1 _ _ (by first | (simp; done) | omega | (simp; omega))]; first | assumption | (simp [go_sem]; done) | (simp [go_sem]; done) | (simp [go_sem, *]; done)
    have s1_1 : w.heap.size + 1 < w1.heap.size := by omega
    have hB1 : Below w.heap.size w w1 := (by repeat (first | exact Below.refl _ _ | refine bl_alloc ?_ _ | refine bl_drewN ?_ _ | refine bl_trans (by assumption) ?_ | refine bl_set ?_ (by first | omega | (simp; done) | (simp; omega)) _))
    have HB1 := Lib.hid hB1
    clear hB1 hc1 hf1 hb1
    rw [h1]
    go_wp2_with fail
    refine ((HSG _).out).mono ?_
    rintro e w' ⟨rfl, rfl⟩
    go_wp2
    go_ret2
    exact ⟨by rw [HV.out]; first | done | rfl | (rw [HO.out]; rfl), (by repeat (first | exact HB1.out | exact Below.refl _ _ | refine bl_alloc ?_ _ | refine bl_drewN ?_ _ | refine bl_trans (by assumption) ?_ | refine bl_set ?_ (by first | omega | (simp; done) | (simp; omega)) _))⟩
  · have HV := Lib.hid (show OCv a b c d = ⟨#[99]⟩ by unfold OCv; rw [HO.out]; simp only [if_true]; rw [if_neg (by omega), if_neg (by omega)])
    have HSG := fun W => Lib.hid (l1Sign_any (b * (a + c) - a * (b + d)) W)
    rw [if_neg (by omega), if_neg (by omega)] at HSG
    clear hd
    go_enter Try.func22, Try.ntmps22
    go_wp2_with fail
    refine (lwCorner_any _ _ _ _ _).mono ?_
    rintro e w1 ⟨rfl, hb1⟩
    obtain ⟨hc1, hf1⟩ := bcell hb1
    have hz1 := bsize hb1
    (try simp only [World.size_alloc, World.size_setCell] at hz1)
    have k1_0_0 : w1.cell? ⟨w.heap.size, 0, none⟩ = some (.int .i64 a) := by rw [hc1 _ _ (by first | (simp; done) | omega | (simp; omega))]; first | assumption | (simp [go_sem]; done) | (simp [go_sem]; done) | (simp [go_sem, *]; done)
    have k1_0_1 : w1.cell? ⟨w.heap.size, 1, none⟩ = some (.int .i64 b) := by rw [hc1 _ _ (by first | (simp; done) | omega | (simp; omega))]; first | assumption | (simp [go_sem]; done) | (simp [go_sem]; done) | (simp [go_sem, *]; done)
    have s1_0 : w.heap.size < w1.heap.size := by omega
    have k1_1_0 : w1.cell? ⟨w.heap.size + 1, 0, none⟩ = some (.int .i64 c) := by rw [hc1 _ _ (by first | (simp; done) | omega | (simp; omega))]; first | assumption | (simp [go_sem]; done) | (simp [go_sem]; done) | (simp [go_sem, *]; done)
    have k1_1_1 : w1.cell? ⟨w.heap.size + 1, 1, none⟩ = some (.int .i64 d) := by rw [hc1 _ _ (by first | (simp; done) | omega | (simp; omega))]; first | assumption | (simp [go_sem]; done) | (simp [go_sem]; done) | (simp [go_sem, *]; done)
    have s1_1 : w.heap.size + 1 < w1.heap.size := by omega
    have hB1 : Below w.heap.size w w1 := (by repeat (first | exact Below.refl _ _ | refine bl_alloc ?_ _ | refine bl_drewN ?_ _ | refine bl_trans (by assumption) ?_ | refine bl_set ?_ (by first | omega | (simp; done) | (simp; omega)) _))
    have HB1 := Lib.hid hB1
    clear hB1 hc1 hf1 hb1
    rw [h1]
    go_wp2_with fail
    refine ((HSG _).out).mono ?_
    rintro e w' ⟨rfl, rfl⟩
    go_wp2
    go_ret2
    exact ⟨by rw [HV.out]; first | done | rfl | (rw [HO.out]; rfl), (by repeat (first | exact HB1.out | exact Below.refl _ _ | refine bl_alloc ?_ _ | refine bl_drewN ?_ _ | refine bl_trans (by assumption) ?_ | refine bl_set ?_ (by first | omega | (simp; done) | (simp; omega)) _))⟩
set_option maxHeartbeats 400000 in
theorem impl_TurnSpot (a b : Int) (w : World) :
    Calls Try.prog 17 #[.agg #[.int .i64 a, .int .i64 b]] w fun e w' => e = .returned (.tuple #[.agg #[.int .i64 (Z (okSp a b) (-a)), .int .i64 (Z (okSp a b) (b))], .bool (okSp a b)]) ∧ Below w.heap.size w w' := by
  cases h : okSp a b
  · go_enter Try.func17, Try.ntmps17
    go_wp2_with fail
    refine (impl_IsSpot _ _ _).mono ?_
    rintro e w1 ⟨rfl, hb1⟩
    obtain ⟨hc1, hf1⟩ := bcell hb1
    have hz1 := bsize hb1
    (try simp only [World.size_alloc, World.size_setCell] at hz1)
    have k1_0_0 : w1.cell? ⟨w.heap.size, 0, none⟩ = some (.int .i64 a) := by rw [hc1 _ _ (by first | (simp; done) | omega | (simp; omega))]; first | assumption | (simp [go_sem]; done) | (simp [go_sem]; done) | (simp [go_sem, *]; done)
    have k1_0_1 : w1.cell? ⟨w.heap.size, 1, none⟩ = some (.int .i64 b) := by rw [hc1 _ _ (by first | (simp; done) | omega | (simp; omega))]; first | assumption | (simp [go_sem]; done) | (simp [go_sem]; done) | (simp [go_sem, *]; done)
    have s1_0 : w.heap.size < w1.heap.size := by omega
    have k1_1_0 : w1.cell? ⟨w.heap.size + 1, 0, none⟩ = some (.int .i64 0) := by rw [hc1 _ _ (by first | (simp; done) | omega | (simp; omega))]; first | assumption | (simp [go_sem]; done) | (simp [go_sem]; done) | (simp [go_sem, *]; done)
    have f1_1_0 : w1.frozen? ⟨w.heap.size + 1, 0, none⟩ = false := by rw [hf1 _ _ (by first | (simp; done) | omega | (simp; omega))]; first | assumption | (simp [go_sem]; done) | (simp [go_sem]; done) | (simp [go_sem, *]; done)
    have k1_1_1 : w1.cell? ⟨w.heap.size + 1, 1, none⟩ = some (.int .i64 0) := by rw [hc1 _ _ (by first | (simp; done) | omega | (simp; omega))]; first | assumption | (simp [go_sem]; done) | (simp [go_sem]; done) | (simp [go_sem, *]; done)
    have f1_1_1 : w1.frozen? ⟨w.heap.size + 1, 1, none⟩ = false := by rw [hf1 _ _ (by first | (simp; done) | omega | (simp; omega))]; first | assumption | (simp [go_sem]; done) | (simp [go_sem]; done) | (simp [go_sem, *]; done)
    have s1_1 : w.heap.size + 1 < w1.heap.size := by omega
    have hB1 : Below w.heap.size w w1 := (by repeat (first | exact Below.refl _ _ | refine bl_alloc ?_ _ | refine bl_drewN ?_ _ | refine bl_trans (by assumption) ?_ | refine bl_set ?_ (by first | omega | (simp; done) | (simp; omega)) _))
    have HB1 := Lib.hid hB1
    clear hB1 hc1 hf1 hb1
    rw [h]
    go_wp2
    refine bodyPost_ret (v := .tuple #[.agg #[.int .i64 (Z (okSp a b) (-a)), .int .i64 (Z (okSp a b) (b))], .bool (okSp a b)]) (by simp [results, Try.results17, go_sem, Z, *]) rfl ⟨by rw [h], (by repeat (first | exact HB1.out | exact Below.refl _ _ | refine bl_alloc ?_ _ | refine bl_drewN ?_ _ | refine bl_trans (by assumption) ?_ | refine bl_set ?_ (by first | omega | (simp; done) | (simp; omega)) _))⟩
  · obtain ⟨⟨a1, a2⟩, b1, b2⟩ := okSp_true h
    go_enter Try.func17, Try.ntmps17
    go_wp2_with fail
    refine (impl_IsSpot _ _ _).mono ?_
    rintro e w1 ⟨rfl, hb1⟩
    obtain ⟨hc1, hf1⟩ := bcell hb1
    have hz1 := bsize hb1
    (try simp only [World.size_alloc, World.size_setCell] at hz1)
    have k1_0_0 : w1.cell? ⟨w.heap.size, 0, none⟩ = some (.int .i64 a) := by rw [hc1 _ _ (by first | (simp; done) | omega | (simp; omega))]; first | assumption | (simp [go_sem]; done) | (simp [go_sem]; done) | (simp [go_sem, *]; done)
    have k1_0_1 : w1.cell? ⟨w.heap.size, 1, none⟩ = some (.int .i64 b) := by rw [hc1 _ _ (by first | (simp; done) | omega | (simp; omega))]; first | assumption | (simp [go_sem]; done) | (simp [go_sem]; done) | (simp [go_sem, *]; done)
    have s1_0 : w.heap.size < w1.heap.size := by omega
    have k1_1_0 : w1.cell? ⟨w.heap.size + 1, 0, none⟩ = some (.int .i64 0) := by rw [hc1 _ _ (by first | (simp; done) | omega | (simp; omega))]; first | assumption | (simp [go_sem]; done) | (simp [go_sem]; done) | (simp [go_sem, *]; done)
    have f1_1_0 : w1.frozen? ⟨w.heap.size + 1, 0, none⟩ = false := by rw [hf1 _ _ (by first | (simp; done) | omega | (simp; omega))]; first | assumption | (simp [go_sem]; done) | (simp [go_sem]; done) | (simp [go_sem, *]; done)
    have k1_1_1 : w1.cell? ⟨w.heap.size + 1, 1, none⟩ = some (.int .i64 0) := by rw [hc1 _ _ (by first | (simp; done) | omega | (simp; omega))]; first | assumption | (simp [go_sem]; done) | (simp [go_sem]; done) | (simp [go_sem, *]; done)
    have f1_1_1 : w1.frozen? ⟨w.heap.size + 1, 1, none⟩ = false := by rw [hf1 _ _ (by first | (simp; done) | omega | (simp; omega))]; first | assumption | (simp [go_sem]; done) | (simp [go_sem]; done) | (simp [go_sem, *]; done)
    have s1_1 : w.heap.size + 1 < w1.heap.size := by omega
    have hB1 : Below w.heap.size w w1 := (by repeat (first | exact Below.refl _ _ | refine bl_alloc ?_ _ | refine bl_drewN ?_ _ | refine bl_trans (by assumption) ?_ | refine bl_set ?_ (by first | omega | (simp; done) | (simp; omega)) _))
    have HB1 := Lib.hid hB1
    clear hB1 hc1 hf1 hb1
    rw [h]
    go_wp2
    refine bodyPost_ret (v := .tuple #[.agg #[.int .i64 (Z (okSp a b) (-a)), .int .i64 (Z (okSp a b) (b))], .bool (okSp a b)]) (by simp [results, Try.results17, go_sem, Z, *]) rfl ⟨by rw [h], (by repeat (first | exact HB1.out | exact Below.refl _ _ | refine bl_alloc ?_ _ | refine bl_drewN ?_ _ | refine bl_trans (by assumption) ?_ | refine bl_set ?_ (by first | omega | (simp; done) | (simp; omega)) _))⟩
def okMv (a b x y : Int) : Bool := okSp a b && (within x (-1000) 1000 && (within y (-1000) 1000 && okSp (a + x) (b + y)))
end Go.Proofs.Ytbnkigponkelpaa
