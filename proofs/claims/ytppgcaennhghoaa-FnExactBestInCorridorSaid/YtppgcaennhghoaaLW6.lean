/- BestInCorridor: by the program and by the model alike. -/
import Derived.Test.YtppgcaennhghoaaLW5
namespace Go.Proofs.Ytppgcaennhghoaa
open Go.RowKit
set_option linter.unusedVariables false
set_option linter.unusedSimpArgs false
theorem last6 {a b c d e D : Prop} (k : a ∧ b ∧ c ∧ d ∧ e ∧ D) : D := k.2.2.2.2.2
def SB (a b c d h t : Int) : Bool := decide (SC a b c d h t true ≤ SC a b c d h t false)
def SM (a b c d h t : Int) : Int := min (SC a b c d h t true) (SC a b c d h t false)
set_option maxHeartbeats 4000000 in
theorem impl_BestInCorridor (a b c d h t : Int) (w : World) :
    Calls Try.prog 53 #[.agg #[.int .i64 a, .int .i64 b], .agg #[.int .i64 c, .int .i64 d], .int .i64 h, .int .i64 t] w fun e w' => e = .returned (.tuple #[.bool (okCo a b c d h t && SB a b c d h t), .int .i64 (Z (okCo a b c d h t) (SM a b c d h t)), .bool (okCo a b c d h t)]) ∧ Below w.heap.size w w' := by
  cases hk : okCo a b c d h t
  · go_enter Try.func53, Try.ntmps53
    go_wp2_with fail
    refine (isWay_any _ _ _ _ _ _ _ _).mono ?_
    rintro e w1 ⟨rfl, hb1⟩
    obtain ⟨hc1, hf1⟩ := bcell hb1
    have hz1 := bsize hb1
    (try simp only [World.size_alloc, World.size_setCell] at hz1)
    have k1_0_0 : w1.cell? ⟨w.heap.size, 0, none⟩ = some (.int .i64 a) := by rw [hc1 _ _ (by first | (simp; done) | omega | (simp; omega))]; first | assumption | (simp [go_sem]; done) | (simp [go_sem]; done) | (simp [go_sem, *]; done)
    have k1_0_1 : w1.cell? ⟨w.heap.size, 1, none⟩ = some (.int .i64 b) := by rw [hc1 _ _ (by first | (simp; done) | omega | (simp; omega))]; first | assumption | (simp [go_sem]; done) | (simp [go_sem]; done) | (simp [go_sem, *]; done)
    have s1_0 : w.heap.size < w1.heap.size := by omega
    have k1_1_0 : w1.cell? ⟨w.heap.size + 1, 0, none⟩ = some (.int .i64 c) := by rw [hc1 _ _ (by first | (simp; done) | omega | (simp; omega))]; first | assumption | (simp [go_sem]; done) | (simp [go_sem]; done) | (simp [go_sem, *]; done)
    have k1_1_1 : w1.cell? ⟨w.heap.size + 1, 1, none⟩ = some (.int .i64 d) := by rw [hc1 _ _ (by first | (simp; done) | omega | (simp; omega))]; first | assumption | (simp [go_sem]; done) | (simp [go_sem]; done) | (simp [go_sem, *]; done)
    have s1_1 : w.heap.size + 1 < w1.heap.size := by omega
    have k1_2_0 : w1.cell? ⟨w.heap.size + 1 + 1, 0, none⟩ = some (.int .i64 a) := by rw [hc1 _ _ (by first | (simp; done) | omega | (simp; omega))]; first | assumption | (simp [go_sem]; done) | (simp [go_sem]; done) | (simp [go_sem, *]; done)
    have f1_2_0 : w1.frozen? ⟨w.heap.size + 1 + 1, 0, none⟩ = false := by rw [hf1 _ _ (by first | (simp; done) | omega | (simp; omega))]; first | assumption | (simp [go_sem]; done) | (simp [go_sem]; done) | (simp [go_sem, *]; done)
    have k1_2_1 : w1.cell? ⟨w.heap.size + 1 + 1, 1, none⟩ = some (.int .i64 b) := by rw [hc1 _ _ (by first | (simp; done) | omega | (simp; omega))]; first | assumption | (simp [go_sem]; done) | (simp [go_sem]; done) | (simp [go_sem, *]; done)
    have f1_2_1 : w1.frozen? ⟨w.heap.size + 1 + 1, 1, none⟩ = false := by rw [hf1 _ _ (by first | (simp; done) | omega | (simp; omega))]; first | assumption | (simp [go_sem]; done) | (simp [go_sem]; done) | (simp [go_sem, *]; done)
    have k1_2_2 : w1.cell? ⟨w.heap.size + 1 + 1, 2, none⟩ = some (.int .i64 c) := by rw [hc1 _ _ (by first | (simp; done) | omega | (simp; omega))]; first | assumption | (simp [go_sem]; done) | (simp [go_sem]; done) | (simp [go_sem, *]; done)
    have f1_2_2 : w1.frozen? ⟨w.heap.size + 1 + 1, 2, none⟩ = false := by rw [hf1 _ _ (by first | (simp; done) | omega | (simp; omega))]; first | assumption | (simp [go_sem]; done) | (simp [go_sem]; done) | (simp [go_sem, *]; done)
    have k1_2_3 : w1.cell? ⟨w.heap.size + 1 + 1, 3, none⟩ = some (.int .i64 d) := by rw [hc1 _ _ (by first | (simp; done) | omega | (simp; omega))]; first | assumption | (simp [go_sem]; done) | (simp [go_sem]; done) | (simp [go_sem, *]; done)
    have f1_2_3 : w1.frozen? ⟨w.heap.size + 1 + 1, 3, none⟩ = false := by rw [hf1 _ _ (by first | (simp; done) | omega | (simp; omega))]; first | assumption | (simp [go_sem]; done) | (simp [go_sem]; done) | (simp [go_sem, *]; done)
    have k1_2_4 : w1.cell? ⟨w.heap.size + 1 + 1, 4, none⟩ = some (.int .i64 h) := by rw [hc1 _ _ (by first | (simp; done) | omega | (simp; omega))]; first | assumption | (simp [go_sem]; done) | (simp [go_sem]; done) | (simp [go_sem, *]; done)
    have f1_2_4 : w1.frozen? ⟨w.heap.size + 1 + 1, 4, none⟩ = false := by rw [hf1 _ _ (by first | (simp; done) | omega | (simp; omega))]; first | assumption | (simp [go_sem]; done) | (simp [go_sem]; done) | (simp [go_sem, *]; done)
    have k1_2_5 : w1.cell? ⟨w.heap.size + 1 + 1, 5, none⟩ = some (.int .i64 t) := by rw [hc1 _ _ (by first | (simp; done) | omega | (simp; omega))]; first | assumption | (simp [go_sem]; done) | (simp [go_sem]; done) | (simp [go_sem, *]; done)
    have f1_2_5 : w1.frozen? ⟨w.heap.size + 1 + 1, 5, none⟩ = false := by rw [hf1 _ _ (by first | (simp; done) | omega | (simp; omega))]; first | assumption | (simp [go_sem]; done) | (simp [go_sem]; done) | (simp [go_sem, *]; done)
    have k1_2_6 : w1.cell? ⟨w.heap.size + 1 + 1, 6, none⟩ = some (.bool true) := by rw [hc1 _ _ (by first | (simp; done) | omega | (simp; omega))]; first | assumption | (simp [go_sem]; done) | (simp [go_sem]; done) | (simp [go_sem, *]; done)
    have f1_2_6 : w1.frozen? ⟨w.heap.size + 1 + 1, 6, none⟩ = false := by rw [hf1 _ _ (by first | (simp; done) | omega | (simp; omega))]; first | assumption | (simp [go_sem]; done) | (simp [go_sem]; done) | (simp [go_sem, *]; done)
    have s1_2 : w.heap.size + 1 + 1 < w1.heap.size := by omega
    have hB1 : Below w.heap.size w w1 := (by repeat (first | exact Below.refl _ _ | refine bl_alloc ?_ _ | refine bl_drewN ?_ _ | refine bl_trans (by assumption) ?_ | refine bl_set ?_ (by first | omega | (simp; done) | (simp; omega)) _))
    have HB1 := Lib.hid hB1
    clear hB1 hc1 hf1 hb1
    rw [hk]
    go_wp2
    go_ret3
    exact ⟨by simp [Z], (by repeat (first | exact HB1.out | exact Below.refl _ _ | refine bl_alloc ?_ _ | refine bl_drewN ?_ _ | refine bl_trans (by assumption) ?_ | refine bl_set ?_ (by first | omega | (simp; done) | (simp; omega)) _))⟩
  · have HT := fun W => Lib.hid (square_any a b c d h t true hk W)
    have HF := fun W => Lib.hid (square_any a b c d h t false hk W)
    have SB0 := Lib.hid (show SB a b c d h t = decide (SC a b c d h t true ≤ SC a b c d h t false) from rfl)
    have SM0 := Lib.hid (show SM a b c d h t = min (SC a b c d h t true) (SC a b c d h t false) from rfl)
    generalize SB a b c d h t = sb at *
    generalize SM a b c d h t = sm at *
    generalize SC a b c d h t true = P at *
    generalize SC a b c d h t false = Q at *
    go_enter Try.func53, Try.ntmps53
    go_wp2_with fail
    refine (isWay_any _ _ _ _ _ _ _ _).mono ?_
    rintro e w1 ⟨rfl, hb1⟩
    obtain ⟨hc1, hf1⟩ := bcell hb1
    have hz1 := bsize hb1
    (try simp only [World.size_alloc, World.size_setCell] at hz1)
    have k1_0_0 : w1.cell? ⟨w.heap.size, 0, none⟩ = some (.int .i64 a) := by rw [hc1 _ _ (by first | (simp; done) | omega | (simp; omega))]; first | assumption | (simp [go_sem]; done) | (simp [go_sem]; done) | (simp [go_sem, *]; done)
    have k1_0_1 : w1.cell? ⟨w.heap.size, 1, none⟩ = some (.int .i64 b) := by rw [hc1 _ _ (by first | (simp; done) | omega | (simp; omega))]; first | assumption | (simp [go_sem]; done) | (simp [go_sem]; done) | (simp [go_sem, *]; done)
    have s1_0 : w.heap.size < w1.heap.size := by omega
    have k1_1_0 : w1.cell? ⟨w.heap.size + 1, 0, none⟩ = some (.int .i64 c) := by rw [hc1 _ _ (by first | (simp; done) | omega | (simp; omega))]; first | assumption | (simp [go_sem]; done) | (simp [go_sem]; done) | (simp [go_sem, *]; done)
    have k1_1_1 : w1.cell? ⟨w.heap.size + 1, 1, none⟩ = some (.int .i64 d) := by rw [hc1 _ _ (by first | (simp; done) | omega | (simp; omega))]; first | assumption | (simp [go_sem]; done) | (simp [go_sem]; done) | (simp [go_sem, *]; done)
    have s1_1 : w.heap.size + 1 < w1.heap.size := by omega
    have k1_2_0 : w1.cell? ⟨w.heap.size + 1 + 1, 0, none⟩ = some (.int .i64 a) := by rw [hc1 _ _ (by first | (simp; done) | omega | (simp; omega))]; first | assumption | (simp [go_sem]; done) | (simp [go_sem]; done) | (simp [go_sem, *]; done)
    have f1_2_0 : w1.frozen? ⟨w.heap.size + 1 + 1, 0, none⟩ = false := by rw [hf1 _ _ (by first | (simp; done) | omega | (simp; omega))]; first | assumption | (simp [go_sem]; done) | (simp [go_sem]; done) | (simp [go_sem, *]; done)
    have k1_2_1 : w1.cell? ⟨w.heap.size + 1 + 1, 1, none⟩ = some (.int .i64 b) := by rw [hc1 _ _ (by first | (simp; done) | omega | (simp; omega))]; first | assumption | (simp [go_sem]; done) | (simp [go_sem]; done) | (simp [go_sem, *]; done)
    have f1_2_1 : w1.frozen? ⟨w.heap.size + 1 + 1, 1, none⟩ = false := by rw [hf1 _ _ (by first | (simp; done) | omega | (simp; omega))]; first | assumption | (simp [go_sem]; done) | (simp [go_sem]; done) | (simp [go_sem, *]; done)
    have k1_2_2 : w1.cell? ⟨w.heap.size + 1 + 1, 2, none⟩ = some (.int .i64 c) := by rw [hc1 _ _ (by first | (simp; done) | omega | (simp; omega))]; first | assumption | (simp [go_sem]; done) | (simp [go_sem]; done) | (simp [go_sem, *]; done)
    have f1_2_2 : w1.frozen? ⟨w.heap.size + 1 + 1, 2, none⟩ = false := by rw [hf1 _ _ (by first | (simp; done) | omega | (simp; omega))]; first | assumption | (simp [go_sem]; done) | (simp [go_sem]; done) | (simp [go_sem, *]; done)
    have k1_2_3 : w1.cell? ⟨w.heap.size + 1 + 1, 3, none⟩ = some (.int .i64 d) := by rw [hc1 _ _ (by first | (simp; done) | omega | (simp; omega))]; first | assumption | (simp [go_sem]; done) | (simp [go_sem]; done) | (simp [go_sem, *]; done)
    have f1_2_3 : w1.frozen? ⟨w.heap.size + 1 + 1, 3, none⟩ = false := by rw [hf1 _ _ (by first | (simp; done) | omega | (simp; omega))]; first | assumption | (simp [go_sem]; done) | (simp [go_sem]; done) | (simp [go_sem, *]; done)
    have k1_2_4 : w1.cell? ⟨w.heap.size + 1 + 1, 4, none⟩ = some (.int .i64 h) := by rw [hc1 _ _ (by first | (simp; done) | omega | (simp; omega))]; first | assumption | (simp [go_sem]; done) | (simp [go_sem]; done) | (simp [go_sem, *]; done)
    have f1_2_4 : w1.frozen? ⟨w.heap.size + 1 + 1, 4, none⟩ = false := by rw [hf1 _ _ (by first | (simp; done) | omega | (simp; omega))]; first | assumption | (simp [go_sem]; done) | (simp [go_sem]; done) | (simp [go_sem, *]; done)
    have k1_2_5 : w1.cell? ⟨w.heap.size + 1 + 1, 5, none⟩ = some (.int .i64 t) := by rw [hc1 _ _ (by first | (simp; done) | omega | (simp; omega))]; first | assumption | (simp [go_sem]; done) | (simp [go_sem]; done) | (simp [go_sem, *]; done)
    have f1_2_5 : w1.frozen? ⟨w.heap.size + 1 + 1, 5, none⟩ = false := by rw [hf1 _ _ (by first | (simp; done) | omega | (simp; omega))]; first | assumption | (simp [go_sem]; done) | (simp [go_sem]; done) | (simp [go_sem, *]; done)
    have k1_2_6 : w1.cell? ⟨w.heap.size + 1 + 1, 6, none⟩ = some (.bool true) := by rw [hc1 _ _ (by first | (simp; done) | omega | (simp; omega))]; first | assumption | (simp [go_sem]; done) | (simp [go_sem]; done) | (simp [go_sem, *]; done)
    have f1_2_6 : w1.frozen? ⟨w.heap.size + 1 + 1, 6, none⟩ = false := by rw [hf1 _ _ (by first | (simp; done) | omega | (simp; omega))]; first | assumption | (simp [go_sem]; done) | (simp [go_sem]; done) | (simp [go_sem, *]; done)
    have s1_2 : w.heap.size + 1 + 1 < w1.heap.size := by omega
    have hB1 : Below w.heap.size w w1 := (by repeat (first | exact Below.refl _ _ | refine bl_alloc ?_ _ | refine bl_drewN ?_ _ | refine bl_trans (by assumption) ?_ | refine bl_set ?_ (by first | omega | (simp; done) | (simp; omega)) _))
    have HB1 := Lib.hid hB1
    clear hB1 hc1 hf1 hb1
    rw [hk]
    have HBp2 := HB1
    go_wp2_with fail
    refine ((HT _).out).mono ?_
    rintro e w2 ⟨rfl, hb2⟩
    obtain ⟨hc2, hf2⟩ := bcell hb2
    have hz2 := bsize hb2
    (try simp only [World.size_alloc, World.size_setCell] at hz2)
    have k2_0_0 : w2.cell? ⟨w.heap.size, 0, none⟩ = some (.int .i64 a) := by rw [hc2 _ _ (by first | (simp; done) | omega | (simp; omega))]; first | assumption | (simp [go_sem]; done) | (simp [go_sem, k1_0_0, k1_0_1, k1_1_0, k1_1_1, k1_2_0, f1_2_0, k1_2_1, f1_2_1, k1_2_2, f1_2_2, k1_2_3, f1_2_3, k1_2_4, f1_2_4, k1_2_5, f1_2_5, k1_2_6, f1_2_6]; done) | (simp [go_sem, *]; done)
    have k2_0_1 : w2.cell? ⟨w.heap.size, 1, none⟩ = some (.int .i64 b) := by rw [hc2 _ _ (by first | (simp; done) | omega | (simp; omega))]; first | assumption | (simp [go_sem]; done) | (simp [go_sem, k1_0_0, k1_0_1, k1_1_0, k1_1_1, k1_2_0, f1_2_0, k1_2_1, f1_2_1, k1_2_2, f1_2_2, k1_2_3, f1_2_3, k1_2_4, f1_2_4, k1_2_5, f1_2_5, k1_2_6, f1_2_6]; done) | (simp [go_sem, *]; done)
    have s2_0 : w.heap.size < w2.heap.size := by omega
    have k2_1_0 : w2.cell? ⟨w.heap.size + 1, 0, none⟩ = some (.int .i64 c) := by rw [hc2 _ _ (by first | (simp; done) | omega | (simp; omega))]; first | assumption | (simp [go_sem]; done) | (simp [go_sem, k1_0_0, k1_0_1, k1_1_0, k1_1_1, k1_2_0, f1_2_0, k1_2_1, f1_2_1, k1_2_2, f1_2_2, k1_2_3, f1_2_3, k1_2_4, f1_2_4, k1_2_5, f1_2_5, k1_2_6, f1_2_6]; done) | (simp [go_sem, *]; done)
    have k2_1_1 : w2.cell? ⟨w.heap.size + 1, 1, none⟩ = some (.int .i64 d) := by rw [hc2 _ _ (by first | (simp; done) | omega | (simp; omega))]; first | assumption | (simp [go_sem]; done) | (simp [go_sem, k1_0_0, k1_0_1, k1_1_0, k1_1_1, k1_2_0, f1_2_0, k1_2_1, f1_2_1, k1_2_2, f1_2_2, k1_2_3, f1_2_3, k1_2_4, f1_2_4, k1_2_5, f1_2_5, k1_2_6, f1_2_6]; done) | (simp [go_sem, *]; done)
    have s2_1 : w.heap.size + 1 < w2.heap.size := by omega
    have k2_2_0 : w2.cell? ⟨w.heap.size + 1 + 1, 0, none⟩ = some (.int .i64 a) := by rw [hc2 _ _ (by first | (simp; done) | omega | (simp; omega))]; first | assumption | (simp [go_sem]; done) | (simp [go_sem, k1_0_0, k1_0_1, k1_1_0, k1_1_1, k1_2_0, f1_2_0, k1_2_1, f1_2_1, k1_2_2, f1_2_2, k1_2_3, f1_2_3, k1_2_4, f1_2_4, k1_2_5, f1_2_5, k1_2_6, f1_2_6]; done) | (simp [go_sem, *]; done)
    have f2_2_0 : w2.frozen? ⟨w.heap.size + 1 + 1, 0, none⟩ = false := by rw [hf2 _ _ (by first | (simp; done) | omega | (simp; omega))]; first | assumption | (simp [go_sem]; done) | (simp [go_sem, k1_0_0, k1_0_1, k1_1_0, k1_1_1, k1_2_0, f1_2_0, k1_2_1, f1_2_1, k1_2_2, f1_2_2, k1_2_3, f1_2_3, k1_2_4, f1_2_4, k1_2_5, f1_2_5, k1_2_6, f1_2_6]; done) | (simp [go_sem, *]; done)
    have k2_2_1 : w2.cell? ⟨w.heap.size + 1 + 1, 1, none⟩ = some (.int .i64 b) := by rw [hc2 _ _ (by first | (simp; done) | omega | (simp; omega))]; first | assumption | (simp [go_sem]; done) | (simp [go_sem, k1_0_0, k1_0_1, k1_1_0, k1_1_1, k1_2_0, f1_2_0, k1_2_1, f1_2_1, k1_2_2, f1_2_2, k1_2_3, f1_2_3, k1_2_4, f1_2_4, k1_2_5, f1_2_5, k1_2_6, f1_2_6]; done) | (simp [go_sem, *]; done)
    have f2_2_1 : w2.frozen? ⟨w.heap.size + 1 + 1, 1, none⟩ = false := by rw [hf2 _ _ (by first | (simp; done) | omega | (simp; omega))]; first | assumption | (simp [go_sem]; done) | (simp [go_sem, k1_0_0, k1_0_1, k1_1_0, k1_1_1, k1_2_0, f1_2_0, k1_2_1, f1_2_1, k1_2_2, f1_2_2, k1_2_3, f1_2_3, k1_2_4, f1_2_4, k1_2_5, f1_2_5, k1_2_6, f1_2_6]; done) | (simp [go_sem, *]; done)
    have k2_2_2 : w2.cell? ⟨w.heap.size + 1 + 1, 2, none⟩ = some (.int .i64 c) := by rw [hc2 _ _ (by first | (simp; done) | omega | (simp; omega))]; first | assumption | (simp [go_sem]; done) | (simp [go_sem, k1_0_0, k1_0_1, k1_1_0, k1_1_1, k1_2_0, f1_2_0, k1_2_1, f1_2_1, k1_2_2, f1_2_2, k1_2_3, f1_2_3, k1_2_4, f1_2_4, k1_2_5, f1_2_5, k1_2_6, f1_2_6]; done) | (simp [go_sem, *]; done)
    have f2_2_2 : w2.frozen? ⟨w.heap.size + 1 + 1, 2, none⟩ = false := by rw [hf2 _ _ (by first | (simp; done) | omega | (simp; omega))]; first | assumption | (simp [go_sem]; done) | (simp [go_sem, k1_0_0, k1_0_1, k1_1_0, k1_1_1, k1_2_0, f1_2_0, k1_2_1, f1_2_1, k1_2_2, f1_2_2, k1_2_3, f1_2_3, k1_2_4, f1_2_4, k1_2_5, f1_2_5, k1_2_6, f1_2_6]; done) | (simp [go_sem, *]; done)
    have k2_2_3 : w2.cell? ⟨w.heap.size + 1 + 1, 3, none⟩ = some (.int .i64 d) := by rw [hc2 _ _ (by first | (simp; done) | omega | (simp; omega))]; first | assumption | (simp [go_sem]; done) | (simp [go_sem, k1_0_0, k1_0_1, k1_1_0, k1_1_1, k1_2_0, f1_2_0, k1_2_1, f1_2_1, k1_2_2, f1_2_2, k1_2_3, f1_2_3, k1_2_4, f1_2_4, k1_2_5, f1_2_5, k1_2_6, f1_2_6]; done) | (simp [go_sem, *]; done)
    have f2_2_3 : w2.frozen? ⟨w.heap.size + 1 + 1, 3, none⟩ = false := by rw [hf2 _ _ (by first | (simp; done) | omega | (simp; omega))]; first | assumption | (simp [go_sem]; done) | (simp [go_sem, k1_0_0, k1_0_1, k1_1_0, k1_1_1, k1_2_0, f1_2_0, k1_2_1, f1_2_1, k1_2_2, f1_2_2, k1_2_3, f1_2_3, k1_2_4, f1_2_4, k1_2_5, f1_2_5, k1_2_6, f1_2_6]; done) | (simp [go_sem, *]; done)
    have k2_2_4 : w2.cell? ⟨w.heap.size + 1 + 1, 4, none⟩ = some (.int .i64 h) := by rw [hc2 _ _ (by first | (simp; done) | omega | (simp; omega))]; first | assumption | (simp [go_sem]; done) | (simp [go_sem, k1_0_0, k1_0_1, k1_1_0, k1_1_1, k1_2_0, f1_2_0, k1_2_1, f1_2_1, k1_2_2, f1_2_2, k1_2_3, f1_2_3, k1_2_4, f1_2_4, k1_2_5, f1_2_5, k1_2_6, f1_2_6]; done) | (simp [go_sem, *]; done)
    have f2_2_4 : w2.frozen? ⟨w.heap.size + 1 + 1, 4, none⟩ = false := by rw [hf2 _ _ (by first | (simp; done) | omega | (simp; omega))]; first | assumption | (simp [go_sem]; done) | (simp [go_sem, k1_0_0, k1_0_1, k1_1_0, k1_1_1, k1_2_0, f1_2_0, k1_2_1, f1_2_1, k1_2_2, f1_2_2, k1_2_3, f1_2_3, k1_2_4, f1_2_4, k1_2_5, f1_2_5, k1_2_6, f1_2_6]; done) | (simp [go_sem, *]; done)
    have k2_2_5 : w2.cell? ⟨w.heap.size + 1 + 1, 5, none⟩ = some (.int .i64 t) := by rw [hc2 _ _ (by first | (simp; done) | omega | (simp; omega))]; first | assumption | (simp [go_sem]; done) | (simp [go_sem, k1_0_0, k1_0_1, k1_1_0, k1_1_1, k1_2_0, f1_2_0, k1_2_1, f1_2_1, k1_2_2, f1_2_2, k1_2_3, f1_2_3, k1_2_4, f1_2_4, k1_2_5, f1_2_5, k1_2_6, f1_2_6]; done) | (simp [go_sem, *]; done)
    have f2_2_5 : w2.frozen? ⟨w.heap.size + 1 + 1, 5, none⟩ = false := by rw [hf2 _ _ (by first | (simp; done) | omega | (simp; omega))]; first | assumption | (simp [go_sem]; done) | (simp [go_sem, k1_0_0, k1_0_1, k1_1_0, k1_1_1, k1_2_0, f1_2_0, k1_2_1, f1_2_1, k1_2_2, f1_2_2, k1_2_3, f1_2_3, k1_2_4, f1_2_4, k1_2_5, f1_2_5, k1_2_6, f1_2_6]; done) | (simp [go_sem, *]; done)
    have k2_2_6 : w2.cell? ⟨w.heap.size + 1 + 1, 6, none⟩ = some (.bool true) := by rw [hc2 _ _ (by first | (simp; done) | omega | (simp; omega))]; first | assumption | (simp [go_sem]; done) | (simp [go_sem, k1_0_0, k1_0_1, k1_1_0, k1_1_1, k1_2_0, f1_2_0, k1_2_1, f1_2_1, k1_2_2, f1_2_2, k1_2_3, f1_2_3, k1_2_4, f1_2_4, k1_2_5, f1_2_5, k1_2_6, f1_2_6]; done) | (simp [go_sem, *]; done)
    have f2_2_6 : w2.frozen? ⟨w.heap.size + 1 + 1, 6, none⟩ = false := by rw [hf2 _ _ (by first | (simp; done) | omega | (simp; omega))]; first | assumption | (simp [go_sem]; done) | (simp [go_sem, k1_0_0, k1_0_1, k1_1_0, k1_1_1, k1_2_0, f1_2_0, k1_2_1, f1_2_1, k1_2_2, f1_2_2, k1_2_3, f1_2_3, k1_2_4, f1_2_4, k1_2_5, f1_2_5, k1_2_6, f1_2_6]; done) | (simp [go_sem, *]; done)
    have s2_2 : w.heap.size + 1 + 1 < w2.heap.size := by omega
    have hB2 : Below w.heap.size w w2 := (by repeat (first | exact Below.refl _ _ | exact HB1.out | refine bl_alloc ?_ _ | refine bl_drewN ?_ _ | refine bl_trans (by assumption) ?_ | refine bl_set ?_ (by first | omega | (simp; done) | (simp; omega)) _))
    have HB2 := Lib.hid hB2
    clear hB2 hc2 hf2 hb2 k1_0_0 k1_0_1 k1_1_0 k1_1_1 k1_2_0 f1_2_0 k1_2_1 f1_2_1 k1_2_2 f1_2_2 k1_2_3 f1_2_3 k1_2_4 f1_2_4 k1_2_5 f1_2_5 k1_2_6 f1_2_6
    have HBp3 := HB2
    go_wp2_with fail
    refine ((HF _).out).mono ?_
    rintro e w3 ⟨rfl, hb3⟩
    obtain ⟨hc3, hf3⟩ := bcell hb3
    have hz3 := bsize hb3
    (try simp only [World.size_alloc, World.size_setCell] at hz3)
    have k3_0_0 : w3.cell? ⟨w.heap.size, 0, none⟩ = some (.int .i64 a) := by rw [hc3 _ _ (by first | (simp; done) | omega | (simp; omega))]; first | assumption | (simp [go_sem]; done) | (simp [go_sem, k2_0_0, k2_0_1, k2_1_0, k2_1_1, k2_2_0, f2_2_0, k2_2_1, f2_2_1, k2_2_2, f2_2_2, k2_2_3, f2_2_3, k2_2_4, f2_2_4, k2_2_5, f2_2_5, k2_2_6, f2_2_6]; done) | (simp [go_sem, *]; done)
    have k3_0_1 : w3.cell? ⟨w.heap.size, 1, none⟩ = some (.int .i64 b) := by rw [hc3 _ _ (by first | (simp; done) | omega | (simp; omega))]; first | assumption | (simp [go_sem]; done) | (simp [go_sem, k2_0_0, k2_0_1, k2_1_0, k2_1_1, k2_2_0, f2_2_0, k2_2_1, f2_2_1, k2_2_2, f2_2_2, k2_2_3, f2_2_3, k2_2_4, f2_2_4, k2_2_5, f2_2_5, k2_2_6, f2_2_6]; done) | (simp [go_sem, *]; done)
    have s3_0 : w.heap.size < w3.heap.size := by omega
    have k3_1_0 : w3.cell? ⟨w.heap.size + 1, 0, none⟩ = some (.int .i64 c) := by rw [hc3 _ _ (by first | (simp; done) | omega | (simp; omega))]; first | assumption | (simp [go_sem]; done) | (simp [go_sem, k2_0_0, k2_0_1, k2_1_0, k2_1_1, k2_2_0, f2_2_0, k2_2_1, f2_2_1, k2_2_2, f2_2_2, k2_2_3, f2_2_3, k2_2_4, f2_2_4, k2_2_5, f2_2_5, k2_2_6, f2_2_6]; done) | (simp [go_sem, *]; done)
    have k3_1_1 : w3.cell? ⟨w.heap.size + 1, 1, none⟩ = some (.int .i64 d) := by rw [hc3 _ _ (by first | (simp; done) | omega | (simp; omega))]; first | assumption | (simp [go_sem]; done) | (simp [go_sem, k2_0_0, k2_0_1, k2_1_0, k2_1_1, k2_2_0, f2_2_0, k2_2_1, f2_2_1, k2_2_2, f2_2_2, k2_2_3, f2_2_3, k2_2_4, f2_2_4, k2_2_5, f2_2_5, k2_2_6, f2_2_6]; done) | (simp [go_sem, *]; done)
    have s3_1 : w.heap.size + 1 < w3.heap.size := by omega
    have k3_2_0 : w3.cell? ⟨w.heap.size + 1 + 1, 0, none⟩ = some (.int .i64 a) := by rw [hc3 _ _ (by first | (simp; done) | omega | (simp; omega))]; first | assumption | (simp [go_sem]; done) | (simp [go_sem, k2_0_0, k2_0_1, k2_1_0, k2_1_1, k2_2_0, f2_2_0, k2_2_1, f2_2_1, k2_2_2, f2_2_2, k2_2_3, f2_2_3, k2_2_4, f2_2_4, k2_2_5, f2_2_5, k2_2_6, f2_2_6]; done) | (simp [go_sem, *]; done)
    have f3_2_0 : w3.frozen? ⟨w.heap.size + 1 + 1, 0, none⟩ = false := by rw [hf3 _ _ (by first | (simp; done) | omega | (simp; omega))]; first | assumption | (simp [go_sem]; done) | (simp [go_sem, k2_0_0, k2_0_1, k2_1_0, k2_1_1, k2_2_0, f2_2_0, k2_2_1, f2_2_1, k2_2_2, f2_2_2, k2_2_3, f2_2_3, k2_2_4, f2_2_4, k2_2_5, f2_2_5, k2_2_6, f2_2_6]; done) | (simp [go_sem, *]; done)
    have k3_2_1 : w3.cell? ⟨w.heap.size + 1 + 1, 1, none⟩ = some (.int .i64 b) := by rw [hc3 _ _ (by first | (simp; done) | omega | (simp; omega))]; first | assumption | (simp [go_sem]; done) | (simp [go_sem, k2_0_0, k2_0_1, k2_1_0, k2_1_1, k2_2_0, f2_2_0, k2_2_1, f2_2_1, k2_2_2, f2_2_2, k2_2_3, f2_2_3, k2_2_4, f2_2_4, k2_2_5, f2_2_5, k2_2_6, f2_2_6]; done) | (simp [go_sem, *]; done)
    have f3_2_1 : w3.frozen? ⟨w.heap.size + 1 + 1, 1, none⟩ = false := by rw [hf3 _ _ (by first | (simp; done) | omega | (simp; omega))]; first | assumption | (simp [go_sem]; done) | (simp [go_sem, k2_0_0, k2_0_1, k2_1_0, k2_1_1, k2_2_0, f2_2_0, k2_2_1, f2_2_1, k2_2_2, f2_2_2, k2_2_3, f2_2_3, k2_2_4, f2_2_4, k2_2_5, f2_2_5, k2_2_6, f2_2_6]; done) | (simp [go_sem, *]; done)
    have k3_2_2 : w3.cell? ⟨w.heap.size + 1 + 1, 2, none⟩ = some (.int .i64 c) := by rw [hc3 _ _ (by first | (simp; done) | omega | (simp; omega))]; first | assumption | (simp [go_sem]; done) | (simp [go_sem, k2_0_0, k2_0_1, k2_1_0, k2_1_1, k2_2_0, f2_2_0, k2_2_1, f2_2_1, k2_2_2, f2_2_2, k2_2_3, f2_2_3, k2_2_4, f2_2_4, k2_2_5, f2_2_5, k2_2_6, f2_2_6]; done) | (simp [go_sem, *]; done)
    have f3_2_2 : w3.frozen? ⟨w.heap.size + 1 + 1, 2, none⟩ = false := by rw [hf3 _ _ (by first | (simp; done) | omega | (simp; omega))]; first | assumption | (simp [go_sem]; done) | (simp [go_sem, k2_0_0, k2_0_1, k2_1_0, k2_1_1, k2_2_0, f2_2_0, k2_2_1, f2_2_1, k2_2_2, f2_2_2, k2_2_3, f2_2_3, k2_2_4, f2_2_4, k2_2_5, f2_2_5, k2_2_6, f2_2_6]; done) | (simp [go_sem, *]; done)
    have k3_2_3 : w3.cell? ⟨w.heap.size + 1 + 1, 3, none⟩ = some (.int .i64 d) := by rw [hc3 _ _ (by first | (simp; done) | omega | (simp; omega))]; first | assumption | (simp [go_sem]; done) | (simp [go_sem, k2_0_0, k2_0_1, k2_1_0, k2_1_1, k2_2_0, f2_2_0, k2_2_1, f2_2_1, k2_2_2, f2_2_2, k2_2_3, f2_2_3, k2_2_4, f2_2_4, k2_2_5, f2_2_5, k2_2_6, f2_2_6]; done) | (simp [go_sem, *]; done)
    have f3_2_3 : w3.frozen? ⟨w.heap.size + 1 + 1, 3, none⟩ = false := by rw [hf3 _ _ (by first | (simp; done) | omega | (simp; omega))]; first | assumption | (simp [go_sem]; done) | (simp [go_sem, k2_0_0, k2_0_1, k2_1_0, k2_1_1, k2_2_0, f2_2_0, k2_2_1, f2_2_1, k2_2_2, f2_2_2, k2_2_3, f2_2_3, k2_2_4, f2_2_4, k2_2_5, f2_2_5, k2_2_6, f2_2_6]; done) | (simp [go_sem, *]; done)
    have k3_2_4 : w3.cell? ⟨w.heap.size + 1 + 1, 4, none⟩ = some (.int .i64 h) := by rw [hc3 _ _ (by first | (simp; done) | omega | (simp; omega))]; first | assumption | (simp [go_sem]; done) | (simp [go_sem, k2_0_0, k2_0_1, k2_1_0, k2_1_1, k2_2_0, f2_2_0, k2_2_1, f2_2_1, k2_2_2, f2_2_2, k2_2_3, f2_2_3, k2_2_4, f2_2_4, k2_2_5, f2_2_5, k2_2_6, f2_2_6]; done) | (simp [go_sem, *]; done)
    have f3_2_4 : w3.frozen? ⟨w.heap.size + 1 + 1, 4, none⟩ = false := by rw [hf3 _ _ (by first | (simp; done) | omega | (simp; omega))]; first | assumption | (simp [go_sem]; done) | (simp [go_sem, k2_0_0, k2_0_1, k2_1_0, k2_1_1, k2_2_0, f2_2_0, k2_2_1, f2_2_1, k2_2_2, f2_2_2, k2_2_3, f2_2_3, k2_2_4, f2_2_4, k2_2_5, f2_2_5, k2_2_6, f2_2_6]; done) | (simp [go_sem, *]; done)
    have k3_2_5 : w3.cell? ⟨w.heap.size + 1 + 1, 5, none⟩ = some (.int .i64 t) := by rw [hc3 _ _ (by first | (simp; done) | omega | (simp; omega))]; first | assumption | (simp [go_sem]; done) | (simp [go_sem, k2_0_0, k2_0_1, k2_1_0, k2_1_1, k2_2_0, f2_2_0, k2_2_1, f2_2_1, k2_2_2, f2_2_2, k2_2_3, f2_2_3, k2_2_4, f2_2_4, k2_2_5, f2_2_5, k2_2_6, f2_2_6]; done) | (simp [go_sem, *]; done)
    have f3_2_5 : w3.frozen? ⟨w.heap.size + 1 + 1, 5, none⟩ = false := by rw [hf3 _ _ (by first | (simp; done) | omega | (simp; omega))]; first | assumption | (simp [go_sem]; done) | (simp [go_sem, k2_0_0, k2_0_1, k2_1_0, k2_1_1, k2_2_0, f2_2_0, k2_2_1, f2_2_1, k2_2_2, f2_2_2, k2_2_3, f2_2_3, k2_2_4, f2_2_4, k2_2_5, f2_2_5, k2_2_6, f2_2_6]; done) | (simp [go_sem, *]; done)
    have k3_2_6 : w3.cell? ⟨w.heap.size + 1 + 1, 6, none⟩ = some (.bool false) := by rw [hc3 _ _ (by first | (simp; done) | omega | (simp; omega))]; first | assumption | (simp [go_sem]; done) | (simp [go_sem, k2_0_0, k2_0_1, k2_1_0, k2_1_1, k2_2_0, f2_2_0, k2_2_1, f2_2_1, k2_2_2, f2_2_2, k2_2_3, f2_2_3, k2_2_4, f2_2_4, k2_2_5, f2_2_5, k2_2_6, f2_2_6]; done) | (simp [go_sem, *]; done)
    have f3_2_6 : w3.frozen? ⟨w.heap.size + 1 + 1, 6, none⟩ = false := by rw [hf3 _ _ (by first | (simp; done) | omega | (simp; omega))]; first | assumption | (simp [go_sem]; done) | (simp [go_sem, k2_0_0, k2_0_1, k2_1_0, k2_1_1, k2_2_0, f2_2_0, k2_2_1, f2_2_1, k2_2_2, f2_2_2, k2_2_3, f2_2_3, k2_2_4, f2_2_4, k2_2_5, f2_2_5, k2_2_6, f2_2_6]; done) | (simp [go_sem, *]; done)
    have s3_2 : w.heap.size + 1 + 1 < w3.heap.size := by omega
    have hB3 : Below w.heap.size w w3 := (by repeat (first | exact Below.refl _ _ | exact HB2.out | refine bl_alloc ?_ _ | refine bl_drewN ?_ _ | refine bl_trans (by assumption) ?_ | refine bl_set ?_ (by first | omega | (simp; done) | (simp; omega)) _))
    have HB3 := Lib.hid hB3
    clear hB3 hc3 hf3 hb3 k2_0_0 k2_0_1 k2_1_0 k2_1_1 k2_2_0 f2_2_0 k2_2_1 f2_2_1 k2_2_2 f2_2_2 k2_2_3 f2_2_3 k2_2_4 f2_2_4 k2_2_5 f2_2_5 k2_2_6 f2_2_6
    go_wp2
    all_goals (go_ret3; exact ⟨by simp [Z, SB0.out, SM0.out, *] <;> omega, (by repeat (first | exact HB3.out | exact Below.refl _ _ | refine bl_alloc ?_ _ | refine bl_drewN ?_ _ | refine bl_trans (by assumption) ?_ | refine bl_set ?_ (by first | omega | (simp; done) | (simp; omega)) _))⟩)
set_option maxRecDepth 100000 in
set_option maxHeartbeats 4000000 in
theorem spec_BestInCorridor (a b c d h t : Int) (w : World) :
    Calls Try.prog 52 #[.agg #[.int .i64 a, .int .i64 b], .agg #[.int .i64 c, .int .i64 d], .int .i64 h, .int .i64 t] w fun e w' => e = .returned (.tuple #[.bool (okCo a b c d h t && SB a b c d h t), .int .i64 (Z (okCo a b c d h t) (SM a b c d h t)), .bool (okCo a b c d h t)]) ∧ Below w.heap.size w w' := by
  cases hk : okCo a b c d h t
  · go_enter Try.func52, Try.ntmps52
    go_wp2_with fail
    refine (lwCorridor_any _ _ _ _ _ _ _).mono ?_
    rintro e w1 ⟨rfl, hb1⟩
    obtain ⟨hc1, hf1⟩ := bcell hb1
    have hz1 := bsize hb1
    (try simp only [World.size_alloc, World.size_setCell] at hz1)
    have k1_0_0 : w1.cell? ⟨w.heap.size, 0, none⟩ = some (.int .i64 a) := by rw [hc1 _ _ (by first | (simp; done) | omega | (simp; omega))]; first | assumption | (simp [go_sem]; done) | (simp [go_sem]; done) | (simp [go_sem, *]; done)
    have k1_0_1 : w1.cell? ⟨w.heap.size, 1, none⟩ = some (.int .i64 b) := by rw [hc1 _ _ (by first | (simp; done) | omega | (simp; omega))]; first | assumption | (simp [go_sem]; done) | (simp [go_sem]; done) | (simp [go_sem, *]; done)
    have s1_0 : w.heap.size < w1.heap.size := by omega
    have k1_1_0 : w1.cell? ⟨w.heap.size + 1, 0, none⟩ = some (.int .i64 c) := by rw [hc1 _ _ (by first | (simp; done) | omega | (simp; omega))]; first | assumption | (simp [go_sem]; done) | (simp [go_sem]; done) | (simp [go_sem, *]; done)
    have k1_1_1 : w1.cell? ⟨w.heap.size + 1, 1, none⟩ = some (.int .i64 d) := by rw [hc1 _ _ (by first | (simp; done) | omega | (simp; omega))]; first | assumption | (simp [go_sem]; done) | (simp [go_sem]; done) | (simp [go_sem, *]; done)
    have s1_1 : w.heap.size + 1 < w1.heap.size := by omega
    have hB1 : Below w.heap.size w w1 := (by repeat (first | exact Below.refl _ _ | refine bl_alloc ?_ _ | refine bl_drewN ?_ _ | refine bl_trans (by assumption) ?_ | refine bl_set ?_ (by first | omega | (simp; done) | (simp; omega)) _))
    have HB1 := Lib.hid hB1
    clear hB1 hc1 hf1 hb1
    rw [hk]
    go_wp2
    go_ret3
    exact ⟨by simp [Z], (by repeat (first | exact HB1.out | exact Below.refl _ _ | refine bl_alloc ?_ _ | refine bl_drewN ?_ _ | refine bl_trans (by assumption) ?_ | refine bl_set ?_ (by first | omega | (simp; done) | (simp; omega)) _))⟩
  · have HG := fun g W => Lib.hid (lwCorridorSquare_any a b c d h t g hk W)
    have SB0 := Lib.hid (show SB a b c d h t = decide (SC a b c d h t true ≤ SC a b c d h t false) from rfl)
    have SM0 := Lib.hid (show SM a b c d h t = min (SC a b c d h t true) (SC a b c d h t false) from rfl)
    generalize SB a b c d h t = sb at *
    generalize SM a b c d h t = sm at *
    generalize SC a b c d h t = QQ at *
    go_enter Try.func52, Try.ntmps52
    go_wp2_with fail
    refine (lwCorridor_any _ _ _ _ _ _ _).mono ?_
    rintro e w1 ⟨rfl, hb1⟩
    obtain ⟨hc1, hf1⟩ := bcell hb1
    have hz1 := bsize hb1
    (try simp only [World.size_alloc, World.size_setCell] at hz1)
    have k1_0_0 : w1.cell? ⟨w.heap.size, 0, none⟩ = some (.int .i64 a) := by rw [hc1 _ _ (by first | (simp; done) | omega | (simp; omega))]; first | assumption | (simp [go_sem]; done) | (simp [go_sem]; done) | (simp [go_sem, *]; done)
    have k1_0_1 : w1.cell? ⟨w.heap.size, 1, none⟩ = some (.int .i64 b) := by rw [hc1 _ _ (by first | (simp; done) | omega | (simp; omega))]; first | assumption | (simp [go_sem]; done) | (simp [go_sem]; done) | (simp [go_sem, *]; done)
    have s1_0 : w.heap.size < w1.heap.size := by omega
    have k1_1_0 : w1.cell? ⟨w.heap.size + 1, 0, none⟩ = some (.int .i64 c) := by rw [hc1 _ _ (by first | (simp; done) | omega | (simp; omega))]; first | assumption | (simp [go_sem]; done) | (simp [go_sem]; done) | (simp [go_sem, *]; done)
    have k1_1_1 : w1.cell? ⟨w.heap.size + 1, 1, none⟩ = some (.int .i64 d) := by rw [hc1 _ _ (by first | (simp; done) | omega | (simp; omega))]; first | assumption | (simp [go_sem]; done) | (simp [go_sem]; done) | (simp [go_sem, *]; done)
    have s1_1 : w.heap.size + 1 < w1.heap.size := by omega
    have hB1 : Below w.heap.size w w1 := (by repeat (first | exact Below.refl _ _ | refine bl_alloc ?_ _ | refine bl_drewN ?_ _ | refine bl_trans (by assumption) ?_ | refine bl_set ?_ (by first | omega | (simp; done) | (simp; omega)) _))
    have HB1 := Lib.hid hB1
    clear hB1 hc1 hf1 hb1
    rw [hk]
    go_wp2_with fail
    have hS : w1.cell? ⟨w.heap.size, 0, none⟩ = some (.int .i64 a) ∧ w1.cell? ⟨w.heap.size, 1, none⟩ = some (.int .i64 b) ∧ w1.cell? ⟨w.heap.size + 1, 0, none⟩ = some (.int .i64 c) ∧ w1.cell? ⟨w.heap.size + 1, 1, none⟩ = some (.int .i64 d) ∧ w.heap.size + 1 < w1.heap.size ∧ Below w.heap.size w w1 := ⟨k1_0_0, k1_0_1, k1_1_0, k1_1_1, s1_1, HB1.out⟩
    go_region_held3 (fun w' => w'.cell? ⟨w.heap.size, 0, none⟩ = some (.int .i64 a) ∧ w'.cell? ⟨w.heap.size, 1, none⟩ = some (.int .i64 b) ∧ w'.cell? ⟨w.heap.size + 1, 0, none⟩ = some (.int .i64 c) ∧ w'.cell? ⟨w.heap.size + 1, 1, none⟩ = some (.int .i64 d) ∧ w.heap.size + 1 < w'.heap.size ∧ Below w.heap.size w w') (first | exact S4_after hb2 (by assumption) | exact S4_after (below_drewN (Below.refl _ _) _) (by assumption) | exact S4_after (Below.drew (Below.refl _ _)) (by assumption) | assumption) (first | (go_at_call 89; refine ((HG _ _).out).mono ?_; rintro e w2 ⟨rfl, hb2⟩))
    have hfin := last6 (by assumption)
    go_wp2_with (go_at_call 93; refine (l1Least_any _ _ _).mono ?_; rintro e w' ⟨rfl, rfl⟩)
    all_goals (go_ret3; exact ⟨by simp [Z, SB0.out, SM0.out, *], hfin⟩)
end Go.Proofs.Ytppgcaennhghoaa
