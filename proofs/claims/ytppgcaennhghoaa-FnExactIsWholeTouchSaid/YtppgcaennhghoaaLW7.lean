/- WaysWithin: by the program and by the model alike. -/
import Derived.Test.YtppgcaennhghoaaLW5
import Derived.LoopN
namespace Go.Proofs.Ytppgcaennhghoaa
open Go.RowKit
set_option linter.unusedVariables false
set_option linter.unusedSimpArgs false
theorem frozen_after {u v : World} (hb : Below u.heap.size u v) {n o : Nat} {x : Bool} (hn : n < u.heap.size) (hu : u.frozen? ⟨n, o, none⟩ = x) : v.frozen? ⟨n, o, none⟩ = x := by
  rw [(bcell hb).2 _ _ hn]; exact hu
def one (p : Prop) [Decidable p] : Int := if p then 1 else 0
/-- how many ways with at most k touches are at most so long -/
def wwc (a b c d h L : Int) : Nat → Int
  | 0 => 0
  | k + 1 => wwc a b c d h L k + one (SC a b c d h (k + 1) true ≤ L * L) + one (SC a b c d h (k + 1) false ≤ L * L)
theorem wwc_bd (a b c d h L : Int) (k : Nat) : 0 ≤ wwc a b c d h L k ∧ wwc a b c d h L k ≤ 2 * k := by
  induction k with
  | zero => simp [wwc]
  | succ k ih =>
    have h1 : ∀ (p : Prop) [Decidable p], 0 ≤ one p ∧ one p ≤ 1 := fun p _ => by unfold one; split <;> omega
    have := h1 (SC a b c d h (k + 1) true ≤ L * L)
    have := h1 (SC a b c d h (k + 1) false ≤ L * L)
    unfold wwc
    omega
theorem inCo_okCo {a b c d h : Int} {k : Int} (e : inCo a b c d h = true) (k0 : 1 ≤ k) (k1 : k ≤ 50) : okCo a b c d h k = true := by
  unfold okCo within
  rw [e, decide_eq_true k0, decide_eq_true k1]
  rfl
def okWW (a b c d h L : Int) : Bool := inCo a b c d h && within L 0 100000
set_option maxRecDepth 100000 in
set_option maxHeartbeats 8000000 in
theorem spec_WaysWithin (a b c d h l : Int) (w : World) :
    Calls Try.prog 54 #[.agg #[.int .i64 a, .int .i64 b], .agg #[.int .i64 c, .int .i64 d], .int .i64 h, .int .i64 l] w fun e w' => e = .returned (.tuple #[.int .i64 (Z (okWW a b c d h l) (wwc a b c d h l 50)), .bool (okWW a b c d h l)]) ∧ Below w.heap.size w w' := by
  have G1 := Lib.hid (show okCo a b c d h 1 = inCo a b c d h by unfold okCo; rw [show within 1 1 50 = true by decide, Bool.and_true])
  cases g1 : inCo a b c d h
  · rw [g1] at G1
    go_enter Try.func54, Try.ntmps54
    go_wp2_with fail
    refine (lwCorridor_any _ _ _ _ _ _ _).mono ?_
    rintro e w1 ⟨rfl, hbw1⟩
    obtain ⟨hcw1, hfw1⟩ := bcell hbw1
    have hzw1 := bsize hbw1
    (try simp only [World.size_alloc, World.size_setCell] at hzw1)
    have kw1_0_0 : w1.cell? ⟨w.heap.size, 0, none⟩ = some (.int .i64 a) := by rw [hcw1 _ _ (by first | (simp; done) | omega | (simp; omega))]; first | assumption | (simp [go_sem]; done) | (simp [go_sem]; done) | (simp [go_sem, *]; done)
    have kw1_0_1 : w1.cell? ⟨w.heap.size, 1, none⟩ = some (.int .i64 b) := by rw [hcw1 _ _ (by first | (simp; done) | omega | (simp; omega))]; first | assumption | (simp [go_sem]; done) | (simp [go_sem]; done) | (simp [go_sem, *]; done)
    have sw1_0 : w.heap.size < w1.heap.size := by first | omega | (simp at *; omega)
    have kw1_1_0 : w1.cell? ⟨w.heap.size + 1, 0, none⟩ = some (.int .i64 c) := by rw [hcw1 _ _ (by first | (simp; done) | omega | (simp; omega))]; first | assumption | (simp [go_sem]; done) | (simp [go_sem]; done) | (simp [go_sem, *]; done)
    have kw1_1_1 : w1.cell? ⟨w.heap.size + 1, 1, none⟩ = some (.int .i64 d) := by rw [hcw1 _ _ (by first | (simp; done) | omega | (simp; omega))]; first | assumption | (simp [go_sem]; done) | (simp [go_sem]; done) | (simp [go_sem, *]; done)
    have sw1_1 : w.heap.size + 1 < w1.heap.size := by first | omega | (simp at *; omega)
    have hBw1 : Below w.heap.size w w1 := (by repeat (first | exact Below.refl _ _ | refine bl_alloc ?_ _ | refine bl_drewN ?_ _ | refine bl_trans (by assumption) ?_ | refine bl_set ?_ (by first | omega | (simp; done) | (simp; omega)) _))
    have HBw1 := Lib.hid hBw1
    clear hBw1 hcw1 hfw1 hbw1
    rw [G1.out]
    go_wp2
    go_ret2
    exact ⟨by simp [Z, okWW, g1], (by repeat (first | exact HBw1.out | exact Below.refl _ _ | refine bl_alloc ?_ _ | refine bl_drewN ?_ _ | refine bl_trans (by assumption) ?_ | refine bl_set ?_ (by first | omega | (simp; done) | (simp; omega)) _))⟩
  cases g2 : within l 0 100000
  · rw [g1] at G1
    go_enter Try.func54, Try.ntmps54
    go_wp2_with fail
    refine (lwCorridor_any _ _ _ _ _ _ _).mono ?_
    rintro e w1 ⟨rfl, hbw1⟩
    obtain ⟨hcw1, hfw1⟩ := bcell hbw1
    have hzw1 := bsize hbw1
    (try simp only [World.size_alloc, World.size_setCell] at hzw1)
    have kw1_0_0 : w1.cell? ⟨w.heap.size, 0, none⟩ = some (.int .i64 a) := by rw [hcw1 _ _ (by first | (simp; done) | omega | (simp; omega))]; first | assumption | (simp [go_sem]; done) | (simp [go_sem]; done) | (simp [go_sem, *]; done)
    have kw1_0_1 : w1.cell? ⟨w.heap.size, 1, none⟩ = some (.int .i64 b) := by rw [hcw1 _ _ (by first | (simp; done) | omega | (simp; omega))]; first | assumption | (simp [go_sem]; done) | (simp [go_sem]; done) | (simp [go_sem, *]; done)
    have sw1_0 : w.heap.size < w1.heap.size := by first | omega | (simp at *; omega)
    have kw1_1_0 : w1.cell? ⟨w.heap.size + 1, 0, none⟩ = some (.int .i64 c) := by rw [hcw1 _ _ (by first | (simp; done) | omega | (simp; omega))]; first | assumption | (simp [go_sem]; done) | (simp [go_sem]; done) | (simp [go_sem, *]; done)
    have kw1_1_1 : w1.cell? ⟨w.heap.size + 1, 1, none⟩ = some (.int .i64 d) := by rw [hcw1 _ _ (by first | (simp; done) | omega | (simp; omega))]; first | assumption | (simp [go_sem]; done) | (simp [go_sem]; done) | (simp [go_sem, *]; done)
    have sw1_1 : w.heap.size + 1 < w1.heap.size := by first | omega | (simp at *; omega)
    have hBw1 : Below w.heap.size w w1 := (by repeat (first | exact Below.refl _ _ | refine bl_alloc ?_ _ | refine bl_drewN ?_ _ | refine bl_trans (by assumption) ?_ | refine bl_set ?_ (by first | omega | (simp; done) | (simp; omega)) _))
    have HBw1 := Lib.hid hBw1
    clear hBw1 hcw1 hfw1 hbw1
    rw [G1.out]
    go_wp2_with fail
    refine (l1In_any _ _ _ _).mono ?_
    rintro e w' ⟨rfl, rfl⟩
    rw [g2]
    go_wp2
    go_ret2
    exact ⟨by simp [Z, okWW, g2], (by repeat (first | exact HBw1.out | exact Below.refl _ _ | refine bl_alloc ?_ _ | refine bl_drewN ?_ _ | refine bl_trans (by assumption) ?_ | refine bl_set ?_ (by first | omega | (simp; done) | (simp; omega)) _))⟩
  have HO := Lib.hid (show okWW a b c d h l = true by simp only [okWW, g1, g2, Bool.true_and])
  have HW := Lib.hid (show Z (okWW a b c d h l) (wwc a b c d h l 50) = wwc a b c d h l 50 by unfold Z; rw [HO.out]; rfl)
  obtain ⟨l1, l2⟩ := within_true g2
  obtain ⟨f1, f2⟩ := mul_bd2 (a := l) (b := l) (m := 100000) (k := 100000) l1 l1 l2 l2
  have HI := Lib.hid g1
  rw [g1] at G1
  go_enter Try.func54, Try.ntmps54
  go_wp2_with fail
  refine (lwCorridor_any _ _ _ _ _ _ _).mono ?_
  rintro e w1 ⟨rfl, hbw1⟩
  obtain ⟨hcw1, hfw1⟩ := bcell hbw1
  have hzw1 := bsize hbw1
  (try simp only [World.size_alloc, World.size_setCell] at hzw1)
  have kw1_0_0 : w1.cell? ⟨w.heap.size, 0, none⟩ = some (.int .i64 a) := by rw [hcw1 _ _ (by first | (simp; done) | omega | (simp; omega))]; first | assumption | (simp [go_sem]; done) | (simp [go_sem]; done) | (simp [go_sem, *]; done)
  have kw1_0_1 : w1.cell? ⟨w.heap.size, 1, none⟩ = some (.int .i64 b) := by rw [hcw1 _ _ (by first | (simp; done) | omega | (simp; omega))]; first | assumption | (simp [go_sem]; done) | (simp [go_sem]; done) | (simp [go_sem, *]; done)
  have sw1_0 : w.heap.size < w1.heap.size := by first | omega | (simp at *; omega)
  have kw1_1_0 : w1.cell? ⟨w.heap.size + 1, 0, none⟩ = some (.int .i64 c) := by rw [hcw1 _ _ (by first | (simp; done) | omega | (simp; omega))]; first | assumption | (simp [go_sem]; done) | (simp [go_sem]; done) | (simp [go_sem, *]; done)
  have kw1_1_1 : w1.cell? ⟨w.heap.size + 1, 1, none⟩ = some (.int .i64 d) := by rw [hcw1 _ _ (by first | (simp; done) | omega | (simp; omega))]; first | assumption | (simp [go_sem]; done) | (simp [go_sem]; done) | (simp [go_sem, *]; done)
  have sw1_1 : w.heap.size + 1 < w1.heap.size := by first | omega | (simp at *; omega)
  have hBw1 : Below w.heap.size w w1 := (by repeat (first | exact Below.refl _ _ | refine bl_alloc ?_ _ | refine bl_drewN ?_ _ | refine bl_trans (by assumption) ?_ | refine bl_set ?_ (by first | omega | (simp; done) | (simp; omega)) _))
  have HBw1 := Lib.hid hBw1
  clear hBw1 hcw1 hfw1 hbw1
  rw [G1.out]
  go_wp2_with fail
  refine (l1In_any _ _ _ _).mono ?_
  rintro e w' ⟨rfl, rfl⟩
  rw [g2]
  go_wp2_with fail
  go_loopw [10, 11] (fun n t wr => ∃ k : Nat, k ≤ 50 ∧ t = .int .i64 ((k : Int) + 1) ∧ n = .int .i64 (wwc a b c d h l k) ∧ wr.cell? ⟨w.heap.size, 0, none⟩ = some (.int .i64 a) ∧ wr.cell? ⟨w.heap.size, 1, none⟩ = some (.int .i64 b) ∧ wr.cell? ⟨w.heap.size + 1, 0, none⟩ = some (.int .i64 c) ∧ wr.cell? ⟨w.heap.size + 1, 1, none⟩ = some (.int .i64 d) ∧ w.heap.size + 1 < wr.heap.size ∧ Below w.heap.size w wr) (fun _ t _ => 51 - (intOf t).toNat)
  case atStart => exact ⟨0, by omega, by simp, by simp [wwc], kw1_0_0, kw1_0_1, kw1_1_0, kw1_1_1, sw1_1, HBw1.out⟩
  case round =>
    obtain ⟨k, hk, rfl, rfl, q0, q1, q2, q3, hs, hB⟩ := hrel
    have HBr := Lib.hid hB
    clear hB
    clear kw1_0_0 kw1_0_1 kw1_1_0 kw1_1_1 sw1_1 sw1_0 hzw1
    obtain ⟨c1, c2⟩ := wwc_bd a b c d h l k
    by_cases hlt : k < 50
    · have HG := fun g W => Lib.hid (lwCorridorSquare_any a b c d h ((k : Int) + 1) g (inCo_okCo HI.out (by omega) (by omega)) W)
      rcases (show (SC a b c d h ((k : Int) + 1) true ≤ l * l ∧ SC a b c d h ((k : Int) + 1) false ≤ l * l) ∨ (SC a b c d h ((k : Int) + 1) true ≤ l * l ∧ ¬ SC a b c d h ((k : Int) + 1) false ≤ l * l) ∨ (¬ SC a b c d h ((k : Int) + 1) true ≤ l * l ∧ SC a b c d h ((k : Int) + 1) false ≤ l * l) ∨ (¬ SC a b c d h ((k : Int) + 1) true ≤ l * l ∧ ¬ SC a b c d h ((k : Int) + 1) false ≤ l * l) by omega) with ⟨m1, m2⟩ | ⟨m1, m2⟩ | ⟨m1, m2⟩ | ⟨m1, m2⟩
      · have HS := Lib.hid (show wwc a b c d h l (k + 1) = wwc a b c d h l k + 1 + 1 by rw [wwc]; unfold one; rw [if_pos m1, if_pos m2])
        generalize wwc a b c d h l k = n at *
        generalize SC a b c d h ((k : Int) + 1) = QQ at *
        have hs0 : w.heap.size < wr.heap.size := by omega
        go_wp2_with fail
        refine wp_loop_rounds 3 ?_
        rw [rounds_succ]
        go_wp2_with fail
        refine ((HG _ _).out).mono ?_
        rintro e v1 ⟨rfl, hbv1⟩
        obtain ⟨hcv1, hfv1⟩ := bcell hbv1
        have hzv1 := bsize hbv1
        (try simp only [World.size_alloc, World.size_setCell] at hzv1)
        have hkv1 : Below wr.heap.size wr v1 := (by repeat (first | exact Below.refl _ _ | refine bl_alloc ?_ _ | refine bl_drewN ?_ _ | refine bl_trans (by assumption) ?_ | refine bl_set ?_ (by first | omega | (simp; done) | (simp; omega)) _))
        have kv1_0_0 : v1.cell? ⟨w.heap.size, 0, none⟩ = some (.int .i64 a) := cell_after hkv1 hs0 q0
        have kv1_0_1 : v1.cell? ⟨w.heap.size, 1, none⟩ = some (.int .i64 b) := cell_after hkv1 hs0 q1
        have sv1_0 : w.heap.size < v1.heap.size := size_after hkv1 hs0
        have kv1_1_0 : v1.cell? ⟨w.heap.size + 1, 0, none⟩ = some (.int .i64 c) := cell_after hkv1 hs q2
        have kv1_1_1 : v1.cell? ⟨w.heap.size + 1, 1, none⟩ = some (.int .i64 d) := cell_after hkv1 hs q3
        have sv1_1 : w.heap.size + 1 < v1.heap.size := size_after hkv1 hs
        have hBv1 : Below w.heap.size w v1 := (by repeat (first | exact HBr.out | exact Below.refl _ _ | refine bl_alloc ?_ _ | refine bl_drewN ?_ _ | refine bl_trans (by assumption) ?_ | refine bl_set ?_ (by first | omega | (simp; done) | (simp; omega)) _))
        have HBv1 := Lib.hid hBv1
        clear hBv1 hcv1 hfv1 hbv1 hkv1 q0 q1 hs0 q2 q3 hs
        go_wp2_with fail
        rw [rounds_succ]
        go_wp2_with fail
        refine ((HG _ _).out).mono ?_
        rintro e v2 ⟨rfl, hbv2⟩
        obtain ⟨hcv2, hfv2⟩ := bcell hbv2
        have hzv2 := bsize hbv2
        (try simp only [World.size_alloc, World.size_setCell] at hzv2)
        have hkv2 : Below v1.heap.size v1 v2 := (by repeat (first | exact Below.refl _ _ | refine bl_alloc ?_ _ | refine bl_drewN ?_ _ | refine bl_trans (by assumption) ?_ | refine bl_set ?_ (by first | omega | (simp; done) | (simp; omega)) _))
        have kv2_0_0 : v2.cell? ⟨w.heap.size, 0, none⟩ = some (.int .i64 a) := cell_after hkv2 sv1_0 kv1_0_0
        have kv2_0_1 : v2.cell? ⟨w.heap.size, 1, none⟩ = some (.int .i64 b) := cell_after hkv2 sv1_0 kv1_0_1
        have sv2_0 : w.heap.size < v2.heap.size := size_after hkv2 sv1_0
        have kv2_1_0 : v2.cell? ⟨w.heap.size + 1, 0, none⟩ = some (.int .i64 c) := cell_after hkv2 sv1_1 kv1_1_0
        have kv2_1_1 : v2.cell? ⟨w.heap.size + 1, 1, none⟩ = some (.int .i64 d) := cell_after hkv2 sv1_1 kv1_1_1
        have sv2_1 : w.heap.size + 1 < v2.heap.size := size_after hkv2 sv1_1
        have hBv2 : Below w.heap.size w v2 := (by repeat (first | exact HBv1.out | exact Below.refl _ _ | refine bl_alloc ?_ _ | refine bl_drewN ?_ _ | refine bl_trans (by assumption) ?_ | refine bl_set ?_ (by first | omega | (simp; done) | (simp; omega)) _))
        have HBv2 := Lib.hid hBv2
        clear hBv2 hcv2 hfv2 hbv2 hkv2 kv1_0_0 kv1_0_1 sv1_0 kv1_1_0 kv1_1_1 sv1_1
        go_wp2_with fail
        rw [rounds_succ]
        go_wp2
        go_roundw
        case rel => exact ⟨k + 1, by omega, by go_num, by rw [HS.out]; first | done | rfl | go_num, kv2_0_0, kv2_0_1, kv2_1_0, kv2_1_1, sv2_1, HBv2.out⟩
        case measure => simp only [intOf]; omega
      · have HS := Lib.hid (show wwc a b c d h l (k + 1) = wwc a b c d h l k + 1 + 0 by rw [wwc]; unfold one; rw [if_pos m1, if_neg m2])
        generalize wwc a b c d h l k = n at *
        generalize SC a b c d h ((k : Int) + 1) = QQ at *
        have hs0 : w.heap.size < wr.heap.size := by omega
        go_wp2_with fail
        refine wp_loop_rounds 3 ?_
        rw [rounds_succ]
        go_wp2_with fail
        refine ((HG _ _).out).mono ?_
        rintro e v1 ⟨rfl, hbv1⟩
        obtain ⟨hcv1, hfv1⟩ := bcell hbv1
        have hzv1 := bsize hbv1
        (try simp only [World.size_alloc, World.size_setCell] at hzv1)
        have hkv1 : Below wr.heap.size wr v1 := (by repeat (first | exact Below.refl _ _ | refine bl_alloc ?_ _ | refine bl_drewN ?_ _ | refine bl_trans (by assumption) ?_ | refine bl_set ?_ (by first | omega | (simp; done) | (simp; omega)) _))
        have kv1_0_0 : v1.cell? ⟨w.heap.size, 0, none⟩ = some (.int .i64 a) := cell_after hkv1 hs0 q0
        have kv1_0_1 : v1.cell? ⟨w.heap.size, 1, none⟩ = some (.int .i64 b) := cell_after hkv1 hs0 q1
        have sv1_0 : w.heap.size < v1.heap.size := size_after hkv1 hs0
        have kv1_1_0 : v1.cell? ⟨w.heap.size + 1, 0, none⟩ = some (.int .i64 c) := cell_after hkv1 hs q2
        have kv1_1_1 : v1.cell? ⟨w.heap.size + 1, 1, none⟩ = some (.int .i64 d) := cell_after hkv1 hs q3
        have sv1_1 : w.heap.size + 1 < v1.heap.size := size_after hkv1 hs
        have hBv1 : Below w.heap.size w v1 := (by repeat (first | exact HBr.out | exact Below.refl _ _ | refine bl_alloc ?_ _ | refine bl_drewN ?_ _ | refine bl_trans (by assumption) ?_ | refine bl_set ?_ (by first | omega | (simp; done) | (simp; omega)) _))
        have HBv1 := Lib.hid hBv1
        clear hBv1 hcv1 hfv1 hbv1 hkv1 q0 q1 hs0 q2 q3 hs
        go_wp2_with fail
        rw [rounds_succ]
        go_wp2_with fail
        refine ((HG _ _).out).mono ?_
        rintro e v2 ⟨rfl, hbv2⟩
        obtain ⟨hcv2, hfv2⟩ := bcell hbv2
        have hzv2 := bsize hbv2
        (try simp only [World.size_alloc, World.size_setCell] at hzv2)
        have hkv2 : Below v1.heap.size v1 v2 := (by repeat (first | exact Below.refl _ _ | refine bl_alloc ?_ _ | refine bl_drewN ?_ _ | refine bl_trans (by assumption) ?_ | refine bl_set ?_ (by first | omega | (simp; done) | (simp; omega)) _))
        have kv2_0_0 : v2.cell? ⟨w.heap.size, 0, none⟩ = some (.int .i64 a) := cell_after hkv2 sv1_0 kv1_0_0
        have kv2_0_1 : v2.cell? ⟨w.heap.size, 1, none⟩ = some (.int .i64 b) := cell_after hkv2 sv1_0 kv1_0_1
        have sv2_0 : w.heap.size < v2.heap.size := size_after hkv2 sv1_0
        have kv2_1_0 : v2.cell? ⟨w.heap.size + 1, 0, none⟩ = some (.int .i64 c) := cell_after hkv2 sv1_1 kv1_1_0
        have kv2_1_1 : v2.cell? ⟨w.heap.size + 1, 1, none⟩ = some (.int .i64 d) := cell_after hkv2 sv1_1 kv1_1_1
        have sv2_1 : w.heap.size + 1 < v2.heap.size := size_after hkv2 sv1_1
        have hBv2 : Below w.heap.size w v2 := (by repeat (first | exact HBv1.out | exact Below.refl _ _ | refine bl_alloc ?_ _ | refine bl_drewN ?_ _ | refine bl_trans (by assumption) ?_ | refine bl_set ?_ (by first | omega | (simp; done) | (simp; omega)) _))
        have HBv2 := Lib.hid hBv2
        clear hBv2 hcv2 hfv2 hbv2 hkv2 kv1_0_0 kv1_0_1 sv1_0 kv1_1_0 kv1_1_1 sv1_1
        go_wp2_with fail
        rw [rounds_succ]
        go_wp2
        go_roundw
        case rel => exact ⟨k + 1, by omega, by go_num, by rw [HS.out]; first | done | rfl | go_num, kv2_0_0, kv2_0_1, kv2_1_0, kv2_1_1, sv2_1, HBv2.out⟩
        case measure => simp only [intOf]; omega
      · have HS := Lib.hid (show wwc a b c d h l (k + 1) = wwc a b c d h l k + 0 + 1 by rw [wwc]; unfold one; rw [if_neg m1, if_pos m2])
        generalize wwc a b c d h l k = n at *
        generalize SC a b c d h ((k : Int) + 1) = QQ at *
        have hs0 : w.heap.size < wr.heap.size := by omega
        go_wp2_with fail
        refine wp_loop_rounds 3 ?_
        rw [rounds_succ]
        go_wp2_with fail
        refine ((HG _ _).out).mono ?_
        rintro e v1 ⟨rfl, hbv1⟩
        obtain ⟨hcv1, hfv1⟩ := bcell hbv1
        have hzv1 := bsize hbv1
        (try simp only [World.size_alloc, World.size_setCell] at hzv1)
        have hkv1 : Below wr.heap.size wr v1 := (by repeat (first | exact Below.refl _ _ | refine bl_alloc ?_ _ | refine bl_drewN ?_ _ | refine bl_trans (by assumption) ?_ | refine bl_set ?_ (by first | omega | (simp; done) | (simp; omega)) _))
        have kv1_0_0 : v1.cell? ⟨w.heap.size, 0, none⟩ = some (.int .i64 a) := cell_after hkv1 hs0 q0
        have kv1_0_1 : v1.cell? ⟨w.heap.size, 1, none⟩ = some (.int .i64 b) := cell_after hkv1 hs0 q1
        have sv1_0 : w.heap.size < v1.heap.size := size_after hkv1 hs0
        have kv1_1_0 : v1.cell? ⟨w.heap.size + 1, 0, none⟩ = some (.int .i64 c) := cell_after hkv1 hs q2
        have kv1_1_1 : v1.cell? ⟨w.heap.size + 1, 1, none⟩ = some (.int .i64 d) := cell_after hkv1 hs q3
        have sv1_1 : w.heap.size + 1 < v1.heap.size := size_after hkv1 hs
        have hBv1 : Below w.heap.size w v1 := (by repeat (first | exact HBr.out | exact Below.refl _ _ | refine bl_alloc ?_ _ | refine bl_drewN ?_ _ | refine bl_trans (by assumption) ?_ | refine bl_set ?_ (by first | omega | (simp; done) | (simp; omega)) _))
        have HBv1 := Lib.hid hBv1
        clear hBv1 hcv1 hfv1 hbv1 hkv1 q0 q1 hs0 q2 q3 hs
        go_wp2_with fail
        rw [rounds_succ]
        go_wp2_with fail
        refine ((HG _ _).out).mono ?_
        rintro e v2 ⟨rfl, hbv2⟩
        obtain ⟨hcv2, hfv2⟩ := bcell hbv2
        have hzv2 := bsize hbv2
        (try simp only [World.size_alloc, World.size_setCell] at hzv2)
        have hkv2 : Below v1.heap.size v1 v2 := (by repeat (first | exact Below.refl _ _ | refine bl_alloc ?_ _ | refine bl_drewN ?_ _ | refine bl_trans (by assumption) ?_ | refine bl_set ?_ (by first | omega | (simp; done) | (simp; omega)) _))
        have kv2_0_0 : v2.cell? ⟨w.heap.size, 0, none⟩ = some (.int .i64 a) := cell_after hkv2 sv1_0 kv1_0_0
        have kv2_0_1 : v2.cell? ⟨w.heap.size, 1, none⟩ = some (.int .i64 b) := cell_after hkv2 sv1_0 kv1_0_1
        have sv2_0 : w.heap.size < v2.heap.size := size_after hkv2 sv1_0
        have kv2_1_0 : v2.cell? ⟨w.heap.size + 1, 0, none⟩ = some (.int .i64 c) := cell_after hkv2 sv1_1 kv1_1_0
        have kv2_1_1 : v2.cell? ⟨w.heap.size + 1, 1, none⟩ = some (.int .i64 d) := cell_after hkv2 sv1_1 kv1_1_1
        have sv2_1 : w.heap.size + 1 < v2.heap.size := size_after hkv2 sv1_1
        have hBv2 : Below w.heap.size w v2 := (by repeat (first | exact HBv1.out | exact Below.refl _ _ | refine bl_alloc ?_ _ | refine bl_drewN ?_ _ | refine bl_trans (by assumption) ?_ | refine bl_set ?_ (by first | omega | (simp; done) | (simp; omega)) _))
        have HBv2 := Lib.hid hBv2
        clear hBv2 hcv2 hfv2 hbv2 hkv2 kv1_0_0 kv1_0_1 sv1_0 kv1_1_0 kv1_1_1 sv1_1
        go_wp2_with fail
        rw [rounds_succ]
        go_wp2
        go_roundw
        case rel => exact ⟨k + 1, by omega, by go_num, by rw [HS.out]; first | done | rfl | go_num, kv2_0_0, kv2_0_1, kv2_1_0, kv2_1_1, sv2_1, HBv2.out⟩
        case measure => simp only [intOf]; omega
      · have HS := Lib.hid (show wwc a b c d h l (k + 1) = wwc a b c d h l k + 0 + 0 by rw [wwc]; unfold one; rw [if_neg m1, if_neg m2])
        generalize wwc a b c d h l k = n at *
        generalize SC a b c d h ((k : Int) + 1) = QQ at *
        have hs0 : w.heap.size < wr.heap.size := by omega
        go_wp2_with fail
        refine wp_loop_rounds 3 ?_
        rw [rounds_succ]
        go_wp2_with fail
        refine ((HG _ _).out).mono ?_
        rintro e v1 ⟨rfl, hbv1⟩
        obtain ⟨hcv1, hfv1⟩ := bcell hbv1
        have hzv1 := bsize hbv1
        (try simp only [World.size_alloc, World.size_setCell] at hzv1)
        have hkv1 : Below wr.heap.size wr v1 := (by repeat (first | exact Below.refl _ _ | refine bl_alloc ?_ _ | refine bl_drewN ?_ _ | refine bl_trans (by assumption) ?_ | refine bl_set ?_ (by first | omega | (simp; done) | (simp; omega)) _))
        have kv1_0_0 : v1.cell? ⟨w.heap.size, 0, none⟩ = some (.int .i64 a) := cell_after hkv1 hs0 q0
        have kv1_0_1 : v1.cell? ⟨w.heap.size, 1, none⟩ = some (.int .i64 b) := cell_after hkv1 hs0 q1
        have sv1_0 : w.heap.size < v1.heap.size := size_after hkv1 hs0
        have kv1_1_0 : v1.cell? ⟨w.heap.size + 1, 0, none⟩ = some (.int .i64 c) := cell_after hkv1 hs q2
        have kv1_1_1 : v1.cell? ⟨w.heap.size + 1, 1, none⟩ = some (.int .i64 d) := cell_after hkv1 hs q3
        have sv1_1 : w.heap.size + 1 < v1.heap.size := size_after hkv1 hs
        have hBv1 : Below w.heap.size w v1 := (by repeat (first | exact HBr.out | exact Below.refl _ _ | refine bl_alloc ?_ _ | refine bl_drewN ?_ _ | refine bl_trans (by assumption) ?_ | refine bl_set ?_ (by first | omega | (simp; done) | (simp; omega)) _))
        have HBv1 := Lib.hid hBv1
        clear hBv1 hcv1 hfv1 hbv1 hkv1 q0 q1 hs0 q2 q3 hs
        go_wp2_with fail
        rw [rounds_succ]
        go_wp2_with fail
        refine ((HG _ _).out).mono ?_
        rintro e v2 ⟨rfl, hbv2⟩
        obtain ⟨hcv2, hfv2⟩ := bcell hbv2
        have hzv2 := bsize hbv2
        (try simp only [World.size_alloc, World.size_setCell] at hzv2)
        have hkv2 : Below v1.heap.size v1 v2 := (by repeat (first | exact Below.refl _ _ | refine bl_alloc ?_ _ | refine bl_drewN ?_ _ | refine bl_trans (by assumption) ?_ | refine bl_set ?_ (by first | omega | (simp; done) | (simp; omega)) _))
        have kv2_0_0 : v2.cell? ⟨w.heap.size, 0, none⟩ = some (.int .i64 a) := cell_after hkv2 sv1_0 kv1_0_0
        have kv2_0_1 : v2.cell? ⟨w.heap.size, 1, none⟩ = some (.int .i64 b) := cell_after hkv2 sv1_0 kv1_0_1
        have sv2_0 : w.heap.size < v2.heap.size := size_after hkv2 sv1_0
        have kv2_1_0 : v2.cell? ⟨w.heap.size + 1, 0, none⟩ = some (.int .i64 c) := cell_after hkv2 sv1_1 kv1_1_0
        have kv2_1_1 : v2.cell? ⟨w.heap.size + 1, 1, none⟩ = some (.int .i64 d) := cell_after hkv2 sv1_1 kv1_1_1
        have sv2_1 : w.heap.size + 1 < v2.heap.size := size_after hkv2 sv1_1
        have hBv2 : Below w.heap.size w v2 := (by repeat (first | exact HBv1.out | exact Below.refl _ _ | refine bl_alloc ?_ _ | refine bl_drewN ?_ _ | refine bl_trans (by assumption) ?_ | refine bl_set ?_ (by first | omega | (simp; done) | (simp; omega)) _))
        have HBv2 := Lib.hid hBv2
        clear hBv2 hcv2 hfv2 hbv2 hkv2 kv1_0_0 kv1_0_1 sv1_0 kv1_1_0 kv1_1_1 sv1_1
        go_wp2_with fail
        rw [rounds_succ]
        go_wp2
        go_roundw
        case rel => exact ⟨k + 1, by omega, by go_num, by rw [HS.out]; first | done | rfl | go_num, kv2_0_0, kv2_0_1, kv2_1_0, kv2_1_1, sv2_1, HBv2.out⟩
        case measure => simp only [intOf]; omega
    · obtain rfl : k = 50 := by omega
      go_wp2
      go_ret2
      exact ⟨by rw [HO.out]; first | (rw [← HW.out, HO.out]; done) | (rw [← HW.out, HO.out]; rfl), HBr.out⟩
theorem ix0 (W : World) : (Instr.index 91 (.agg #[.bool true, .bool false]) (.int .i64 0)).run Try.prog W = .ok (.bool true) W := by
  unfold Instr.index
  simp [go_sem]
theorem ix1 (W : World) : (Instr.index 91 (.agg #[.bool true, .bool false]) (.int .i64 1)).run Try.prog W = .ok (.bool false) W := by
  unfold Instr.index
  simp [go_sem]
attribute [local go_sem] ix0 ix1
set_option maxRecDepth 100000 in
set_option maxHeartbeats 8000000 in
theorem impl_WaysWithin (a b c d h l : Int) (w : World) :
    Calls Try.prog 55 #[.agg #[.int .i64 a, .int .i64 b], .agg #[.int .i64 c, .int .i64 d], .int .i64 h, .int .i64 l] w fun e w' => e = .returned (.tuple #[.int .i64 (Z (okWW a b c d h l) (wwc a b c d h l 50)), .bool (okWW a b c d h l)]) ∧ Below w.heap.size w w' := by
  cases g1 : inCo a b c d h
  · go_enter Try.func55, Try.ntmps55
    go_wp2_with fail
    refine (areInCorridor_any _ _ _ _ _ _).mono ?_
    rintro e w1 ⟨rfl, hbw1⟩
    obtain ⟨hcw1, hfw1⟩ := bcell hbw1
    have hzw1 := bsize hbw1
    (try simp only [World.size_alloc, World.size_setCell] at hzw1)
    have kw1_0_0 : w1.cell? ⟨w.heap.size, 0, none⟩ = some (.int .i64 a) := by rw [hcw1 _ _ (by first | (simp; done) | omega | (simp; omega))]; first | assumption | (simp [go_sem]; done) | (simp [go_sem]; done) | (simp [go_sem, *]; done)
    have kw1_0_1 : w1.cell? ⟨w.heap.size, 1, none⟩ = some (.int .i64 b) := by rw [hcw1 _ _ (by first | (simp; done) | omega | (simp; omega))]; first | assumption | (simp [go_sem]; done) | (simp [go_sem]; done) | (simp [go_sem, *]; done)
    have sw1_0 : w.heap.size < w1.heap.size := by first | omega | (simp at *; omega)
    have kw1_1_0 : w1.cell? ⟨w.heap.size + 1, 0, none⟩ = some (.int .i64 c) := by rw [hcw1 _ _ (by first | (simp; done) | omega | (simp; omega))]; first | assumption | (simp [go_sem]; done) | (simp [go_sem]; done) | (simp [go_sem, *]; done)
    have kw1_1_1 : w1.cell? ⟨w.heap.size + 1, 1, none⟩ = some (.int .i64 d) := by rw [hcw1 _ _ (by first | (simp; done) | omega | (simp; omega))]; first | assumption | (simp [go_sem]; done) | (simp [go_sem]; done) | (simp [go_sem, *]; done)
    have sw1_1 : w.heap.size + 1 < w1.heap.size := by first | omega | (simp at *; omega)
    have hBw1 : Below w.heap.size w w1 := (by repeat (first | exact Below.refl _ _ | refine bl_alloc ?_ _ | refine bl_drewN ?_ _ | refine bl_trans (by assumption) ?_ | refine bl_set ?_ (by first | omega | (simp; done) | (simp; omega)) _))
    have HBw1 := Lib.hid hBw1
    clear hBw1 hcw1 hfw1 hbw1
    rw [g1]
    go_wp2
    go_ret2
    exact ⟨by simp [Z, okWW, g1], (by repeat (first | exact HBw1.out | exact Below.refl _ _ | refine bl_alloc ?_ _ | refine bl_drewN ?_ _ | refine bl_trans (by assumption) ?_ | refine bl_set ?_ (by first | omega | (simp; done) | (simp; omega)) _))⟩
  cases g2 : within l 0 100000
  · go_enter Try.func55, Try.ntmps55
    go_wp2_with fail
    refine (areInCorridor_any _ _ _ _ _ _).mono ?_
    rintro e w1 ⟨rfl, hbw1⟩
    obtain ⟨hcw1, hfw1⟩ := bcell hbw1
    have hzw1 := bsize hbw1
    (try simp only [World.size_alloc, World.size_setCell] at hzw1)
    have kw1_0_0 : w1.cell? ⟨w.heap.size, 0, none⟩ = some (.int .i64 a) := by rw [hcw1 _ _ (by first | (simp; done) | omega | (simp; omega))]; first | assumption | (simp [go_sem]; done) | (simp [go_sem]; done) | (simp [go_sem, *]; done)
    have kw1_0_1 : w1.cell? ⟨w.heap.size, 1, none⟩ = some (.int .i64 b) := by rw [hcw1 _ _ (by first | (simp; done) | omega | (simp; omega))]; first | assumption | (simp [go_sem]; done) | (simp [go_sem]; done) | (simp [go_sem, *]; done)
    have sw1_0 : w.heap.size < w1.heap.size := by first | omega | (simp at *; omega)
    have kw1_1_0 : w1.cell? ⟨w.heap.size + 1, 0, none⟩ = some (.int .i64 c) := by rw [hcw1 _ _ (by first | (simp; done) | omega | (simp; omega))]; first | assumption | (simp [go_sem]; done) | (simp [go_sem]; done) | (simp [go_sem, *]; done)
    have kw1_1_1 : w1.cell? ⟨w.heap.size + 1, 1, none⟩ = some (.int .i64 d) := by rw [hcw1 _ _ (by first | (simp; done) | omega | (simp; omega))]; first | assumption | (simp [go_sem]; done) | (simp [go_sem]; done) | (simp [go_sem, *]; done)
    have sw1_1 : w.heap.size + 1 < w1.heap.size := by first | omega | (simp at *; omega)
    have hBw1 : Below w.heap.size w w1 := (by repeat (first | exact Below.refl _ _ | refine bl_alloc ?_ _ | refine bl_drewN ?_ _ | refine bl_trans (by assumption) ?_ | refine bl_set ?_ (by first | omega | (simp; done) | (simp; omega)) _))
    have HBw1 := Lib.hid hBw1
    clear hBw1 hcw1 hfw1 hbw1
    rw [g1]
    go_wp2_with fail
    refine (isWithin_any _ _ _ _).mono ?_
    rintro e w' ⟨rfl, rfl⟩
    rw [g2]
    go_wp2
    go_ret2
    exact ⟨by simp [Z, okWW, g2], (by repeat (first | exact HBw1.out | exact Below.refl _ _ | refine bl_alloc ?_ _ | refine bl_drewN ?_ _ | refine bl_trans (by assumption) ?_ | refine bl_set ?_ (by first | omega | (simp; done) | (simp; omega)) _))⟩
  have HO := Lib.hid (show okWW a b c d h l = true by simp only [okWW, g1, g2, Bool.true_and])
  have HW := Lib.hid (show Z (okWW a b c d h l) (wwc a b c d h l 50) = wwc a b c d h l 50 by unfold Z; rw [HO.out]; rfl)
  obtain ⟨l1, l2⟩ := within_true g2
  obtain ⟨f1, f2⟩ := mul_bd2 (a := l) (b := l) (m := 100000) (k := 100000) l1 l1 l2 l2
  have HI := Lib.hid g1
  go_enter Try.func55, Try.ntmps55
  go_wp2_with fail
  refine (areInCorridor_any _ _ _ _ _ _).mono ?_
  rintro e w1 ⟨rfl, hbw1⟩
  obtain ⟨hcw1, hfw1⟩ := bcell hbw1
  have hzw1 := bsize hbw1
  (try simp only [World.size_alloc, World.size_setCell] at hzw1)
  have kw1_0_0 : w1.cell? ⟨w.heap.size, 0, none⟩ = some (.int .i64 a) := by rw [hcw1 _ _ (by first | (simp; done) | omega | (simp; omega))]; first | assumption | (simp [go_sem]; done) | (simp [go_sem]; done) | (simp [go_sem, *]; done)
  have kw1_0_1 : w1.cell? ⟨w.heap.size, 1, none⟩ = some (.int .i64 b) := by rw [hcw1 _ _ (by first | (simp; done) | omega | (simp; omega))]; first | assumption | (simp [go_sem]; done) | (simp [go_sem]; done) | (simp [go_sem, *]; done)
  have sw1_0 : w.heap.size < w1.heap.size := by first | omega | (simp at *; omega)
  have kw1_1_0 : w1.cell? ⟨w.heap.size + 1, 0, none⟩ = some (.int .i64 c) := by rw [hcw1 _ _ (by first | (simp; done) | omega | (simp; omega))]; first | assumption | (simp [go_sem]; done) | (simp [go_sem]; done) | (simp [go_sem, *]; done)
  have kw1_1_1 : w1.cell? ⟨w.heap.size + 1, 1, none⟩ = some (.int .i64 d) := by rw [hcw1 _ _ (by first | (simp; done) | omega | (simp; omega))]; first | assumption | (simp [go_sem]; done) | (simp [go_sem]; done) | (simp [go_sem, *]; done)
  have sw1_1 : w.heap.size + 1 < w1.heap.size := by first | omega | (simp at *; omega)
  have hBw1 : Below w.heap.size w w1 := (by repeat (first | exact Below.refl _ _ | refine bl_alloc ?_ _ | refine bl_drewN ?_ _ | refine bl_trans (by assumption) ?_ | refine bl_set ?_ (by first | omega | (simp; done) | (simp; omega)) _))
  have HBw1 := Lib.hid hBw1
  clear hBw1 hcw1 hfw1 hbw1
  rw [g1]
  go_wp2_with fail
  refine (isWithin_any _ _ _ _).mono ?_
  rintro e w' ⟨rfl, rfl⟩
  rw [g2]
  go_wp2_with fail
  go_loopw [10, 11] (fun n t wr => ∃ k : Nat, k ≤ 50 ∧ t = .int .i64 ((k : Int) + 1) ∧ n = .int .i64 (wwc a b c d h l k) ∧ wr.cell? ⟨w.heap.size, 0, none⟩ = some (.int .i64 a) ∧ wr.cell? ⟨w.heap.size, 1, none⟩ = some (.int .i64 b) ∧ wr.cell? ⟨w.heap.size + 1, 0, none⟩ = some (.int .i64 c) ∧ wr.cell? ⟨w.heap.size + 1, 1, none⟩ = some (.int .i64 d) ∧ w.heap.size + 1 < wr.heap.size ∧ Below w.heap.size w wr) (fun _ t _ => 51 - (intOf t).toNat)
  case atStart => exact ⟨0, by omega, by simp, by simp [wwc], kw1_0_0, kw1_0_1, kw1_1_0, kw1_1_1, sw1_1, HBw1.out⟩
  case round =>
    obtain ⟨k, hk, rfl, rfl, q0, q1, q2, q3, hs, hB⟩ := hrel
    have HBr := Lib.hid hB
    clear hB
    clear kw1_0_0 kw1_0_1 kw1_1_0 kw1_1_1 sw1_1 sw1_0 hzw1
    obtain ⟨c1, c2⟩ := wwc_bd a b c d h l k
    by_cases hlt : k < 50
    · have HG := fun g W => Lib.hid (square_any a b c d h ((k : Int) + 1) g (inCo_okCo HI.out (by omega) (by omega)) W)
      rcases (show (SC a b c d h ((k : Int) + 1) true ≤ l * l ∧ SC a b c d h ((k : Int) + 1) false ≤ l * l) ∨ (SC a b c d h ((k : Int) + 1) true ≤ l * l ∧ ¬ SC a b c d h ((k : Int) + 1) false ≤ l * l) ∨ (¬ SC a b c d h ((k : Int) + 1) true ≤ l * l ∧ SC a b c d h ((k : Int) + 1) false ≤ l * l) ∨ (¬ SC a b c d h ((k : Int) + 1) true ≤ l * l ∧ ¬ SC a b c d h ((k : Int) + 1) false ≤ l * l) by omega) with ⟨m1, m2⟩ | ⟨m1, m2⟩ | ⟨m1, m2⟩ | ⟨m1, m2⟩
      · have HS := Lib.hid (show wwc a b c d h l (k + 1) = wwc a b c d h l k + 1 + 1 by rw [wwc]; unfold one; rw [if_pos m1, if_pos m2])
        generalize wwc a b c d h l k = n at *
        generalize SC a b c d h ((k : Int) + 1) = QQ at *
        have hs0 : w.heap.size < wr.heap.size := by omega
        go_wp2_with fail
        refine wp_loop_rounds 3 ?_
        rw [rounds_succ]
        go_wp2_with fail
        refine ((HG _ _).out).mono ?_
        rintro e v1 ⟨rfl, hbv1⟩
        obtain ⟨hcv1, hfv1⟩ := bcell hbv1
        have hzv1 := bsize hbv1
        (try simp only [World.size_alloc, World.size_setCell] at hzv1)
        have hkv1 : Below wr.heap.size wr v1 := (by repeat (first | exact Below.refl _ _ | refine bl_alloc ?_ _ | refine bl_drewN ?_ _ | refine bl_trans (by assumption) ?_ | refine bl_set ?_ (by first | omega | (simp; done) | (simp; omega)) _))
        have kv1_0_0 : v1.cell? ⟨w.heap.size, 0, none⟩ = some (.int .i64 a) := cell_after hkv1 hs0 q0
        have kv1_0_1 : v1.cell? ⟨w.heap.size, 1, none⟩ = some (.int .i64 b) := cell_after hkv1 hs0 q1
        have sv1_0 : w.heap.size < v1.heap.size := size_after hkv1 hs0
        have kv1_1_0 : v1.cell? ⟨w.heap.size + 1, 0, none⟩ = some (.int .i64 c) := cell_after hkv1 hs q2
        have kv1_1_1 : v1.cell? ⟨w.heap.size + 1, 1, none⟩ = some (.int .i64 d) := cell_after hkv1 hs q3
        have sv1_1 : w.heap.size + 1 < v1.heap.size := size_after hkv1 hs
        have kv1_2_0 : v1.cell? ⟨wr.heap.size, 0, none⟩ = some (.int .i64 a) := by rw [hcv1 _ _ (by first | (simp; done) | omega | (simp; omega))]; first | assumption | (simp [go_sem]; done) | (simp [go_sem, q0, q1, q2, q3]; done) | (simp [go_sem, *]; done)
        have fv1_2_0 : v1.frozen? ⟨wr.heap.size, 0, none⟩ = false := by rw [hfv1 _ _ (by first | (simp; done) | omega | (simp; omega))]; first | assumption | (simp [go_sem]; done) | (simp [go_sem, q0, q1, q2, q3]; done) | (simp [go_sem, *]; done)
        have kv1_2_1 : v1.cell? ⟨wr.heap.size, 1, none⟩ = some (.int .i64 b) := by rw [hcv1 _ _ (by first | (simp; done) | omega | (simp; omega))]; first | assumption | (simp [go_sem]; done) | (simp [go_sem, q0, q1, q2, q3]; done) | (simp [go_sem, *]; done)
        have fv1_2_1 : v1.frozen? ⟨wr.heap.size, 1, none⟩ = false := by rw [hfv1 _ _ (by first | (simp; done) | omega | (simp; omega))]; first | assumption | (simp [go_sem]; done) | (simp [go_sem, q0, q1, q2, q3]; done) | (simp [go_sem, *]; done)
        have kv1_2_2 : v1.cell? ⟨wr.heap.size, 2, none⟩ = some (.int .i64 c) := by rw [hcv1 _ _ (by first | (simp; done) | omega | (simp; omega))]; first | assumption | (simp [go_sem]; done) | (simp [go_sem, q0, q1, q2, q3]; done) | (simp [go_sem, *]; done)
        have fv1_2_2 : v1.frozen? ⟨wr.heap.size, 2, none⟩ = false := by rw [hfv1 _ _ (by first | (simp; done) | omega | (simp; omega))]; first | assumption | (simp [go_sem]; done) | (simp [go_sem, q0, q1, q2, q3]; done) | (simp [go_sem, *]; done)
        have kv1_2_3 : v1.cell? ⟨wr.heap.size, 3, none⟩ = some (.int .i64 d) := by rw [hcv1 _ _ (by first | (simp; done) | omega | (simp; omega))]; first | assumption | (simp [go_sem]; done) | (simp [go_sem, q0, q1, q2, q3]; done) | (simp [go_sem, *]; done)
        have fv1_2_3 : v1.frozen? ⟨wr.heap.size, 3, none⟩ = false := by rw [hfv1 _ _ (by first | (simp; done) | omega | (simp; omega))]; first | assumption | (simp [go_sem]; done) | (simp [go_sem, q0, q1, q2, q3]; done) | (simp [go_sem, *]; done)
        have kv1_2_4 : v1.cell? ⟨wr.heap.size, 4, none⟩ = some (.int .i64 h) := by rw [hcv1 _ _ (by first | (simp; done) | omega | (simp; omega))]; first | assumption | (simp [go_sem]; done) | (simp [go_sem, q0, q1, q2, q3]; done) | (simp [go_sem, *]; done)
        have fv1_2_4 : v1.frozen? ⟨wr.heap.size, 4, none⟩ = false := by rw [hfv1 _ _ (by first | (simp; done) | omega | (simp; omega))]; first | assumption | (simp [go_sem]; done) | (simp [go_sem, q0, q1, q2, q3]; done) | (simp [go_sem, *]; done)
        have kv1_2_5 : v1.cell? ⟨wr.heap.size, 5, none⟩ = some (.int .i64 ((k : Int) + 1)) := by rw [hcv1 _ _ (by first | (simp; done) | omega | (simp; omega))]; first | assumption | (simp [go_sem]; done) | (simp [go_sem, q0, q1, q2, q3]; done) | (simp [go_sem, *]; done)
        have fv1_2_5 : v1.frozen? ⟨wr.heap.size, 5, none⟩ = false := by rw [hfv1 _ _ (by first | (simp; done) | omega | (simp; omega))]; first | assumption | (simp [go_sem]; done) | (simp [go_sem, q0, q1, q2, q3]; done) | (simp [go_sem, *]; done)
        have kv1_2_6 : v1.cell? ⟨wr.heap.size, 6, none⟩ = some (.bool true) := by rw [hcv1 _ _ (by first | (simp; done) | omega | (simp; omega))]; first | assumption | (simp [go_sem]; done) | (simp [go_sem, q0, q1, q2, q3]; done) | (simp [go_sem, *]; done)
        have fv1_2_6 : v1.frozen? ⟨wr.heap.size, 6, none⟩ = false := by rw [hfv1 _ _ (by first | (simp; done) | omega | (simp; omega))]; first | assumption | (simp [go_sem]; done) | (simp [go_sem, q0, q1, q2, q3]; done) | (simp [go_sem, *]; done)
        have sv1_2 : wr.heap.size < v1.heap.size := by first | omega | (simp at *; omega)
        have hBv1 : Below w.heap.size w v1 := (by repeat (first | exact HBr.out | exact Below.refl _ _ | refine bl_alloc ?_ _ | refine bl_drewN ?_ _ | refine bl_trans (by assumption) ?_ | refine bl_set ?_ (by first | omega | (simp; done) | (simp; omega)) _))
        have HBv1 := Lib.hid hBv1
        clear hBv1 hcv1 hfv1 hbv1 hkv1 q0 q1 hs0 q2 q3 hs
        go_wp2_with fail
        rw [rounds_succ]
        clear kv1_2_0 kv1_2_1 kv1_2_2 kv1_2_3 kv1_2_4 kv1_2_5 kv1_2_6 fv1_2_0 fv1_2_1 fv1_2_2 fv1_2_3 fv1_2_4 fv1_2_5 fv1_2_6
        go_wp2_with fail
        refine ((HG _ _).out).mono ?_
        rintro e v2 ⟨rfl, hbv2⟩
        obtain ⟨hcv2, hfv2⟩ := bcell hbv2
        have hzv2 := bsize hbv2
        (try simp only [World.size_alloc, World.size_setCell] at hzv2)
        have hkv2 : Below v1.heap.size v1 v2 := (by repeat (first | exact Below.refl _ _ | refine bl_alloc ?_ _ | refine bl_drewN ?_ _ | refine bl_trans (by assumption) ?_ | refine bl_set ?_ (by first | omega | (simp; done) | (simp; omega)) _))
        have kv2_0_0 : v2.cell? ⟨w.heap.size, 0, none⟩ = some (.int .i64 a) := cell_after hkv2 sv1_0 kv1_0_0
        have kv2_0_1 : v2.cell? ⟨w.heap.size, 1, none⟩ = some (.int .i64 b) := cell_after hkv2 sv1_0 kv1_0_1
        have sv2_0 : w.heap.size < v2.heap.size := size_after hkv2 sv1_0
        have kv2_1_0 : v2.cell? ⟨w.heap.size + 1, 0, none⟩ = some (.int .i64 c) := cell_after hkv2 sv1_1 kv1_1_0
        have kv2_1_1 : v2.cell? ⟨w.heap.size + 1, 1, none⟩ = some (.int .i64 d) := cell_after hkv2 sv1_1 kv1_1_1
        have sv2_1 : w.heap.size + 1 < v2.heap.size := size_after hkv2 sv1_1
        have kv2_2_0 : v2.cell? ⟨v1.heap.size, 0, none⟩ = some (.int .i64 a) := by rw [hcv2 _ _ (by first | (simp; done) | omega | (simp; omega))]; first | assumption | (simp [go_sem]; done) | (simp [go_sem, kv1_0_0, kv1_0_1, kv1_1_0, kv1_1_1]; done) | (simp [go_sem, *]; done)
        have fv2_2_0 : v2.frozen? ⟨v1.heap.size, 0, none⟩ = false := by rw [hfv2 _ _ (by first | (simp; done) | omega | (simp; omega))]; first | assumption | (simp [go_sem]; done) | (simp [go_sem, kv1_0_0, kv1_0_1, kv1_1_0, kv1_1_1]; done) | (simp [go_sem, *]; done)
        have kv2_2_1 : v2.cell? ⟨v1.heap.size, 1, none⟩ = some (.int .i64 b) := by rw [hcv2 _ _ (by first | (simp; done) | omega | (simp; omega))]; first | assumption | (simp [go_sem]; done) | (simp [go_sem, kv1_0_0, kv1_0_1, kv1_1_0, kv1_1_1]; done) | (simp [go_sem, *]; done)
        have fv2_2_1 : v2.frozen? ⟨v1.heap.size, 1, none⟩ = false := by rw [hfv2 _ _ (by first | (simp; done) | omega | (simp; omega))]; first | assumption | (simp [go_sem]; done) | (simp [go_sem, kv1_0_0, kv1_0_1, kv1_1_0, kv1_1_1]; done) | (simp [go_sem, *]; done)
        have kv2_2_2 : v2.cell? ⟨v1.heap.size, 2, none⟩ = some (.int .i64 c) := by rw [hcv2 _ _ (by first | (simp; done) | omega | (simp; omega))]; first | assumption | (simp [go_sem]; done) | (simp [go_sem, kv1_0_0, kv1_0_1, kv1_1_0, kv1_1_1]; done) | (simp [go_sem, *]; done)
        have fv2_2_2 : v2.frozen? ⟨v1.heap.size, 2, none⟩ = false := by rw [hfv2 _ _ (by first | (simp; done) | omega | (simp; omega))]; first | assumption | (simp [go_sem]; done) | (simp [go_sem, kv1_0_0, kv1_0_1, kv1_1_0, kv1_1_1]; done) | (simp [go_sem, *]; done)
        have kv2_2_3 : v2.cell? ⟨v1.heap.size, 3, none⟩ = some (.int .i64 d) := by rw [hcv2 _ _ (by first | (simp; done) | omega | (simp; omega))]; first | assumption | (simp [go_sem]; done) | (simp [go_sem, kv1_0_0, kv1_0_1, kv1_1_0, kv1_1_1]; done) | (simp [go_sem, *]; done)
        have fv2_2_3 : v2.frozen? ⟨v1.heap.size, 3, none⟩ = false := by rw [hfv2 _ _ (by first | (simp; done) | omega | (simp; omega))]; first | assumption | (simp [go_sem]; done) | (simp [go_sem, kv1_0_0, kv1_0_1, kv1_1_0, kv1_1_1]; done) | (simp [go_sem, *]; done)
        have kv2_2_4 : v2.cell? ⟨v1.heap.size, 4, none⟩ = some (.int .i64 h) := by rw [hcv2 _ _ (by first | (simp; done) | omega | (simp; omega))]; first | assumption | (simp [go_sem]; done) | (simp [go_sem, kv1_0_0, kv1_0_1, kv1_1_0, kv1_1_1]; done) | (simp [go_sem, *]; done)
        have fv2_2_4 : v2.frozen? ⟨v1.heap.size, 4, none⟩ = false := by rw [hfv2 _ _ (by first | (simp; done) | omega | (simp; omega))]; first | assumption | (simp [go_sem]; done) | (simp [go_sem, kv1_0_0, kv1_0_1, kv1_1_0, kv1_1_1]; done) | (simp [go_sem, *]; done)
        have kv2_2_5 : v2.cell? ⟨v1.heap.size, 5, none⟩ = some (.int .i64 ((k : Int) + 1)) := by rw [hcv2 _ _ (by first | (simp; done) | omega | (simp; omega))]; first | assumption | (simp [go_sem]; done) | (simp [go_sem, kv1_0_0, kv1_0_1, kv1_1_0, kv1_1_1]; done) | (simp [go_sem, *]; done)
        have fv2_2_5 : v2.frozen? ⟨v1.heap.size, 5, none⟩ = false := by rw [hfv2 _ _ (by first | (simp; done) | omega | (simp; omega))]; first | assumption | (simp [go_sem]; done) | (simp [go_sem, kv1_0_0, kv1_0_1, kv1_1_0, kv1_1_1]; done) | (simp [go_sem, *]; done)
        have kv2_2_6 : v2.cell? ⟨v1.heap.size, 6, none⟩ = some (.bool false) := by rw [hcv2 _ _ (by first | (simp; done) | omega | (simp; omega))]; first | assumption | (simp [go_sem]; done) | (simp [go_sem, kv1_0_0, kv1_0_1, kv1_1_0, kv1_1_1]; done) | (simp [go_sem, *]; done)
        have fv2_2_6 : v2.frozen? ⟨v1.heap.size, 6, none⟩ = false := by rw [hfv2 _ _ (by first | (simp; done) | omega | (simp; omega))]; first | assumption | (simp [go_sem]; done) | (simp [go_sem, kv1_0_0, kv1_0_1, kv1_1_0, kv1_1_1]; done) | (simp [go_sem, *]; done)
        have sv2_2 : v1.heap.size < v2.heap.size := by first | omega | (simp at *; omega)
        have hBv2 : Below w.heap.size w v2 := (by repeat (first | exact HBv1.out | exact Below.refl _ _ | refine bl_alloc ?_ _ | refine bl_drewN ?_ _ | refine bl_trans (by assumption) ?_ | refine bl_set ?_ (by first | omega | (simp; done) | (simp; omega)) _))
        have HBv2 := Lib.hid hBv2
        clear hBv2 hcv2 hfv2 hbv2 hkv2 kv1_0_0 kv1_0_1 sv1_0 kv1_1_0 kv1_1_1 sv1_1
        go_wp2_with fail
        rw [rounds_succ]
        go_wp2
        go_roundw
        case rel => exact ⟨k + 1, by omega, by go_num, by rw [HS.out]; first | done | rfl | go_num, kv2_0_0, kv2_0_1, kv2_1_0, kv2_1_1, sv2_1, HBv2.out⟩
        case measure => simp only [intOf]; omega
      · have HS := Lib.hid (show wwc a b c d h l (k + 1) = wwc a b c d h l k + 1 + 0 by rw [wwc]; unfold one; rw [if_pos m1, if_neg m2])
        generalize wwc a b c d h l k = n at *
        generalize SC a b c d h ((k : Int) + 1) = QQ at *
        have hs0 : w.heap.size < wr.heap.size := by omega
        go_wp2_with fail
        refine wp_loop_rounds 3 ?_
        rw [rounds_succ]
        go_wp2_with fail
        refine ((HG _ _).out).mono ?_
        rintro e v1 ⟨rfl, hbv1⟩
        obtain ⟨hcv1, hfv1⟩ := bcell hbv1
        have hzv1 := bsize hbv1
        (try simp only [World.size_alloc, World.size_setCell] at hzv1)
        have hkv1 : Below wr.heap.size wr v1 := (by repeat (first | exact Below.refl _ _ | refine bl_alloc ?_ _ | refine bl_drewN ?_ _ | refine bl_trans (by assumption) ?_ | refine bl_set ?_ (by first | omega | (simp; done) | (simp; omega)) _))
        have kv1_0_0 : v1.cell? ⟨w.heap.size, 0, none⟩ = some (.int .i64 a) := cell_after hkv1 hs0 q0
        have kv1_0_1 : v1.cell? ⟨w.heap.size, 1, none⟩ = some (.int .i64 b) := cell_after hkv1 hs0 q1
        have sv1_0 : w.heap.size < v1.heap.size := size_after hkv1 hs0
        have kv1_1_0 : v1.cell? ⟨w.heap.size + 1, 0, none⟩ = some (.int .i64 c) := cell_after hkv1 hs q2
        have kv1_1_1 : v1.cell? ⟨w.heap.size + 1, 1, none⟩ = some (.int .i64 d) := cell_after hkv1 hs q3
        have sv1_1 : w.heap.size + 1 < v1.heap.size := size_after hkv1 hs
        have kv1_2_0 : v1.cell? ⟨wr.heap.size, 0, none⟩ = some (.int .i64 a) := by rw [hcv1 _ _ (by first | (simp; done) | omega | (simp; omega))]; first | assumption | (simp [go_sem]; done) | (simp [go_sem, q0, q1, q2, q3]; done) | (simp [go_sem, *]; done)
        have fv1_2_0 : v1.frozen? ⟨wr.heap.size, 0, none⟩ = false := by rw [hfv1 _ _ (by first | (simp; done) | omega | (simp; omega))]; first | assumption | (simp [go_sem]; done) | (simp [go_sem, q0, q1, q2, q3]; done) | (simp [go_sem, *]; done)
        have kv1_2_1 : v1.cell? ⟨wr.heap.size, 1, none⟩ = some (.int .i64 b) := by rw [hcv1 _ _ (by first | (simp; done) | omega | (simp; omega))]; first | assumption | (simp [go_sem]; done) | (simp [go_sem, q0, q1, q2, q3]; done) | (simp [go_sem, *]; done)
        have fv1_2_1 : v1.frozen? ⟨wr.heap.size, 1, none⟩ = false := by rw [hfv1 _ _ (by first | (simp; done) | omega | (simp; omega))]; first | assumption | (simp [go_sem]; done) | (simp [go_sem, q0, q1, q2, q3]; done) | (simp [go_sem, *]; done)
        have kv1_2_2 : v1.cell? ⟨wr.heap.size, 2, none⟩ = some (.int .i64 c) := by rw [hcv1 _ _ (by first | (simp; done) | omega | (simp; omega))]; first | assumption | (simp [go_sem]; done) | (simp [go_sem, q0, q1, q2, q3]; done) | (simp [go_sem, *]; done)
        have fv1_2_2 : v1.frozen? ⟨wr.heap.size, 2, none⟩ = false := by rw [hfv1 _ _ (by first | (simp; done) | omega | (simp; omega))]; first | assumption | (simp [go_sem]; done) | (simp [go_sem, q0, q1, q2, q3]; done) | (simp [go_sem, *]; done)
        have kv1_2_3 : v1.cell? ⟨wr.heap.size, 3, none⟩ = some (.int .i64 d) := by rw [hcv1 _ _ (by first | (simp; done) | omega | (simp; omega))]; first | assumption | (simp [go_sem]; done) | (simp [go_sem, q0, q1, q2, q3]; done) | (simp [go_sem, *]; done)
        have fv1_2_3 : v1.frozen? ⟨wr.heap.size, 3, none⟩ = false := by rw [hfv1 _ _ (by first | (simp; done) | omega | (simp; omega))]; first | assumption | (simp [go_sem]; done) | (simp [go_sem, q0, q1, q2, q3]; done) | (simp [go_sem, *]; done)
        have kv1_2_4 : v1.cell? ⟨wr.heap.size, 4, none⟩ = some (.int .i64 h) := by rw [hcv1 _ _ (by first | (simp; done) | omega | (simp; omega))]; first | assumption | (simp [go_sem]; done) | (simp [go_sem, q0, q1, q2, q3]; done) | (simp [go_sem, *]; done)
        have fv1_2_4 : v1.frozen? ⟨wr.heap.size, 4, none⟩ = false := by rw [hfv1 _ _ (by first | (simp; done) | omega | (simp; omega))]; first | assumption | (simp [go_sem]; done) | (simp [go_sem, q0, q1, q2, q3]; done) | (simp [go_sem, *]; done)
        have kv1_2_5 : v1.cell? ⟨wr.heap.size, 5, none⟩ = some (.int .i64 ((k : Int) + 1)) := by rw [hcv1 _ _ (by first | (simp; done) | omega | (simp; omega))]; first | assumption | (simp [go_sem]; done) | (simp [go_sem, q0, q1, q2, q3]; done) | (simp [go_sem, *]; done)
        have fv1_2_5 : v1.frozen? ⟨wr.heap.size, 5, none⟩ = false := by rw [hfv1 _ _ (by first | (simp; done) | omega | (simp; omega))]; first | assumption | (simp [go_sem]; done) | (simp [go_sem, q0, q1, q2, q3]; done) | (simp [go_sem, *]; done)
        have kv1_2_6 : v1.cell? ⟨wr.heap.size, 6, none⟩ = some (.bool true) := by rw [hcv1 _ _ (by first | (simp; done) | omega | (simp; omega))]; first | assumption | (simp [go_sem]; done) | (simp [go_sem, q0, q1, q2, q3]; done) | (simp [go_sem, *]; done)
        have fv1_2_6 : v1.frozen? ⟨wr.heap.size, 6, none⟩ = false := by rw [hfv1 _ _ (by first | (simp; done) | omega | (simp; omega))]; first | assumption | (simp [go_sem]; done) | (simp [go_sem, q0, q1, q2, q3]; done) | (simp [go_sem, *]; done)
        have sv1_2 : wr.heap.size < v1.heap.size := by first | omega | (simp at *; omega)
        have hBv1 : Below w.heap.size w v1 := (by repeat (first | exact HBr.out | exact Below.refl _ _ | refine bl_alloc ?_ _ | refine bl_drewN ?_ _ | refine bl_trans (by assumption) ?_ | refine bl_set ?_ (by first | omega | (simp; done) | (simp; omega)) _))
        have HBv1 := Lib.hid hBv1
        clear hBv1 hcv1 hfv1 hbv1 hkv1 q0 q1 hs0 q2 q3 hs
        go_wp2_with fail
        rw [rounds_succ]
        clear kv1_2_0 kv1_2_1 kv1_2_2 kv1_2_3 kv1_2_4 kv1_2_5 kv1_2_6 fv1_2_0 fv1_2_1 fv1_2_2 fv1_2_3 fv1_2_4 fv1_2_5 fv1_2_6
        go_wp2_with fail
        refine ((HG _ _).out).mono ?_
        rintro e v2 ⟨rfl, hbv2⟩
        obtain ⟨hcv2, hfv2⟩ := bcell hbv2
        have hzv2 := bsize hbv2
        (try simp only [World.size_alloc, World.size_setCell] at hzv2)
        have hkv2 : Below v1.heap.size v1 v2 := (by repeat (first | exact Below.refl _ _ | refine bl_alloc ?_ _ | refine bl_drewN ?_ _ | refine bl_trans (by assumption) ?_ | refine bl_set ?_ (by first | omega | (simp; done) | (simp; omega)) _))
        have kv2_0_0 : v2.cell? ⟨w.heap.size, 0, none⟩ = some (.int .i64 a) := cell_after hkv2 sv1_0 kv1_0_0
        have kv2_0_1 : v2.cell? ⟨w.heap.size, 1, none⟩ = some (.int .i64 b) := cell_after hkv2 sv1_0 kv1_0_1
        have sv2_0 : w.heap.size < v2.heap.size := size_after hkv2 sv1_0
        have kv2_1_0 : v2.cell? ⟨w.heap.size + 1, 0, none⟩ = some (.int .i64 c) := cell_after hkv2 sv1_1 kv1_1_0
        have kv2_1_1 : v2.cell? ⟨w.heap.size + 1, 1, none⟩ = some (.int .i64 d) := cell_after hkv2 sv1_1 kv1_1_1
        have sv2_1 : w.heap.size + 1 < v2.heap.size := size_after hkv2 sv1_1
        have kv2_2_0 : v2.cell? ⟨v1.heap.size, 0, none⟩ = some (.int .i64 a) := by rw [hcv2 _ _ (by first | (simp; done) | omega | (simp; omega))]; first | assumption | (simp [go_sem]; done) | (simp [go_sem, kv1_0_0, kv1_0_1, kv1_1_0, kv1_1_1]; done) | (simp [go_sem, *]; done)
        have fv2_2_0 : v2.frozen? ⟨v1.heap.size, 0, none⟩ = false := by rw [hfv2 _ _ (by first | (simp; done) | omega | (simp; omega))]; first | assumption | (simp [go_sem]; done) | (simp [go_sem, kv1_0_0, kv1_0_1, kv1_1_0, kv1_1_1]; done) | (simp [go_sem, *]; done)
        have kv2_2_1 : v2.cell? ⟨v1.heap.size, 1, none⟩ = some (.int .i64 b) := by rw [hcv2 _ _ (by first | (simp; done) | omega | (simp; omega))]; first | assumption | (simp [go_sem]; done) | (simp [go_sem, kv1_0_0, kv1_0_1, kv1_1_0, kv1_1_1]; done) | (simp [go_sem, *]; done)
        have fv2_2_1 : v2.frozen? ⟨v1.heap.size, 1, none⟩ = false := by rw [hfv2 _ _ (by first | (simp; done) | omega | (simp; omega))]; first | assumption | (simp [go_sem]; done) | (simp [go_sem, kv1_0_0, kv1_0_1, kv1_1_0, kv1_1_1]; done) | (simp [go_sem, *]; done)
        have kv2_2_2 : v2.cell? ⟨v1.heap.size, 2, none⟩ = some (.int .i64 c) := by rw [hcv2 _ _ (by first | (simp; done) | omega | (simp; omega))]; first | assumption | (simp [go_sem]; done) | (simp [go_sem, kv1_0_0, kv1_0_1, kv1_1_0, kv1_1_1]; done) | (simp [go_sem, *]; done)
        have fv2_2_2 : v2.frozen? ⟨v1.heap.size, 2, none⟩ = false := by rw [hfv2 _ _ (by first | (simp; done) | omega | (simp; omega))]; first | assumption | (simp [go_sem]; done) | (simp [go_sem, kv1_0_0, kv1_0_1, kv1_1_0, kv1_1_1]; done) | (simp [go_sem, *]; done)
        have kv2_2_3 : v2.cell? ⟨v1.heap.size, 3, none⟩ = some (.int .i64 d) := by rw [hcv2 _ _ (by first | (simp; done) | omega | (simp; omega))]; first | assumption | (simp [go_sem]; done) | (simp [go_sem, kv1_0_0, kv1_0_1, kv1_1_0, kv1_1_1]; done) | (simp [go_sem, *]; done)
        have fv2_2_3 : v2.frozen? ⟨v1.heap.size, 3, none⟩ = false := by rw [hfv2 _ _ (by first | (simp; done) | omega | (simp; omega))]; first | assumption | (simp [go_sem]; done) | (simp [go_sem, kv1_0_0, kv1_0_1, kv1_1_0, kv1_1_1]; done) | (simp [go_sem, *]; done)
        have kv2_2_4 : v2.cell? ⟨v1.heap.size, 4, none⟩ = some (.int .i64 h) := by rw [hcv2 _ _ (by first | (simp; done) | omega | (simp; omega))]; first | assumption | (simp [go_sem]; done) | (simp [go_sem, kv1_0_0, kv1_0_1, kv1_1_0, kv1_1_1]; done) | (simp [go_sem, *]; done)
        have fv2_2_4 : v2.frozen? ⟨v1.heap.size, 4, none⟩ = false := by rw [hfv2 _ _ (by first | (simp; done) | omega | (simp; omega))]; first | assumption | (simp [go_sem]; done) | (simp [go_sem, kv1_0_0, kv1_0_1, kv1_1_0, kv1_1_1]; done) | (simp [go_sem, *]; done)
        have kv2_2_5 : v2.cell? ⟨v1.heap.size, 5, none⟩ = some (.int .i64 ((k : Int) + 1)) := by rw [hcv2 _ _ (by first | (simp; done) | omega | (simp; omega))]; first | assumption | (simp [go_sem]; done) | (simp [go_sem, kv1_0_0, kv1_0_1, kv1_1_0, kv1_1_1]; done) | (simp [go_sem, *]; done)
        have fv2_2_5 : v2.frozen? ⟨v1.heap.size, 5, none⟩ = false := by rw [hfv2 _ _ (by first | (simp; done) | omega | (simp; omega))]; first | assumption | (simp [go_sem]; done) | (simp [go_sem, kv1_0_0, kv1_0_1, kv1_1_0, kv1_1_1]; done) | (simp [go_sem, *]; done)
        have kv2_2_6 : v2.cell? ⟨v1.heap.size, 6, none⟩ = some (.bool false) := by rw [hcv2 _ _ (by first | (simp; done) | omega | (simp; omega))]; first | assumption | (simp [go_sem]; done) | (simp [go_sem, kv1_0_0, kv1_0_1, kv1_1_0, kv1_1_1]; done) | (simp [go_sem, *]; done)
        have fv2_2_6 : v2.frozen? ⟨v1.heap.size, 6, none⟩ = false := by rw [hfv2 _ _ (by first | (simp; done) | omega | (simp; omega))]; first | assumption | (simp [go_sem]; done) | (simp [go_sem, kv1_0_0, kv1_0_1, kv1_1_0, kv1_1_1]; done) | (simp [go_sem, *]; done)
        have sv2_2 : v1.heap.size < v2.heap.size := by first | omega | (simp at *; omega)
        have hBv2 : Below w.heap.size w v2 := (by repeat (first | exact HBv1.out | exact Below.refl _ _ | refine bl_alloc ?_ _ | refine bl_drewN ?_ _ | refine bl_trans (by assumption) ?_ | refine bl_set ?_ (by first | omega | (simp; done) | (simp; omega)) _))
        have HBv2 := Lib.hid hBv2
        clear hBv2 hcv2 hfv2 hbv2 hkv2 kv1_0_0 kv1_0_1 sv1_0 kv1_1_0 kv1_1_1 sv1_1
        go_wp2_with fail
        rw [rounds_succ]
        go_wp2
        go_roundw
        case rel => exact ⟨k + 1, by omega, by go_num, by rw [HS.out]; first | done | rfl | go_num, kv2_0_0, kv2_0_1, kv2_1_0, kv2_1_1, sv2_1, HBv2.out⟩
        case measure => simp only [intOf]; omega
      · have HS := Lib.hid (show wwc a b c d h l (k + 1) = wwc a b c d h l k + 0 + 1 by rw [wwc]; unfold one; rw [if_neg m1, if_pos m2])
        generalize wwc a b c d h l k = n at *
        generalize SC a b c d h ((k : Int) + 1) = QQ at *
        have hs0 : w.heap.size < wr.heap.size := by omega
        go_wp2_with fail
        refine wp_loop_rounds 3 ?_
        rw [rounds_succ]
        go_wp2_with fail
        refine ((HG _ _).out).mono ?_
        rintro e v1 ⟨rfl, hbv1⟩
        obtain ⟨hcv1, hfv1⟩ := bcell hbv1
        have hzv1 := bsize hbv1
        (try simp only [World.size_alloc, World.size_setCell] at hzv1)
        have hkv1 : Below wr.heap.size wr v1 := (by repeat (first | exact Below.refl _ _ | refine bl_alloc ?_ _ | refine bl_drewN ?_ _ | refine bl_trans (by assumption) ?_ | refine bl_set ?_ (by first | omega | (simp; done) | (simp; omega)) _))
        have kv1_0_0 : v1.cell? ⟨w.heap.size, 0, none⟩ = some (.int .i64 a) := cell_after hkv1 hs0 q0
        have kv1_0_1 : v1.cell? ⟨w.heap.size, 1, none⟩ = some (.int .i64 b) := cell_after hkv1 hs0 q1
        have sv1_0 : w.heap.size < v1.heap.size := size_after hkv1 hs0
        have kv1_1_0 : v1.cell? ⟨w.heap.size + 1, 0, none⟩ = some (.int .i64 c) := cell_after hkv1 hs q2
        have kv1_1_1 : v1.cell? ⟨w.heap.size + 1, 1, none⟩ = some (.int .i64 d) := cell_after hkv1 hs q3
        have sv1_1 : w.heap.size + 1 < v1.heap.size := size_after hkv1 hs
        have kv1_2_0 : v1.cell? ⟨wr.heap.size, 0, none⟩ = some (.int .i64 a) := by rw [hcv1 _ _ (by first | (simp; done) | omega | (simp; omega))]; first | assumption | (simp [go_sem]; done) | (simp [go_sem, q0, q1, q2, q3]; done) | (simp [go_sem, *]; done)
        have fv1_2_0 : v1.frozen? ⟨wr.heap.size, 0, none⟩ = false := by rw [hfv1 _ _ (by first | (simp; done) | omega | (simp; omega))]; first | assumption | (simp [go_sem]; done) | (simp [go_sem, q0, q1, q2, q3]; done) | (simp [go_sem, *]; done)
        have kv1_2_1 : v1.cell? ⟨wr.heap.size, 1, none⟩ = some (.int .i64 b) := by rw [hcv1 _ _ (by first | (simp; done) | omega | (simp; omega))]; first | assumption | (simp [go_sem]; done) | (simp [go_sem, q0, q1, q2, q3]; done) | (simp [go_sem, *]; done)
        have fv1_2_1 : v1.frozen? ⟨wr.heap.size, 1, none⟩ = false := by rw [hfv1 _ _ (by first | (simp; done) | omega | (simp; omega))]; first | assumption | (simp [go_sem]; done) | (simp [go_sem, q0, q1, q2, q3]; done) | (simp [go_sem, *]; done)
        have kv1_2_2 : v1.cell? ⟨wr.heap.size, 2, none⟩ = some (.int .i64 c) := by rw [hcv1 _ _ (by first | (simp; done) | omega | (simp; omega))]; first | assumption | (simp [go_sem]; done) | (simp [go_sem, q0, q1, q2, q3]; done) | (simp [go_sem, *]; done)
        have fv1_2_2 : v1.frozen? ⟨wr.heap.size, 2, none⟩ = false := by rw [hfv1 _ _ (by first | (simp; done) | omega | (simp; omega))]; first | assumption | (simp [go_sem]; done) | (simp [go_sem, q0, q1, q2, q3]; done) | (simp [go_sem, *]; done)
        have kv1_2_3 : v1.cell? ⟨wr.heap.size, 3, none⟩ = some (.int .i64 d) := by rw [hcv1 _ _ (by first | (simp; done) | omega | (simp; omega))]; first | assumption | (simp [go_sem]; done) | (simp [go_sem, q0, q1, q2, q3]; done) | (simp [go_sem, *]; done)
        have fv1_2_3 : v1.frozen? ⟨wr.heap.size, 3, none⟩ = false := by rw [hfv1 _ _ (by first | (simp; done) | omega | (simp; omega))]; first | assumption | (simp [go_sem]; done) | (simp [go_sem, q0, q1, q2, q3]; done) | (simp [go_sem, *]; done)
        have kv1_2_4 : v1.cell? ⟨wr.heap.size, 4, none⟩ = some (.int .i64 h) := by rw [hcv1 _ _ (by first | (simp; done) | omega | (simp; omega))]; first | assumption | (simp [go_sem]; done) | (simp [go_sem, q0, q1, q2, q3]; done) | (simp [go_sem, *]; done)
        have fv1_2_4 : v1.frozen? ⟨wr.heap.size, 4, none⟩ = false := by rw [hfv1 _ _ (by first | (simp; done) | omega | (simp; omega))]; first | assumption | (simp [go_sem]; done) | (simp [go_sem, q0, q1, q2, q3]; done) | (simp [go_sem, *]; done)
        have kv1_2_5 : v1.cell? ⟨wr.heap.size, 5, none⟩ = some (.int .i64 ((k : Int) + 1)) := by rw [hcv1 _ _ (by first | (simp; done) | omega | (simp; omega))]; first | assumption | (simp [go_sem]; done) | (simp [go_sem, q0, q1, q2, q3]; done) | (simp [go_sem, *]; done)
        have fv1_2_5 : v1.frozen? ⟨wr.heap.size, 5, none⟩ = false := by rw [hfv1 _ _ (by first | (simp; done) | omega | (simp; omega))]; first | assumption | (simp [go_sem]; done) | (simp [go_sem, q0, q1, q2, q3]; done) | (simp [go_sem, *]; done)
        have kv1_2_6 : v1.cell? ⟨wr.heap.size, 6, none⟩ = some (.bool true) := by rw [hcv1 _ _ (by first | (simp; done) | omega | (simp; omega))]; first | assumption | (simp [go_sem]; done) | (simp [go_sem, q0, q1, q2, q3]; done) | (simp [go_sem, *]; done)
        have fv1_2_6 : v1.frozen? ⟨wr.heap.size, 6, none⟩ = false := by rw [hfv1 _ _ (by first | (simp; done) | omega | (simp; omega))]; first | assumption | (simp [go_sem]; done) | (simp [go_sem, q0, q1, q2, q3]; done) | (simp [go_sem, *]; done)
        have sv1_2 : wr.heap.size < v1.heap.size := by first | omega | (simp at *; omega)
        have hBv1 : Below w.heap.size w v1 := (by repeat (first | exact HBr.out | exact Below.refl _ _ | refine bl_alloc ?_ _ | refine bl_drewN ?_ _ | refine bl_trans (by assumption) ?_ | refine bl_set ?_ (by first | omega | (simp; done) | (simp; omega)) _))
        have HBv1 := Lib.hid hBv1
        clear hBv1 hcv1 hfv1 hbv1 hkv1 q0 q1 hs0 q2 q3 hs
        go_wp2_with fail
        rw [rounds_succ]
        clear kv1_2_0 kv1_2_1 kv1_2_2 kv1_2_3 kv1_2_4 kv1_2_5 kv1_2_6 fv1_2_0 fv1_2_1 fv1_2_2 fv1_2_3 fv1_2_4 fv1_2_5 fv1_2_6
        go_wp2_with fail
        refine ((HG _ _).out).mono ?_
        rintro e v2 ⟨rfl, hbv2⟩
        obtain ⟨hcv2, hfv2⟩ := bcell hbv2
        have hzv2 := bsize hbv2
        (try simp only [World.size_alloc, World.size_setCell] at hzv2)
        have hkv2 : Below v1.heap.size v1 v2 := (by repeat (first | exact Below.refl _ _ | refine bl_alloc ?_ _ | refine bl_drewN ?_ _ | refine bl_trans (by assumption) ?_ | refine bl_set ?_ (by first | omega | (simp; done) | (simp; omega)) _))
        have kv2_0_0 : v2.cell? ⟨w.heap.size, 0, none⟩ = some (.int .i64 a) := cell_after hkv2 sv1_0 kv1_0_0
        have kv2_0_1 : v2.cell? ⟨w.heap.size, 1, none⟩ = some (.int .i64 b) := cell_after hkv2 sv1_0 kv1_0_1
        have sv2_0 : w.heap.size < v2.heap.size := size_after hkv2 sv1_0
        have kv2_1_0 : v2.cell? ⟨w.heap.size + 1, 0, none⟩ = some (.int .i64 c) := cell_after hkv2 sv1_1 kv1_1_0
        have kv2_1_1 : v2.cell? ⟨w.heap.size + 1, 1, none⟩ = some (.int .i64 d) := cell_after hkv2 sv1_1 kv1_1_1
        have sv2_1 : w.heap.size + 1 < v2.heap.size := size_after hkv2 sv1_1
        have kv2_2_0 : v2.cell? ⟨v1.heap.size, 0, none⟩ = some (.int .i64 a) := by rw [hcv2 _ _ (by first | (simp; done) | omega | (simp; omega))]; first | assumption | (simp [go_sem]; done) | (simp [go_sem, kv1_0_0, kv1_0_1, kv1_1_0, kv1_1_1]; done) | (simp [go_sem, *]; done)
        have fv2_2_0 : v2.frozen? ⟨v1.heap.size, 0, none⟩ = false := by rw [hfv2 _ _ (by first | (simp; done) | omega | (simp; omega))]; first | assumption | (simp [go_sem]; done) | (simp [go_sem, kv1_0_0, kv1_0_1, kv1_1_0, kv1_1_1]; done) | (simp [go_sem, *]; done)
        have kv2_2_1 : v2.cell? ⟨v1.heap.size, 1, none⟩ = some (.int .i64 b) := by rw [hcv2 _ _ (by first | (simp; done) | omega | (simp; omega))]; first | assumption | (simp [go_sem]; done) | (simp [go_sem, kv1_0_0, kv1_0_1, kv1_1_0, kv1_1_1]; done) | (simp [go_sem, *]; done)
        have fv2_2_1 : v2.frozen? ⟨v1.heap.size, 1, none⟩ = false := by rw [hfv2 _ _ (by first | (simp; done) | omega | (simp; omega))]; first | assumption | (simp [go_sem]; done) | (simp [go_sem, kv1_0_0, kv1_0_1, kv1_1_0, kv1_1_1]; done) | (simp [go_sem, *]; done)
        have kv2_2_2 : v2.cell? ⟨v1.heap.size, 2, none⟩ = some (.int .i64 c) := by rw [hcv2 _ _ (by first | (simp; done) | omega | (simp; omega))]; first | assumption | (simp [go_sem]; done) | (simp [go_sem, kv1_0_0, kv1_0_1, kv1_1_0, kv1_1_1]; done) | (simp [go_sem, *]; done)
        have fv2_2_2 : v2.frozen? ⟨v1.heap.size, 2, none⟩ = false := by rw [hfv2 _ _ (by first | (simp; done) | omega | (simp; omega))]; first | assumption | (simp [go_sem]; done) | (simp [go_sem, kv1_0_0, kv1_0_1, kv1_1_0, kv1_1_1]; done) | (simp [go_sem, *]; done)
        have kv2_2_3 : v2.cell? ⟨v1.heap.size, 3, none⟩ = some (.int .i64 d) := by rw [hcv2 _ _ (by first | (simp; done) | omega | (simp; omega))]; first | assumption | (simp [go_sem]; done) | (simp [go_sem, kv1_0_0, kv1_0_1, kv1_1_0, kv1_1_1]; done) | (simp [go_sem, *]; done)
        have fv2_2_3 : v2.frozen? ⟨v1.heap.size, 3, none⟩ = false := by rw [hfv2 _ _ (by first | (simp; done) | omega | (simp; omega))]; first | assumption | (simp [go_sem]; done) | (simp [go_sem, kv1_0_0, kv1_0_1, kv1_1_0, kv1_1_1]; done) | (simp [go_sem, *]; done)
        have kv2_2_4 : v2.cell? ⟨v1.heap.size, 4, none⟩ = some (.int .i64 h) := by rw [hcv2 _ _ (by first | (simp; done) | omega | (simp; omega))]; first | assumption | (simp [go_sem]; done) | (simp [go_sem, kv1_0_0, kv1_0_1, kv1_1_0, kv1_1_1]; done) | (simp [go_sem, *]; done)
        have fv2_2_4 : v2.frozen? ⟨v1.heap.size, 4, none⟩ = false := by rw [hfv2 _ _ (by first | (simp; done) | omega | (simp; omega))]; first | assumption | (simp [go_sem]; done) | (simp [go_sem, kv1_0_0, kv1_0_1, kv1_1_0, kv1_1_1]; done) | (simp [go_sem, *]; done)
        have kv2_2_5 : v2.cell? ⟨v1.heap.size, 5, none⟩ = some (.int .i64 ((k : Int) + 1)) := by rw [hcv2 _ _ (by first | (simp; done) | omega | (simp; omega))]; first | assumption | (simp [go_sem]; done) | (simp [go_sem, kv1_0_0, kv1_0_1, kv1_1_0, kv1_1_1]; done) | (simp [go_sem, *]; done)
        have fv2_2_5 : v2.frozen? ⟨v1.heap.size, 5, none⟩ = false := by rw [hfv2 _ _ (by first | (simp; done) | omega | (simp; omega))]; first | assumption | (simp [go_sem]; done) | (simp [go_sem, kv1_0_0, kv1_0_1, kv1_1_0, kv1_1_1]; done) | (simp [go_sem, *]; done)
        have kv2_2_6 : v2.cell? ⟨v1.heap.size, 6, none⟩ = some (.bool false) := by rw [hcv2 _ _ (by first | (simp; done) | omega | (simp; omega))]; first | assumption | (simp [go_sem]; done) | (simp [go_sem, kv1_0_0, kv1_0_1, kv1_1_0, kv1_1_1]; done) | (simp [go_sem, *]; done)
        have fv2_2_6 : v2.frozen? ⟨v1.heap.size, 6, none⟩ = false := by rw [hfv2 _ _ (by first | (simp; done) | omega | (simp; omega))]; first | assumption | (simp [go_sem]; done) | (simp [go_sem, kv1_0_0, kv1_0_1, kv1_1_0, kv1_1_1]; done) | (simp [go_sem, *]; done)
        have sv2_2 : v1.heap.size < v2.heap.size := by first | omega | (simp at *; omega)
        have hBv2 : Below w.heap.size w v2 := (by repeat (first | exact HBv1.out | exact Below.refl _ _ | refine bl_alloc ?_ _ | refine bl_drewN ?_ _ | refine bl_trans (by assumption) ?_ | refine bl_set ?_ (by first | omega | (simp; done) | (simp; omega)) _))
        have HBv2 := Lib.hid hBv2
        clear hBv2 hcv2 hfv2 hbv2 hkv2 kv1_0_0 kv1_0_1 sv1_0 kv1_1_0 kv1_1_1 sv1_1
        go_wp2_with fail
        rw [rounds_succ]
        go_wp2
        go_roundw
        case rel => exact ⟨k + 1, by omega, by go_num, by rw [HS.out]; first | done | rfl | go_num, kv2_0_0, kv2_0_1, kv2_1_0, kv2_1_1, sv2_1, HBv2.out⟩
        case measure => simp only [intOf]; omega
      · have HS := Lib.hid (show wwc a b c d h l (k + 1) = wwc a b c d h l k + 0 + 0 by rw [wwc]; unfold one; rw [if_neg m1, if_neg m2])
        generalize wwc a b c d h l k = n at *
        generalize SC a b c d h ((k : Int) + 1) = QQ at *
        have hs0 : w.heap.size < wr.heap.size := by omega
        go_wp2_with fail
        refine wp_loop_rounds 3 ?_
        rw [rounds_succ]
        go_wp2_with fail
        refine ((HG _ _).out).mono ?_
        rintro e v1 ⟨rfl, hbv1⟩
        obtain ⟨hcv1, hfv1⟩ := bcell hbv1
        have hzv1 := bsize hbv1
        (try simp only [World.size_alloc, World.size_setCell] at hzv1)
        have hkv1 : Below wr.heap.size wr v1 := (by repeat (first | exact Below.refl _ _ | refine bl_alloc ?_ _ | refine bl_drewN ?_ _ | refine bl_trans (by assumption) ?_ | refine bl_set ?_ (by first | omega | (simp; done) | (simp; omega)) _))
        have kv1_0_0 : v1.cell? ⟨w.heap.size, 0, none⟩ = some (.int .i64 a) := cell_after hkv1 hs0 q0
        have kv1_0_1 : v1.cell? ⟨w.heap.size, 1, none⟩ = some (.int .i64 b) := cell_after hkv1 hs0 q1
        have sv1_0 : w.heap.size < v1.heap.size := size_after hkv1 hs0
        have kv1_1_0 : v1.cell? ⟨w.heap.size + 1, 0, none⟩ = some (.int .i64 c) := cell_after hkv1 hs q2
        have kv1_1_1 : v1.cell? ⟨w.heap.size + 1, 1, none⟩ = some (.int .i64 d) := cell_after hkv1 hs q3
        have sv1_1 : w.heap.size + 1 < v1.heap.size := size_after hkv1 hs
        have kv1_2_0 : v1.cell? ⟨wr.heap.size, 0, none⟩ = some (.int .i64 a) := by rw [hcv1 _ _ (by first | (simp; done) | omega | (simp; omega))]; first | assumption | (simp [go_sem]; done) | (simp [go_sem, q0, q1, q2, q3]; done) | (simp [go_sem, *]; done)
        have fv1_2_0 : v1.frozen? ⟨wr.heap.size, 0, none⟩ = false := by rw [hfv1 _ _ (by first | (simp; done) | omega | (simp; omega))]; first | assumption | (simp [go_sem]; done) | (simp [go_sem, q0, q1, q2, q3]; done) | (simp [go_sem, *]; done)
        have kv1_2_1 : v1.cell? ⟨wr.heap.size, 1, none⟩ = some (.int .i64 b) := by rw [hcv1 _ _ (by first | (simp; done) | omega | (simp; omega))]; first | assumption | (simp [go_sem]; done) | (simp [go_sem, q0, q1, q2, q3]; done) | (simp [go_sem, *]; done)
        have fv1_2_1 : v1.frozen? ⟨wr.heap.size, 1, none⟩ = false := by rw [hfv1 _ _ (by first | (simp; done) | omega | (simp; omega))]; first | assumption | (simp [go_sem]; done) | (simp [go_sem, q0, q1, q2, q3]; done) | (simp [go_sem, *]; done)
        have kv1_2_2 : v1.cell? ⟨wr.heap.size, 2, none⟩ = some (.int .i64 c) := by rw [hcv1 _ _ (by first | (simp; done) | omega | (simp; omega))]; first | assumption | (simp [go_sem]; done) | (simp [go_sem, q0, q1, q2, q3]; done) | (simp [go_sem, *]; done)
        have fv1_2_2 : v1.frozen? ⟨wr.heap.size, 2, none⟩ = false := by rw [hfv1 _ _ (by first | (simp; done) | omega | (simp; omega))]; first | assumption | (simp [go_sem]; done) | (simp [go_sem, q0, q1, q2, q3]; done) | (simp [go_sem, *]; done)
        have kv1_2_3 : v1.cell? ⟨wr.heap.size, 3, none⟩ = some (.int .i64 d) := by rw [hcv1 _ _ (by first | (simp; done) | omega | (simp; omega))]; first | assumption | (simp [go_sem]; done) | (simp [go_sem, q0, q1, q2, q3]; done) | (simp [go_sem, *]; done)
        have fv1_2_3 : v1.frozen? ⟨wr.heap.size, 3, none⟩ = false := by rw [hfv1 _ _ (by first | (simp; done) | omega | (simp; omega))]; first | assumption | (simp [go_sem]; done) | (simp [go_sem, q0, q1, q2, q3]; done) | (simp [go_sem, *]; done)
        have kv1_2_4 : v1.cell? ⟨wr.heap.size, 4, none⟩ = some (.int .i64 h) := by rw [hcv1 _ _ (by first | (simp; done) | omega | (simp; omega))]; first | assumption | (simp [go_sem]; done) | (simp [go_sem, q0, q1, q2, q3]; done) | (simp [go_sem, *]; done)
        have fv1_2_4 : v1.frozen? ⟨wr.heap.size, 4, none⟩ = false := by rw [hfv1 _ _ (by first | (simp; done) | omega | (simp; omega))]; first | assumption | (simp [go_sem]; done) | (simp [go_sem, q0, q1, q2, q3]; done) | (simp [go_sem, *]; done)
        have kv1_2_5 : v1.cell? ⟨wr.heap.size, 5, none⟩ = some (.int .i64 ((k : Int) + 1)) := by rw [hcv1 _ _ (by first | (simp; done) | omega | (simp; omega))]; first | assumption | (simp [go_sem]; done) | (simp [go_sem, q0, q1, q2, q3]; done) | (simp [go_sem, *]; done)
        have fv1_2_5 : v1.frozen? ⟨wr.heap.size, 5, none⟩ = false := by rw [hfv1 _ _ (by first | (simp; done) | omega | (simp; omega))]; first | assumption | (simp [go_sem]; done) | (simp [go_sem, q0, q1, q2, q3]; done) | (simp [go_sem, *]; done)
        have kv1_2_6 : v1.cell? ⟨wr.heap.size, 6, none⟩ = some (.bool true) := by rw [hcv1 _ _ (by first | (simp; done) | omega | (simp; omega))]; first | assumption | (simp [go_sem]; done) | (simp [go_sem, q0, q1, q2, q3]; done) | (simp [go_sem, *]; done)
        have fv1_2_6 : v1.frozen? ⟨wr.heap.size, 6, none⟩ = false := by rw [hfv1 _ _ (by first | (simp; done) | omega | (simp; omega))]; first | assumption | (simp [go_sem]; done) | (simp [go_sem, q0, q1, q2, q3]; done) | (simp [go_sem, *]; done)
        have sv1_2 : wr.heap.size < v1.heap.size := by first | omega | (simp at *; omega)
        have hBv1 : Below w.heap.size w v1 := (by repeat (first | exact HBr.out | exact Below.refl _ _ | refine bl_alloc ?_ _ | refine bl_drewN ?_ _ | refine bl_trans (by assumption) ?_ | refine bl_set ?_ (by first | omega | (simp; done) | (simp; omega)) _))
        have HBv1 := Lib.hid hBv1
        clear hBv1 hcv1 hfv1 hbv1 hkv1 q0 q1 hs0 q2 q3 hs
        go_wp2_with fail
        rw [rounds_succ]
        clear kv1_2_0 kv1_2_1 kv1_2_2 kv1_2_3 kv1_2_4 kv1_2_5 kv1_2_6 fv1_2_0 fv1_2_1 fv1_2_2 fv1_2_3 fv1_2_4 fv1_2_5 fv1_2_6
        go_wp2_with fail
        refine ((HG _ _).out).mono ?_
        rintro e v2 ⟨rfl, hbv2⟩
        obtain ⟨hcv2, hfv2⟩ := bcell hbv2
        have hzv2 := bsize hbv2
        (try simp only [World.size_alloc, World.size_setCell] at hzv2)
        have hkv2 : Below v1.heap.size v1 v2 := (by repeat (first | exact Below.refl _ _ | refine bl_alloc ?_ _ | refine bl_drewN ?_ _ | refine bl_trans (by assumption) ?_ | refine bl_set ?_ (by first | omega | (simp; done) | (simp; omega)) _))
        have kv2_0_0 : v2.cell? ⟨w.heap.size, 0, none⟩ = some (.int .i64 a) := cell_after hkv2 sv1_0 kv1_0_0
        have kv2_0_1 : v2.cell? ⟨w.heap.size, 1, none⟩ = some (.int .i64 b) := cell_after hkv2 sv1_0 kv1_0_1
        have sv2_0 : w.heap.size < v2.heap.size := size_after hkv2 sv1_0
        have kv2_1_0 : v2.cell? ⟨w.heap.size + 1, 0, none⟩ = some (.int .i64 c) := cell_after hkv2 sv1_1 kv1_1_0
        have kv2_1_1 : v2.cell? ⟨w.heap.size + 1, 1, none⟩ = some (.int .i64 d) := cell_after hkv2 sv1_1 kv1_1_1
        have sv2_1 : w.heap.size + 1 < v2.heap.size := size_after hkv2 sv1_1
        have kv2_2_0 : v2.cell? ⟨v1.heap.size, 0, none⟩ = some (.int .i64 a) := by rw [hcv2 _ _ (by first | (simp; done) | omega | (simp; omega))]; first | assumption | (simp [go_sem]; done) | (simp [go_sem, kv1_0_0, kv1_0_1, kv1_1_0, kv1_1_1]; done) | (simp [go_sem, *]; done)
        have fv2_2_0 : v2.frozen? ⟨v1.heap.size, 0, none⟩ = false := by rw [hfv2 _ _ (by first | (simp; done) | omega | (simp; omega))]; first | assumption | (simp [go_sem]; done) | (simp [go_sem, kv1_0_0, kv1_0_1, kv1_1_0, kv1_1_1]; done) | (simp [go_sem, *]; done)
        have kv2_2_1 : v2.cell? ⟨v1.heap.size, 1, none⟩ = some (.int .i64 b) := by rw [hcv2 _ _ (by first | (simp; done) | omega | (simp; omega))]; first | assumption | (simp [go_sem]; done) | (simp [go_sem, kv1_0_0, kv1_0_1, kv1_1_0, kv1_1_1]; done) | (simp [go_sem, *]; done)
        have fv2_2_1 : v2.frozen? ⟨v1.heap.size, 1, none⟩ = false := by rw [hfv2 _ _ (by first | (simp; done) | omega | (simp; omega))]; first | assumption | (simp [go_sem]; done) | (simp [go_sem, kv1_0_0, kv1_0_1, kv1_1_0, kv1_1_1]; done) | (simp [go_sem, *]; done)
        have kv2_2_2 : v2.cell? ⟨v1.heap.size, 2, none⟩ = some (.int .i64 c) := by rw [hcv2 _ _ (by first | (simp; done) | omega | (simp; omega))]; first | assumption | (simp [go_sem]; done) | (simp [go_sem, kv1_0_0, kv1_0_1, kv1_1_0, kv1_1_1]; done) | (simp [go_sem, *]; done)
        have fv2_2_2 : v2.frozen? ⟨v1.heap.size, 2, none⟩ = false := by rw [hfv2 _ _ (by first | (simp; done) | omega | (simp; omega))]; first | assumption | (simp [go_sem]; done) | (simp [go_sem, kv1_0_0, kv1_0_1, kv1_1_0, kv1_1_1]; done) | (simp [go_sem, *]; done)
        have kv2_2_3 : v2.cell? ⟨v1.heap.size, 3, none⟩ = some (.int .i64 d) := by rw [hcv2 _ _ (by first | (simp; done) | omega | (simp; omega))]; first | assumption | (simp [go_sem]; done) | (simp [go_sem, kv1_0_0, kv1_0_1, kv1_1_0, kv1_1_1]; done) | (simp [go_sem, *]; done)
        have fv2_2_3 : v2.frozen? ⟨v1.heap.size, 3, none⟩ = false := by rw [hfv2 _ _ (by first | (simp; done) | omega | (simp; omega))]; first | assumption | (simp [go_sem]; done) | (simp [go_sem, kv1_0_0, kv1_0_1, kv1_1_0, kv1_1_1]; done) | (simp [go_sem, *]; done)
        have kv2_2_4 : v2.cell? ⟨v1.heap.size, 4, none⟩ = some (.int .i64 h) := by rw [hcv2 _ _ (by first | (simp; done) | omega | (simp; omega))]; first | assumption | (simp [go_sem]; done) | (simp [go_sem, kv1_0_0, kv1_0_1, kv1_1_0, kv1_1_1]; done) | (simp [go_sem, *]; done)
        have fv2_2_4 : v2.frozen? ⟨v1.heap.size, 4, none⟩ = false := by rw [hfv2 _ _ (by first | (simp; done) | omega | (simp; omega))]; first | assumption | (simp [go_sem]; done) | (simp [go_sem, kv1_0_0, kv1_0_1, kv1_1_0, kv1_1_1]; done) | (simp [go_sem, *]; done)
        have kv2_2_5 : v2.cell? ⟨v1.heap.size, 5, none⟩ = some (.int .i64 ((k : Int) + 1)) := by rw [hcv2 _ _ (by first | (simp; done) | omega | (simp; omega))]; first | assumption | (simp [go_sem]; done) | (simp [go_sem, kv1_0_0, kv1_0_1, kv1_1_0, kv1_1_1]; done) | (simp [go_sem, *]; done)
        have fv2_2_5 : v2.frozen? ⟨v1.heap.size, 5, none⟩ = false := by rw [hfv2 _ _ (by first | (simp; done) | omega | (simp; omega))]; first | assumption | (simp [go_sem]; done) | (simp [go_sem, kv1_0_0, kv1_0_1, kv1_1_0, kv1_1_1]; done) | (simp [go_sem, *]; done)
        have kv2_2_6 : v2.cell? ⟨v1.heap.size, 6, none⟩ = some (.bool false) := by rw [hcv2 _ _ (by first | (simp; done) | omega | (simp; omega))]; first | assumption | (simp [go_sem]; done) | (simp [go_sem, kv1_0_0, kv1_0_1, kv1_1_0, kv1_1_1]; done) | (simp [go_sem, *]; done)
        have fv2_2_6 : v2.frozen? ⟨v1.heap.size, 6, none⟩ = false := by rw [hfv2 _ _ (by first | (simp; done) | omega | (simp; omega))]; first | assumption | (simp [go_sem]; done) | (simp [go_sem, kv1_0_0, kv1_0_1, kv1_1_0, kv1_1_1]; done) | (simp [go_sem, *]; done)
        have sv2_2 : v1.heap.size < v2.heap.size := by first | omega | (simp at *; omega)
        have hBv2 : Below w.heap.size w v2 := (by repeat (first | exact HBv1.out | exact Below.refl _ _ | refine bl_alloc ?_ _ | refine bl_drewN ?_ _ | refine bl_trans (by assumption) ?_ | refine bl_set ?_ (by first | omega | (simp; done) | (simp; omega)) _))
        have HBv2 := Lib.hid hBv2
        clear hBv2 hcv2 hfv2 hbv2 hkv2 kv1_0_0 kv1_0_1 sv1_0 kv1_1_0 kv1_1_1 sv1_1
        go_wp2_with fail
        rw [rounds_succ]
        go_wp2
        go_roundw
        case rel => exact ⟨k + 1, by omega, by go_num, by rw [HS.out]; first | done | rfl | go_num, kv2_0_0, kv2_0_1, kv2_1_0, kv2_1_1, sv2_1, HBv2.out⟩
        case measure => simp only [intOf]; omega
    · obtain rfl : k = 50 := by omega
      go_wp2
      go_ret2
      exact ⟨by rw [HO.out]; first | (rw [← HW.out, HO.out]; done) | (rw [← HW.out, HO.out]; rfl), HBr.out⟩
end Go.Proofs.Ytppgcaennhghoaa
