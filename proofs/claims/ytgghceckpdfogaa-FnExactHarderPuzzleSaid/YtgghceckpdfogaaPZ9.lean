/- Harder puzzles, by the program and by the model. -/
import Derived.Test.YtgghceckpdfogaaPZ8
namespace Go.Proofs.Ytgghceckpdfogaa
open Go.RowKit
set_option linter.unusedVariables false
set_option linter.unusedSimpArgs false
def slLen : Value → Nat
  | .slice _ n _ => n
  | _ => 0
def hdW (wd : Int) (n : Nat) (f : Nat → Int) : Int := if solved wd n f then wd else 0
def hdN (wd : Int) (n : Nat) (f : Nat → Int) : Nat := if solved wd n f then (hard wd n n f 0).1 else 0
def hdF (wd : Int) (n : Nat) (f : Nat → Int) : Nat → Int := (hard wd n n f 0).2
theorem solved_ok {wd : Int} {n : Nat} {f : Nat → Int} (h : solved wd n f = true) : okP wd n f = true := okP_of (by simp [solved] at h; omega)
theorem hard_yes {wd : Int} {m n : Nat} {f : Nat → Int} {k : Nat} (h : cnt (n - 1) (dropF f k) wd = 1) : hard wd (m + 1) n f k = hard wd m (n - 1) (dropF f k) k := by rw [hard, if_pos h]
theorem hard_no {wd : Int} {m n : Nat} {f : Nat → Int} {k : Nat} (h : ¬ cnt (n - 1) (dropF f k) wd = 1) : hard wd (m + 1) n f k = hard wd m n f (k + 1) := by rw [hard, if_neg h]
theorem hard_end (wd : Int) (n : Nat) (f : Nat → Int) (k : Nat) : hard wd 0 n f k = (n, f) := rfl
theorem hdN_le (wd : Int) (n : Nat) (f : Nat → Int) : hdN wd n f ≤ n := by
  unfold hdN
  split
  · exact hard_le wd n n f 0
  · exact Nat.zero_le _
attribute [local irreducible] cnt hard
set_option maxHeartbeats 1600000 in
theorem impl_HarderPuzzle (wd : Int) (v : Value) (n : Nat) (f : Nat → Int) (w : World) (h : PClu w v n f) (hcap : Caps v) :
    Calls Try.prog 59 #[.agg #[.int .i64 wd, v]] w fun e w' => ∃ u, e = .returned (.tuple #[.agg #[.int .i64 (hdW wd n f), u], .bool (solved wd n f)]) ∧ OClu w' w.heap.size u (hdN wd n f) (hdF wd n f) ∧ Below w.heap.size w w' := by
  obtain ⟨a, c, rfl⟩ := h.shape
  have HH := Lib.hid h
  have HC := Lib.hid hcap
  clear h hcap
  cases hs : solved wd n f
  · have e1 : hdW wd n f = 0 := by rw [hdW, hs]; rfl
    have e2 : hdN wd n f = 0 := by rw [hdN, hs]; rfl
    rw [e1, e2]
    clear e1 e2
    go_enter Try.func59, Try.ntmps59
    go_wp2_with fail
    refine (impl_IsSolved wd _ n f _ (HH.out.keep (by repeat (first | exact Below.refl _ _ | refine bl_alloc ?_ _ | refine bl_drewN ?_ _ | refine bl_trans (by assumption) ?_ | refine bl_set ?_ (by first | omega | (simp; done) | (simp; omega)) _)))).mono ?_
    rintro e w1 ⟨rfl, hbw1⟩
    obtain ⟨hcw1, hfw1⟩ := bcell hbw1
    have hzw1 := bsize hbw1
    (try simp only [World.size_alloc, World.size_setCell] at hzw1)
    have kw1_0_0 : w1.cell? ⟨w.heap.size, 0, none⟩ = some (.int .i64 wd) := by rw [hcw1 _ _ (by first | (simp; done) | omega | (simp; omega))]; first | assumption | (simp [go_sem]; done) | (simp [go_sem]; done) | (simp [go_sem, *]; done)
    have kw1_0_1 : w1.cell? ⟨w.heap.size, 1, none⟩ = some (.slice a n c) := by rw [hcw1 _ _ (by first | (simp; done) | omega | (simp; omega))]; first | assumption | (simp [go_sem]; done) | (simp [go_sem]; done) | (simp [go_sem, *]; done)
    have sw1_0 : w.heap.size < w1.heap.size := by first | omega | (simp at *; omega)
    have kw1_1_0 : w1.cell? ⟨w.heap.size + 1, 0, none⟩ = some (.int .i64 0) := by rw [hcw1 _ _ (by first | (simp; done) | omega | (simp; omega))]; first | assumption | (simp [go_sem]; done) | (simp [go_sem]; done) | (simp [go_sem, *]; done)
    have fw1_1_0 : w1.frozen? ⟨w.heap.size + 1, 0, none⟩ = false := by rw [hfw1 _ _ (by first | (simp; done) | omega | (simp; omega))]; first | assumption | (simp [go_sem]; done) | (simp [go_sem]; done) | (simp [go_sem, *]; done)
    have kw1_1_1 : w1.cell? ⟨w.heap.size + 1, 1, none⟩ = some (.slice none 0 0) := by rw [hcw1 _ _ (by first | (simp; done) | omega | (simp; omega))]; first | assumption | (simp [go_sem]; done) | (simp [go_sem]; done) | (simp [go_sem, *]; done)
    have fw1_1_1 : w1.frozen? ⟨w.heap.size + 1, 1, none⟩ = false := by rw [hfw1 _ _ (by first | (simp; done) | omega | (simp; omega))]; first | assumption | (simp [go_sem]; done) | (simp [go_sem]; done) | (simp [go_sem, *]; done)
    have sw1_1 : w.heap.size + 1 < w1.heap.size := by first | omega | (simp at *; omega)
    have hBw1 : Below w.heap.size w w1 := (by repeat (first | exact Below.refl _ _ | refine bl_alloc ?_ _ | refine bl_drewN ?_ _ | refine bl_trans (by assumption) ?_ | refine bl_set ?_ (by first | omega | (simp; done) | (simp; omega)) _))
    have HBw1 := Lib.hid hBw1
    clear hBw1 hcw1 hfw1 hbw1
    rw [hs]
    go_wp2
    exact bodyPost_ret (v := .tuple #[.agg #[.int .i64 0, .slice none 0 0], .bool false]) (by simp [results, Try.results59, go_sem, kw1_0_0, kw1_0_1, kw1_1_0, kw1_1_1, fw1_1_0, fw1_1_1]) rfl ⟨.slice none 0 0, rfl, OClu.nil _ _ _, (by repeat (first | refine bl_set ?_ (by first | omega | (simp; done) | (simp; omega)) _ | exact HBw1.out))⟩
  · have e1 : hdW wd n f = wd := by rw [hdW, hs]; rfl
    have E2 := Lib.hid (show hdN wd n f = (hard wd n n f 0).1 by rw [hdN, hs]; rfl)
    have E3 := Lib.hid (show hdF wd n f = (hard wd n n f 0).2 from rfl)
    obtain ⟨⟨k1, k2⟩, k3, k4⟩ := okP_true (solved_ok hs)
    have K4 := Lib.hid k4
    rw [e1]
    clear e1 k4
    go_enter Try.func59, Try.ntmps59
    go_wp2_with fail
    refine (impl_IsSolved wd _ n f _ (HH.out.keep (by repeat (first | exact Below.refl _ _ | refine bl_alloc ?_ _ | refine bl_drewN ?_ _ | refine bl_trans (by assumption) ?_ | refine bl_set ?_ (by first | omega | (simp; done) | (simp; omega)) _)))).mono ?_
    rintro e w1 ⟨rfl, hbw1⟩
    obtain ⟨hcw1, hfw1⟩ := bcell hbw1
    have hzw1 := bsize hbw1
    (try simp only [World.size_alloc, World.size_setCell] at hzw1)
    have kw1_0_0 : w1.cell? ⟨w.heap.size, 0, none⟩ = some (.int .i64 wd) := by rw [hcw1 _ _ (by first | (simp; done) | omega | (simp; omega))]; first | assumption | (simp [go_sem]; done) | (simp [go_sem]; done) | (simp [go_sem, *]; done)
    have kw1_0_1 : w1.cell? ⟨w.heap.size, 1, none⟩ = some (.slice a n c) := by rw [hcw1 _ _ (by first | (simp; done) | omega | (simp; omega))]; first | assumption | (simp [go_sem]; done) | (simp [go_sem]; done) | (simp [go_sem, *]; done)
    have sw1_0 : w.heap.size < w1.heap.size := by first | omega | (simp at *; omega)
    have kw1_1_0 : w1.cell? ⟨w.heap.size + 1, 0, none⟩ = some (.int .i64 0) := by rw [hcw1 _ _ (by first | (simp; done) | omega | (simp; omega))]; first | assumption | (simp [go_sem]; done) | (simp [go_sem]; done) | (simp [go_sem, *]; done)
    have fw1_1_0 : w1.frozen? ⟨w.heap.size + 1, 0, none⟩ = false := by rw [hfw1 _ _ (by first | (simp; done) | omega | (simp; omega))]; first | assumption | (simp [go_sem]; done) | (simp [go_sem]; done) | (simp [go_sem, *]; done)
    have kw1_1_1 : w1.cell? ⟨w.heap.size + 1, 1, none⟩ = some (.slice none 0 0) := by rw [hcw1 _ _ (by first | (simp; done) | omega | (simp; omega))]; first | assumption | (simp [go_sem]; done) | (simp [go_sem]; done) | (simp [go_sem, *]; done)
    have fw1_1_1 : w1.frozen? ⟨w.heap.size + 1, 1, none⟩ = false := by rw [hfw1 _ _ (by first | (simp; done) | omega | (simp; omega))]; first | assumption | (simp [go_sem]; done) | (simp [go_sem]; done) | (simp [go_sem, *]; done)
    have sw1_1 : w.heap.size + 1 < w1.heap.size := by first | omega | (simp at *; omega)
    have hBw1 : Below w.heap.size w w1 := (by repeat (first | exact Below.refl _ _ | refine bl_alloc ?_ _ | refine bl_drewN ?_ _ | refine bl_trans (by assumption) ?_ | refine bl_set ?_ (by first | omega | (simp; done) | (simp; omega)) _))
    have HBw1 := Lib.hid hBw1
    clear hBw1 hcw1 hfw1 hbw1
    rw [hs]
    go_wp2_with fail
    go_loopw [6, 7] (fun cv kv wr => ∃ (k m n' : Nat) (f' : Nat → Int), k + m = n' ∧ n' ≤ n ∧ okCs n' f' = true ∧ kv = .int .i64 (k : Int) ∧ PClu wr cv n' f' ∧ Caps cv ∧ hard wd m n' f' k = hard wd n n f 0 ∧ wr.cell? ⟨w.heap.size, 0, none⟩ = some (.int .i64 wd) ∧ wr.cell? ⟨w.heap.size + 1, 0, none⟩ = some (.int .i64 0) ∧ wr.cell? ⟨w.heap.size + 1, 1, none⟩ = some (.slice none 0 0) ∧ wr.frozen? ⟨w.heap.size + 1, 0, none⟩ = false ∧ wr.frozen? ⟨w.heap.size + 1, 1, none⟩ = false ∧ w.heap.size + 1 < wr.heap.size ∧ Below w.heap.size w wr) (fun cv kv _ => slLen cv - (intOf kv).toNat)
    case atStart => exact ⟨0, n, n, f, by omega, Nat.le_refl _, K4.out, rfl, HH.out.keep HBw1.out, HC.out, rfl, by assumption, by assumption, by assumption, by assumption, by assumption, by assumption, HBw1.out⟩
    case round =>
      obtain ⟨k, m, n', f', hkm, hnn, hok, rfl, hP, hCa, hH, c0, d0, d1, z0, z1, hsz, hW⟩ := hrel
      obtain ⟨a1, c1, rfl⟩ := hP.shape
      have HP := Lib.hid hP
      have HCa := Lib.hid hCa
      have HHd := Lib.hid hH
      have HO := Lib.hid hok
      have HW := Lib.hid hW
      have hsz0 : w.heap.size < wr.heap.size := by omega
      clear hP hCa hH hok hW
      by_cases hlt : k < n'
      · obtain ⟨m', rfl⟩ : ∃ m', m = m' + 1 := ⟨m - 1, by omega⟩
        have hlt' : (k : Int) < (n' : Int) := by omega
        have HY := Lib.hid (@hard_yes wd m' n' f' k)
        have HN := Lib.hid (@hard_no wd m' n' f' k)
        have HO2 := Lib.hid (okCs_drop HO.out k hlt)
        have ho := nat_one (cnt (n' - 1) (dropF f' k) wd)
        have hq : cnt (n' - 1) (dropF f' k) wd ≤ 144 := cnt_le _ _ _
        by_cases hc1 : cnt (n' - 1) (dropF f' k) wd = 1
        · have HY2 := Lib.hid ((HY.out hc1).symm.trans HHd.out)
          have hc2 : decide (cnt (n' - 1) (dropF f' k) wd = 1) = true := decide_eq_true hc1
          rw [hc2] at ho
          clear hc1 HY HN hc2
          go_wp2_with fail
          refine (cluesWithout_any _ n' k f' _ HP.out HCa.out hlt (by omega)).mono ?_
          rintro e x1 ⟨u, rfl, hP2, hCa2, hbx1⟩
          obtain ⟨hcx1, hfx1⟩ := bcell hbx1
          have hzx1 := bsize hbx1
          (try simp only [World.size_alloc, World.size_setCell] at hzx1)
          have hkx1 : Below wr.heap.size wr x1 := (by repeat (first | exact Below.refl _ _ | refine bl_alloc ?_ _ | refine bl_drewN ?_ _ | refine bl_trans (by assumption) ?_ | refine bl_set ?_ (by first | omega | (simp; done) | (simp; omega)) _))
          obtain ⟨a2, c2, rfl⟩ := hP2.shape
          have HP3 := Lib.hid (HP.out.keep hkx1)
          have HP2 := Lib.hid hP2
          have HCa2 := Lib.hid hCa2
          clear hP2 hCa2
          have kx1_0_0 : x1.cell? ⟨w.heap.size, 0, none⟩ = some (.int .i64 wd) := cell_after hkx1 hsz0 c0
          have sx1_0 : w.heap.size < x1.heap.size := size_after hkx1 hsz0
          have kx1_1_0 : x1.cell? ⟨w.heap.size + 1, 0, none⟩ = some (.int .i64 0) := cell_after hkx1 hsz d0
          have fx1_1_0 : x1.frozen? ⟨w.heap.size + 1, 0, none⟩ = false := frozen_after hkx1 hsz z0
          have kx1_1_1 : x1.cell? ⟨w.heap.size + 1, 1, none⟩ = some (.slice none 0 0) := cell_after hkx1 hsz d1
          have fx1_1_1 : x1.frozen? ⟨w.heap.size + 1, 1, none⟩ = false := frozen_after hkx1 hsz z1
          have sx1_1 : w.heap.size + 1 < x1.heap.size := size_after hkx1 hsz
          have hBx1 : Below w.heap.size w x1 := (by repeat (first | exact HW.out | exact Below.refl _ _ | refine bl_alloc ?_ _ | refine bl_drewN ?_ _ | refine bl_trans (by assumption) ?_ | refine bl_set ?_ (by first | omega | (simp; done) | (simp; omega)) _))
          have HBx1 := Lib.hid hBx1
          clear hBx1 hcx1 hfx1 hbx1 hkx1 c0 hsz0 d0 d1 z0 z1 hsz
          go_wp2_with fail
          refine (countFit_any wd _ (n' - 1) (dropF f' k) _ HP2.out HO2.out k1 k2).mono ?_
          rintro e x2 ⟨rfl, hbx2⟩
          obtain ⟨hcx2, hfx2⟩ := bcell hbx2
          have hzx2 := bsize hbx2
          (try simp only [World.size_alloc, World.size_setCell] at hzx2)
          have hkx2 : Below x1.heap.size x1 x2 := (by repeat (first | exact Below.refl _ _ | refine bl_alloc ?_ _ | refine bl_drewN ?_ _ | refine bl_trans (by assumption) ?_ | refine bl_set ?_ (by first | omega | (simp; done) | (simp; omega)) _))
          have HP2 := Lib.hid (HP2.out.keep hkx2)
          have HP3 := Lib.hid (HP3.out.keep hkx2)
          have kx2_0_0 : x2.cell? ⟨w.heap.size, 0, none⟩ = some (.int .i64 wd) := cell_after hkx2 sx1_0 kx1_0_0
          have sx2_0 : w.heap.size < x2.heap.size := size_after hkx2 sx1_0
          have kx2_1_0 : x2.cell? ⟨w.heap.size + 1, 0, none⟩ = some (.int .i64 0) := cell_after hkx2 sx1_1 kx1_1_0
          have fx2_1_0 : x2.frozen? ⟨w.heap.size + 1, 0, none⟩ = false := frozen_after hkx2 sx1_1 fx1_1_0
          have kx2_1_1 : x2.cell? ⟨w.heap.size + 1, 1, none⟩ = some (.slice none 0 0) := cell_after hkx2 sx1_1 kx1_1_1
          have fx2_1_1 : x2.frozen? ⟨w.heap.size + 1, 1, none⟩ = false := frozen_after hkx2 sx1_1 fx1_1_1
          have sx2_1 : w.heap.size + 1 < x2.heap.size := size_after hkx2 sx1_1
          have hBx2 : Below w.heap.size w x2 := (by repeat (first | exact HBx1.out | exact Below.refl _ _ | refine bl_alloc ?_ _ | refine bl_drewN ?_ _ | refine bl_trans (by assumption) ?_ | refine bl_set ?_ (by first | omega | (simp; done) | (simp; omega)) _))
          have HBx2 := Lib.hid hBx2
          clear hBx2 hcx2 hfx2 hbx2 hkx2 kx1_0_0 sx1_0 kx1_1_0 kx1_1_1 fx1_1_0 fx1_1_1 sx1_1
          go_wp2
          go_roundw
          case rel => exact ⟨k, m', n' - 1, dropF f' k, by omega, by omega, HO2.out, rfl, HP2.out, HCa2.out, HY2.out, by assumption, by assumption, by assumption, by assumption, by assumption, by assumption, HBx2.out⟩
          case measure => simp only [slLen, intOf]; omega
        · have HN2 := Lib.hid ((HN.out hc1).symm.trans HHd.out)
          have hc2 : decide (cnt (n' - 1) (dropF f' k) wd = 1) = false := decide_eq_false hc1
          rw [hc2] at ho
          clear hc1 HY HN hc2
          go_wp2_with fail
          refine (cluesWithout_any _ n' k f' _ HP.out HCa.out hlt (by omega)).mono ?_
          rintro e x1 ⟨u, rfl, hP2, hCa2, hbx1⟩
          obtain ⟨hcx1, hfx1⟩ := bcell hbx1
          have hzx1 := bsize hbx1
          (try simp only [World.size_alloc, World.size_setCell] at hzx1)
          have hkx1 : Below wr.heap.size wr x1 := (by repeat (first | exact Below.refl _ _ | refine bl_alloc ?_ _ | refine bl_drewN ?_ _ | refine bl_trans (by assumption) ?_ | refine bl_set ?_ (by first | omega | (simp; done) | (simp; omega)) _))
          obtain ⟨a2, c2, rfl⟩ := hP2.shape
          have HP3 := Lib.hid (HP.out.keep hkx1)
          have HP2 := Lib.hid hP2
          have HCa2 := Lib.hid hCa2
          clear hP2 hCa2
          have kx1_0_0 : x1.cell? ⟨w.heap.size, 0, none⟩ = some (.int .i64 wd) := cell_after hkx1 hsz0 c0
          have sx1_0 : w.heap.size < x1.heap.size := size_after hkx1 hsz0
          have kx1_1_0 : x1.cell? ⟨w.heap.size + 1, 0, none⟩ = some (.int .i64 0) := cell_after hkx1 hsz d0
          have fx1_1_0 : x1.frozen? ⟨w.heap.size + 1, 0, none⟩ = false := frozen_after hkx1 hsz z0
          have kx1_1_1 : x1.cell? ⟨w.heap.size + 1, 1, none⟩ = some (.slice none 0 0) := cell_after hkx1 hsz d1
          have fx1_1_1 : x1.frozen? ⟨w.heap.size + 1, 1, none⟩ = false := frozen_after hkx1 hsz z1
          have sx1_1 : w.heap.size + 1 < x1.heap.size := size_after hkx1 hsz
          have hBx1 : Below w.heap.size w x1 := (by repeat (first | exact HW.out | exact Below.refl _ _ | refine bl_alloc ?_ _ | refine bl_drewN ?_ _ | refine bl_trans (by assumption) ?_ | refine bl_set ?_ (by first | omega | (simp; done) | (simp; omega)) _))
          have HBx1 := Lib.hid hBx1
          clear hBx1 hcx1 hfx1 hbx1 hkx1 c0 hsz0 d0 d1 z0 z1 hsz
          go_wp2_with fail
          refine (countFit_any wd _ (n' - 1) (dropF f' k) _ HP2.out HO2.out k1 k2).mono ?_
          rintro e x2 ⟨rfl, hbx2⟩
          obtain ⟨hcx2, hfx2⟩ := bcell hbx2
          have hzx2 := bsize hbx2
          (try simp only [World.size_alloc, World.size_setCell] at hzx2)
          have hkx2 : Below x1.heap.size x1 x2 := (by repeat (first | exact Below.refl _ _ | refine bl_alloc ?_ _ | refine bl_drewN ?_ _ | refine bl_trans (by assumption) ?_ | refine bl_set ?_ (by first | omega | (simp; done) | (simp; omega)) _))
          have HP2 := Lib.hid (HP2.out.keep hkx2)
          have HP3 := Lib.hid (HP3.out.keep hkx2)
          have kx2_0_0 : x2.cell? ⟨w.heap.size, 0, none⟩ = some (.int .i64 wd) := cell_after hkx2 sx1_0 kx1_0_0
          have sx2_0 : w.heap.size < x2.heap.size := size_after hkx2 sx1_0
          have kx2_1_0 : x2.cell? ⟨w.heap.size + 1, 0, none⟩ = some (.int .i64 0) := cell_after hkx2 sx1_1 kx1_1_0
          have fx2_1_0 : x2.frozen? ⟨w.heap.size + 1, 0, none⟩ = false := frozen_after hkx2 sx1_1 fx1_1_0
          have kx2_1_1 : x2.cell? ⟨w.heap.size + 1, 1, none⟩ = some (.slice none 0 0) := cell_after hkx2 sx1_1 kx1_1_1
          have fx2_1_1 : x2.frozen? ⟨w.heap.size + 1, 1, none⟩ = false := frozen_after hkx2 sx1_1 fx1_1_1
          have sx2_1 : w.heap.size + 1 < x2.heap.size := size_after hkx2 sx1_1
          have hBx2 : Below w.heap.size w x2 := (by repeat (first | exact HBx1.out | exact Below.refl _ _ | refine bl_alloc ?_ _ | refine bl_drewN ?_ _ | refine bl_trans (by assumption) ?_ | refine bl_set ?_ (by first | omega | (simp; done) | (simp; omega)) _))
          have HBx2 := Lib.hid hBx2
          clear hBx2 hcx2 hfx2 hbx2 hkx2 kx1_0_0 sx1_0 kx1_1_0 kx1_1_1 fx1_1_0 fx1_1_1 sx1_1
          go_wp2
          go_roundw
          case rel => exact ⟨k + 1, m', n', f', by omega, by omega, HO.out, by go_num, HP3.out, HCa.out, HN2.out, by assumption, by assumption, by assumption, by assumption, by assumption, by assumption, HBx2.out⟩
          case measure => simp only [slLen, intOf]; omega
      · obtain rfl : m = 0 := by omega
        obtain rfl : k = n' := by omega
        have hn' := HHd.out
        rw [hard_end] at hn'
        have E4 := Lib.hid (E2.out.trans (congrArg Prod.fst hn').symm)
        have E5 := Lib.hid (E3.out.trans (congrArg Prod.snd hn').symm)
        simp only at E4 E5
        clear hn'
        go_wp2_with fail
        refine (newPuzzle_any wd _ k f' _ HP.out (by omega)).mono ?_
        rintro e y1 ⟨u, rfl, hO2, hby1⟩
        obtain ⟨hcy1, hfy1⟩ := bcell hby1
        have hzy1 := bsize hby1
        (try simp only [World.size_alloc, World.size_setCell] at hzy1)
        have hky1 : Below wr.heap.size wr y1 := (by repeat (first | exact Below.refl _ _ | refine bl_alloc ?_ _ | refine bl_drewN ?_ _ | refine bl_trans (by assumption) ?_ | refine bl_set ?_ (by first | omega | (simp; done) | (simp; omega)) _))
        have hO3 := hO2.lower (C := w.heap.size + 1 + 1) (by omega)
        obtain ⟨a2, c2, rfl⟩ := hO3.toP.shape
        have O2 := Lib.hid hO3
        clear hO2 hO3
        have ky1_0_0 : y1.cell? ⟨w.heap.size, 0, none⟩ = some (.int .i64 wd) := cell_after hky1 hsz0 c0
        have sy1_0 : w.heap.size < y1.heap.size := size_after hky1 hsz0
        have ky1_1_0 : y1.cell? ⟨w.heap.size + 1, 0, none⟩ = some (.int .i64 0) := cell_after hky1 hsz d0
        have fy1_1_0 : y1.frozen? ⟨w.heap.size + 1, 0, none⟩ = false := frozen_after hky1 hsz z0
        have ky1_1_1 : y1.cell? ⟨w.heap.size + 1, 1, none⟩ = some (.slice none 0 0) := cell_after hky1 hsz d1
        have fy1_1_1 : y1.frozen? ⟨w.heap.size + 1, 1, none⟩ = false := frozen_after hky1 hsz z1
        have sy1_1 : w.heap.size + 1 < y1.heap.size := size_after hky1 hsz
        have hBy1 : Below w.heap.size w y1 := (by repeat (first | exact HW.out | exact Below.refl _ _ | refine bl_alloc ?_ _ | refine bl_drewN ?_ _ | refine bl_trans (by assumption) ?_ | refine bl_set ?_ (by first | omega | (simp; done) | (simp; omega)) _))
        have HBy1 := Lib.hid hBy1
        clear hBy1 hcy1 hfy1 hby1 hky1 c0 hsz0 d0 d1 z0 z1 hsz
        go_wp2
        exact bodyPost_ret (v := .tuple #[.agg #[.int .i64 wd, .slice a2 k c2], .bool true]) (by simp [results, Try.results59, go_sem, ky1_0_0, ky1_1_0, ky1_1_1, fy1_1_0, fy1_1_1]) rfl ⟨.slice a2 k c2, rfl, by rw [E4.out, E5.out]; exact (((O2.out.low (by simp) _).low (by simp) _).lower (by omega)), (by repeat (first | refine bl_set ?_ (by first | omega | (simp; done) | (simp; omega)) _ | exact HBy1.out))⟩
theorem solved_cnt {wd : Int} {n : Nat} {f : Nat → Int} (h : okP wd n f = true) : solved wd n f = decide (cnt n f wd = 1) := by rw [solved, solN_yes h]
set_option maxHeartbeats 1600000 in
theorem spec_HarderPuzzle (wd : Int) (v : Value) (n : Nat) (f : Nat → Int) (w : World) (h : PClu w v n f) (hcap : Caps v) :
    Calls Try.prog 58 #[.agg #[.int .i64 wd, v]] w fun e w' => ∃ u, e = .returned (.tuple #[.agg #[.int .i64 (hdW wd n f), u], .bool (solved wd n f)]) ∧ OClu w' w.heap.size u (hdN wd n f) (hdF wd n f) ∧ Below w.heap.size w w' := by
  obtain ⟨a, c, rfl⟩ := h.shape
  have HH := Lib.hid h
  have HC := Lib.hid hcap
  clear h hcap
  cases hk : okP wd n f
  · have hs : solved wd n f = false := by rw [solved, solN_no hk]; rfl
    have e1 : hdW wd n f = 0 := by rw [hdW, hs]; rfl
    have e2 : hdN wd n f = 0 := by rw [hdN, hs]; rfl
    rw [e1, e2, hs]
    clear e1 e2 hs
    go_enter Try.func58, Try.ntmps58
    go_wp2_with fail
    refine (pzGood_any wd _ n f _ (HH.out.keep (by repeat (first | exact Below.refl _ _ | refine bl_alloc ?_ _ | refine bl_drewN ?_ _ | refine bl_trans (by assumption) ?_ | refine bl_set ?_ (by first | omega | (simp; done) | (simp; omega)) _)))).mono ?_
    rintro e w1 ⟨rfl, hbw1⟩
    obtain ⟨hcw1, hfw1⟩ := bcell hbw1
    have hzw1 := bsize hbw1
    (try simp only [World.size_alloc, World.size_setCell] at hzw1)
    have kw1_0_0 : w1.cell? ⟨w.heap.size, 0, none⟩ = some (.int .i64 wd) := by rw [hcw1 _ _ (by first | (simp; done) | omega | (simp; omega))]; first | assumption | (simp [go_sem]; done) | (simp [go_sem]; done) | (simp [go_sem, *]; done)
    have kw1_0_1 : w1.cell? ⟨w.heap.size, 1, none⟩ = some (.slice a n c) := by rw [hcw1 _ _ (by first | (simp; done) | omega | (simp; omega))]; first | assumption | (simp [go_sem]; done) | (simp [go_sem]; done) | (simp [go_sem, *]; done)
    have sw1_0 : w.heap.size < w1.heap.size := by first | omega | (simp at *; omega)
    have kw1_1_0 : w1.cell? ⟨w.heap.size + 1, 0, none⟩ = some (.int .i64 0) := by rw [hcw1 _ _ (by first | (simp; done) | omega | (simp; omega))]; first | assumption | (simp [go_sem]; done) | (simp [go_sem]; done) | (simp [go_sem, *]; done)
    have fw1_1_0 : w1.frozen? ⟨w.heap.size + 1, 0, none⟩ = false := by rw [hfw1 _ _ (by first | (simp; done) | omega | (simp; omega))]; first | assumption | (simp [go_sem]; done) | (simp [go_sem]; done) | (simp [go_sem, *]; done)
    have kw1_1_1 : w1.cell? ⟨w.heap.size + 1, 1, none⟩ = some (.slice none 0 0) := by rw [hcw1 _ _ (by first | (simp; done) | omega | (simp; omega))]; first | assumption | (simp [go_sem]; done) | (simp [go_sem]; done) | (simp [go_sem, *]; done)
    have fw1_1_1 : w1.frozen? ⟨w.heap.size + 1, 1, none⟩ = false := by rw [hfw1 _ _ (by first | (simp; done) | omega | (simp; omega))]; first | assumption | (simp [go_sem]; done) | (simp [go_sem]; done) | (simp [go_sem, *]; done)
    have sw1_1 : w.heap.size + 1 < w1.heap.size := by first | omega | (simp at *; omega)
    have hBw1 : Below w.heap.size w w1 := (by repeat (first | exact Below.refl _ _ | refine bl_alloc ?_ _ | refine bl_drewN ?_ _ | refine bl_trans (by assumption) ?_ | refine bl_set ?_ (by first | omega | (simp; done) | (simp; omega)) _))
    have HBw1 := Lib.hid hBw1
    clear hBw1 hcw1 hfw1 hbw1
    rw [hk]
    go_wp2
    exact bodyPost_ret (v := .tuple #[.agg #[.int .i64 0, .slice none 0 0], .bool false]) (by simp [results, Try.results58, go_sem, kw1_0_0, kw1_0_1, kw1_1_0, kw1_1_1, fw1_1_0, fw1_1_1]) rfl ⟨.slice none 0 0, rfl, OClu.nil _ _ _, (by repeat (first | refine bl_set ?_ (by first | omega | (simp; done) | (simp; omega)) _ | exact HBw1.out))⟩
  · obtain ⟨⟨k1, k2⟩, k3, k4⟩ := okP_true hk
    have K4 := Lib.hid k4
    clear k4
    have hsc := solved_cnt hk
    cases hs : decide (cnt n f wd = 1)
    · rw [hs] at hsc
      have e1 : hdW wd n f = 0 := by rw [hdW, hsc]; rfl
      have e2 : hdN wd n f = 0 := by rw [hdN, hsc]; rfl
      rw [e1, e2, hsc]
      clear e1 e2 hsc
      go_enter Try.func58, Try.ntmps58
      go_wp2_with fail
      refine (pzGood_any wd _ n f _ (HH.out.keep (by repeat (first | exact Below.refl _ _ | refine bl_alloc ?_ _ | refine bl_drewN ?_ _ | refine bl_trans (by assumption) ?_ | refine bl_set ?_ (by first | omega | (simp; done) | (simp; omega)) _)))).mono ?_
      rintro e w1 ⟨rfl, hbw1⟩
      obtain ⟨hcw1, hfw1⟩ := bcell hbw1
      have hzw1 := bsize hbw1
      (try simp only [World.size_alloc, World.size_setCell] at hzw1)
      have kw1_0_0 : w1.cell? ⟨w.heap.size, 0, none⟩ = some (.int .i64 wd) := by rw [hcw1 _ _ (by first | (simp; done) | omega | (simp; omega))]; first | assumption | (simp [go_sem]; done) | (simp [go_sem]; done) | (simp [go_sem, *]; done)
      have kw1_0_1 : w1.cell? ⟨w.heap.size, 1, none⟩ = some (.slice a n c) := by rw [hcw1 _ _ (by first | (simp; done) | omega | (simp; omega))]; first | assumption | (simp [go_sem]; done) | (simp [go_sem]; done) | (simp [go_sem, *]; done)
      have sw1_0 : w.heap.size < w1.heap.size := by first | omega | (simp at *; omega)
      have kw1_1_0 : w1.cell? ⟨w.heap.size + 1, 0, none⟩ = some (.int .i64 0) := by rw [hcw1 _ _ (by first | (simp; done) | omega | (simp; omega))]; first | assumption | (simp [go_sem]; done) | (simp [go_sem]; done) | (simp [go_sem, *]; done)
      have fw1_1_0 : w1.frozen? ⟨w.heap.size + 1, 0, none⟩ = false := by rw [hfw1 _ _ (by first | (simp; done) | omega | (simp; omega))]; first | assumption | (simp [go_sem]; done) | (simp [go_sem]; done) | (simp [go_sem, *]; done)
      have kw1_1_1 : w1.cell? ⟨w.heap.size + 1, 1, none⟩ = some (.slice none 0 0) := by rw [hcw1 _ _ (by first | (simp; done) | omega | (simp; omega))]; first | assumption | (simp [go_sem]; done) | (simp [go_sem]; done) | (simp [go_sem, *]; done)
      have fw1_1_1 : w1.frozen? ⟨w.heap.size + 1, 1, none⟩ = false := by rw [hfw1 _ _ (by first | (simp; done) | omega | (simp; omega))]; first | assumption | (simp [go_sem]; done) | (simp [go_sem]; done) | (simp [go_sem, *]; done)
      have sw1_1 : w.heap.size + 1 < w1.heap.size := by first | omega | (simp at *; omega)
      have hBw1 : Below w.heap.size w w1 := (by repeat (first | exact Below.refl _ _ | refine bl_alloc ?_ _ | refine bl_drewN ?_ _ | refine bl_trans (by assumption) ?_ | refine bl_set ?_ (by first | omega | (simp; done) | (simp; omega)) _))
      have HBw1 := Lib.hid hBw1
      clear hBw1 hcw1 hfw1 hbw1
      rw [hk]
      go_wp2_with fail
      refine (pzSolved_any wd _ n f _ (HH.out.keep (by repeat (first | exact Below.refl _ _ | exact HBw1.out | refine bl_alloc ?_ _ | refine bl_drewN ?_ _ | refine bl_trans (by assumption) ?_ | refine bl_set ?_ (by first | omega | (simp; done) | (simp; omega)) _))) K4.out k1 k2).mono ?_
      rintro e w2 ⟨rfl, hbw2⟩
      obtain ⟨hcw2, hfw2⟩ := bcell hbw2
      have hzw2 := bsize hbw2
      (try simp only [World.size_alloc, World.size_setCell] at hzw2)
      have hkw2 : Below w1.heap.size w1 w2 := (by repeat (first | exact Below.refl _ _ | refine bl_alloc ?_ _ | refine bl_drewN ?_ _ | refine bl_trans (by assumption) ?_ | refine bl_set ?_ (by first | omega | (simp; done) | (simp; omega)) _))
      have kw2_0_0 : w2.cell? ⟨w.heap.size, 0, none⟩ = some (.int .i64 wd) := cell_after hkw2 sw1_0 kw1_0_0
      have kw2_0_1 : w2.cell? ⟨w.heap.size, 1, none⟩ = some (.slice a n c) := cell_after hkw2 sw1_0 kw1_0_1
      have sw2_0 : w.heap.size < w2.heap.size := size_after hkw2 sw1_0
      have kw2_1_0 : w2.cell? ⟨w.heap.size + 1, 0, none⟩ = some (.int .i64 0) := cell_after hkw2 sw1_1 kw1_1_0
      have fw2_1_0 : w2.frozen? ⟨w.heap.size + 1, 0, none⟩ = false := frozen_after hkw2 sw1_1 fw1_1_0
      have kw2_1_1 : w2.cell? ⟨w.heap.size + 1, 1, none⟩ = some (.slice none 0 0) := cell_after hkw2 sw1_1 kw1_1_1
      have fw2_1_1 : w2.frozen? ⟨w.heap.size + 1, 1, none⟩ = false := frozen_after hkw2 sw1_1 fw1_1_1
      have sw2_1 : w.heap.size + 1 < w2.heap.size := size_after hkw2 sw1_1
      have hBw2 : Below w.heap.size w w2 := (by repeat (first | exact HBw1.out | exact Below.refl _ _ | refine bl_alloc ?_ _ | refine bl_drewN ?_ _ | refine bl_trans (by assumption) ?_ | refine bl_set ?_ (by first | omega | (simp; done) | (simp; omega)) _))
      have HBw2 := Lib.hid hBw2
      clear hBw2 hcw2 hfw2 hbw2 hkw2 kw1_0_0 kw1_0_1 sw1_0 kw1_1_0 kw1_1_1 fw1_1_0 fw1_1_1 sw1_1
      rw [hs]
      go_wp2
      exact bodyPost_ret (v := .tuple #[.agg #[.int .i64 0, .slice none 0 0], .bool false]) (by simp [results, Try.results58, go_sem, kw2_0_0, kw2_0_1, kw2_1_0, kw2_1_1, fw2_1_0, fw2_1_1]) rfl ⟨.slice none 0 0, rfl, OClu.nil _ _ _, (by repeat (first | refine bl_set ?_ (by first | omega | (simp; done) | (simp; omega)) _ | exact HBw2.out))⟩
    · rw [hs] at hsc
      have e1 : hdW wd n f = wd := by rw [hdW, hsc]; rfl
      have E2 := Lib.hid (show hdN wd n f = (hard wd n n f 0).1 by rw [hdN, hsc]; rfl)
      have E3 := Lib.hid (show hdF wd n f = (hard wd n n f 0).2 from rfl)
      rw [e1, hsc]
      clear e1 hsc
      go_enter Try.func58, Try.ntmps58
      go_wp2_with fail
      refine (pzGood_any wd _ n f _ (HH.out.keep (by repeat (first | exact Below.refl _ _ | refine bl_alloc ?_ _ | refine bl_drewN ?_ _ | refine bl_trans (by assumption) ?_ | refine bl_set ?_ (by first | omega | (simp; done) | (simp; omega)) _)))).mono ?_
      rintro e w1 ⟨rfl, hbw1⟩
      obtain ⟨hcw1, hfw1⟩ := bcell hbw1
      have hzw1 := bsize hbw1
      (try simp only [World.size_alloc, World.size_setCell] at hzw1)
      have kw1_0_0 : w1.cell? ⟨w.heap.size, 0, none⟩ = some (.int .i64 wd) := by rw [hcw1 _ _ (by first | (simp; done) | omega | (simp; omega))]; first | assumption | (simp [go_sem]; done) | (simp [go_sem]; done) | (simp [go_sem, *]; done)
      have kw1_0_1 : w1.cell? ⟨w.heap.size, 1, none⟩ = some (.slice a n c) := by rw [hcw1 _ _ (by first | (simp; done) | omega | (simp; omega))]; first | assumption | (simp [go_sem]; done) | (simp [go_sem]; done) | (simp [go_sem, *]; done)
      have sw1_0 : w.heap.size < w1.heap.size := by first | omega | (simp at *; omega)
      have kw1_1_0 : w1.cell? ⟨w.heap.size + 1, 0, none⟩ = some (.int .i64 0) := by rw [hcw1 _ _ (by first | (simp; done) | omega | (simp; omega))]; first | assumption | (simp [go_sem]; done) | (simp [go_sem]; done) | (simp [go_sem, *]; done)
      have fw1_1_0 : w1.frozen? ⟨w.heap.size + 1, 0, none⟩ = false := by rw [hfw1 _ _ (by first | (simp; done) | omega | (simp; omega))]; first | assumption | (simp [go_sem]; done) | (simp [go_sem]; done) | (simp [go_sem, *]; done)
      have kw1_1_1 : w1.cell? ⟨w.heap.size + 1, 1, none⟩ = some (.slice none 0 0) := by rw [hcw1 _ _ (by first | (simp; done) | omega | (simp; omega))]; first | assumption | (simp [go_sem]; done) | (simp [go_sem]; done) | (simp [go_sem, *]; done)
      have fw1_1_1 : w1.frozen? ⟨w.heap.size + 1, 1, none⟩ = false := by rw [hfw1 _ _ (by first | (simp; done) | omega | (simp; omega))]; first | assumption | (simp [go_sem]; done) | (simp [go_sem]; done) | (simp [go_sem, *]; done)
      have sw1_1 : w.heap.size + 1 < w1.heap.size := by first | omega | (simp at *; omega)
      have hBw1 : Below w.heap.size w w1 := (by repeat (first | exact Below.refl _ _ | refine bl_alloc ?_ _ | refine bl_drewN ?_ _ | refine bl_trans (by assumption) ?_ | refine bl_set ?_ (by first | omega | (simp; done) | (simp; omega)) _))
      have HBw1 := Lib.hid hBw1
      clear hBw1 hcw1 hfw1 hbw1
      rw [hk]
      go_wp2_with fail
      refine (pzSolved_any wd _ n f _ (HH.out.keep (by repeat (first | exact Below.refl _ _ | exact HBw1.out | refine bl_alloc ?_ _ | refine bl_drewN ?_ _ | refine bl_trans (by assumption) ?_ | refine bl_set ?_ (by first | omega | (simp; done) | (simp; omega)) _))) K4.out k1 k2).mono ?_
      rintro e w2 ⟨rfl, hbw2⟩
      obtain ⟨hcw2, hfw2⟩ := bcell hbw2
      have hzw2 := bsize hbw2
      (try simp only [World.size_alloc, World.size_setCell] at hzw2)
      have hkw2 : Below w1.heap.size w1 w2 := (by repeat (first | exact Below.refl _ _ | refine bl_alloc ?_ _ | refine bl_drewN ?_ _ | refine bl_trans (by assumption) ?_ | refine bl_set ?_ (by first | omega | (simp; done) | (simp; omega)) _))
      have kw2_0_0 : w2.cell? ⟨w.heap.size, 0, none⟩ = some (.int .i64 wd) := cell_after hkw2 sw1_0 kw1_0_0
      have kw2_0_1 : w2.cell? ⟨w.heap.size, 1, none⟩ = some (.slice a n c) := cell_after hkw2 sw1_0 kw1_0_1
      have sw2_0 : w.heap.size < w2.heap.size := size_after hkw2 sw1_0
      have kw2_1_0 : w2.cell? ⟨w.heap.size + 1, 0, none⟩ = some (.int .i64 0) := cell_after hkw2 sw1_1 kw1_1_0
      have fw2_1_0 : w2.frozen? ⟨w.heap.size + 1, 0, none⟩ = false := frozen_after hkw2 sw1_1 fw1_1_0
      have kw2_1_1 : w2.cell? ⟨w.heap.size + 1, 1, none⟩ = some (.slice none 0 0) := cell_after hkw2 sw1_1 kw1_1_1
      have fw2_1_1 : w2.frozen? ⟨w.heap.size + 1, 1, none⟩ = false := frozen_after hkw2 sw1_1 fw1_1_1
      have sw2_1 : w.heap.size + 1 < w2.heap.size := size_after hkw2 sw1_1
      have hBw2 : Below w.heap.size w w2 := (by repeat (first | exact HBw1.out | exact Below.refl _ _ | refine bl_alloc ?_ _ | refine bl_drewN ?_ _ | refine bl_trans (by assumption) ?_ | refine bl_set ?_ (by first | omega | (simp; done) | (simp; omega)) _))
      have HBw2 := Lib.hid hBw2
      clear hBw2 hcw2 hfw2 hbw2 hkw2 kw1_0_0 kw1_0_1 sw1_0 kw1_1_0 kw1_1_1 fw1_1_0 fw1_1_1 sw1_1
      rw [hs]
      have hem := Lib.hid (fun (W : World) (hW : w.heap.size + 1 + 1 ≤ W.heap.size) => (show OClu (W.alloc (.cells #[] 25)) (w.heap.size + 1 + 1) (.slice (some ⟨W.heap.size, 0, none⟩) 0 0) 0 (fun _ => 0) from ⟨rfl, .inr ⟨W.heap.size, 0, #[], rfl, hW, heap_alloc_new W _, Nat.le_refl _, by unfold maxLen; omega, rfl, rfl⟩⟩))
      have HHa := Lib.hid (fun (o : Obj) => (HH.out.keep HBw2.out).keep (bl_alloc (Below.refl _ w2) o))
      go_wp2_with (at_builtin; refine wpList_app_own rfl _ _ rfl (w.heap.size + 1 + 1) (.slice (some ⟨w2.heap.size, 0, none⟩) 0 0) 0 (fun _ => 0) rfl (hem.out w2 (by omega)) (.slice a n c) n f rfl (HHa.out _) (by simp; omega) (by omega) ?_; intro v0 w3 hq1 hq2; rw [Nat.zero_add] at hq1; have hq1 := (hq1.congr (g := f) (fun i hi => (by simp [catF]))); have hb3 : Below w2.heap.size w2 w3 := (bl_alloc (Below.refl _ w2) _).grown hq2 (by simp) (fun g e => (by simp [Value.ownBlock] at e; omega)); have HBw3 := Lib.hid (bl_trans hb3 HBw2.out); obtain ⟨a0, c0, rfl⟩ := hq1.toP.shape; have O3 := Lib.hid hq1; have t0 := cell_after hb3 sw2_0 kw2_0_0; have t1 := cell_after hb3 sw2_1 kw2_1_0; have t2 := cell_after hb3 sw2_1 kw2_1_1; have t3 := frozen_after hb3 sw2_1 fw2_1_0; have t4 := frozen_after hb3 sw2_1 fw2_1_1; have t5 := size_after hb3 sw2_1; clear hq1 hq2 hb3)
      go_loopw [4, 5] (fun cv kv wr => ∃ (k m n' : Nat) (f' : Nat → Int), k + m = n' ∧ n' ≤ n ∧ okCs n' f' = true ∧ kv = .int .i64 (k : Int) ∧ OClu wr (w.heap.size + 1 + 1) cv n' f' ∧ hard wd m n' f' k = hard wd n n f 0 ∧ wr.cell? ⟨w.heap.size, 0, none⟩ = some (.int .i64 wd) ∧ wr.cell? ⟨w.heap.size + 1, 0, none⟩ = some (.int .i64 0) ∧ wr.cell? ⟨w.heap.size + 1, 1, none⟩ = some (.slice none 0 0) ∧ wr.frozen? ⟨w.heap.size + 1, 0, none⟩ = false ∧ wr.frozen? ⟨w.heap.size + 1, 1, none⟩ = false ∧ w.heap.size + 1 < wr.heap.size ∧ Below w.heap.size w wr) (fun cv kv _ => slLen cv - (intOf kv).toNat)
      case atStart => exact ⟨0, n, n, f, by omega, Nat.le_refl _, K4.out, rfl, O3.out, rfl, t0, t1, t2, t3, t4, t5, HBw3.out⟩
      case round =>
        clear HBw2 HBw3
        obtain ⟨k, m, n', f', hkm, hnn, hok, rfl, hP, hH, c0', d0, d1, z0, z1, hsz, hW⟩ := hrel
        obtain ⟨a1, c1, rfl⟩ := hP.toP.shape
        have HP := Lib.hid hP
        have HHd := Lib.hid hH
        have HO := Lib.hid hok
        have HW := Lib.hid hW
        have hsz0 : w.heap.size < wr.heap.size := by omega
        clear hP hH hok hW
        by_cases hlt : k < n'
        · obtain ⟨m', rfl⟩ : ∃ m', m = m' + 1 := ⟨m - 1, by omega⟩
          have hlt' : (k : Int) < (n' : Int) := by omega
          have HY := Lib.hid (@hard_yes wd m' n' f' k)
          have HN := Lib.hid (@hard_no wd m' n' f' k)
          have HO2 := Lib.hid (okCs_drop HO.out k hlt)
          by_cases hc1 : cnt (n' - 1) (dropF f' k) wd = 1
          · have HY2 := Lib.hid ((HY.out hc1).symm.trans HHd.out)
            have hc2 : decide (cnt (n' - 1) (dropF f' k) wd = 1) = true := decide_eq_true hc1
            clear hc1 HY HN
            go_wp2_with fail
            refine (pzWithout_any _ n' k f' _ HP.out.toP HP.out.caps hlt (by omega)).mono ?_
            rintro e x1 ⟨u, rfl, hP2, hbx1⟩
            obtain ⟨hcx1, hfx1⟩ := bcell hbx1
            have hzx1 := bsize hbx1
            (try simp only [World.size_alloc, World.size_setCell] at hzx1)
            have hkx1 : Below wr.heap.size wr x1 := (by repeat (first | exact Below.refl _ _ | refine bl_alloc ?_ _ | refine bl_drewN ?_ _ | refine bl_trans (by assumption) ?_ | refine bl_set ?_ (by first | omega | (simp; done) | (simp; omega)) _))
            have hP2 := hP2.lower (C := w.heap.size + 1 + 1) (by omega)
            obtain ⟨a2, c2, rfl⟩ := hP2.toP.shape
            have HP3 := Lib.hid (HP.out.keep hkx1)
            have HP2 := Lib.hid hP2
            clear hP2
            have kx1_0_0 : x1.cell? ⟨w.heap.size, 0, none⟩ = some (.int .i64 wd) := cell_after hkx1 hsz0 c0'
            have sx1_0 : w.heap.size < x1.heap.size := size_after hkx1 hsz0
            have kx1_1_0 : x1.cell? ⟨w.heap.size + 1, 0, none⟩ = some (.int .i64 0) := cell_after hkx1 hsz d0
            have fx1_1_0 : x1.frozen? ⟨w.heap.size + 1, 0, none⟩ = false := frozen_after hkx1 hsz z0
            have kx1_1_1 : x1.cell? ⟨w.heap.size + 1, 1, none⟩ = some (.slice none 0 0) := cell_after hkx1 hsz d1
            have fx1_1_1 : x1.frozen? ⟨w.heap.size + 1, 1, none⟩ = false := frozen_after hkx1 hsz z1
            have sx1_1 : w.heap.size + 1 < x1.heap.size := size_after hkx1 hsz
            have hBx1 : Below w.heap.size w x1 := (by repeat (first | exact HW.out | exact Below.refl _ _ | refine bl_alloc ?_ _ | refine bl_drewN ?_ _ | refine bl_trans (by assumption) ?_ | refine bl_set ?_ (by first | omega | (simp; done) | (simp; omega)) _))
            have HBx1 := Lib.hid hBx1
            clear hBx1 hcx1 hfx1 hbx1 hkx1 c0' hsz0 d0 d1 z0 z1 hsz
            go_wp2_with fail
            refine (pzSolved_any wd _ (n' - 1) (dropF f' k) _ HP2.out.toP HO2.out k1 k2).mono ?_
            rintro e x2 ⟨rfl, hbx2⟩
            obtain ⟨hcx2, hfx2⟩ := bcell hbx2
            have hzx2 := bsize hbx2
            (try simp only [World.size_alloc, World.size_setCell] at hzx2)
            have hkx2 : Below x1.heap.size x1 x2 := (by repeat (first | exact Below.refl _ _ | refine bl_alloc ?_ _ | refine bl_drewN ?_ _ | refine bl_trans (by assumption) ?_ | refine bl_set ?_ (by first | omega | (simp; done) | (simp; omega)) _))
            have HP2 := Lib.hid (HP2.out.keep hkx2)
            have HP3 := Lib.hid (HP3.out.keep hkx2)
            have kx2_0_0 : x2.cell? ⟨w.heap.size, 0, none⟩ = some (.int .i64 wd) := cell_after hkx2 sx1_0 kx1_0_0
            have sx2_0 : w.heap.size < x2.heap.size := size_after hkx2 sx1_0
            have kx2_1_0 : x2.cell? ⟨w.heap.size + 1, 0, none⟩ = some (.int .i64 0) := cell_after hkx2 sx1_1 kx1_1_0
            have fx2_1_0 : x2.frozen? ⟨w.heap.size + 1, 0, none⟩ = false := frozen_after hkx2 sx1_1 fx1_1_0
            have kx2_1_1 : x2.cell? ⟨w.heap.size + 1, 1, none⟩ = some (.slice none 0 0) := cell_after hkx2 sx1_1 kx1_1_1
            have fx2_1_1 : x2.frozen? ⟨w.heap.size + 1, 1, none⟩ = false := frozen_after hkx2 sx1_1 fx1_1_1
            have sx2_1 : w.heap.size + 1 < x2.heap.size := size_after hkx2 sx1_1
            have hBx2 : Below w.heap.size w x2 := (by repeat (first | exact HBx1.out | exact Below.refl _ _ | refine bl_alloc ?_ _ | refine bl_drewN ?_ _ | refine bl_trans (by assumption) ?_ | refine bl_set ?_ (by first | omega | (simp; done) | (simp; omega)) _))
            have HBx2 := Lib.hid hBx2
            clear hBx2 hcx2 hfx2 hbx2 hkx2 kx1_0_0 sx1_0 kx1_1_0 kx1_1_1 fx1_1_0 fx1_1_1 sx1_1
            rw [hc2]
            go_wp2
            go_roundw
            case rel => exact ⟨k, m', n' - 1, dropF f' k, by omega, by omega, HO2.out, rfl, HP2.out, HY2.out, by assumption, by assumption, by assumption, by assumption, by assumption, by assumption, HBx2.out⟩
            case measure => simp only [slLen, intOf]; omega
          · have HN2 := Lib.hid ((HN.out hc1).symm.trans HHd.out)
            have hc2 : decide (cnt (n' - 1) (dropF f' k) wd = 1) = false := decide_eq_false hc1
            clear hc1 HY HN
            go_wp2_with fail
            refine (pzWithout_any _ n' k f' _ HP.out.toP HP.out.caps hlt (by omega)).mono ?_
            rintro e x1 ⟨u, rfl, hP2, hbx1⟩
            obtain ⟨hcx1, hfx1⟩ := bcell hbx1
            have hzx1 := bsize hbx1
            (try simp only [World.size_alloc, World.size_setCell] at hzx1)
            have hkx1 : Below wr.heap.size wr x1 := (by repeat (first | exact Below.refl _ _ | refine bl_alloc ?_ _ | refine bl_drewN ?_ _ | refine bl_trans (by assumption) ?_ | refine bl_set ?_ (by first | omega | (simp; done) | (simp; omega)) _))
            have hP2 := hP2.lower (C := w.heap.size + 1 + 1) (by omega)
            obtain ⟨a2, c2, rfl⟩ := hP2.toP.shape
            have HP3 := Lib.hid (HP.out.keep hkx1)
            have HP2 := Lib.hid hP2
            clear hP2
            have kx1_0_0 : x1.cell? ⟨w.heap.size, 0, none⟩ = some (.int .i64 wd) := cell_after hkx1 hsz0 c0'
            have sx1_0 : w.heap.size < x1.heap.size := size_after hkx1 hsz0
            have kx1_1_0 : x1.cell? ⟨w.heap.size + 1, 0, none⟩ = some (.int .i64 0) := cell_after hkx1 hsz d0
            have fx1_1_0 : x1.frozen? ⟨w.heap.size + 1, 0, none⟩ = false := frozen_after hkx1 hsz z0
            have kx1_1_1 : x1.cell? ⟨w.heap.size + 1, 1, none⟩ = some (.slice none 0 0) := cell_after hkx1 hsz d1
            have fx1_1_1 : x1.frozen? ⟨w.heap.size + 1, 1, none⟩ = false := frozen_after hkx1 hsz z1
            have sx1_1 : w.heap.size + 1 < x1.heap.size := size_after hkx1 hsz
            have hBx1 : Below w.heap.size w x1 := (by repeat (first | exact HW.out | exact Below.refl _ _ | refine bl_alloc ?_ _ | refine bl_drewN ?_ _ | refine bl_trans (by assumption) ?_ | refine bl_set ?_ (by first | omega | (simp; done) | (simp; omega)) _))
            have HBx1 := Lib.hid hBx1
            clear hBx1 hcx1 hfx1 hbx1 hkx1 c0' hsz0 d0 d1 z0 z1 hsz
            go_wp2_with fail
            refine (pzSolved_any wd _ (n' - 1) (dropF f' k) _ HP2.out.toP HO2.out k1 k2).mono ?_
            rintro e x2 ⟨rfl, hbx2⟩
            obtain ⟨hcx2, hfx2⟩ := bcell hbx2
            have hzx2 := bsize hbx2
            (try simp only [World.size_alloc, World.size_setCell] at hzx2)
            have hkx2 : Below x1.heap.size x1 x2 := (by repeat (first | exact Below.refl _ _ | refine bl_alloc ?_ _ | refine bl_drewN ?_ _ | refine bl_trans (by assumption) ?_ | refine bl_set ?_ (by first | omega | (simp; done) | (simp; omega)) _))
            have HP2 := Lib.hid (HP2.out.keep hkx2)
            have HP3 := Lib.hid (HP3.out.keep hkx2)
            have kx2_0_0 : x2.cell? ⟨w.heap.size, 0, none⟩ = some (.int .i64 wd) := cell_after hkx2 sx1_0 kx1_0_0
            have sx2_0 : w.heap.size < x2.heap.size := size_after hkx2 sx1_0
            have kx2_1_0 : x2.cell? ⟨w.heap.size + 1, 0, none⟩ = some (.int .i64 0) := cell_after hkx2 sx1_1 kx1_1_0
            have fx2_1_0 : x2.frozen? ⟨w.heap.size + 1, 0, none⟩ = false := frozen_after hkx2 sx1_1 fx1_1_0
            have kx2_1_1 : x2.cell? ⟨w.heap.size + 1, 1, none⟩ = some (.slice none 0 0) := cell_after hkx2 sx1_1 kx1_1_1
            have fx2_1_1 : x2.frozen? ⟨w.heap.size + 1, 1, none⟩ = false := frozen_after hkx2 sx1_1 fx1_1_1
            have sx2_1 : w.heap.size + 1 < x2.heap.size := size_after hkx2 sx1_1
            have hBx2 : Below w.heap.size w x2 := (by repeat (first | exact HBx1.out | exact Below.refl _ _ | refine bl_alloc ?_ _ | refine bl_drewN ?_ _ | refine bl_trans (by assumption) ?_ | refine bl_set ?_ (by first | omega | (simp; done) | (simp; omega)) _))
            have HBx2 := Lib.hid hBx2
            clear hBx2 hcx2 hfx2 hbx2 hkx2 kx1_0_0 sx1_0 kx1_1_0 kx1_1_1 fx1_1_0 fx1_1_1 sx1_1
            rw [hc2]
            go_wp2
            go_roundw
            case rel => exact ⟨k + 1, m', n', f', by omega, by omega, HO.out, by go_num, HP3.out, HN2.out, by assumption, by assumption, by assumption, by assumption, by assumption, by assumption, HBx2.out⟩
            case measure => simp only [slLen, intOf]; omega
        · obtain rfl : m = 0 := by omega
          obtain rfl : k = n' := by omega
          have hn' := HHd.out
          rw [hard_end] at hn'
          have E4 := Lib.hid (E2.out.trans (congrArg Prod.fst hn').symm)
          have E5 := Lib.hid (E3.out.trans (congrArg Prod.snd hn').symm)
          simp only at E4 E5
          clear hn'
          have hbu := build_puz wd a1 k c1
          have HPs := Lib.hid (((HP.out.low (p := ⟨w.heap.size + 1, 0, none⟩) (by simp) (.int .i64 wd)).low (p := ⟨w.heap.size + 1, 1, none⟩) (by simp) (.slice a1 k c1)).lower (C := w.heap.size) (by omega))
          go_wp2
          exact bodyPost_ret (v := .tuple #[.agg #[.int .i64 wd, .slice a1 k c1], .bool true]) (by simp [results, Try.results58, go_sem, c0', d0, d1, z0, z1]) rfl ⟨.slice a1 k c1, rfl, by rw [E4.out, E5.out]; exact HPs.out, (by repeat (first | refine bl_set ?_ (by first | omega | (simp; done) | (simp; omega)) _ | exact HW.out))⟩
end Go.Proofs.Ytgghceckpdfogaa
