/- NearestByMirror: by the program and by the model alike. -/
import Derived.Test.YtppgcaennhghoaaLWP
namespace Go.Proofs.Ytppgcaennhghoaa
open Go.RowKit
set_option linter.unusedVariables false
set_option linter.unusedSimpArgs false
theorem frozen_after {u v : World} (hb : Below u.heap.size u v) {n o : Nat} {x : Bool} (hn : n < u.heap.size) (hu : u.frozen? ⟨n, o, none⟩ = x) : v.frozen? ⟨n, o, none⟩ = x := by
  rw [(bcell hb).2 _ _ hn]; exact hu
def allSp (f : Nat → Int) : Nat → Bool
  | 0 => true
  | k + 1 => allSp f k && okSp (f (k * 2)) (f (k * 2 + 1))
theorem allSp_false {f : Nat → Int} {i n : Nat} (h : allSp f (i + 1) = false) (hn : i + 1 ≤ n) : allSp f n = false := by
  obtain ⟨k, rfl⟩ : ∃ k, n = i + 1 + k := ⟨n - (i + 1), by omega⟩
  clear hn
  induction k with
  | zero => exact h
  | succ k ih =>
    show (allSp f (i + 1 + k) && _) = false
    rw [ih]; rfl
theorem allSp_at {f : Nat → Int} {n : Nat} (h : allSp f n = true) : ∀ i, i < n → okSp (f (i * 2)) (f (i * 2 + 1)) = true := by
  induction n with
  | zero => intro i hi; omega
  | succ n ih =>
    simp only [allSp, Bool.and_eq_true] at h
    intro i hi
    by_cases e : i < n
    · exact ih h.1 i e
    · obtain rfl : i = n := by omega
      exact h.2
def okLi (n : Nat) (f : Nat → Int) : Bool := within n 1 20 && allSp f n
def okNB (a b : Int) (n : Nat) (f : Nat → Int) : Bool := okSp a b && okLi n f
def nbSq (a b : Int) (f : Nat → Int) (j : Nat) : Int := sq (a - f (j * 2)) (b + f (j * 2 + 1))
def nbI (a b : Int) (f : Nat → Int) : Nat → Nat
  | 0 => 0
  | k + 1 => if nbSq a b f k < nbSq a b f (nbI a b f k) then k else nbI a b f k
def NBi (a b : Int) (n : Nat) (f : Nat → Int) : Int := if okNB a b n f then ((nbI a b f n : Nat) : Int) else 0
def NBs (a b : Int) (n : Nat) (f : Nat → Int) : Int := if okNB a b n f then nbSq a b f (nbI a b f n) else 0
theorem nbI_one (a b : Int) (f : Nat → Int) : nbI a b f 1 = 0 := by
  simp [nbI]
set_option maxHeartbeats 2000000 in
theorem areNearSpots_any (v : Value) (n : Nat) (f : Nat → Int) (w : World) (h : PRow w v n f) :
    Calls Try.prog 97 #[v] w fun e w' => e = .returned (.bool (okLi n f)) ∧ Below w.heap.size w w' := by
  have hl := h.len_le
  have HH := Lib.hid h
  obtain ⟨sa, sc, hsh⟩ := h.shape
  subst hsh
  cases g1 : within n 1 20
  · clear h
    go_enter Try.func97, Try.ntmps97
    go_wp2_with fail
    refine (isWithin_any _ _ _ _).mono ?_
    rintro e w' ⟨rfl, rfl⟩
    rw [g1]
    go_wp2
    go_ret
    exact ⟨by simp [okLi, g1], Below.refl _ _⟩
  · have hn := within_true g1
    have EO := Lib.hid (show okLi n f = allSp f n by simp [okLi, g1])
    obtain ⟨b, off, cap, hv0, _⟩ := h.some_ (by omega)
    simp only [Value.slice.injEq, true_and] at hv0
    obtain ⟨rfl, rfl⟩ := hv0
    clear h
    go_enter Try.func97, Try.ntmps97
    go_wp2_with fail
    refine (isWithin_any _ _ _ _).mono ?_
    rintro e w' ⟨rfl, rfl⟩
    rw [g1]
    go_wp2_with fail
    go_loopw [11] (fun i wr => ∃ j : Nat, j ≤ n ∧ i = .int .i64 (j : Int) ∧ allSp f j = true ∧ Below w.heap.size w wr) (fun i _ => n - (intOf i).toNat)
    case atStart => exact ⟨0, Nat.zero_le _, rfl, rfl, Below.refl _ _⟩
    case round =>
      obtain ⟨j, hj, rfl, hT, hB⟩ := hrel
      by_cases hlt : j < n
      · obtain ⟨b', off', cap', hv, hb', hc⟩ := (HH.out.keep hB).some_ (by omega)
        simp only [Value.slice.injEq, Option.some.injEq, Addr.mk.injEq, and_true, true_and] at hv
        obtain ⟨⟨rfl, rfl⟩, rfl⟩ := hv
        obtain ⟨p1, p2⟩ := hc j hlt
        have hlt' : (j : Int) < (n : Int) := by omega
        have HBr := Lib.hid hB
        clear hB hc
        cases m : okSp (f (j * 2)) (f (j * 2 + 1))
        · have FF := Lib.hid (allSp_false (n := n) (i := j) (f := f) (by simp [allSp, m]) hlt)
          go_wp2_with fail
          refine (impl_IsSpot _ _ _).mono ?_
          rintro e v1 ⟨rfl, hbv1⟩
          obtain ⟨hcv1, hfv1⟩ := bcell hbv1
          have hzv1 := bsize hbv1
          (try simp only [World.size_alloc, World.size_setCell] at hzv1)
          have hBv1 : Below w.heap.size w v1 := (by repeat (first | exact HBr.out | exact Below.refl _ _ | refine bl_alloc ?_ _ | refine bl_drewN ?_ _ | refine bl_trans (by assumption) ?_ | refine bl_set ?_ (by first | omega | (simp; done) | (simp; omega)) _))
          have HBv1 := Lib.hid hBv1
          clear hBv1 hcv1 hfv1 hbv1
          rw [m]
          go_wp2
          go_ret
          exact ⟨by rw [EO.out, FF.out]; first | done | rfl, HBv1.out⟩
        · have TT := Lib.hid (show allSp f (j + 1) = true by simp [allSp, hT, m])
          go_wp2_with fail
          refine (impl_IsSpot _ _ _).mono ?_
          rintro e v1 ⟨rfl, hbv1⟩
          obtain ⟨hcv1, hfv1⟩ := bcell hbv1
          have hzv1 := bsize hbv1
          (try simp only [World.size_alloc, World.size_setCell] at hzv1)
          have hBv1 : Below w.heap.size w v1 := (by repeat (first | exact HBr.out | exact Below.refl _ _ | refine bl_alloc ?_ _ | refine bl_drewN ?_ _ | refine bl_trans (by assumption) ?_ | refine bl_set ?_ (by first | omega | (simp; done) | (simp; omega)) _))
          have HBv1 := Lib.hid hBv1
          clear hBv1 hcv1 hfv1 hbv1
          rw [m]
          go_wp2
          go_roundw
          case rel => exact ⟨j + 1, by omega, by go_num, TT.out, HBv1.out⟩
          case measure => simp only [intOf]; omega
      · obtain rfl : j = n := by omega
        have TT := Lib.hid hT
        go_wp2
        go_ret
        exact ⟨by rw [EO.out, TT.out]; first | done | rfl, hB⟩
set_option maxRecDepth 100000 in
set_option maxHeartbeats 4000000 in
theorem impl_NearestByMirror (a b : Int) (v : Value) (n : Nat) (f : Nat → Int) (w : World) (h : PRow w v n f) :
    Calls Try.prog 61 #[.agg #[.int .i64 a, .int .i64 b], v] w fun e w' => e = .returned (.tuple #[.int .i64 (NBi a b n f), .int .i64 (NBs a b n f), .bool (okNB a b n f)]) ∧ Below w.heap.size w w' := by
  have hl := h.len_le
  have HH := Lib.hid h
  obtain ⟨sa, sc, hsh⟩ := h.shape
  subst hsh
  cases h1 : okSp a b
  · have HO := Lib.hid (show okNB a b n f = false by simp [okNB, h1])
    have E1 := Lib.hid (show NBi a b n f = 0 by simp [NBi, HO.out])
    have E2 := Lib.hid (show NBs a b n f = 0 by simp [NBs, HO.out])
    clear h
    go_enter Try.func61, Try.ntmps61
    go_wp2_with fail
    refine (impl_IsSpot _ _ _).mono ?_
    rintro e w1 ⟨rfl, hbw1⟩
    obtain ⟨hcw1, hfw1⟩ := bcell hbw1
    have hzw1 := bsize hbw1
    (try simp only [World.size_alloc, World.size_setCell] at hzw1)
    have kw1_0_0 : w1.cell? ⟨w.heap.size, 0, none⟩ = some (.int .i64 a) := by rw [hcw1 _ _ (by first | (simp; done) | omega | (simp; omega))]; first | assumption | (simp [go_sem]; done) | (simp [go_sem]; done) | (simp [go_sem, *]; done)
    have kw1_0_1 : w1.cell? ⟨w.heap.size, 1, none⟩ = some (.int .i64 b) := by rw [hcw1 _ _ (by first | (simp; done) | omega | (simp; omega))]; first | assumption | (simp [go_sem]; done) | (simp [go_sem]; done) | (simp [go_sem, *]; done)
    have sw1_0 : w.heap.size < w1.heap.size := by first | omega | (simp at *; omega)
    have hBw1 : Below w.heap.size w w1 := (by repeat (first | exact Below.refl _ _ | refine bl_alloc ?_ _ | refine bl_drewN ?_ _ | refine bl_trans (by assumption) ?_ | refine bl_set ?_ (by first | omega | (simp; done) | (simp; omega)) _))
    have HBw1 := Lib.hid hBw1
    clear hBw1 hcw1 hfw1 hbw1
    rw [h1]
    go_wp2
    go_ret3
    exact ⟨by rw [HO.out, E1.out, E2.out]; rfl, (by repeat (first | exact HBw1.out | exact Below.refl _ _ | refine bl_alloc ?_ _ | refine bl_drewN ?_ _ | refine bl_trans (by assumption) ?_ | refine bl_set ?_ (by first | omega | (simp; done) | (simp; omega)) _))⟩
  cases h2 : okLi n f
  · have HO := Lib.hid (show okNB a b n f = false by simp [okNB, h2])
    have E1 := Lib.hid (show NBi a b n f = 0 by simp [NBi, HO.out])
    have E2 := Lib.hid (show NBs a b n f = 0 by simp [NBs, HO.out])
    clear h
    go_enter Try.func61, Try.ntmps61
    go_wp2_with fail
    refine (impl_IsSpot _ _ _).mono ?_
    rintro e w1 ⟨rfl, hbw1⟩
    obtain ⟨hcw1, hfw1⟩ := bcell hbw1
    have hzw1 := bsize hbw1
    (try simp only [World.size_alloc, World.size_setCell] at hzw1)
    have kw1_0_0 : w1.cell? ⟨w.heap.size, 0, none⟩ = some (.int .i64 a) := by rw [hcw1 _ _ (by first | (simp; done) | omega | (simp; omega))]; first | assumption | (simp [go_sem]; done) | (simp [go_sem]; done) | (simp [go_sem, *]; done)
    have kw1_0_1 : w1.cell? ⟨w.heap.size, 1, none⟩ = some (.int .i64 b) := by rw [hcw1 _ _ (by first | (simp; done) | omega | (simp; omega))]; first | assumption | (simp [go_sem]; done) | (simp [go_sem]; done) | (simp [go_sem, *]; done)
    have sw1_0 : w.heap.size < w1.heap.size := by first | omega | (simp at *; omega)
    have hBw1 : Below w.heap.size w w1 := (by repeat (first | exact Below.refl _ _ | refine bl_alloc ?_ _ | refine bl_drewN ?_ _ | refine bl_trans (by assumption) ?_ | refine bl_set ?_ (by first | omega | (simp; done) | (simp; omega)) _))
    have HBw1 := Lib.hid hBw1
    clear hBw1 hcw1 hfw1 hbw1
    rw [h1]
    go_wp2_with fail
    refine (areNearSpots_any _ _ _ _ (HH.out.keep HBw1.out)).mono ?_
    rintro e w2 ⟨rfl, hbw2⟩
    obtain ⟨hcw2, hfw2⟩ := bcell hbw2
    have hzw2 := bsize hbw2
    (try simp only [World.size_alloc, World.size_setCell] at hzw2)
    have hkw2 : Below w1.heap.size w1 w2 := (by repeat (first | exact Below.refl _ _ | refine bl_alloc ?_ _ | refine bl_drewN ?_ _ | refine bl_trans (by assumption) ?_ | refine bl_set ?_ (by first | omega | (simp; done) | (simp; omega)) _))
    have kw2_0_0 : w2.cell? ⟨w.heap.size, 0, none⟩ = some (.int .i64 a) := cell_after hkw2 sw1_0 kw1_0_0
    have kw2_0_1 : w2.cell? ⟨w.heap.size, 1, none⟩ = some (.int .i64 b) := cell_after hkw2 sw1_0 kw1_0_1
    have sw2_0 : w.heap.size < w2.heap.size := size_after hkw2 sw1_0
    have hBw2 : Below w.heap.size w w2 := (by repeat (first | exact HBw1.out | exact Below.refl _ _ | refine bl_alloc ?_ _ | refine bl_drewN ?_ _ | refine bl_trans (by assumption) ?_ | refine bl_set ?_ (by first | omega | (simp; done) | (simp; omega)) _))
    have HBw2 := Lib.hid hBw2
    clear hBw2 hcw2 hfw2 hbw2 hkw2 kw1_0_0 kw1_0_1 sw1_0
    rw [h2]
    go_wp2
    go_ret3
    exact ⟨by rw [HO.out, E1.out, E2.out]; rfl, (by repeat (first | exact HBw2.out | exact Below.refl _ _ | refine bl_alloc ?_ _ | refine bl_drewN ?_ _ | refine bl_trans (by assumption) ?_ | refine bl_set ?_ (by first | omega | (simp; done) | (simp; omega)) _))⟩
  · have HO := Lib.hid (show okNB a b n f = true by simp [okNB, h1, h2])
    have E1 := Lib.hid (show NBi a b n f = ((nbI a b f n : Nat) : Int) by simp [NBi, HO.out])
    have E2 := Lib.hid (show NBs a b n f = nbSq a b f (nbI a b f n) by simp [NBs, HO.out])
    have hh2 := h2
    simp only [okLi, Bool.and_eq_true] at hh2
    have hn := within_true hh2.1
    have OK := Lib.hid (allSp_at hh2.2)
    clear hh2
    obtain ⟨⟨x1, x2⟩, y1, y2⟩ := okSp_true h1
    obtain ⟨b0, off, cap, hv0, _⟩ := h.some_ (by omega)
    simp only [Value.slice.injEq, true_and] at hv0
    obtain ⟨rfl, rfl⟩ := hv0
    clear h
    have hn0 : 0 < (n : Int) := by omega
    have hn1 : 0 < n := by omega
    have HQ0 : ∀ W, Hid (Calls Try.prog 74 #[.agg #[.int .i64 a, .int .i64 b], .agg #[.int .i64 (f 0), .int .i64 (f 1)]] W fun e w' => e = .returned (.int .i64 (nbSq a b f 0)) ∧ Below W.heap.size W w') := fun W => by
      obtain ⟨⟨z1, z2⟩, z3, z4⟩ := okSp_true (OK.out 0 (by omega))
      simp only [Nat.zero_mul, Nat.zero_add] at z1 z2 z3 z4
      have e : nbSq a b f 0 = sq (a - f 0) (b + f 1) := by simp [nbSq]
      rw [e]
      exact Lib.hid (squareByGround_any a b (f 0) (f 1) x1 x2 z1 z2 y1 y2 z3 z4 W)
    go_enter Try.func61, Try.ntmps61
    go_wp2_with fail
    refine (impl_IsSpot _ _ _).mono ?_
    rintro e w1 ⟨rfl, hbw1⟩
    obtain ⟨hcw1, hfw1⟩ := bcell hbw1
    have hzw1 := bsize hbw1
    (try simp only [World.size_alloc, World.size_setCell] at hzw1)
    have kw1_0_0 : w1.cell? ⟨w.heap.size, 0, none⟩ = some (.int .i64 a) := by rw [hcw1 _ _ (by first | (simp; done) | omega | (simp; omega))]; first | assumption | (simp [go_sem]; done) | (simp [go_sem]; done) | (simp [go_sem, *]; done)
    have kw1_0_1 : w1.cell? ⟨w.heap.size, 1, none⟩ = some (.int .i64 b) := by rw [hcw1 _ _ (by first | (simp; done) | omega | (simp; omega))]; first | assumption | (simp [go_sem]; done) | (simp [go_sem]; done) | (simp [go_sem, *]; done)
    have sw1_0 : w.heap.size < w1.heap.size := by first | omega | (simp at *; omega)
    have hBw1 : Below w.heap.size w w1 := (by repeat (first | exact Below.refl _ _ | refine bl_alloc ?_ _ | refine bl_drewN ?_ _ | refine bl_trans (by assumption) ?_ | refine bl_set ?_ (by first | omega | (simp; done) | (simp; omega)) _))
    have HBw1 := Lib.hid hBw1
    clear hBw1 hcw1 hfw1 hbw1
    rw [h1]
    go_wp2_with fail
    refine (areNearSpots_any _ _ _ _ (HH.out.keep HBw1.out)).mono ?_
    rintro e w2 ⟨rfl, hbw2⟩
    obtain ⟨hcw2, hfw2⟩ := bcell hbw2
    have hzw2 := bsize hbw2
    (try simp only [World.size_alloc, World.size_setCell] at hzw2)
    have hkw2 : Below w1.heap.size w1 w2 := (by repeat (first | exact Below.refl _ _ | refine bl_alloc ?_ _ | refine bl_drewN ?_ _ | refine bl_trans (by assumption) ?_ | refine bl_set ?_ (by first | omega | (simp; done) | (simp; omega)) _))
    have kw2_0_0 : w2.cell? ⟨w.heap.size, 0, none⟩ = some (.int .i64 a) := cell_after hkw2 sw1_0 kw1_0_0
    have kw2_0_1 : w2.cell? ⟨w.heap.size, 1, none⟩ = some (.int .i64 b) := cell_after hkw2 sw1_0 kw1_0_1
    have sw2_0 : w.heap.size < w2.heap.size := size_after hkw2 sw1_0
    have hBw2 : Below w.heap.size w w2 := (by repeat (first | exact HBw1.out | exact Below.refl _ _ | refine bl_alloc ?_ _ | refine bl_drewN ?_ _ | refine bl_trans (by assumption) ?_ | refine bl_set ?_ (by first | omega | (simp; done) | (simp; omega)) _))
    have HBw2 := Lib.hid hBw2
    clear hBw2 hcw2 hfw2 hbw2 hkw2 kw1_0_0 kw1_0_1 sw1_0
    rw [h2]
    obtain ⟨b', off', cap', hv, hb', hc⟩ := (HH.out.keep HBw2.out).some_ (by omega)
    simp only [Value.slice.injEq, Option.some.injEq, Addr.mk.injEq, and_true, true_and] at hv
    obtain ⟨⟨rfl, rfl⟩, rfl⟩ := hv
    obtain ⟨p1, p2⟩ := hc 0 (by omega)
    simp only [Nat.zero_mul, Nat.add_zero, Nat.zero_add] at p1 p2
    clear hc
    have hS : w2.cell? ⟨w.heap.size, 0, none⟩ = some (.int .i64 a) ∧ w2.cell? ⟨w.heap.size, 1, none⟩ = some (.int .i64 b) ∧ w2.cell? ⟨b0, off, none⟩ = some (.int .i64 (f 0)) ∧ w2.cell? ⟨b0, off + 1, none⟩ = some (.int .i64 (f 1)) ∧ w.heap.size < w2.heap.size ∧ b0 < w2.heap.size ∧ Below w.heap.size w w2 := ⟨kw2_0_0, kw2_0_1, p1, p2, sw2_0, hb', HBw2.out⟩
    go_wp2_with fail
    go_region_held3 (fun w' => w'.cell? ⟨w.heap.size, 0, none⟩ = some (.int .i64 a) ∧ w'.cell? ⟨w.heap.size, 1, none⟩ = some (.int .i64 b) ∧ w'.cell? ⟨b0, off, none⟩ = some (.int .i64 (f 0)) ∧ w'.cell? ⟨b0, off + 1, none⟩ = some (.int .i64 (f 1)) ∧ w.heap.size < w'.heap.size ∧ b0 < w'.heap.size ∧ Below w.heap.size w w') (first | exact EQ_after hb2 (by assumption) | exact EQ_after (below_drewN (Below.refl _ _) _) (by assumption) | exact EQ_after (Below.drew (Below.refl _ _)) (by assumption) | assumption) (first | (go_at_call 74; refine ((HQ0 _).out).mono ?_; rintro e w2 ⟨rfl, hb2⟩))
    rename_i hreg
    obtain ⟨q0, q1, _, _, hs, _, hB⟩ := hreg
    have HB0 := Lib.hid hB
    clear hB hS
    go_wp2_with fail
    go_loopw [7, 8, 27] (fun t s i wr => ∃ j : Nat, j ≤ n ∧ t = .int .i64 ((nbI a b f j : Nat) : Int) ∧ s = .int .i64 (nbSq a b f (nbI a b f j)) ∧ i = .int .i64 (j : Int) ∧ wr.cell? ⟨w.heap.size, 0, none⟩ = some (.int .i64 a) ∧ wr.cell? ⟨w.heap.size, 1, none⟩ = some (.int .i64 b) ∧ w.heap.size < wr.heap.size ∧ Below w.heap.size w wr) (fun _ _ i _ => n - (intOf i).toNat)
    case atStart => exact ⟨0, Nat.zero_le _, rfl, rfl, rfl, q0, q1, hs, HB0.out⟩
    case round =>
      clear q0 q1 hs
      obtain ⟨j, hj, rfl, rfl, rfl, q0, q1, hs, hB⟩ := hrel
      by_cases hlt : j < n
      · obtain ⟨b', off', cap', hv, hb', hc⟩ := (HH.out.keep hB).some_ (by omega)
        simp only [Value.slice.injEq, Option.some.injEq, Addr.mk.injEq, and_true, true_and] at hv
        obtain ⟨⟨rfl, rfl⟩, rfl⟩ := hv
        obtain ⟨p1, p2⟩ := hc j hlt
        have hlt' : (j : Int) < (n : Int) := by omega
        have HBr := Lib.hid hB
        clear hB hc
        have HQ : ∀ W, Hid (Calls Try.prog 74 #[.agg #[.int .i64 a, .int .i64 b], .agg #[.int .i64 (f (j * 2)), .int .i64 (f (j * 2 + 1))]] W fun e w' => e = .returned (.int .i64 (nbSq a b f j)) ∧ Below W.heap.size W w') := fun W => by
          obtain ⟨⟨z1, z2⟩, z3, z4⟩ := okSp_true (OK.out j hlt)
          exact Lib.hid (squareByGround_any a b (f (j * 2)) (f (j * 2 + 1)) x1 x2 z1 z2 y1 y2 z3 z4 W)
        by_cases m : nbSq a b f j < nbSq a b f (nbI a b f j)
        · have TT := Lib.hid (show nbI a b f (j + 1) = j by rw [nbI, if_pos m])
          generalize nbSq a b f (nbI a b f j) = L at *
          generalize hQ' : nbSq a b f j = Q at *
          have HQ' := Lib.hid hQ'
          clear hQ'
          go_wp2_with fail
          refine ((HQ _).out).mono ?_
          rintro e v1 ⟨rfl, hbv1⟩
          obtain ⟨hcv1, hfv1⟩ := bcell hbv1
          have hzv1 := bsize hbv1
          (try simp only [World.size_alloc, World.size_setCell] at hzv1)
          have hkv1 : Below wr.heap.size wr v1 := (by repeat (first | exact Below.refl _ _ | refine bl_alloc ?_ _ | refine bl_drewN ?_ _ | refine bl_trans (by assumption) ?_ | refine bl_set ?_ (by first | omega | (simp; done) | (simp; omega)) _))
          have kv1_0_0 : v1.cell? ⟨w.heap.size, 0, none⟩ = some (.int .i64 a) := cell_after hkv1 hs q0
          have kv1_0_1 : v1.cell? ⟨w.heap.size, 1, none⟩ = some (.int .i64 b) := cell_after hkv1 hs q1
          have sv1_0 : w.heap.size < v1.heap.size := size_after hkv1 hs
          have hBv1 : Below w.heap.size w v1 := (by repeat (first | exact HBr.out | exact Below.refl _ _ | refine bl_alloc ?_ _ | refine bl_drewN ?_ _ | refine bl_trans (by assumption) ?_ | refine bl_set ?_ (by first | omega | (simp; done) | (simp; omega)) _))
          have HBv1 := Lib.hid hBv1
          clear hBv1 hcv1 hfv1 hbv1 hkv1 q0 q1 hs
          go_wp2
          go_roundw
          case rel => exact ⟨j + 1, by omega, by rw [TT.out], by rw [TT.out, HQ'.out], by go_num, kv1_0_0, kv1_0_1, sv1_0, HBv1.out⟩
          case measure => simp only [intOf]; omega
        · have TT := Lib.hid (show nbI a b f (j + 1) = nbI a b f j by rw [nbI, if_neg m])
          generalize nbSq a b f j = Q at *
          generalize hL' : nbSq a b f (nbI a b f j) = L at *
          have HL' := Lib.hid hL'
          clear hL'
          go_wp2_with fail
          refine ((HQ _).out).mono ?_
          rintro e v1 ⟨rfl, hbv1⟩
          obtain ⟨hcv1, hfv1⟩ := bcell hbv1
          have hzv1 := bsize hbv1
          (try simp only [World.size_alloc, World.size_setCell] at hzv1)
          have hkv1 : Below wr.heap.size wr v1 := (by repeat (first | exact Below.refl _ _ | refine bl_alloc ?_ _ | refine bl_drewN ?_ _ | refine bl_trans (by assumption) ?_ | refine bl_set ?_ (by first | omega | (simp; done) | (simp; omega)) _))
          have kv1_0_0 : v1.cell? ⟨w.heap.size, 0, none⟩ = some (.int .i64 a) := cell_after hkv1 hs q0
          have kv1_0_1 : v1.cell? ⟨w.heap.size, 1, none⟩ = some (.int .i64 b) := cell_after hkv1 hs q1
          have sv1_0 : w.heap.size < v1.heap.size := size_after hkv1 hs
          have hBv1 : Below w.heap.size w v1 := (by repeat (first | exact HBr.out | exact Below.refl _ _ | refine bl_alloc ?_ _ | refine bl_drewN ?_ _ | refine bl_trans (by assumption) ?_ | refine bl_set ?_ (by first | omega | (simp; done) | (simp; omega)) _))
          have HBv1 := Lib.hid hBv1
          clear hBv1 hcv1 hfv1 hbv1 hkv1 q0 q1 hs
          go_wp2
          go_roundw
          case rel => exact ⟨j + 1, by omega, by rw [TT.out], by rw [TT.out, HL'.out], by go_num, kv1_0_0, kv1_0_1, sv1_0, HBv1.out⟩
          case measure => simp only [intOf]; omega
      · obtain rfl : j = n := by omega
        have HBr := Lib.hid hB
        clear hB
        go_wp2
        go_ret3
        exact ⟨by rw [HO.out, E1.out, E2.out]; rfl, HBr.out⟩
set_option maxRecDepth 100000 in
set_option maxHeartbeats 4000000 in
theorem spec_NearestByMirror (a b : Int) (v : Value) (n : Nat) (f : Nat → Int) (w : World) (h : PRow w v n f) :
    Calls Try.prog 59 #[.agg #[.int .i64 a, .int .i64 b], v] w fun e w' => e = .returned (.tuple #[.int .i64 (NBi a b n f), .int .i64 (NBs a b n f), .bool (okNB a b n f)]) ∧ Below w.heap.size w w' := by
  have hl := h.len_le
  have HH := Lib.hid h
  obtain ⟨sa, sc, hsh⟩ := h.shape
  subst hsh
  cases h1 : okSp a b
  · have HO := Lib.hid (show okNB a b n f = false by simp [okNB, h1])
    have E1 := Lib.hid (show NBi a b n f = 0 by simp [NBi, HO.out])
    have E2 := Lib.hid (show NBs a b n f = 0 by simp [NBs, HO.out])
    clear h
    go_enter Try.func59, Try.ntmps59
    go_wp2_with fail
    refine (spec_lwSpot _ _ _).mono ?_
    rintro e w1 ⟨rfl, hbw1⟩
    obtain ⟨hcw1, hfw1⟩ := bcell hbw1
    have hzw1 := bsize hbw1
    (try simp only [World.size_alloc, World.size_setCell] at hzw1)
    have kw1_0_0 : w1.cell? ⟨w.heap.size, 0, none⟩ = some (.int .i64 a) := by rw [hcw1 _ _ (by first | (simp; done) | omega | (simp; omega))]; first | assumption | (simp [go_sem]; done) | (simp [go_sem]; done) | (simp [go_sem, *]; done)
    have kw1_0_1 : w1.cell? ⟨w.heap.size, 1, none⟩ = some (.int .i64 b) := by rw [hcw1 _ _ (by first | (simp; done) | omega | (simp; omega))]; first | assumption | (simp [go_sem]; done) | (simp [go_sem]; done) | (simp [go_sem, *]; done)
    have sw1_0 : w.heap.size < w1.heap.size := by first | omega | (simp at *; omega)
    have hBw1 : Below w.heap.size w w1 := (by repeat (first | exact Below.refl _ _ | refine bl_alloc ?_ _ | refine bl_drewN ?_ _ | refine bl_trans (by assumption) ?_ | refine bl_set ?_ (by first | omega | (simp; done) | (simp; omega)) _))
    have HBw1 := Lib.hid hBw1
    clear hBw1 hcw1 hfw1 hbw1
    rw [h1]
    go_wp2
    go_ret3
    exact ⟨by rw [HO.out, E1.out, E2.out]; rfl, (by repeat (first | exact HBw1.out | exact Below.refl _ _ | refine bl_alloc ?_ _ | refine bl_drewN ?_ _ | refine bl_trans (by assumption) ?_ | refine bl_set ?_ (by first | omega | (simp; done) | (simp; omega)) _))⟩
  cases h2 : within n 1 20
  · have HO := Lib.hid (show okNB a b n f = false by simp [okNB, okLi, h2])
    have E1 := Lib.hid (show NBi a b n f = 0 by simp [NBi, HO.out])
    have E2 := Lib.hid (show NBs a b n f = 0 by simp [NBs, HO.out])
    clear h
    go_enter Try.func59, Try.ntmps59
    go_wp2_with fail
    refine (spec_lwSpot _ _ _).mono ?_
    rintro e w1 ⟨rfl, hbw1⟩
    obtain ⟨hcw1, hfw1⟩ := bcell hbw1
    have hzw1 := bsize hbw1
    (try simp only [World.size_alloc, World.size_setCell] at hzw1)
    have kw1_0_0 : w1.cell? ⟨w.heap.size, 0, none⟩ = some (.int .i64 a) := by rw [hcw1 _ _ (by first | (simp; done) | omega | (simp; omega))]; first | assumption | (simp [go_sem]; done) | (simp [go_sem]; done) | (simp [go_sem, *]; done)
    have kw1_0_1 : w1.cell? ⟨w.heap.size, 1, none⟩ = some (.int .i64 b) := by rw [hcw1 _ _ (by first | (simp; done) | omega | (simp; omega))]; first | assumption | (simp [go_sem]; done) | (simp [go_sem]; done) | (simp [go_sem, *]; done)
    have sw1_0 : w.heap.size < w1.heap.size := by first | omega | (simp at *; omega)
    have hBw1 : Below w.heap.size w w1 := (by repeat (first | exact Below.refl _ _ | refine bl_alloc ?_ _ | refine bl_drewN ?_ _ | refine bl_trans (by assumption) ?_ | refine bl_set ?_ (by first | omega | (simp; done) | (simp; omega)) _))
    have HBw1 := Lib.hid hBw1
    clear hBw1 hcw1 hfw1 hbw1
    rw [h1]
    go_wp2_with fail
    refine (l1In_any _ _ _ _).mono ?_
    rintro e w' ⟨rfl, rfl⟩
    rw [h2]
    go_wp2
    go_ret3
    exact ⟨by rw [HO.out, E1.out, E2.out]; rfl, (by repeat (first | exact HBw1.out | exact Below.refl _ _ | refine bl_alloc ?_ _ | refine bl_drewN ?_ _ | refine bl_trans (by assumption) ?_ | refine bl_set ?_ (by first | omega | (simp; done) | (simp; omega)) _))⟩
  · have HA := Lib.hid (show okNB a b n f = allSp f n by simp [okNB, okLi, h1, h2])
    have hn := within_true h2
    obtain ⟨⟨x1, x2⟩, y1, y2⟩ := okSp_true h1
    obtain ⟨b0, off, cap, hv0, _⟩ := h.some_ (by omega)
    simp only [Value.slice.injEq, true_and] at hv0
    obtain ⟨rfl, rfl⟩ := hv0
    clear h
    go_enter Try.func59, Try.ntmps59
    go_wp2_with fail
    refine (spec_lwSpot _ _ _).mono ?_
    rintro e w1 ⟨rfl, hbw1⟩
    obtain ⟨hcw1, hfw1⟩ := bcell hbw1
    have hzw1 := bsize hbw1
    (try simp only [World.size_alloc, World.size_setCell] at hzw1)
    have kw1_0_0 : w1.cell? ⟨w.heap.size, 0, none⟩ = some (.int .i64 a) := by rw [hcw1 _ _ (by first | (simp; done) | omega | (simp; omega))]; first | assumption | (simp [go_sem]; done) | (simp [go_sem]; done) | (simp [go_sem, *]; done)
    have kw1_0_1 : w1.cell? ⟨w.heap.size, 1, none⟩ = some (.int .i64 b) := by rw [hcw1 _ _ (by first | (simp; done) | omega | (simp; omega))]; first | assumption | (simp [go_sem]; done) | (simp [go_sem]; done) | (simp [go_sem, *]; done)
    have sw1_0 : w.heap.size < w1.heap.size := by first | omega | (simp at *; omega)
    have hBw1 : Below w.heap.size w w1 := (by repeat (first | exact Below.refl _ _ | refine bl_alloc ?_ _ | refine bl_drewN ?_ _ | refine bl_trans (by assumption) ?_ | refine bl_set ?_ (by first | omega | (simp; done) | (simp; omega)) _))
    have HBw1 := Lib.hid hBw1
    clear hBw1 hcw1 hfw1 hbw1
    rw [h1]
    go_wp2_with fail
    refine (l1In_any _ _ _ _).mono ?_
    rintro e w' ⟨rfl, rfl⟩
    rw [h2]
    go_wp2_with fail
    go_loopw [7, 8, 23] (fun t s i wr => ∃ j : Nat, j ≤ n ∧ allSp f j = true ∧ ((j = 0 ∧ t = .int .i64 (-1) ∧ s = .int .i64 0) ∨ (0 < j ∧ t = .int .i64 ((nbI a b f j : Nat) : Int) ∧ s = .int .i64 (nbSq a b f (nbI a b f j)))) ∧ i = .int .i64 (j : Int) ∧ wr.cell? ⟨w.heap.size, 0, none⟩ = some (.int .i64 a) ∧ wr.cell? ⟨w.heap.size, 1, none⟩ = some (.int .i64 b) ∧ w.heap.size < wr.heap.size ∧ Below w.heap.size w wr) (fun _ _ i _ => n - (intOf i).toNat)
    case atStart => exact ⟨0, Nat.zero_le _, rfl, .inl ⟨rfl, rfl, rfl⟩, rfl, kw1_0_0, kw1_0_1, sw1_0, HBw1.out⟩
    case round =>
      clear kw1_0_0 kw1_0_1 sw1_0 hzw1
      obtain ⟨j, hj, hT, hval, rfl, q0, q1, hs, hB⟩ := hrel
      by_cases hlt : j < n
      · obtain ⟨b', off', cap', hv, hb', hc⟩ := (HH.out.keep hB).some_ (by omega)
        simp only [Value.slice.injEq, Option.some.injEq, Addr.mk.injEq, and_true, true_and] at hv
        obtain ⟨⟨rfl, rfl⟩, rfl⟩ := hv
        obtain ⟨p1, p2⟩ := hc j hlt
        have hlt' : (j : Int) < (n : Int) := by omega
        have HBr := Lib.hid hB
        clear hB hc
        cases m : okSp (f (j * 2)) (f (j * 2 + 1))
        · have FF := Lib.hid (allSp_false (n := n) (i := j) (f := f) (by simp [allSp, m]) hlt)
          have HO := Lib.hid (show okNB a b n f = false by rw [HA.out, FF.out])
          have E1 := Lib.hid (show NBi a b n f = 0 by simp [NBi, HO.out])
          have E2 := Lib.hid (show NBs a b n f = 0 by simp [NBs, HO.out])
          clear hval
          go_wp2_with fail
          refine (spec_lwSpot _ _ _).mono ?_
          rintro e v1 ⟨rfl, hbv1⟩
          obtain ⟨hcv1, hfv1⟩ := bcell hbv1
          have hzv1 := bsize hbv1
          (try simp only [World.size_alloc, World.size_setCell] at hzv1)
          have hkv1 : Below wr.heap.size wr v1 := (by repeat (first | exact Below.refl _ _ | refine bl_alloc ?_ _ | refine bl_drewN ?_ _ | refine bl_trans (by assumption) ?_ | refine bl_set ?_ (by first | omega | (simp; done) | (simp; omega)) _))
          have kv1_0_0 : v1.cell? ⟨w.heap.size, 0, none⟩ = some (.int .i64 a) := cell_after hkv1 hs q0
          have kv1_0_1 : v1.cell? ⟨w.heap.size, 1, none⟩ = some (.int .i64 b) := cell_after hkv1 hs q1
          have sv1_0 : w.heap.size < v1.heap.size := size_after hkv1 hs
          have kv1_1_0 : v1.cell? ⟨wr.heap.size, 0, none⟩ = some (.int .i64 (f (j * 2))) := by rw [hcv1 _ _ (by first | (simp; done) | omega | (simp; omega))]; first | assumption | (simp [go_sem]; done) | (simp [go_sem, q0, q1]; done) | (simp [go_sem, *]; done)
          have kv1_1_1 : v1.cell? ⟨wr.heap.size, 1, none⟩ = some (.int .i64 (f (j * 2 + 1))) := by rw [hcv1 _ _ (by first | (simp; done) | omega | (simp; omega))]; first | assumption | (simp [go_sem]; done) | (simp [go_sem, q0, q1]; done) | (simp [go_sem, *]; done)
          have sv1_1 : wr.heap.size < v1.heap.size := by first | omega | (simp at *; omega)
          have hBv1 : Below w.heap.size w v1 := (by repeat (first | exact HBr.out | exact Below.refl _ _ | refine bl_alloc ?_ _ | refine bl_drewN ?_ _ | refine bl_trans (by assumption) ?_ | refine bl_set ?_ (by first | omega | (simp; done) | (simp; omega)) _))
          have HBv1 := Lib.hid hBv1
          clear hBv1 hcv1 hfv1 hbv1 hkv1 q0 q1 hs
          rw [m]
          go_wp2
          go_ret3
          exact ⟨by rw [HO.out, E1.out, E2.out]; rfl, HBv1.out⟩
        · have TA := Lib.hid (show allSp f (j + 1) = true by simp [allSp, hT, m])
          have HQ : ∀ W, Hid (Calls Try.prog 72 #[.int .i64 (a - f (j * 2)), .int .i64 (b + f (j * 2 + 1))] W fun e w' => e = .returned (.int .i64 (nbSq a b f j)) ∧ W = w') := fun W => by
            obtain ⟨⟨z1, z2⟩, z3, z4⟩ := okSp_true m
            exact Lib.hid (lwSquare_any (a - f (j * 2)) (b + f (j * 2 + 1)) (by omega) (by omega) (by omega) (by omega) W)
          obtain ⟨⟨z1, z2⟩, z3, z4⟩ := okSp_true m
          rcases hval with ⟨hj0, rfl, rfl⟩ | ⟨hj0, rfl, rfl⟩
          · have TT := Lib.hid (show nbI a b f (j + 1) = j by rw [hj0]; exact nbI_one a b f)
            clear hj0
            generalize hQ' : nbSq a b f j = Q at *
            have HQ' := Lib.hid hQ'
            clear hQ'
            go_wp2_with fail
            refine (spec_lwSpot _ _ _).mono ?_
            rintro e v1 ⟨rfl, hbv1⟩
            obtain ⟨hcv1, hfv1⟩ := bcell hbv1
            have hzv1 := bsize hbv1
            (try simp only [World.size_alloc, World.size_setCell] at hzv1)
            have hkv1 : Below wr.heap.size wr v1 := (by repeat (first | exact Below.refl _ _ | refine bl_alloc ?_ _ | refine bl_drewN ?_ _ | refine bl_trans (by assumption) ?_ | refine bl_set ?_ (by first | omega | (simp; done) | (simp; omega)) _))
            have kv1_0_0 : v1.cell? ⟨w.heap.size, 0, none⟩ = some (.int .i64 a) := cell_after hkv1 hs q0
            have kv1_0_1 : v1.cell? ⟨w.heap.size, 1, none⟩ = some (.int .i64 b) := cell_after hkv1 hs q1
            have sv1_0 : w.heap.size < v1.heap.size := size_after hkv1 hs
            have kv1_1_0 : v1.cell? ⟨wr.heap.size, 0, none⟩ = some (.int .i64 (f (j * 2))) := by rw [hcv1 _ _ (by first | (simp; done) | omega | (simp; omega))]; first | assumption | (simp [go_sem]; done) | (simp [go_sem, q0, q1]; done) | (simp [go_sem, *]; done)
            have kv1_1_1 : v1.cell? ⟨wr.heap.size, 1, none⟩ = some (.int .i64 (f (j * 2 + 1))) := by rw [hcv1 _ _ (by first | (simp; done) | omega | (simp; omega))]; first | assumption | (simp [go_sem]; done) | (simp [go_sem, q0, q1]; done) | (simp [go_sem, *]; done)
            have sv1_1 : wr.heap.size < v1.heap.size := by first | omega | (simp at *; omega)
            have hBv1 : Below w.heap.size w v1 := (by repeat (first | exact HBr.out | exact Below.refl _ _ | refine bl_alloc ?_ _ | refine bl_drewN ?_ _ | refine bl_trans (by assumption) ?_ | refine bl_set ?_ (by first | omega | (simp; done) | (simp; omega)) _))
            have HBv1 := Lib.hid hBv1
            clear hBv1 hcv1 hfv1 hbv1 hkv1 q0 q1 hs
            rw [m]
            go_wp2_with fail
            refine ((HQ _).out).mono ?_
            rintro e w' ⟨rfl, rfl⟩
            go_wp2
            go_roundw
            case rel => exact ⟨j + 1, by omega, TA.out, .inr ⟨by omega, by rw [TT.out], by rw [TT.out, HQ'.out]⟩, by go_num, kv1_0_0, kv1_0_1, sv1_0, HBv1.out⟩
            case measure => simp only [intOf]; omega
          · by_cases mm : nbSq a b f j < nbSq a b f (nbI a b f j)
            · have TT := Lib.hid (show nbI a b f (j + 1) = j by rw [nbI, if_pos mm])
              generalize nbSq a b f (nbI a b f j) = L at *
              generalize hQ' : nbSq a b f j = Q at *
              have HQ' := Lib.hid hQ'
              clear hQ'
              go_wp2_with fail
              refine (spec_lwSpot _ _ _).mono ?_
              rintro e v1 ⟨rfl, hbv1⟩
              obtain ⟨hcv1, hfv1⟩ := bcell hbv1
              have hzv1 := bsize hbv1
              (try simp only [World.size_alloc, World.size_setCell] at hzv1)
              have hkv1 : Below wr.heap.size wr v1 := (by repeat (first | exact Below.refl _ _ | refine bl_alloc ?_ _ | refine bl_drewN ?_ _ | refine bl_trans (by assumption) ?_ | refine bl_set ?_ (by first | omega | (simp; done) | (simp; omega)) _))
              have kv1_0_0 : v1.cell? ⟨w.heap.size, 0, none⟩ = some (.int .i64 a) := cell_after hkv1 hs q0
              have kv1_0_1 : v1.cell? ⟨w.heap.size, 1, none⟩ = some (.int .i64 b) := cell_after hkv1 hs q1
              have sv1_0 : w.heap.size < v1.heap.size := size_after hkv1 hs
              have kv1_1_0 : v1.cell? ⟨wr.heap.size, 0, none⟩ = some (.int .i64 (f (j * 2))) := by rw [hcv1 _ _ (by first | (simp; done) | omega | (simp; omega))]; first | assumption | (simp [go_sem]; done) | (simp [go_sem, q0, q1]; done) | (simp [go_sem, *]; done)
              have kv1_1_1 : v1.cell? ⟨wr.heap.size, 1, none⟩ = some (.int .i64 (f (j * 2 + 1))) := by rw [hcv1 _ _ (by first | (simp; done) | omega | (simp; omega))]; first | assumption | (simp [go_sem]; done) | (simp [go_sem, q0, q1]; done) | (simp [go_sem, *]; done)
              have sv1_1 : wr.heap.size < v1.heap.size := by first | omega | (simp at *; omega)
              have hBv1 : Below w.heap.size w v1 := (by repeat (first | exact HBr.out | exact Below.refl _ _ | refine bl_alloc ?_ _ | refine bl_drewN ?_ _ | refine bl_trans (by assumption) ?_ | refine bl_set ?_ (by first | omega | (simp; done) | (simp; omega)) _))
              have HBv1 := Lib.hid hBv1
              clear hBv1 hcv1 hfv1 hbv1 hkv1 q0 q1 hs
              rw [m]
              go_wp2_with fail
              refine ((HQ _).out).mono ?_
              rintro e w' ⟨rfl, rfl⟩
              go_wp2
              go_roundw
              case rel => exact ⟨j + 1, by omega, TA.out, .inr ⟨by omega, by rw [TT.out], by rw [TT.out, HQ'.out]⟩, by go_num, kv1_0_0, kv1_0_1, sv1_0, HBv1.out⟩
              case measure => simp only [intOf]; omega
            · have TT := Lib.hid (show nbI a b f (j + 1) = nbI a b f j by rw [nbI, if_neg mm])
              generalize nbSq a b f j = Q at *
              generalize hL' : nbSq a b f (nbI a b f j) = L at *
              have HL' := Lib.hid hL'
              clear hL'
              go_wp2_with fail
              refine (spec_lwSpot _ _ _).mono ?_
              rintro e v1 ⟨rfl, hbv1⟩
              obtain ⟨hcv1, hfv1⟩ := bcell hbv1
              have hzv1 := bsize hbv1
              (try simp only [World.size_alloc, World.size_setCell] at hzv1)
              have hkv1 : Below wr.heap.size wr v1 := (by repeat (first | exact Below.refl _ _ | refine bl_alloc ?_ _ | refine bl_drewN ?_ _ | refine bl_trans (by assumption) ?_ | refine bl_set ?_ (by first | omega | (simp; done) | (simp; omega)) _))
              have kv1_0_0 : v1.cell? ⟨w.heap.size, 0, none⟩ = some (.int .i64 a) := cell_after hkv1 hs q0
              have kv1_0_1 : v1.cell? ⟨w.heap.size, 1, none⟩ = some (.int .i64 b) := cell_after hkv1 hs q1
              have sv1_0 : w.heap.size < v1.heap.size := size_after hkv1 hs
              have kv1_1_0 : v1.cell? ⟨wr.heap.size, 0, none⟩ = some (.int .i64 (f (j * 2))) := by rw [hcv1 _ _ (by first | (simp; done) | omega | (simp; omega))]; first | assumption | (simp [go_sem]; done) | (simp [go_sem, q0, q1]; done) | (simp [go_sem, *]; done)
              have kv1_1_1 : v1.cell? ⟨wr.heap.size, 1, none⟩ = some (.int .i64 (f (j * 2 + 1))) := by rw [hcv1 _ _ (by first | (simp; done) | omega | (simp; omega))]; first | assumption | (simp [go_sem]; done) | (simp [go_sem, q0, q1]; done) | (simp [go_sem, *]; done)
              have sv1_1 : wr.heap.size < v1.heap.size := by first | omega | (simp at *; omega)
              have hBv1 : Below w.heap.size w v1 := (by repeat (first | exact HBr.out | exact Below.refl _ _ | refine bl_alloc ?_ _ | refine bl_drewN ?_ _ | refine bl_trans (by assumption) ?_ | refine bl_set ?_ (by first | omega | (simp; done) | (simp; omega)) _))
              have HBv1 := Lib.hid hBv1
              clear hBv1 hcv1 hfv1 hbv1 hkv1 q0 q1 hs
              rw [m]
              go_wp2_with fail
              refine ((HQ _).out).mono ?_
              rintro e w' ⟨rfl, rfl⟩
              go_wp2
              go_roundw
              case rel => exact ⟨j + 1, by omega, TA.out, .inr ⟨by omega, by rw [TT.out], by rw [TT.out, HL'.out]⟩, by go_num, kv1_0_0, kv1_0_1, sv1_0, HBv1.out⟩
              case measure => simp only [intOf]; omega
      · obtain rfl : j = n := by omega
        have HBr := Lib.hid hB
        clear hB
        have HO := Lib.hid (show okNB a b j f = true by rw [HA.out, hT])
        have E1 := Lib.hid (show NBi a b j f = ((nbI a b f j : Nat) : Int) by simp [NBi, HO.out])
        have E2 := Lib.hid (show NBs a b j f = nbSq a b f (nbI a b f j) by simp [NBs, HO.out])
        rcases hval with ⟨hz, -, -⟩ | ⟨hj0, rfl, rfl⟩
        · omega
        · go_wp2
          go_ret3
          exact ⟨by rw [HO.out, E1.out, E2.out]; rfl, HBr.out⟩
end Go.Proofs.Ytppgcaennhghoaa
