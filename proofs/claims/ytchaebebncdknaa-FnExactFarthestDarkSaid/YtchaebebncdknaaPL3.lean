/- Whether there are poles of a lamp; the longest shadow; the farthest dark place. -/
import Derived.Test.YtchaebebncdknaaPL2
namespace Go.Proofs.Ytchaebebncdknaa
open Go.RowKit
theorem two_keep {wr : World} {B : Nat} {x y : Value} (o : Obj) (k1 : wr.cell? ⟨B, 0, none⟩ = some x) (k2 : wr.cell? ⟨B, 1, none⟩ = some y) (k3 : wr.frozen? ⟨B, 0, none⟩ = false) (k4 : wr.frozen? ⟨B, 1, none⟩ = false) (k5 : B < wr.heap.size) :
    (wr.alloc o).cell? ⟨B, 0, none⟩ = some x ∧ (wr.alloc o).cell? ⟨B, 1, none⟩ = some y ∧ (wr.alloc o).frozen? ⟨B, 0, none⟩ = false ∧ (wr.alloc o).frozen? ⟨B, 1, none⟩ = false ∧ B < (wr.alloc o).heap.size := by
  obtain ⟨hc, hf⟩ := bcell (bl_alloc (Below.refl wr.heap.size wr) o)
  exact ⟨by rw [hc _ _ k5]; exact k1, by rw [hc _ _ k5]; exact k2, by rw [hf _ _ k5]; exact k3, by rw [hf _ _ k5]; exact k4, by simp; omega⟩
theorem two_set {wr : World} {B : Nat} {x y : Value} (o : Obj) (x' y' : Value) (k1 : wr.cell? ⟨B, 0, none⟩ = some x) (k2 : wr.cell? ⟨B, 1, none⟩ = some y) (k3 : wr.frozen? ⟨B, 0, none⟩ = false) (k4 : wr.frozen? ⟨B, 1, none⟩ = false) (k5 : B < wr.heap.size) :
    (((wr.setCell ⟨B, 0, none⟩ x').setCell ⟨B, 1, none⟩ y').alloc o).cell? ⟨B, 0, none⟩ = some x' ∧ (((wr.setCell ⟨B, 0, none⟩ x').setCell ⟨B, 1, none⟩ y').alloc o).cell? ⟨B, 1, none⟩ = some y' ∧ (((wr.setCell ⟨B, 0, none⟩ x').setCell ⟨B, 1, none⟩ y').alloc o).frozen? ⟨B, 0, none⟩ = false ∧ (((wr.setCell ⟨B, 0, none⟩ x').setCell ⟨B, 1, none⟩ y').alloc o).frozen? ⟨B, 1, none⟩ = false ∧ B < (((wr.setCell ⟨B, 0, none⟩ x').setCell ⟨B, 1, none⟩ y').alloc o).heap.size := by
  have c1 : (wr.setCell ⟨B, 0, none⟩ x').cell? ⟨B, 0, none⟩ = some x' := World.cell?_setCell_same _ _ _ k1
  have c2 : (wr.setCell ⟨B, 0, none⟩ x').cell? ⟨B, 1, none⟩ = some y := by rw [World.cell?_setCell_other _ _ _ _ (by simp)]; exact k2
  have d1 : ((wr.setCell ⟨B, 0, none⟩ x').setCell ⟨B, 1, none⟩ y').cell? ⟨B, 0, none⟩ = some x' := by rw [World.cell?_setCell_other _ _ _ _ (by simp)]; exact c1
  have d2 : ((wr.setCell ⟨B, 0, none⟩ x').setCell ⟨B, 1, none⟩ y').cell? ⟨B, 1, none⟩ = some y' := World.cell?_setCell_same _ _ _ c2
  exact two_keep o d1 d2 (by simpa using k3) (by simpa using k4) (by simpa using k5)
set_option maxHeartbeats 800000 in
theorem impl_ArePoles (l : Int) (v : Value) (n : Nat) (f : Nat → Int) (w : World) (h : PRow w v n f) :
    Calls Try.prog 85 #[.int .i64 l, v] w fun e w' => e = .returned (.bool (okG l n f)) ∧ Below w.heap.size w w' := by
  have hl := h.len_le
  have HH := Lib.hid h
  cases h1 : okM l
  · obtain ⟨a, c, rfl⟩ := h.shape
    clear h
    go_enter Try.func85, Try.ntmps85
    go_wp2_with (go_at_call 83; refine (impl_isLamp _ _).mono ?_; rintro e w' ⟨rfl, rfl⟩; rw [h1])
    go_ret
    exact ⟨by simp [okG, h1], (by repeat (first | exact Below.refl _ _ | refine bl_alloc ?_ _ | refine bl_drewN ?_ _ | refine bl_trans (by assumption) ?_ | refine bl_set ?_ (by first | omega | (simp; done) | (simp; omega)) _))⟩
  · cases h2 : okRow n f
    · obtain ⟨a, c, rfl⟩ := h.shape
      clear h
      go_enter Try.func85, Try.ntmps85
      go_wp2_with (first | (go_at_call 83; refine (impl_isLamp _ _).mono ?_; rintro e w' ⟨rfl, rfl⟩; rw [h1]) | (go_at_call 96; refine (impl_isRow _ _ _ _ HH.out).mono ?_; rintro e w1 ⟨rfl, hb⟩; obtain ⟨hc, hf⟩ := bcell hb; have hz := bsize hb; rw [h2]))
      go_ret
      exact ⟨by simp [okG, h1, h2], (by repeat (first | exact Below.refl _ _ | refine bl_alloc ?_ _ | refine bl_drewN ?_ _ | refine bl_trans (by assumption) ?_ | refine bl_set ?_ (by first | omega | (simp; done) | (simp; omega)) _))⟩
    · have hn : 1 ≤ (n : Int) ∧ (n : Int) ≤ 6 := by
        simp only [okRow, Bool.and_eq_true] at h2
        exact within_true h2.1
      obtain ⟨b, off, cap, rfl, _⟩ := h.some_ (by omega)
      clear h
      have EO := Lib.hid (show okG l n f = lowTo l f n by simp [okG, h1, h2])
      go_enter Try.func85, Try.ntmps85
      go_wp2_with (first | (go_at_call 83; refine (impl_isLamp _ _).mono ?_; rintro e w' ⟨rfl, rfl⟩; rw [h1]) | (go_at_call 96; refine (impl_isRow _ _ _ _ HH.out).mono ?_; rintro e w1 ⟨rfl, hb⟩; obtain ⟨hc, hf⟩ := bcell hb; have hz := bsize hb; rw [h2]))
      go_loopw [17] (fun i wr => ∃ j : Nat, j ≤ n ∧ i = .int .i64 (j : Int) ∧ lowTo l f j = true ∧ Below w.heap.size w wr) (fun i _ => n - (intOf i).toNat)
      case atStart => exact ⟨0, Nat.zero_le _, rfl, rfl, (by repeat (first | exact Below.refl _ _ | refine bl_alloc ?_ _ | refine bl_drewN ?_ _ | refine bl_trans (by assumption) ?_ | refine bl_set ?_ (by first | omega | (simp; done) | (simp; omega)) _))⟩
      case round =>
        clear hc hf hz hb
        obtain ⟨j, hj, rfl, hT, hW⟩ := hrel
        by_cases hlt : j < n
        · obtain ⟨b', off', cap', hv, hb', hc⟩ := (HH.out.keep hW).some_ (by omega)
          simp only [Value.slice.injEq, Option.some.injEq, Addr.mk.injEq, and_true, true_and] at hv
          obtain ⟨⟨rfl, rfl⟩, rfl⟩ := hv
          obtain ⟨p1, p2⟩ := hc j hlt
          have hlt' : (j : Int) < (n : Int) := by omega
          have HW := Lib.hid hW
          by_cases m : f (j * 2 + 1) < l
          · have TT := Lib.hid (show lowTo l f (j + 1) = true by simp [lowTo, hT, m])
            go_wp2
            go_roundw
            case rel => exact ⟨j + 1, by omega, by go_num, TT.out, (by repeat (first | exact Below.refl _ _ | refine bl_alloc ?_ _ | refine bl_drewN ?_ _ | refine bl_trans (by assumption) ?_ | refine bl_set ?_ (by first | omega | (simp; done) | (simp; omega)) _))⟩
            case measure => simp only [intOf]; omega
          · have FF := Lib.hid (lowTo_false (n := n) (i := j) (l := l) (f := f) (by simp [lowTo, m]) hlt)
            go_wp2
            go_ret
            exact ⟨by simp [EO.out, FF.out], (by repeat (first | exact Below.refl _ _ | refine bl_alloc ?_ _ | refine bl_drewN ?_ _ | refine bl_trans (by assumption) ?_ | refine bl_set ?_ (by first | omega | (simp; done) | (simp; omega)) _))⟩
        · obtain rfl : j = n := by omega
          have TT := Lib.hid hT
          go_wp2
          go_ret
          exact ⟨by simp [EO.out, TT.out], hW⟩
set_option maxHeartbeats 800000 in
theorem spec_swGood (l : Int) (v : Value) (n : Nat) (f : Nat → Int) (w : World) (h : PRow w v n f) :
    Calls Try.prog 84 #[.int .i64 l, v] w fun e w' => e = .returned (.bool (okG l n f)) ∧ Below w.heap.size w w' := by
  have hl := h.len_le
  have HH := Lib.hid h
  cases h1 : okM l
  · obtain ⟨a, c, rfl⟩ := h.shape
    clear h
    go_enter Try.func84, Try.ntmps84
    go_wp2_with (go_at_call 82; refine (spec_swLamp _ _).mono ?_; rintro e w' ⟨rfl, rfl⟩; rw [h1])
    go_ret
    exact ⟨by simp [okG, h1], (by repeat (first | exact Below.refl _ _ | refine bl_alloc ?_ _ | refine bl_drewN ?_ _ | refine bl_trans (by assumption) ?_ | refine bl_set ?_ (by first | omega | (simp; done) | (simp; omega)) _))⟩
  · cases h2 : okRow n f
    · obtain ⟨a, c, rfl⟩ := h.shape
      clear h
      go_enter Try.func84, Try.ntmps84
      go_wp2_with (first | (go_at_call 82; refine (spec_swLamp _ _).mono ?_; rintro e w' ⟨rfl, rfl⟩; rw [h1]) | (go_at_call 95; refine (spec_isRow _ _ _ _ HH.out).mono ?_; rintro e w1 ⟨rfl, hb⟩; obtain ⟨hc, hf⟩ := bcell hb; have hz := bsize hb; rw [h2]))
      go_ret
      exact ⟨by simp [okG, h1, h2], (by repeat (first | exact Below.refl _ _ | refine bl_alloc ?_ _ | refine bl_drewN ?_ _ | refine bl_trans (by assumption) ?_ | refine bl_set ?_ (by first | omega | (simp; done) | (simp; omega)) _))⟩
    · have hn : 1 ≤ (n : Int) ∧ (n : Int) ≤ 6 := by
        simp only [okRow, Bool.and_eq_true] at h2
        exact within_true h2.1
      obtain ⟨b, off, cap, rfl, _⟩ := h.some_ (by omega)
      clear h
      have EO := Lib.hid (show okG l n f = lowTo l f n by simp [okG, h1, h2])
      go_enter Try.func84, Try.ntmps84
      go_wp2_with (first | (go_at_call 82; refine (spec_swLamp _ _).mono ?_; rintro e w' ⟨rfl, rfl⟩; rw [h1]) | (go_at_call 95; refine (spec_isRow _ _ _ _ HH.out).mono ?_; rintro e w1 ⟨rfl, hb⟩; obtain ⟨hc, hf⟩ := bcell hb; have hz := bsize hb; rw [h2]))
      go_loopw [17] (fun i wr => ∃ j : Nat, j ≤ n ∧ i = .int .i64 (j : Int) ∧ lowTo l f j = true ∧ Below w.heap.size w wr) (fun i _ => n - (intOf i).toNat)
      case atStart => exact ⟨0, Nat.zero_le _, rfl, rfl, (by repeat (first | exact Below.refl _ _ | refine bl_alloc ?_ _ | refine bl_drewN ?_ _ | refine bl_trans (by assumption) ?_ | refine bl_set ?_ (by first | omega | (simp; done) | (simp; omega)) _))⟩
      case round =>
        clear hc hf hz hb
        obtain ⟨j, hj, rfl, hT, hW⟩ := hrel
        by_cases hlt : j < n
        · obtain ⟨b', off', cap', hv, hb', hc⟩ := (HH.out.keep hW).some_ (by omega)
          simp only [Value.slice.injEq, Option.some.injEq, Addr.mk.injEq, and_true, true_and] at hv
          obtain ⟨⟨rfl, rfl⟩, rfl⟩ := hv
          obtain ⟨p1, p2⟩ := hc j hlt
          have hlt' : (j : Int) < (n : Int) := by omega
          have HW := Lib.hid hW
          by_cases m : f (j * 2 + 1) < l
          · have TT := Lib.hid (show lowTo l f (j + 1) = true by simp [lowTo, hT, m])
            go_wp2
            go_roundw
            case rel => exact ⟨j + 1, by omega, by go_num, TT.out, (by repeat (first | exact Below.refl _ _ | refine bl_alloc ?_ _ | refine bl_drewN ?_ _ | refine bl_trans (by assumption) ?_ | refine bl_set ?_ (by first | omega | (simp; done) | (simp; omega)) _))⟩
            case measure => simp only [intOf]; omega
          · have FF := Lib.hid (lowTo_false (n := n) (i := j) (l := l) (f := f) (by simp [lowTo, m]) hlt)
            go_wp2
            go_ret
            exact ⟨by simp [EO.out, FF.out], (by repeat (first | exact Below.refl _ _ | refine bl_alloc ?_ _ | refine bl_drewN ?_ _ | refine bl_trans (by assumption) ?_ | refine bl_set ?_ (by first | omega | (simp; done) | (simp; omega)) _))⟩
        · obtain rfl : j = n := by omega
          have TT := Lib.hid hT
          go_wp2
          go_ret
          exact ⟨by simp [EO.out, TT.out], hW⟩

/-! ### the longest shadow -/
def lgTo (l : Int) (f : Nat → Int) : Nat → Nat
  | 0 => 0
  | k + 1 => if f (lgTo l f k * 2) * f (lgTo l f k * 2 + 1) * (l - f (k * 2 + 1)) < f (k * 2) * f (k * 2 + 1) * (l - f (lgTo l f k * 2 + 1)) then k else lgTo l f k
theorem lgTo_lt {l : Int} {f : Nat → Int} {n : Nat} (h0 : 0 < n) : ∀ k, k ≤ n → lgTo l f k < n
  | 0, _ => h0
  | k + 1, h => by
    unfold lgTo
    split
    · omega
    · exact lgTo_lt h0 k (by omega)
def LG (l : Int) (n : Nat) (f : Nat → Int) : Int := if okG l n f then ((lgTo l f n : Nat) : Int) else 0
/-! ### the farthest dark place -/
def fdTo (l : Int) (f : Nat → Int) : Nat → Nat
  | 0 => 0
  | k + 1 => if f (fdTo l f k * 2) * (l - f (k * 2 + 1)) < f (k * 2) * (l - f (fdTo l f k * 2 + 1)) then k else fdTo l f k
theorem fdTo_lt {l : Int} {f : Nat → Int} {n : Nat} (h0 : 0 < n) : ∀ k, k ≤ n → fdTo l f k < n
  | 0, _ => h0
  | k + 1, h => by
    unfold fdTo
    split
    · omega
    · exact fdTo_lt h0 k (by omega)
def FD (q : Int → Int → Int) (l : Int) (n : Nat) (f : Nat → Int) : Int := if okG l n f then SE q l (f (fdTo l f n * 2)) (f (fdTo l f n * 2 + 1)) else 0
set_option maxHeartbeats 800000 in
theorem spec_FarthestDark (l : Int) (v : Value) (n : Nat) (f : Nat → Int) (w : World) (h : PRow w v n f) :
    Calls Try.prog 57 #[.int .i64 l, v] w fun e w' => e = .returned (.tuple #[.int .i64 (FD ln l n f), .int .i64 (FD ld l n f), .bool (okG l n f)]) ∧ Below w.heap.size w w' := by
  have hl := h.len_le
  have HH := Lib.hid h
  cases h1 : okG l n f
  · obtain ⟨a, c, rfl⟩ := h.shape
    clear h
    go_enter Try.func57, Try.ntmps57
    go_wp2_with (go_at_call 84; refine (spec_swGood _ _ _ _ _ HH.out).mono ?_; rintro e w1 ⟨rfl, hb⟩; have hz := bsize hb; rw [h1])
    go_ret3
    exact ⟨by simp [FD, h1], (by repeat (first | exact Below.refl _ _ | refine bl_alloc ?_ _ | refine bl_drewN ?_ _ | refine bl_trans (by assumption) ?_ | refine bl_set ?_ (by first | omega | (simp; done) | (simp; omega)) _))⟩
  · obtain ⟨hn, hok⟩ := okG_true h1
    obtain ⟨b, off, cap, rfl, _⟩ := h.some_ (by omega)
    clear h
    have OK := Lib.hid hok
    clear hok
    have E1 := Lib.hid (show FD ln l n f = SE ln l (f (fdTo l f n * 2)) (f (fdTo l f n * 2 + 1)) by simp [FD, h1])
    have E2 := Lib.hid (show FD ld l n f = SE ld l (f (fdTo l f n * 2)) (f (fdTo l f n * 2 + 1)) by simp [FD, h1])
    have G1 := Lib.hid h1
    clear h1
    go_enter Try.func57, Try.ntmps57
    go_wp2_with (go_at_call 84; refine (spec_swGood _ _ _ _ _ HH.out).mono ?_; rintro e w1 ⟨rfl, hb⟩; have hz := bsize hb; rw [G1.out])
    go_loopw [7, 17] (fun t i wr => ∃ j : Nat, j ≤ n ∧ t = .int .i64 ((fdTo l f j : Nat) : Int) ∧ i = .int .i64 (j : Int) ∧ Below w.heap.size w wr) (fun _ i _ => n - (intOf i).toNat)
    case atStart => exact ⟨0, Nat.zero_le _, rfl, rfl, (by repeat (first | exact Below.refl _ _ | refine bl_alloc ?_ _ | refine bl_drewN ?_ _ | refine bl_trans (by assumption) ?_ | refine bl_set ?_ (by first | omega | (simp; done) | (simp; omega)) _))⟩
    case round =>
      clear hz hb
      obtain ⟨j, hj, rfl, rfl, hW⟩ := hrel
      by_cases hlt : j < n
      · obtain ⟨b', off', cap', hv, hb', hc⟩ := (HH.out.keep hW).some_ (by omega)
        simp only [Value.slice.injEq, Option.some.injEq, Addr.mk.injEq, and_true, true_and] at hv
        obtain ⟨⟨rfl, rfl⟩, rfl⟩ := hv
        obtain ⟨p1, p2⟩ := hc j hlt
        have hlt' : (j : Int) < (n : Int) := by omega
        have HW := Lib.hid hW
        obtain ⟨t, ht⟩ : ∃ t, t = fdTo l f j := ⟨_, rfl⟩
        have htn : t < n := by rw [ht]; exact fdTo_lt (by omega) j hj
        rw [← ht]
        obtain ⟨q1, q2⟩ := hc t htn
        have htn' : (t : Int) < (n : Int) := by omega
        obtain ⟨⟨l0, l1⟩, ⟨a0, a1⟩, ⟨b0, b1⟩, b2⟩ := okB_true (OK.out j hlt)
        obtain ⟨_, ⟨c0, c1⟩, ⟨d0, d1⟩, d2⟩ := okB_true (OK.out t htn)
        obtain ⟨f5, f6⟩ := mul_bd2 (a := f (j * 2)) (b := l - f (t * 2 + 1)) (m := 500) (k := 200) (by omega) (by omega) (by omega) (by omega)
        obtain ⟨f7, f8⟩ := mul_bd2 (a := f (t * 2)) (b := l - f (j * 2 + 1)) (m := 500) (k := 200) (by omega) (by omega) (by omega) (by omega)
        by_cases m : f (t * 2) * (l - f (j * 2 + 1)) < f (j * 2) * (l - f (t * 2 + 1))
        · have TT := Lib.hid (show fdTo l f (j + 1) = j by rw [fdTo, ← ht, if_pos m])
          clear ht
          go_wp2
          go_roundw
          case rel => exact ⟨j + 1, by omega, by rw [TT.out], by go_num, (by repeat (first | exact Below.refl _ _ | refine bl_alloc ?_ _ | refine bl_drewN ?_ _ | refine bl_trans (by assumption) ?_ | refine bl_set ?_ (by first | omega | (simp; done) | (simp; omega)) _))⟩
          case measure => simp only [intOf]; omega
        · have TT := Lib.hid (show fdTo l f (j + 1) = t by rw [fdTo, ← ht, if_neg m])
          clear ht
          go_wp2
          go_roundw
          case rel => exact ⟨j + 1, by omega, by rw [TT.out], by go_num, (by repeat (first | exact Below.refl _ _ | refine bl_alloc ?_ _ | refine bl_drewN ?_ _ | refine bl_trans (by assumption) ?_ | refine bl_set ?_ (by first | omega | (simp; done) | (simp; omega)) _))⟩
          case measure => simp only [intOf]; omega
      · obtain rfl : j = n := by omega
        obtain ⟨b', off', cap', hv, hb', hc⟩ := (HH.out.keep hW).some_ (by omega)
        simp only [Value.slice.injEq, Option.some.injEq, Addr.mk.injEq, and_true, true_and] at hv
        obtain ⟨⟨rfl, rfl⟩, rfl⟩ := hv
        have htn : fdTo l f j < j := fdTo_lt (by omega) j (Nat.le_refl _)
        have htn' : ((fdTo l f j : Nat) : Int) < (j : Int) := by omega
        have SO := Lib.hid (OK.out _ htn)
        obtain ⟨q1, q2⟩ := hc _ htn
        clear hc
        have HW := Lib.hid hW
        clear hW
        generalize fdTo l f j = t at *
        go_wp2_with fail
        refine (spec_ShadowEnd _ _ _ _).mono ?_
        rintro e w2 ⟨rfl, hb2⟩
        go_wp2
        go_ret3
        exact ⟨by rw [E1.out, E2.out, SO.out]; rfl, bl_trans hb2 (by repeat (first | exact HW.out | refine bl_alloc ?_ _))⟩
set_option maxHeartbeats 800000 in
theorem impl_FarthestDark (l : Int) (v : Value) (n : Nat) (f : Nat → Int) (w : World) (h : PRow w v n f) :
    Calls Try.prog 59 #[.int .i64 l, v] w fun e w' => e = .returned (.tuple #[.int .i64 (FD ln l n f), .int .i64 (FD ld l n f), .bool (okG l n f)]) ∧ Below w.heap.size w w' := by
  have hl := h.len_le
  have HH := Lib.hid h
  cases h1 : okG l n f
  · obtain ⟨a, c, rfl⟩ := h.shape
    clear h
    go_enter Try.func59, Try.ntmps59
    go_wp2_with (go_at_call 85; refine (impl_ArePoles _ _ _ _ _ HH.out).mono ?_; rintro e w1 ⟨rfl, hb⟩; have hz := bsize hb; rw [h1])
    go_ret3
    exact ⟨by simp [FD, h1], (by repeat (first | exact Below.refl _ _ | refine bl_alloc ?_ _ | refine bl_drewN ?_ _ | refine bl_trans (by assumption) ?_ | refine bl_set ?_ (by first | omega | (simp; done) | (simp; omega)) _))⟩
  · obtain ⟨hn, hok⟩ := okG_true h1
    obtain ⟨b, off, cap, rfl, _⟩ := h.some_ (by omega)
    clear h
    have OK := Lib.hid hok
    clear hok
    have E1 := Lib.hid (show FD ln l n f = SE ln l (f (fdTo l f n * 2)) (f (fdTo l f n * 2 + 1)) by simp [FD, h1])
    have E2 := Lib.hid (show FD ld l n f = SE ld l (f (fdTo l f n * 2)) (f (fdTo l f n * 2 + 1)) by simp [FD, h1])
    have G1 := Lib.hid h1
    clear h1
    go_enter Try.func59, Try.ntmps59
    go_wp2_with fail
    refine (impl_ArePoles _ _ _ _ _ HH.out).mono ?_
    rintro e w1 ⟨rfl, hb⟩
    have hz := bsize hb
    obtain ⟨b', off', cap', hv, hb', hc⟩ := (HH.out.keep hb).some_ (by omega)
    simp only [Value.slice.injEq, Option.some.injEq, Addr.mk.injEq, and_true, true_and] at hv
    obtain ⟨⟨rfl, rfl⟩, rfl⟩ := hv
    obtain ⟨p1, p2⟩ := hc 0 (by omega)
    have hn0 : 0 < (n : Int) := by omega
    simp only [Nat.zero_mul, Nat.add_zero, Nat.zero_add] at p1 p2
    clear hc
    rw [G1.out]
    go_wp2
    have hW1 : Below w.heap.size w (w1.alloc (.cells #[.int .i64 (f 0), .int .i64 (f 1)] 38)) := bl_alloc hb _
    go_loopw [19] (fun i wr => ∃ j : Nat, j ≤ n ∧ i = .int .i64 (j : Int) ∧ wr.cell? ⟨w1.heap.size, 0, none⟩ = some (.int .i64 (f (fdTo l f j * 2))) ∧ wr.cell? ⟨w1.heap.size, 1, none⟩ = some (.int .i64 (f (fdTo l f j * 2 + 1))) ∧ wr.frozen? ⟨w1.heap.size, 0, none⟩ = false ∧ wr.frozen? ⟨w1.heap.size, 1, none⟩ = false ∧ w1.heap.size < wr.heap.size ∧ Below w.heap.size w wr) (fun i _ => n - (intOf i).toNat)
    case atStart => exact ⟨0, Nat.zero_le _, rfl, by simp [fdTo], by simp [fdTo], by simp, by simp, by simp, hW1⟩
    case round =>
      clear hb hW1 p1 p2
      obtain ⟨j, hj, rfl, k1, k2, k3, k4, k5, hW⟩ := hrel
      by_cases hlt : j < n
      · obtain ⟨b', off', cap', hv, hb', hc⟩ := (HH.out.keep hW).some_ (by omega)
        simp only [Value.slice.injEq, Option.some.injEq, Addr.mk.injEq, and_true, true_and] at hv
        obtain ⟨⟨rfl, rfl⟩, rfl⟩ := hv
        obtain ⟨p1, p2⟩ := hc j hlt
        have hlt' : (j : Int) < (n : Int) := by omega
        have HW := Lib.hid hW
        clear hW
        obtain ⟨t, ht⟩ : ∃ t, t = fdTo l f j := ⟨_, rfl⟩
        have htn : t < n := by rw [ht]; exact fdTo_lt (by omega) j hj
        rw [← ht] at k1 k2
        obtain ⟨⟨l0, l1⟩, ⟨a0, a1⟩, ⟨b0, b1⟩, b2⟩ := okB_true (OK.out j hlt)
        obtain ⟨_, ⟨c0, c1⟩, ⟨d0, d1⟩, d2⟩ := okB_true (OK.out t htn)
        clear hc
        obtain ⟨f5, f6⟩ := mul_bd2 (a := f (j * 2)) (b := l - f (t * 2 + 1)) (m := 500) (k := 200) (by omega) (by omega) (by omega) (by omega)
        obtain ⟨f7, f8⟩ := mul_bd2 (a := f (t * 2)) (b := l - f (j * 2 + 1)) (m := 500) (k := 200) (by omega) (by omega) (by omega) (by omega)
        by_cases m : f (t * 2) * (l - f (j * 2 + 1)) < f (j * 2) * (l - f (t * 2 + 1))
        · have TT := Lib.hid (show fdTo l f (j + 1) = j by rw [fdTo, ← ht, if_pos m])
          clear ht
          go_wp2
          go_roundw
          case rel =>
            obtain ⟨s1, s2, s3, s4, s5⟩ := two_set (.cells #[.int .i64 (f (j * 2)), .int .i64 (f (j * 2 + 1))] 38) (.int .i64 (f (j * 2))) (.int .i64 (f (j * 2 + 1))) k1 k2 k3 k4 k5
            exact ⟨j + 1, by omega, by go_num, by rw [TT.out]; exact s1, by rw [TT.out]; exact s2, s3, s4, s5, bl_alloc (bl_set (bl_set HW.out (p := ⟨_, 0, none⟩) hz _) (p := ⟨_, 1, none⟩) hz _) _⟩
          case measure => simp only [intOf]; omega
        · have TT := Lib.hid (show fdTo l f (j + 1) = t by rw [fdTo, ← ht, if_neg m])
          clear ht
          go_wp2
          go_roundw
          case rel =>
            obtain ⟨s1, s2, s3, s4, s5⟩ := two_keep (.cells #[.int .i64 (f (j * 2)), .int .i64 (f (j * 2 + 1))] 38) k1 k2 k3 k4 k5
            exact ⟨j + 1, by omega, by go_num, by rw [TT.out]; exact s1, by rw [TT.out]; exact s2, s3, s4, s5, bl_alloc HW.out _⟩
          case measure => simp only [intOf]; omega
      · obtain rfl : j = n := by omega
        have htn : fdTo l f j < j := fdTo_lt (by omega) j (Nat.le_refl _)
        have SO := Lib.hid (OK.out _ htn)
        have HW := Lib.hid hW
        clear hW
        generalize fdTo l f j = t at *
        go_wp2_with fail
        refine (impl_ShadowEnd _ _ _ _).mono ?_
        rintro e w2 ⟨rfl, hb2⟩
        go_wp2
        go_ret3
        exact ⟨by rw [E1.out, E2.out, SO.out]; rfl, bl_trans hb2 HW.out⟩
end Go.Proofs.Ytchaebebncdknaa
