/- Whether there are poles of a lamp; the longest shadow; the farthest dark place. -/
import Derived.Test.YtahcfjpplkemdaaPL2
namespace Go.Proofs.Ytahcfjpplkemdaa
open Go.RowKit
theorem two_keep {wr : World} {B : Nat} {x y : Value} (o : Obj) (k1 : wr.cell? ⟨B, 0, none⟩ = some x) (k2 : wr.cell? ⟨B, 1, none⟩ = some y) (k3 : wr.frozen? ⟨B, 0, none⟩ = false) (k4 : wr.frozen? ⟨B, 1, none⟩ = false) (k5 : B < wr.heap.size) :
    (wr.alloc o).cell? ⟨B, 0, none⟩ = some x ∧ (wr.alloc o).cell? ⟨B, 1, none⟩ = some y ∧ (wr.alloc o).frozen? ⟨B, 0, none⟩ = false ∧ (wr.alloc o).frozen? ⟨B, 1, none⟩ = false ∧ B < (wr.alloc o).heap.size := by
  obtain ⟨hc, hf⟩ := bcell (bl_alloc (Below.refl wr.heap.size wr) o)
  exact ⟨by rw [hc _ _ k5]; exact k1, by rw [hc _ _ k5]; exact k2, by rw [hf _ _ k5]; exact k3, by rw [hf _ _ k5]; exact k4, by simp; omega⟩
theorem two_set {wr : World} {B : Nat} {x y : Value} (o : Obj) (x' y' : Value) (k1 : wr.cell? ⟨B, 0, none⟩ = some x) (k2 : wr.cell? ⟨B, 1, none⟩ = some y) (k3 : wr.frozen? ⟨B, 0, none⟩ = false) (k4 : wr.frozen? ⟨B, 1, none⟩ = false) (k5 : B < wr.heap.size) :
    (((wr.setCell ⟨B, 0, none⟩ x').setCell ⟨B, 1, none⟩ y').alloc o).cell? ⟨B, 0, none⟩ = some x' ∧ (((wr.setCell ⟨B, 0, none⟩ x').setCell ⟨B, 1, none⟩ y').alloc o).cell? ⟨B, 1, none⟩ = some y' ∧ (((wr.setCell ⟨B, 0, none⟩ x').setCell ⟨B, 1, none⟩ y').alloc o).frozen? ⟨B, 0, none⟩ = false ∧ (((wr.setCell ⟨B, 0, none⟩ x').setCell ⟨B, 1, none⟩ y').alloc o).frozen? ⟨B, 1, none⟩ = false ∧ B < (((wr.setCell ⟨B, 0, none⟩ x').setCell ⟨B, 1, none⟩ y').alloc o).heap.size := by
  have c1 : (wr.setCell ⟨B, 0, none⟩ x').cell? ⟨B, 0, none⟩ = some x' := World.cell?_setCell_same _ _ _ k1
  have c2 : (wr.setCell ⟨B, 0, none⟩ x').cell? ⟨B, 1, none⟩ = some y := by rw [World.cell?_setCell_other _ _ _ _ (by simp)]; exact k2
  have d1 : ((wr.setCell ⟨B, 0, none⟩ x').setCell ⟨B, 1, none⟩ y').cell? ⟨B, 0, none⟩ = some x' := by rw [World.cell?_setCell_other _ _ _ _ (by simp)]; exact c1
  have d2 : ((wr.setCell ⟨B, 0, none⟩ x').setCell ⟨B, 1, none⟩ y').cell? ⟨B, 1, none⟩ = some y' := World.cell?_setCell_same _ _ _ c2
  exact two_keep o d1 d2 (by simpa using k3) (by simpa using k4) (by simpa using k5)
set_option maxHeartbeats 800000 in
theorem impl_ArePoles (l : Int) (v : Value) (n : Nat) (f : Nat → Int) (w : World) (h : PRow w v n f) :
    Calls Try.prog 39 #[.int .i64 l, v] w fun e w' => e = .returned (.bool (okG l n f)) ∧ Below w.heap.size w w' := by
  have hl := h.len_le
  have HH := Lib.hid h
  cases h1 : okM l
  · obtain ⟨a, c, rfl⟩ := h.shape
    clear h
    go_enter Try.func39, Try.ntmps39
    go_wp2_with (go_at_call 67; refine (impl_isLamp _ _).mono ?_; rintro e w' ⟨rfl, rfl⟩; rw [h1])
    go_ret
    exact ⟨by simp [okG, h1], (by repeat (first | exact Below.refl _ _ | refine bl_alloc ?_ _ | refine bl_drewN ?_ _ | refine bl_trans (by assumption) ?_ | refine bl_set ?_ (by first | omega | (simp; done) | (simp; omega)) _))⟩
  · cases h2 : okRow n f
    · obtain ⟨a, c, rfl⟩ := h.shape
      clear h
      go_enter Try.func39, Try.ntmps39
      go_wp2_with (first | (go_at_call 67; refine (impl_isLamp _ _).mono ?_; rintro e w' ⟨rfl, rfl⟩; rw [h1]) | (go_at_call 68; refine (impl_isRow _ _ _ _ HH.out).mono ?_; rintro e w1 ⟨rfl, hb⟩; obtain ⟨hc, hf⟩ := bcell hb; have hz := bsize hb; rw [h2]))
      go_ret
      exact ⟨by simp [okG, h1, h2], (by repeat (first | exact Below.refl _ _ | refine bl_alloc ?_ _ | refine bl_drewN ?_ _ | refine bl_trans (by assumption) ?_ | refine bl_set ?_ (by first | omega | (simp; done) | (simp; omega)) _))⟩
    · have hn : 1 ≤ (n : Int) ∧ (n : Int) ≤ 6 := by
        simp only [okRow, Bool.and_eq_true] at h2
        exact within_true h2.1
      obtain ⟨b, off, cap, rfl, _⟩ := h.some_ (by omega)
      clear h
      have EO := Lib.hid (show okG l n f = lowTo l f n by simp [okG, h1, h2])
      go_enter Try.func39, Try.ntmps39
      go_wp2_with (first | (go_at_call 67; refine (impl_isLamp _ _).mono ?_; rintro e w' ⟨rfl, rfl⟩; rw [h1]) | (go_at_call 68; refine (impl_isRow _ _ _ _ HH.out).mono ?_; rintro e w1 ⟨rfl, hb⟩; obtain ⟨hc, hf⟩ := bcell hb; have hz := bsize hb; rw [h2]))
      go_loopw [17] (fun i wr => ∃ j : Nat, j ≤ n ∧ i = .int .i64 (j : Int) ∧ lowTo l f j = true ∧ Below w.heap.size w wr) (fun i _ => n - (intOf i).toNat)
      case atStart => exact ⟨0, Nat.zero_le _, rfl, rfl, (by repeat (first | exact Below.refl _ _ | refine bl_alloc ?_ _ | refine bl_drewN ?_ _ | refine bl_trans (by assumption) ?_ | refine bl_set ?_ (by first | omega | (simp; done) | (simp; omega)) _))⟩
      case round =>
        clear hc hf hz hb
        obtain ⟨j, hj, rfl, hT, hW⟩ := hrel
        by_cases hlt : j < n
        · obtain ⟨b', off', cap', hv, hb', hc⟩ := (HH.out.keep hW).some_ (by omega)
          simp only [Value.slice.injEq, Option.some.injEq, Addr.mk.injEq, and_true, true_and] at hv
          obtain ⟨⟨rfl, rfl⟩, rfl⟩ := hv
          obtain ⟨p1, p2⟩ := hc j hlt
          have hlt' : (j : Int) < (n : Int) := by omega
          have HW := Lib.hid hW
          by_cases m : f (j * 2 + 1) < l
          · have TT := Lib.hid (show lowTo l f (j + 1) = true by simp [lowTo, hT, m])
            go_wp2
            go_roundw
            case rel => exact ⟨j + 1, by omega, by go_num, TT.out, (by repeat (first | exact Below.refl _ _ | refine bl_alloc ?_ _ | refine bl_drewN ?_ _ | refine bl_trans (by assumption) ?_ | refine bl_set ?_ (by first | omega | (simp; done) | (simp; omega)) _))⟩
            case measure => simp only [intOf]; omega
          · have FF := Lib.hid (lowTo_false (n := n) (i := j) (l := l) (f := f) (by simp [lowTo, m]) hlt)
            go_wp2
            go_ret
            exact ⟨by simp [EO.out, FF.out], (by repeat (first | exact Below.refl _ _ | refine bl_alloc ?_ _ | refine bl_drewN ?_ _ | refine bl_trans (by assumption) ?_ | refine bl_set ?_ (by first | omega | (simp; done) | (simp; omega)) _))⟩
        · obtain rfl : j = n := by omega
          have TT := Lib.hid hT
          go_wp2
          go_ret
          exact ⟨by simp [EO.out, TT.out], hW⟩
set_option maxHeartbeats 800000 in
theorem spec_swGood (l : Int) (v : Value) (n : Nat) (f : Nat → Int) (w : World) (h : PRow w v n f) :
    Calls Try.prog 63 #[.int .i64 l, v] w fun e w' => e = .returned (.bool (okG l n f)) ∧ Below w.heap.size w w' := by
  have hl := h.len_le
  have HH := Lib.hid h
  cases h1 : okM l
  · obtain ⟨a, c, rfl⟩ := h.shape
    clear h
    go_enter Try.func63, Try.ntmps63
    go_wp2_with (go_at_call 81; refine (spec_swLamp _ _).mono ?_; rintro e w' ⟨rfl, rfl⟩; rw [h1])
    go_ret
    exact ⟨by simp [okG, h1], (by repeat (first | exact Below.refl _ _ | refine bl_alloc ?_ _ | refine bl_drewN ?_ _ | refine bl_trans (by assumption) ?_ | refine bl_set ?_ (by first | omega | (simp; done) | (simp; omega)) _))⟩
  · cases h2 : okRow n f
    · obtain ⟨a, c, rfl⟩ := h.shape
      clear h
      go_enter Try.func63, Try.ntmps63
      go_wp2_with (first | (go_at_call 81; refine (spec_swLamp _ _).mono ?_; rintro e w' ⟨rfl, rfl⟩; rw [h1]) | (go_at_call 82; refine (spec_isRow _ _ _ _ HH.out).mono ?_; rintro e w1 ⟨rfl, hb⟩; obtain ⟨hc, hf⟩ := bcell hb; have hz := bsize hb; rw [h2]))
      go_ret
      exact ⟨by simp [okG, h1, h2], (by repeat (first | exact Below.refl _ _ | refine bl_alloc ?_ _ | refine bl_drewN ?_ _ | refine bl_trans (by assumption) ?_ | refine bl_set ?_ (by first | omega | (simp; done) | (simp; omega)) _))⟩
    · have hn : 1 ≤ (n : Int) ∧ (n : Int) ≤ 6 := by
        simp only [okRow, Bool.and_eq_true] at h2
        exact within_true h2.1
      obtain ⟨b, off, cap, rfl, _⟩ := h.some_ (by omega)
      clear h
      have EO := Lib.hid (show okG l n f = lowTo l f n by simp [okG, h1, h2])
      go_enter Try.func63, Try.ntmps63
      go_wp2_with (first | (go_at_call 81; refine (spec_swLamp _ _).mono ?_; rintro e w' ⟨rfl, rfl⟩; rw [h1]) | (go_at_call 82; refine (spec_isRow _ _ _ _ HH.out).mono ?_; rintro e w1 ⟨rfl, hb⟩; obtain ⟨hc, hf⟩ := bcell hb; have hz := bsize hb; rw [h2]))
      go_loopw [17] (fun i wr => ∃ j : Nat, j ≤ n ∧ i = .int .i64 (j : Int) ∧ lowTo l f j = true ∧ Below w.heap.size w wr) (fun i _ => n - (intOf i).toNat)
      case atStart => exact ⟨0, Nat.zero_le _, rfl, rfl, (by repeat (first | exact Below.refl _ _ | refine bl_alloc ?_ _ | refine bl_drewN ?_ _ | refine bl_trans (by assumption) ?_ | refine bl_set ?_ (by first | omega | (simp; done) | (simp; omega)) _))⟩
      case round =>
        clear hc hf hz hb
        obtain ⟨j, hj, rfl, hT, hW⟩ := hrel
        by_cases hlt : j < n
        · obtain ⟨b', off', cap', hv, hb', hc⟩ := (HH.out.keep hW).some_ (by omega)
          simp only [Value.slice.injEq, Option.some.injEq, Addr.mk.injEq, and_true, true_and] at hv
          obtain ⟨⟨rfl, rfl⟩, rfl⟩ := hv
          obtain ⟨p1, p2⟩ := hc j hlt
          have hlt' : (j : Int) < (n : Int) := by omega
          have HW := Lib.hid hW
          by_cases m : f (j * 2 + 1) < l
          · have TT := Lib.hid (show lowTo l f (j + 1) = true by simp [lowTo, hT, m])
            go_wp2
            go_roundw
            case rel => exact ⟨j + 1, by omega, by go_num, TT.out, (by repeat (first | exact Below.refl _ _ | refine bl_alloc ?_ _ | refine bl_drewN ?_ _ | refine bl_trans (by assumption) ?_ | refine bl_set ?_ (by first | omega | (simp; done) | (simp; omega)) _))⟩
            case measure => simp only [intOf]; omega
          · have FF := Lib.hid (lowTo_false (n := n) (i := j) (l := l) (f := f) (by simp [lowTo, m]) hlt)
            go_wp2
            go_ret
            exact ⟨by simp [EO.out, FF.out], (by repeat (first | exact Below.refl _ _ | refine bl_alloc ?_ _ | refine bl_drewN ?_ _ | refine bl_trans (by assumption) ?_ | refine bl_set ?_ (by first | omega | (simp; done) | (simp; omega)) _))⟩
        · obtain rfl : j = n := by omega
          have TT := Lib.hid hT
          go_wp2
          go_ret
          exact ⟨by simp [EO.out, TT.out], hW⟩

/-! ### the longest shadow -/
def lgTo (l : Int) (f : Nat → Int) : Nat → Nat
  | 0 => 0
  | k + 1 => if f (lgTo l f k * 2) * f (lgTo l f k * 2 + 1) * (l - f (k * 2 + 1)) < f (k * 2) * f (k * 2 + 1) * (l - f (lgTo l f k * 2 + 1)) then k else lgTo l f k
theorem lgTo_lt {l : Int} {f : Nat → Int} {n : Nat} (h0 : 0 < n) : ∀ k, k ≤ n → lgTo l f k < n
  | 0, _ => h0
  | k + 1, h => by
    unfold lgTo
    split
    · omega
    · exact lgTo_lt h0 k (by omega)
def LG (l : Int) (n : Nat) (f : Nat → Int) : Int := if okG l n f then ((lgTo l f n : Nat) : Int) else 0
/-! ### the farthest dark place -/
def fdTo (l : Int) (f : Nat → Int) : Nat → Nat
  | 0 => 0
  | k + 1 => if f (fdTo l f k * 2) * (l - f (k * 2 + 1)) < f (k * 2) * (l - f (fdTo l f k * 2 + 1)) then k else fdTo l f k
theorem fdTo_lt {l : Int} {f : Nat → Int} {n : Nat} (h0 : 0 < n) : ∀ k, k ≤ n → fdTo l f k < n
  | 0, _ => h0
  | k + 1, h => by
    unfold fdTo
    split
    · omega
    · exact fdTo_lt h0 k (by omega)
def FD (q : Int → Int → Int) (l : Int) (n : Nat) (f : Nat → Int) : Int := if okG l n f then SE q l (f (fdTo l f n * 2)) (f (fdTo l f n * 2 + 1)) else 0
end Go.Proofs.Ytahcfjpplkemdaa
