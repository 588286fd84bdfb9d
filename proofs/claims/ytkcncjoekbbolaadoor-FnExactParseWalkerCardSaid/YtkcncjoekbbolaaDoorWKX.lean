/- Texts of walkers. -/
import Derived.Test.YtkcncjoekbbolaaDoorT2
import Derived.Test.YtkcncjoekbbolaaDoorWK1
import Derived.Deep.RegionHeld3
namespace Go.Proofs.YtkcncjoekbbolaaDoor
open Go.RowKit
set_option linter.unusedVariables false
set_option linter.unusedSimpArgs false
theorem all5 {a b c d D : Prop} (k : a ∧ b ∧ c ∧ d ∧ D) : a ∧ b ∧ c ∧ d ∧ D := k
theorem last5 {a b c d D : Prop} (k : a ∧ b ∧ c ∧ d ∧ D) : D := k.2.2.2.2
theorem dec_neg (a : Int) (h : a < 0) : dec a = (⟨#[45]⟩ : ByteArray) ++ dec (-a) := by
  unfold dec Lib.itoa
  rw [if_pos h, if_neg (by omega), show a.natAbs = (-a).toNat by omega]
  apply ByteArray.ext
  apply Array.toList_inj.1
  simp
/-- the sign that a walker's text has between place and speed, beside that of the speed itself -/
def sgn (s : Int) : ByteArray := if s < 0 then ⟨#[]⟩ else ⟨#[43]⟩
def txW (h p s : Int) : ByteArray := dec h ++ ⟨#[64]⟩ ++ dec p ++ sgn s ++ dec s
def TW (h p s : Int) : ByteArray := if okWk 200 h p s then txW h p s else ⟨#[]⟩
theorem dec_sm {n : Int} (h0 : 0 ≤ n) (h1 : n ≤ 1000) : (dec n).size ≤ 21 := dec_size n (by omega) (by omega)
set_option maxHeartbeats 400000 in
theorem isWalkerOfSomeLamp_any (h p s : Int) (w : World) :
    Calls Tryd.prog 13 #[.agg #[.int .i64 h, .int .i64 p, .int .i64 s]] w fun e w' => e = .returned (.bool (okWk 200 h p s)) ∧ Below w.heap.size w w' := by
  go_enter Tryd.func13, Tryd.ntmps13
  go_wp2_with fail
  refine (impl_IsWalker _ _ _ _ _).mono ?_
  rintro e w1 ⟨rfl, hbw1⟩
  obtain ⟨hcw1, hfw1⟩ := bcell hbw1
  have hzw1 := bsize hbw1
  (try simp only [World.size_alloc, World.size_setCell] at hzw1)
  have kw1_0_0 : w1.cell? ⟨w.heap.size, 0, none⟩ = some (.int .i64 h) := by rw [hcw1 _ _ (by first | (simp; done) | omega | (simp; omega))]; first | assumption | (simp [go_sem]; done) | (simp [go_sem]; done) | (simp [go_sem, *]; done)
  have kw1_0_1 : w1.cell? ⟨w.heap.size, 1, none⟩ = some (.int .i64 p) := by rw [hcw1 _ _ (by first | (simp; done) | omega | (simp; omega))]; first | assumption | (simp [go_sem]; done) | (simp [go_sem]; done) | (simp [go_sem, *]; done)
  have kw1_0_2 : w1.cell? ⟨w.heap.size, 2, none⟩ = some (.int .i64 s) := by rw [hcw1 _ _ (by first | (simp; done) | omega | (simp; omega))]; first | assumption | (simp [go_sem]; done) | (simp [go_sem]; done) | (simp [go_sem, *]; done)
  have sw1_0 : w.heap.size < w1.heap.size := by first | omega | (simp at *; omega)
  have hBw1 : Below w.heap.size w w1 := (by repeat (first | exact Below.refl _ _ | refine bl_alloc ?_ _ | refine bl_drewN ?_ _ | refine bl_trans (by assumption) ?_ | refine bl_set ?_ (by first | omega | (simp; done) | (simp; omega)) _))
  have HBw1 := Lib.hid hBw1
  clear hBw1 hcw1 hfw1 hbw1
  go_wp2
  go_ret
  exact ⟨rfl, (by repeat (first | exact HBw1.out | exact Below.refl _ _ | refine bl_alloc ?_ _ | refine bl_drewN ?_ _ | refine bl_trans (by assumption) ?_ | refine bl_set ?_ (by first | omega | (simp; done) | (simp; omega)) _))⟩
set_option maxHeartbeats 400000 in
theorem wkAny_any (h p s : Int) (w : World) :
    Calls Tryd.prog 11 #[.agg #[.int .i64 h, .int .i64 p, .int .i64 s]] w fun e w' => e = .returned (.bool (okWk 200 h p s)) ∧ Below w.heap.size w w' := by
  go_enter Tryd.func11, Tryd.ntmps11
  go_wp2_with fail
  refine (spec_wkGood _ _ _ _ _).mono ?_
  rintro e w1 ⟨rfl, hbw1⟩
  obtain ⟨hcw1, hfw1⟩ := bcell hbw1
  have hzw1 := bsize hbw1
  (try simp only [World.size_alloc, World.size_setCell] at hzw1)
  have kw1_0_0 : w1.cell? ⟨w.heap.size, 0, none⟩ = some (.int .i64 h) := by rw [hcw1 _ _ (by first | (simp; done) | omega | (simp; omega))]; first | assumption | (simp [go_sem]; done) | (simp [go_sem]; done) | (simp [go_sem, *]; done)
  have kw1_0_1 : w1.cell? ⟨w.heap.size, 1, none⟩ = some (.int .i64 p) := by rw [hcw1 _ _ (by first | (simp; done) | omega | (simp; omega))]; first | assumption | (simp [go_sem]; done) | (simp [go_sem]; done) | (simp [go_sem, *]; done)
  have kw1_0_2 : w1.cell? ⟨w.heap.size, 2, none⟩ = some (.int .i64 s) := by rw [hcw1 _ _ (by first | (simp; done) | omega | (simp; omega))]; first | assumption | (simp [go_sem]; done) | (simp [go_sem]; done) | (simp [go_sem, *]; done)
  have sw1_0 : w.heap.size < w1.heap.size := by first | omega | (simp at *; omega)
  have hBw1 : Below w.heap.size w w1 := (by repeat (first | exact Below.refl _ _ | refine bl_alloc ?_ _ | refine bl_drewN ?_ _ | refine bl_trans (by assumption) ?_ | refine bl_set ?_ (by first | omega | (simp; done) | (simp; omega)) _))
  have HBw1 := Lib.hid hBw1
  clear hBw1 hcw1 hfw1 hbw1
  go_wp2
  go_ret
  exact ⟨rfl, (by repeat (first | exact HBw1.out | exact Below.refl _ _ | refine bl_alloc ?_ _ | refine bl_drewN ?_ _ | refine bl_trans (by assumption) ?_ | refine bl_set ?_ (by first | omega | (simp; done) | (simp; omega)) _))⟩
set_option maxHeartbeats 2000000 in
theorem wkText_any (h p s : Int) (hk : okWk 200 h p s = true) (w : World) :
    Calls Tryd.prog 12 #[.agg #[.int .i64 h, .int .i64 p, .int .i64 s]] w fun e w' => e = .returned (.string (txW h p s)) ∧ Below w.heap.size w w' := by
  obtain ⟨_, ⟨h1, h2⟩, ⟨p1, p2⟩, s1, s2⟩ := okWk_true hk
  have d1 := dec_sm (n := h) (by omega) (by omega)
  have d2 := dec_sm (n := p) (by omega) (by omega)
  have n1 : ¬ 9223372036854775807 < (dec h).size + 1 := by omega
  have n2 : ¬ 9223372036854775807 < (dec h).size + 1 + (dec p).size := by omega
  have n3 : ¬ 9223372036854775807 < (dec h).size + 1 + (dec p).size + 1 := by omega
  have hS : (w.alloc (.cells #[.int .i64 h, .int .i64 p, .int .i64 s] 26)).cell? ⟨w.heap.size, 0, none⟩ = some (.int .i64 h) ∧ (w.alloc (.cells #[.int .i64 h, .int .i64 p, .int .i64 s] 26)).cell? ⟨w.heap.size, 1, none⟩ = some (.int .i64 p) ∧ (w.alloc (.cells #[.int .i64 h, .int .i64 p, .int .i64 s] 26)).cell? ⟨w.heap.size, 2, none⟩ = some (.int .i64 s) ∧ w.heap.size < (w.alloc (.cells #[.int .i64 h, .int .i64 p, .int .i64 s] 26)).heap.size ∧ Below w.heap.size w (w.alloc (.cells #[.int .i64 h, .int .i64 p, .int .i64 s] 26)) := ⟨by simp, by simp, by simp, by simp, (by repeat (first | exact Below.refl _ _ | refine bl_alloc ?_ _ | refine bl_drewN ?_ _ | refine bl_trans (by assumption) ?_ | refine bl_set ?_ (by first | omega | (simp; done) | (simp; omega)) _))⟩
  by_cases g : s < 0
  · have d3 := dec_sm (n := -s) (by omega) (by omega)
    have n4 : ¬ 9223372036854775807 < (dec h).size + 1 + (dec p).size + 1 + (dec (-s)).size := by omega
    have HX := Lib.hid (show txW h p s = dec h ++ ⟨#[64]⟩ ++ dec p ++ ⟨#[45]⟩ ++ dec (-s) by
      unfold txW sgn
      rw [if_pos g, dec_neg s g]
      apply ByteArray.ext
      apply Array.toList_inj.1
      simp)
    have w1 : IntKind.i64.wrap (-s) = -s := IntWalk.i64_in _ (by omega)
    clear d1 d2 d3
    go_enter Tryd.func12, Tryd.ntmps12
    go_wp2_with fail
    go_region_held3 (fun w' => w'.cell? ⟨w.heap.size, 0, none⟩ = some (.int .i64 h) ∧ w'.cell? ⟨w.heap.size, 1, none⟩ = some (.int .i64 p) ∧ w'.cell? ⟨w.heap.size, 2, none⟩ = some (.int .i64 s) ∧ w.heap.size < w'.heap.size ∧ Below w.heap.size w w') (first | exact S3_after hb2 (by assumption) | exact S3_after (below_drewN (Below.refl _ _) _) (by assumption) | exact S3_after (Below.drew (Below.refl _ _)) (by assumption) | assumption) (first | (go_at_call 20; refine (l1Num_any _ (by omega) (by omega) _).mono ?_; rintro e w2 ⟨rfl, hb2⟩))
    obtain ⟨c0, c1, c2, cz, hfin⟩ := all5 (by assumption)
    go_wp2_with fail
    refine (l1Num_any _ (by omega) (by omega) _).mono ?_
    rintro e w5 ⟨rfl, hb5⟩
    go_wp2
    go_ret
    exact ⟨by rw [HX.out]; rfl, bl_trans hb5 hfin⟩
  · have d3 := dec_sm (n := s) (by omega) (by omega)
    have n4 : ¬ 9223372036854775807 < (dec h).size + 1 + (dec p).size + 1 + (dec s).size := by omega
    have HX := Lib.hid (show txW h p s = dec h ++ ⟨#[64]⟩ ++ dec p ++ ⟨#[43]⟩ ++ dec s by unfold txW sgn; rw [if_neg g])
    clear d1 d2 d3
    go_enter Tryd.func12, Tryd.ntmps12
    go_wp2_with fail
    go_region_held3 (fun w' => w'.cell? ⟨w.heap.size, 0, none⟩ = some (.int .i64 h) ∧ w'.cell? ⟨w.heap.size, 1, none⟩ = some (.int .i64 p) ∧ w'.cell? ⟨w.heap.size, 2, none⟩ = some (.int .i64 s) ∧ w.heap.size < w'.heap.size ∧ Below w.heap.size w w') (first | exact S3_after hb2 (by assumption) | exact S3_after (below_drewN (Below.refl _ _) _) (by assumption) | exact S3_after (Below.drew (Below.refl _ _)) (by assumption) | assumption) (first | (go_at_call 20; refine (l1Num_any _ (by omega) (by omega) _).mono ?_; rintro e w2 ⟨rfl, hb2⟩))
    obtain ⟨c0, c1, c2, cz, hfin⟩ := all5 (by assumption)
    go_wp2_with fail
    refine (l1Num_any _ (by omega) (by omega) _).mono ?_
    rintro e w5 ⟨rfl, hb5⟩
    go_wp2
    go_ret
    exact ⟨by rw [HX.out]; rfl, bl_trans hb5 hfin⟩
set_option maxHeartbeats 1000000 in
theorem spec_WalkerText (h p s : Int) (w : World) :
    Calls Tryd.prog 5 #[.agg #[.int .i64 h, .int .i64 p, .int .i64 s]] w fun e w' => e = .returned (.tuple #[.string (TW h p s), .bool (okWk 200 h p s)]) ∧ Below w.heap.size w w' := by
  cases hk : okWk 200 h p s
  · go_enter Tryd.func5, Tryd.ntmps5
    go_wp2_with fail
    refine (wkAny_any _ _ _ _).mono ?_
    rintro e w1 ⟨rfl, hbw1⟩
    obtain ⟨hcw1, hfw1⟩ := bcell hbw1
    have hzw1 := bsize hbw1
    (try simp only [World.size_alloc, World.size_setCell] at hzw1)
    have kw1_0_0 : w1.cell? ⟨w.heap.size, 0, none⟩ = some (.int .i64 h) := by rw [hcw1 _ _ (by first | (simp; done) | omega | (simp; omega))]; first | assumption | (simp [go_sem]; done) | (simp [go_sem]; done) | (simp [go_sem, *]; done)
    have kw1_0_1 : w1.cell? ⟨w.heap.size, 1, none⟩ = some (.int .i64 p) := by rw [hcw1 _ _ (by first | (simp; done) | omega | (simp; omega))]; first | assumption | (simp [go_sem]; done) | (simp [go_sem]; done) | (simp [go_sem, *]; done)
    have kw1_0_2 : w1.cell? ⟨w.heap.size, 2, none⟩ = some (.int .i64 s) := by rw [hcw1 _ _ (by first | (simp; done) | omega | (simp; omega))]; first | assumption | (simp [go_sem]; done) | (simp [go_sem]; done) | (simp [go_sem, *]; done)
    have sw1_0 : w.heap.size < w1.heap.size := by first | omega | (simp at *; omega)
    have hBw1 : Below w.heap.size w w1 := (by repeat (first | exact Below.refl _ _ | refine bl_alloc ?_ _ | refine bl_drewN ?_ _ | refine bl_trans (by assumption) ?_ | refine bl_set ?_ (by first | omega | (simp; done) | (simp; omega)) _))
    have HBw1 := Lib.hid hBw1
    clear hBw1 hcw1 hfw1 hbw1
    rw [hk]
    go_wp2
    go_ret2
    exact ⟨by simp [TW, hk], (by repeat (first | exact HBw1.out | exact Below.refl _ _ | refine bl_alloc ?_ _ | refine bl_drewN ?_ _ | refine bl_trans (by assumption) ?_ | refine bl_set ?_ (by first | omega | (simp; done) | (simp; omega)) _))⟩
  · go_enter Tryd.func5, Tryd.ntmps5
    go_wp2_with fail
    refine (wkAny_any _ _ _ _).mono ?_
    rintro e w1 ⟨rfl, hbw1⟩
    obtain ⟨hcw1, hfw1⟩ := bcell hbw1
    have hzw1 := bsize hbw1
    (try simp only [World.size_alloc, World.size_setCell] at hzw1)
    have kw1_0_0 : w1.cell? ⟨w.heap.size, 0, none⟩ = some (.int .i64 h) := by rw [hcw1 _ _ (by first | (simp; done) | omega | (simp; omega))]; first | assumption | (simp [go_sem]; done) | (simp [go_sem]; done) | (simp [go_sem, *]; done)
    have kw1_0_1 : w1.cell? ⟨w.heap.size, 1, none⟩ = some (.int .i64 p) := by rw [hcw1 _ _ (by first | (simp; done) | omega | (simp; omega))]; first | assumption | (simp [go_sem]; done) | (simp [go_sem]; done) | (simp [go_sem, *]; done)
    have kw1_0_2 : w1.cell? ⟨w.heap.size, 2, none⟩ = some (.int .i64 s) := by rw [hcw1 _ _ (by first | (simp; done) | omega | (simp; omega))]; first | assumption | (simp [go_sem]; done) | (simp [go_sem]; done) | (simp [go_sem, *]; done)
    have sw1_0 : w.heap.size < w1.heap.size := by first | omega | (simp at *; omega)
    have hBw1 : Below w.heap.size w w1 := (by repeat (first | exact Below.refl _ _ | refine bl_alloc ?_ _ | refine bl_drewN ?_ _ | refine bl_trans (by assumption) ?_ | refine bl_set ?_ (by first | omega | (simp; done) | (simp; omega)) _))
    have HBw1 := Lib.hid hBw1
    clear hBw1 hcw1 hfw1 hbw1
    rw [hk]
    go_wp2_with fail
    refine (wkText_any _ _ _ hk _).mono ?_
    rintro e w2 ⟨rfl, hbw2⟩
    obtain ⟨hcw2, hfw2⟩ := bcell hbw2
    have hzw2 := bsize hbw2
    (try simp only [World.size_alloc, World.size_setCell] at hzw2)
    have hkw2 : Below w1.heap.size w1 w2 := (by repeat (first | exact Below.refl _ _ | refine bl_alloc ?_ _ | refine bl_drewN ?_ _ | refine bl_trans (by assumption) ?_ | refine bl_set ?_ (by first | omega | (simp; done) | (simp; omega)) _))
    have kw2_0_0 : w2.cell? ⟨w.heap.size, 0, none⟩ = some (.int .i64 h) := cell_after hkw2 sw1_0 kw1_0_0
    have kw2_0_1 : w2.cell? ⟨w.heap.size, 1, none⟩ = some (.int .i64 p) := cell_after hkw2 sw1_0 kw1_0_1
    have kw2_0_2 : w2.cell? ⟨w.heap.size, 2, none⟩ = some (.int .i64 s) := cell_after hkw2 sw1_0 kw1_0_2
    have sw2_0 : w.heap.size < w2.heap.size := size_after hkw2 sw1_0
    have hBw2 : Below w.heap.size w w2 := (by repeat (first | exact HBw1.out | exact Below.refl _ _ | refine bl_alloc ?_ _ | refine bl_drewN ?_ _ | refine bl_trans (by assumption) ?_ | refine bl_set ?_ (by first | omega | (simp; done) | (simp; omega)) _))
    have HBw2 := Lib.hid hBw2
    clear hBw2 hcw2 hfw2 hbw2 hkw2 kw1_0_0 kw1_0_1 kw1_0_2 sw1_0
    go_wp2
    go_ret2
    exact ⟨by simp [TW, hk], (by repeat (first | exact HBw2.out | exact Below.refl _ _ | refine bl_alloc ?_ _ | refine bl_drewN ?_ _ | refine bl_trans (by assumption) ?_ | refine bl_set ?_ (by first | omega | (simp; done) | (simp; omega)) _))⟩
set_option maxHeartbeats 4000000 in
theorem impl_WalkerText (h p s : Int) (w : World) (T : Tab w) :
    Calls Tryd.prog 7 #[.agg #[.int .i64 h, .int .i64 p, .int .i64 s]] w fun e w' => e = .returned (.tuple #[.string (TW h p s), .bool (okWk 200 h p s)]) ∧ Below w.heap.size w w' := by
  cases hk : okWk 200 h p s
  · go_enter Tryd.func7, Tryd.ntmps7
    go_wp2_with fail
    refine (isWalkerOfSomeLamp_any _ _ _ _).mono ?_
    rintro e w1 ⟨rfl, hbw1⟩
    obtain ⟨hcw1, hfw1⟩ := bcell hbw1
    have hzw1 := bsize hbw1
    (try simp only [World.size_alloc, World.size_setCell] at hzw1)
    have kw1_0_0 : w1.cell? ⟨w.heap.size, 0, none⟩ = some (.int .i64 h) := by rw [hcw1 _ _ (by first | (simp; done) | omega | (simp; omega))]; first | assumption | (simp [go_sem]; done) | (simp [go_sem]; done) | (simp [go_sem, *]; done)
    have kw1_0_1 : w1.cell? ⟨w.heap.size, 1, none⟩ = some (.int .i64 p) := by rw [hcw1 _ _ (by first | (simp; done) | omega | (simp; omega))]; first | assumption | (simp [go_sem]; done) | (simp [go_sem]; done) | (simp [go_sem, *]; done)
    have kw1_0_2 : w1.cell? ⟨w.heap.size, 2, none⟩ = some (.int .i64 s) := by rw [hcw1 _ _ (by first | (simp; done) | omega | (simp; omega))]; first | assumption | (simp [go_sem]; done) | (simp [go_sem]; done) | (simp [go_sem, *]; done)
    have sw1_0 : w.heap.size < w1.heap.size := by first | omega | (simp at *; omega)
    have hBw1 : Below w.heap.size w w1 := (by repeat (first | exact Below.refl _ _ | refine bl_alloc ?_ _ | refine bl_drewN ?_ _ | refine bl_trans (by assumption) ?_ | refine bl_set ?_ (by first | omega | (simp; done) | (simp; omega)) _))
    have HBw1 := Lib.hid hBw1
    clear hBw1 hcw1 hfw1 hbw1
    rw [hk]
    go_wp2
    go_ret2
    exact ⟨by simp [TW, hk], (by repeat (first | exact HBw1.out | exact Below.refl _ _ | refine bl_alloc ?_ _ | refine bl_drewN ?_ _ | refine bl_trans (by assumption) ?_ | refine bl_set ?_ (by first | omega | (simp; done) | (simp; omega)) _))⟩
  obtain ⟨_, ⟨h1, h2⟩, ⟨p1, p2⟩, s1, s2⟩ := okWk_true hk
  have d1 := dec_size h (by omega) (by omega)
  have d2 := dec_size p (by omega) (by omega)
  have d3 := dec_size s (by omega) (by omega)
  have n1 : ¬ 9223372036854775807 < (dec h).size + 1 := by omega
  have n2 : ¬ 9223372036854775807 < (dec h).size + 1 + (dec p).size := by omega
  have n3 : ¬ 9223372036854775807 < (dec h).size + 1 + (dec p).size + 1 := by omega
  by_cases g : 0 ≤ s
  · have n4 : ¬ 9223372036854775807 < (dec h).size + 1 + (dec p).size + 1 + (dec s).size := by omega
    have HX := Lib.hid (show TW h p s = dec h ++ ⟨#[64]⟩ ++ dec p ++ ⟨#[43]⟩ ++ dec s by unfold TW txW sgn; rw [if_pos hk, if_neg (by omega)])
    clear d1 d2 d3
    go_enter Tryd.func7, Tryd.ntmps7
    go_wp2_with fail
    refine (isWalkerOfSomeLamp_any _ _ _ _).mono ?_
    rintro e w1 ⟨rfl, hbw1⟩
    obtain ⟨hcw1, hfw1⟩ := bcell hbw1
    have hzw1 := bsize hbw1
    (try simp only [World.size_alloc, World.size_setCell] at hzw1)
    have kw1_0_0 : w1.cell? ⟨w.heap.size, 0, none⟩ = some (.int .i64 h) := by rw [hcw1 _ _ (by first | (simp; done) | omega | (simp; omega))]; first | assumption | (simp [go_sem]; done) | (simp [go_sem]; done) | (simp [go_sem, *]; done)
    have kw1_0_1 : w1.cell? ⟨w.heap.size, 1, none⟩ = some (.int .i64 p) := by rw [hcw1 _ _ (by first | (simp; done) | omega | (simp; omega))]; first | assumption | (simp [go_sem]; done) | (simp [go_sem]; done) | (simp [go_sem, *]; done)
    have kw1_0_2 : w1.cell? ⟨w.heap.size, 2, none⟩ = some (.int .i64 s) := by rw [hcw1 _ _ (by first | (simp; done) | omega | (simp; omega))]; first | assumption | (simp [go_sem]; done) | (simp [go_sem]; done) | (simp [go_sem, *]; done)
    have sw1_0 : w.heap.size < w1.heap.size := by first | omega | (simp at *; omega)
    have hBw1 : Below w.heap.size w w1 := (by repeat (first | exact Below.refl _ _ | refine bl_alloc ?_ _ | refine bl_drewN ?_ _ | refine bl_trans (by assumption) ?_ | refine bl_set ?_ (by first | omega | (simp; done) | (simp; omega)) _))
    have HBw1 := Lib.hid hBw1
    clear hBw1 hcw1 hfw1 hbw1
    rw [hk]
    have hS : w1.cell? ⟨w.heap.size, 0, none⟩ = some (.int .i64 h) ∧ w1.cell? ⟨w.heap.size, 1, none⟩ = some (.int .i64 p) ∧ w1.cell? ⟨w.heap.size, 2, none⟩ = some (.int .i64 s) ∧ w.heap.size < w1.heap.size ∧ Below w.heap.size w w1 := ⟨kw1_0_0, kw1_0_1, kw1_0_2, sw1_0, HBw1.out⟩
    go_wp2_with fail
    go_region_held3 (fun w' => w'.cell? ⟨w.heap.size, 0, none⟩ = some (.int .i64 h) ∧ w'.cell? ⟨w.heap.size, 1, none⟩ = some (.int .i64 p) ∧ w'.cell? ⟨w.heap.size, 2, none⟩ = some (.int .i64 s) ∧ w.heap.size < w'.heap.size ∧ Below w.heap.size w w') (first | exact S3_after hb2 (by assumption) | exact S3_after (below_drewN (Below.refl _ _) _) (by assumption) | exact S3_after (Below.drew (Below.refl _ _)) (by assumption) | assumption) (first | (go_at_call 14; refine (itoa_S3 _ (by omega) (by omega) T (by assumption)).mono ?_; rintro e w2 ⟨rfl, hb2⟩))
    have hfin := last5 (by assumption)
    go_wp2
    go_ret2
    exact ⟨by rw [HX.out]; rfl, hfin⟩
  · have n4 : ¬ 9223372036854775807 < (dec h).size + 1 + (dec p).size + (dec s).size := by omega
    have HX := Lib.hid (show TW h p s = dec h ++ ⟨#[64]⟩ ++ dec p ++ ⟨#[]⟩ ++ dec s by unfold TW txW sgn; rw [if_pos hk, if_pos (by omega)])
    clear d1 d2 d3
    go_enter Tryd.func7, Tryd.ntmps7
    go_wp2_with fail
    refine (isWalkerOfSomeLamp_any _ _ _ _).mono ?_
    rintro e w1 ⟨rfl, hbw1⟩
    obtain ⟨hcw1, hfw1⟩ := bcell hbw1
    have hzw1 := bsize hbw1
    (try simp only [World.size_alloc, World.size_setCell] at hzw1)
    have kw1_0_0 : w1.cell? ⟨w.heap.size, 0, none⟩ = some (.int .i64 h) := by rw [hcw1 _ _ (by first | (simp; done) | omega | (simp; omega))]; first | assumption | (simp [go_sem]; done) | (simp [go_sem]; done) | (simp [go_sem, *]; done)
    have kw1_0_1 : w1.cell? ⟨w.heap.size, 1, none⟩ = some (.int .i64 p) := by rw [hcw1 _ _ (by first | (simp; done) | omega | (simp; omega))]; first | assumption | (simp [go_sem]; done) | (simp [go_sem]; done) | (simp [go_sem, *]; done)
    have kw1_0_2 : w1.cell? ⟨w.heap.size, 2, none⟩ = some (.int .i64 s) := by rw [hcw1 _ _ (by first | (simp; done) | omega | (simp; omega))]; first | assumption | (simp [go_sem]; done) | (simp [go_sem]; done) | (simp [go_sem, *]; done)
    have sw1_0 : w.heap.size < w1.heap.size := by first | omega | (simp at *; omega)
    have hBw1 : Below w.heap.size w w1 := (by repeat (first | exact Below.refl _ _ | refine bl_alloc ?_ _ | refine bl_drewN ?_ _ | refine bl_trans (by assumption) ?_ | refine bl_set ?_ (by first | omega | (simp; done) | (simp; omega)) _))
    have HBw1 := Lib.hid hBw1
    clear hBw1 hcw1 hfw1 hbw1
    rw [hk]
    have hS : w1.cell? ⟨w.heap.size, 0, none⟩ = some (.int .i64 h) ∧ w1.cell? ⟨w.heap.size, 1, none⟩ = some (.int .i64 p) ∧ w1.cell? ⟨w.heap.size, 2, none⟩ = some (.int .i64 s) ∧ w.heap.size < w1.heap.size ∧ Below w.heap.size w w1 := ⟨kw1_0_0, kw1_0_1, kw1_0_2, sw1_0, HBw1.out⟩
    go_wp2_with fail
    go_region_held3 (fun w' => w'.cell? ⟨w.heap.size, 0, none⟩ = some (.int .i64 h) ∧ w'.cell? ⟨w.heap.size, 1, none⟩ = some (.int .i64 p) ∧ w'.cell? ⟨w.heap.size, 2, none⟩ = some (.int .i64 s) ∧ w.heap.size < w'.heap.size ∧ Below w.heap.size w w') (first | exact S3_after hb2 (by assumption) | exact S3_after (below_drewN (Below.refl _ _) _) (by assumption) | exact S3_after (Below.drew (Below.refl _ _)) (by assumption) | assumption) (first | (go_at_call 14; refine (itoa_S3 _ (by omega) (by omega) T (by assumption)).mono ?_; rintro e w2 ⟨rfl, hb2⟩))
    have hfin := last5 (by assumption)
    go_wp2
    go_ret2
    exact ⟨by rw [HX.out]; rfl, hfin⟩
end Go.Proofs.YtkcncjoekbbolaaDoor
