/- Contracts of the functions of chapter 6 that are given a measure (a method expression). -/
import Derived.Test.YtfnamahdofigaaaWK1
namespace Go.Proofs.Ytfnamahdofigaaa
open Go.RowKit
set_option linter.unusedVariables false
set_option linter.unusedSimpArgs false
def okAt (l h p s m : Int) : Bool := okWk l h p s && (within m 0 60 && decide (0 ≤ p + s * m))
theorem okAt_true {l h p s m : Int} (e : okAt l h p s m = true) : okWk l h p s = true ∧ (0 ≤ m ∧ m ≤ 60) ∧ 0 ≤ p + s * m ∧ p + s * m ≤ 3500 := by
  simp only [okAt, Bool.and_eq_true, decide_eq_true_eq] at e
  have a := okWk_true e.1
  have b := within_true e.2.1
  have c := mul_abs (a := s) (b := m) (m := 50) (k := 60) (by omega) (by omega) (by omega) (by omega)
  refine ⟨e.1, b, e.2.2, ?_⟩
  omega
abbrev fnv (F : FuncId) : Value := .func (Fn.func F) #[] #[]
def Tells (F : FuncId) (h p s l S T B : Int) : Prop := ∀ W : World, Calls Try.prog F #[.agg #[.int .i64 h, .int .i64 p, .int .i64 s, .int .i64 l]] W fun e w' => e = .returned (.agg #[.int .i64 (S), .int .i64 (T), .int .i64 (B)]) ∧ Below W.heap.size W w'
structure Fits (p s m S T B : Int) : Prop where
  s1 : -100000 ≤ S
  s2 : S ≤ 100000
  t1 : -100000 ≤ T
  t2 : T ≤ 100000
  b1 : 1 ≤ B
  b2 : B ≤ 200
set_option maxHeartbeats 2000000 in
theorem measuredAt_any (l h p s m : Int) (F : FuncId) (hE : ∀ (args : Array Value) (w : World), (callFunc F args).run Try.prog w = .ok (.enter F args) w) (S T B : Int) (hF : okWk l h p s = true → Tells F h p s l S T B) (hB : okWk l h p s = true → Fits p s 0 S T B) (hS : okAt l h p s m = true → 0 ≤ S + T * m) (w : World) :
    Calls Try.prog 48 #[.int .i64 l, .agg #[.int .i64 h, .int .i64 p, .int .i64 s], .int .i64 m, fnv F] w fun e w' => e = .returned (.tuple #[.int .i64 (Z (okAt l h p s m) (ln (S + T * m) B)), .int .i64 (Z (okAt l h p s m) (ld (S + T * m) B)), .bool (okAt l h p s m)]) ∧ Below w.heap.size w w' := by
  have hA : okAt l h p s m = (okWk l h p s && (within m 0 60 && decide (0 ≤ p + s * m))) := rfl
  cases h1 : okWk l h p s
  · have HO := Lib.hid (show okAt l h p s m = false by rw [hA, h1]; rfl)
    clear hA hF hB hS
    go_enter Try.func48, Try.ntmps48
    go_wp2_with fail
    refine (impl_IsWalker _ _ _ _ _).mono ?_
    rintro e w1 ⟨rfl, hbw1⟩
    obtain ⟨hcw1, hfw1⟩ := bcell hbw1
    have hzw1 := bsize hbw1
    (try simp only [World.size_alloc, World.size_setCell] at hzw1)
    have kw1_0_0 : w1.cell? ⟨w.heap.size, 0, none⟩ = some (.int .i64 h) := by rw [hcw1 _ _ (by first | (simp; done) | omega | (simp; omega))]; first | assumption | (simp [go_sem]; done) | (simp [go_sem]; done) | (simp [go_sem, *]; done)
    have kw1_0_1 : w1.cell? ⟨w.heap.size, 1, none⟩ = some (.int .i64 p) := by rw [hcw1 _ _ (by first | (simp; done) | omega | (simp; omega))]; first | assumption | (simp [go_sem]; done) | (simp [go_sem]; done) | (simp [go_sem, *]; done)
    have kw1_0_2 : w1.cell? ⟨w.heap.size, 2, none⟩ = some (.int .i64 s) := by rw [hcw1 _ _ (by first | (simp; done) | omega | (simp; omega))]; first | assumption | (simp [go_sem]; done) | (simp [go_sem]; done) | (simp [go_sem, *]; done)
    have sw1_0 : w.heap.size < w1.heap.size := by first | omega | (simp at *; omega)
    have hBw1 : Below w.heap.size w w1 := (by repeat (first | exact Below.refl _ _ | refine bl_alloc ?_ _ | refine bl_drewN ?_ _ | refine bl_trans (by assumption) ?_ | refine bl_set ?_ (by first | omega | (simp; done) | (simp; omega)) _))
    have HBw1 := Lib.hid hBw1
    clear hBw1 hcw1 hfw1 hbw1
    rw [h1]
    go_wp2
    go_ret3
    exact ⟨by simp [HO.out, Z], (by repeat (first | exact HBw1.out | exact Below.refl _ _ | refine bl_alloc ?_ _ | refine bl_drewN ?_ _ | refine bl_trans (by assumption) ?_ | refine bl_set ?_ (by first | omega | (simp; done) | (simp; omega)) _))⟩
  cases h2 : within m 0 60
  · have HO := Lib.hid (show okAt l h p s m = false by rw [hA, h1, h2]; rfl)
    clear hA hF hB hS
    go_enter Try.func48, Try.ntmps48
    go_wp2_with fail
    refine (impl_IsWalker _ _ _ _ _).mono ?_
    rintro e w1 ⟨rfl, hbw1⟩
    obtain ⟨hcw1, hfw1⟩ := bcell hbw1
    have hzw1 := bsize hbw1
    (try simp only [World.size_alloc, World.size_setCell] at hzw1)
    have kw1_0_0 : w1.cell? ⟨w.heap.size, 0, none⟩ = some (.int .i64 h) := by rw [hcw1 _ _ (by first | (simp; done) | omega | (simp; omega))]; first | assumption | (simp [go_sem]; done) | (simp [go_sem]; done) | (simp [go_sem, *]; done)
    have kw1_0_1 : w1.cell? ⟨w.heap.size, 1, none⟩ = some (.int .i64 p) := by rw [hcw1 _ _ (by first | (simp; done) | omega | (simp; omega))]; first | assumption | (simp [go_sem]; done) | (simp [go_sem]; done) | (simp [go_sem, *]; done)
    have kw1_0_2 : w1.cell? ⟨w.heap.size, 2, none⟩ = some (.int .i64 s) := by rw [hcw1 _ _ (by first | (simp; done) | omega | (simp; omega))]; first | assumption | (simp [go_sem]; done) | (simp [go_sem]; done) | (simp [go_sem, *]; done)
    have sw1_0 : w.heap.size < w1.heap.size := by first | omega | (simp at *; omega)
    have hBw1 : Below w.heap.size w w1 := (by repeat (first | exact Below.refl _ _ | refine bl_alloc ?_ _ | refine bl_drewN ?_ _ | refine bl_trans (by assumption) ?_ | refine bl_set ?_ (by first | omega | (simp; done) | (simp; omega)) _))
    have HBw1 := Lib.hid hBw1
    clear hBw1 hcw1 hfw1 hbw1
    rw [h1]
    go_wp2_with fail
    refine (isWithin_any _ _ _ _).mono ?_
    rintro e w' ⟨rfl, rfl⟩
    rw [h2]
    go_wp2
    go_ret3
    exact ⟨by simp [HO.out, Z], (by repeat (first | exact HBw1.out | exact Below.refl _ _ | refine bl_alloc ?_ _ | refine bl_drewN ?_ _ | refine bl_trans (by assumption) ?_ | refine bl_set ?_ (by first | omega | (simp; done) | (simp; omega)) _))⟩
  obtain ⟨⟨l1, l2⟩, ⟨g1, g2⟩, ⟨p1, p2⟩, s1, s2⟩ := okWk_true h1
  obtain ⟨m1, m2⟩ := within_true h2
  obtain ⟨f1, f2⟩ := mul_abs (a := s) (b := m) (m := 50) (k := 60) (by omega) (by omega) (by omega) (by omega)
  by_cases h3 : p + s * m < 0
  · have HO := Lib.hid (show okAt l h p s m = false by rw [hA, h1, h2, decide_eq_false (by omega)]; rfl)
    clear hA hF hB hS
    go_enter Try.func48, Try.ntmps48
    go_wp2_with fail
    refine (impl_IsWalker _ _ _ _ _).mono ?_
    rintro e w1 ⟨rfl, hbw1⟩
    obtain ⟨hcw1, hfw1⟩ := bcell hbw1
    have hzw1 := bsize hbw1
    (try simp only [World.size_alloc, World.size_setCell] at hzw1)
    have kw1_0_0 : w1.cell? ⟨w.heap.size, 0, none⟩ = some (.int .i64 h) := by rw [hcw1 _ _ (by first | (simp; done) | omega | (simp; omega))]; first | assumption | (simp [go_sem]; done) | (simp [go_sem]; done) | (simp [go_sem, *]; done)
    have kw1_0_1 : w1.cell? ⟨w.heap.size, 1, none⟩ = some (.int .i64 p) := by rw [hcw1 _ _ (by first | (simp; done) | omega | (simp; omega))]; first | assumption | (simp [go_sem]; done) | (simp [go_sem]; done) | (simp [go_sem, *]; done)
    have kw1_0_2 : w1.cell? ⟨w.heap.size, 2, none⟩ = some (.int .i64 s) := by rw [hcw1 _ _ (by first | (simp; done) | omega | (simp; omega))]; first | assumption | (simp [go_sem]; done) | (simp [go_sem]; done) | (simp [go_sem, *]; done)
    have sw1_0 : w.heap.size < w1.heap.size := by first | omega | (simp at *; omega)
    have hBw1 : Below w.heap.size w w1 := (by repeat (first | exact Below.refl _ _ | refine bl_alloc ?_ _ | refine bl_drewN ?_ _ | refine bl_trans (by assumption) ?_ | refine bl_set ?_ (by first | omega | (simp; done) | (simp; omega)) _))
    have HBw1 := Lib.hid hBw1
    clear hBw1 hcw1 hfw1 hbw1
    rw [h1]
    go_wp2_with fail
    refine (isWithin_any _ _ _ _).mono ?_
    rintro e w' ⟨rfl, rfl⟩
    rw [h2]
    go_wp2
    go_ret3
    exact ⟨by simp [HO.out, Z], (by repeat (first | exact HBw1.out | exact Below.refl _ _ | refine bl_alloc ?_ _ | refine bl_drewN ?_ _ | refine bl_trans (by assumption) ?_ | refine bl_set ?_ (by first | omega | (simp; done) | (simp; omega)) _))⟩
  · have ho : okAt l h p s m = true := by rw [hA, h1, h2, decide_eq_true (by omega)]; rfl
    have HO := Lib.hid ho
    have HT := fun W => Lib.hid (hF h1 W)
    obtain ⟨c1, c2, c3, c4, c5, c6⟩ := hB h1
    have q := hS ho
    obtain ⟨f3, f4⟩ := mul_abs (a := T) (b := m) (m := 100000) (k := 60) (by omega) (by omega) (by omega) (by omega)
    have HL := fun W => Lib.hid (toldFraction_any (S + T * m) B (by omega) (by omega) (by omega) (by omega) W)
    clear hA hF hB hS ho
    go_enter Try.func48, Try.ntmps48
    go_wp2_with fail
    refine (impl_IsWalker _ _ _ _ _).mono ?_
    rintro e w1 ⟨rfl, hbw1⟩
    obtain ⟨hcw1, hfw1⟩ := bcell hbw1
    have hzw1 := bsize hbw1
    (try simp only [World.size_alloc, World.size_setCell] at hzw1)
    have kw1_0_0 : w1.cell? ⟨w.heap.size, 0, none⟩ = some (.int .i64 h) := by rw [hcw1 _ _ (by first | (simp; done) | omega | (simp; omega))]; first | assumption | (simp [go_sem]; done) | (simp [go_sem]; done) | (simp [go_sem, *]; done)
    have kw1_0_1 : w1.cell? ⟨w.heap.size, 1, none⟩ = some (.int .i64 p) := by rw [hcw1 _ _ (by first | (simp; done) | omega | (simp; omega))]; first | assumption | (simp [go_sem]; done) | (simp [go_sem]; done) | (simp [go_sem, *]; done)
    have kw1_0_2 : w1.cell? ⟨w.heap.size, 2, none⟩ = some (.int .i64 s) := by rw [hcw1 _ _ (by first | (simp; done) | omega | (simp; omega))]; first | assumption | (simp [go_sem]; done) | (simp [go_sem]; done) | (simp [go_sem, *]; done)
    have sw1_0 : w.heap.size < w1.heap.size := by first | omega | (simp at *; omega)
    have hBw1 : Below w.heap.size w w1 := (by repeat (first | exact Below.refl _ _ | refine bl_alloc ?_ _ | refine bl_drewN ?_ _ | refine bl_trans (by assumption) ?_ | refine bl_set ?_ (by first | omega | (simp; done) | (simp; omega)) _))
    have HBw1 := Lib.hid hBw1
    clear hBw1 hcw1 hfw1 hbw1
    rw [h1]
    go_wp2_with fail
    refine (isWithin_any _ _ _ _).mono ?_
    rintro e w' ⟨rfl, rfl⟩
    rw [h2]
    go_wp2_with fail
    refine ((HT _).out).mono ?_
    rintro e w2 ⟨rfl, hbw2⟩
    obtain ⟨hcw2, hfw2⟩ := bcell hbw2
    have hzw2 := bsize hbw2
    (try simp only [World.size_alloc, World.size_setCell] at hzw2)
    have hkw2 : Below w1.heap.size w1 w2 := (by repeat (first | exact Below.refl _ _ | refine bl_alloc ?_ _ | refine bl_drewN ?_ _ | refine bl_trans (by assumption) ?_ | refine bl_set ?_ (by first | omega | (simp; done) | (simp; omega)) _))
    have kw2_0_0 : w2.cell? ⟨w.heap.size, 0, none⟩ = some (.int .i64 h) := cell_after hkw2 sw1_0 kw1_0_0
    have kw2_0_1 : w2.cell? ⟨w.heap.size, 1, none⟩ = some (.int .i64 p) := cell_after hkw2 sw1_0 kw1_0_1
    have kw2_0_2 : w2.cell? ⟨w.heap.size, 2, none⟩ = some (.int .i64 s) := cell_after hkw2 sw1_0 kw1_0_2
    have sw2_0 : w.heap.size < w2.heap.size := size_after hkw2 sw1_0
    have hBw2 : Below w.heap.size w w2 := (by repeat (first | exact HBw1.out | exact Below.refl _ _ | refine bl_alloc ?_ _ | refine bl_drewN ?_ _ | refine bl_trans (by assumption) ?_ | refine bl_set ?_ (by first | omega | (simp; done) | (simp; omega)) _))
    have HBw2 := Lib.hid hBw2
    clear hBw2 hcw2 hfw2 hbw2 hkw2 kw1_0_0 kw1_0_1 kw1_0_2 sw1_0
    go_wp2_with fail
    refine ((HL _).out).mono ?_
    rintro e w' ⟨rfl, nn, rfl⟩
    go_wp2
    go_ret3
    exact ⟨by rw [HO.out]; rfl, (by repeat (first | exact HBw2.out | exact Below.refl _ _ | refine bl_alloc ?_ _ | refine bl_drewN ?_ _ | refine bl_trans (by assumption) ?_ | refine bl_set ?_ (by first | omega | (simp; done) | (simp; omega)) _))⟩
def okMn (l h p s x m g : Int) : Bool := okWk l h p s && (within x 0 500 && eqOk m g)
end Go.Proofs.Ytfnamahdofigaaa
