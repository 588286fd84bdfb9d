/- Texts of islands. -/
import Derived.Test.YtdlknbdgbmjkpaaDoorT2
import Derived.Test.YtdlknbdgbmjkpaaDoorHT5
namespace Go.Proofs.YtdlknbdgbmjkpaaDoor
open Go.RowKit
set_option linter.unusedVariables false
set_option linter.unusedSimpArgs false
theorem S4i_after {w u v : World} {x0 x1 x2 x3 : Value} (hb : Below u.heap.size u v) (h : u.cell? ⟨w.heap.size, 0, none⟩ = some (x0) ∧ u.cell? ⟨w.heap.size, 1, none⟩ = some (x1) ∧ u.cell? ⟨w.heap.size, 2, none⟩ = some (x2) ∧ u.cell? ⟨w.heap.size, 3, none⟩ = some (x3) ∧ w.heap.size < u.heap.size ∧ Below w.heap.size w u) : v.cell? ⟨w.heap.size, 0, none⟩ = some (x0) ∧ v.cell? ⟨w.heap.size, 1, none⟩ = some (x1) ∧ v.cell? ⟨w.heap.size, 2, none⟩ = some (x2) ∧ v.cell? ⟨w.heap.size, 3, none⟩ = some (x3) ∧ w.heap.size < v.heap.size ∧ Below w.heap.size w v :=
  ⟨cell_after hb h.2.2.2.2.1 h.1, cell_after hb h.2.2.2.2.1 h.2.1, cell_after hb h.2.2.2.2.1 h.2.2.1, cell_after hb h.2.2.2.2.1 h.2.2.2.1, size_after hb h.2.2.2.2.1, bl_trans hb h.2.2.2.2.2⟩
theorem itoa_S4 {w u : World} {x0 x1 x2 x3 : Value} (n : Int) (h0 : -9223372036854775808 ≤ n) (h1 : n ≤ 9223372036854775807) (T : Tab w) (h : u.cell? ⟨w.heap.size, 0, none⟩ = some (x0) ∧ u.cell? ⟨w.heap.size, 1, none⟩ = some (x1) ∧ u.cell? ⟨w.heap.size, 2, none⟩ = some (x2) ∧ u.cell? ⟨w.heap.size, 3, none⟩ = some (x3) ∧ w.heap.size < u.heap.size ∧ Below w.heap.size w u) :
    Calls Tryd.prog 14 #[.int .i64 n] u fun e w' => e = .returned (.string (dec n)) ∧ Below u.heap.size u w' := itoa_any n h0 h1 T h.2.2.2.2.2
def txI (a b c d : Int) : ByteArray := dec a ++ ⟨#[124]⟩ ++ dec b ++ ⟨#[58]⟩ ++ dec c ++ ⟨#[47]⟩ ++ dec d
def TI (a b c d : Int) : ByteArray := if okIs a b c d then txI a b c d else ⟨#[]⟩
theorem txI_two (a b c d : Int) : (dec a ++ ⟨#[124]⟩ ++ dec b) ++ ⟨#[58]⟩ ++ (dec c ++ ⟨#[47]⟩ ++ dec d) = txI a b c d := by
  simp only [txI, ByteArray.append_assoc]
set_option maxHeartbeats 4000000 in
theorem htText_any (a b c d : Int) (h : okIs a b c d = true) (w : World) :
    Calls Tryd.prog 12 #[.agg #[.int .i64 a, .int .i64 b, .int .i64 c, .int .i64 d]] w fun e w' => e = .returned (.string (txI a b c d)) ∧ Below w.heap.size w w' := by
  obtain ⟨⟨a0, a1⟩, ⟨b0, b1⟩, ⟨c0, c1⟩, ⟨d0, d1⟩, cd⟩ := okIs_true h
  have s1 := dec_size a (by omega) (by omega)
  have s2 := dec_size b (by omega) (by omega)
  have s3 := dec_size c (by omega) (by omega)
  have s4 := dec_size d (by omega) (by omega)
  have n1 : ¬ 9223372036854775807 < (dec a).size + 1 := by omega
  have n2 : ¬ 9223372036854775807 < (dec a).size + 1 + (dec b).size := by omega
  have n3 : ¬ 9223372036854775807 < (dec a).size + 1 + (dec b).size + 1 := by omega
  have n4 : ¬ 9223372036854775807 < (dec a).size + 1 + (dec b).size + 1 + (dec c).size := by omega
  have n5 : ¬ 9223372036854775807 < (dec a).size + 1 + (dec b).size + 1 + (dec c).size + 1 := by omega
  have n6 : ¬ 9223372036854775807 < (dec a).size + 1 + (dec b).size + 1 + (dec c).size + 1 + (dec d).size := by omega
  clear s1 s2 s3 s4
  go_enter Tryd.func12, Tryd.ntmps12
  go_wp2
  have hS : (w.alloc (.cells #[.int .i64 a, .int .i64 b, .int .i64 c, .int .i64 d] 26)).cell? ⟨w.heap.size, 0, none⟩ = some (.int .i64 a) ∧ (w.alloc (.cells #[.int .i64 a, .int .i64 b, .int .i64 c, .int .i64 d] 26)).cell? ⟨w.heap.size, 1, none⟩ = some (.int .i64 b) ∧ (w.alloc (.cells #[.int .i64 a, .int .i64 b, .int .i64 c, .int .i64 d] 26)).cell? ⟨w.heap.size, 2, none⟩ = some (.int .i64 c) ∧ (w.alloc (.cells #[.int .i64 a, .int .i64 b, .int .i64 c, .int .i64 d] 26)).cell? ⟨w.heap.size, 3, none⟩ = some (.int .i64 d) ∧ w.heap.size < (w.alloc (.cells #[.int .i64 a, .int .i64 b, .int .i64 c, .int .i64 d] 26)).heap.size ∧ Below w.heap.size w (w.alloc (.cells #[.int .i64 a, .int .i64 b, .int .i64 c, .int .i64 d] 26)) :=
    ⟨by simp, by simp, by simp, by simp, by simp, (Below.refl _ _).alloc (Nat.le_refl _) _⟩
  go_region_held3 (fun w' => w'.cell? ⟨w.heap.size, 0, none⟩ = some (.int .i64 a) ∧ w'.cell? ⟨w.heap.size, 1, none⟩ = some (.int .i64 b) ∧ w'.cell? ⟨w.heap.size, 2, none⟩ = some (.int .i64 c) ∧ w'.cell? ⟨w.heap.size, 3, none⟩ = some (.int .i64 d) ∧ w.heap.size < w'.heap.size ∧ Below w.heap.size w w') (first | exact S4i_after hb2 (by assumption) | exact S4i_after (below_drewN (Below.refl _ _) _) (by assumption) | exact S4i_after (Below.drew (Below.refl _ _)) (by assumption) | assumption) (first | (go_at_call 21; refine (l1Num_any _ (by omega) (by omega) _).mono ?_; rintro e w2 ⟨rfl, hb2⟩))
  go_wp2
  go_ret
  exact ⟨rfl, (by repeat (first | exact Below.refl _ _ | refine bl_alloc ?_ _ | refine bl_drewN ?_ _ | refine bl_trans (by assumption) ?_ | refine bl_set ?_ (by first | omega | (simp; done) | (simp; omega)) _))⟩
set_option maxHeartbeats 1000000 in
theorem spec_IslandText (a b c d : Int) (w : World) :
    Calls Tryd.prog 5 #[.agg #[.int .i64 a, .int .i64 b, .int .i64 c, .int .i64 d]] w fun e w' => e = .returned (.tuple #[.string (TI a b c d), .bool (okIs a b c d)]) ∧ Below w.heap.size w w' := by
  cases h : okIs a b c d
  · have HE := Lib.hid (show TI a b c d = ⟨#[]⟩ by simp [TI, h])
    go_enter Tryd.func5, Tryd.ntmps5
    go_wp2_with fail
    refine (spec_htGood _ _ _ _ _).mono ?_
    rintro e w1 ⟨rfl, hbw1⟩
    obtain ⟨hcw1, hfw1⟩ := bcell hbw1
    have hzw1 := bsize hbw1
    (try simp only [World.size_alloc, World.size_setCell] at hzw1)
    have kw1_0_0 : w1.cell? ⟨w.heap.size, 0, none⟩ = some (.int .i64 a) := by rw [hcw1 _ _ (by first | (simp; done) | omega | (simp; omega))]; first | assumption | (simp [go_sem]; done) | (simp [go_sem]; done) | (simp [go_sem, *]; done)
    have kw1_0_1 : w1.cell? ⟨w.heap.size, 1, none⟩ = some (.int .i64 b) := by rw [hcw1 _ _ (by first | (simp; done) | omega | (simp; omega))]; first | assumption | (simp [go_sem]; done) | (simp [go_sem]; done) | (simp [go_sem, *]; done)
    have kw1_0_2 : w1.cell? ⟨w.heap.size, 2, none⟩ = some (.int .i64 c) := by rw [hcw1 _ _ (by first | (simp; done) | omega | (simp; omega))]; first | assumption | (simp [go_sem]; done) | (simp [go_sem]; done) | (simp [go_sem, *]; done)
    have kw1_0_3 : w1.cell? ⟨w.heap.size, 3, none⟩ = some (.int .i64 d) := by rw [hcw1 _ _ (by first | (simp; done) | omega | (simp; omega))]; first | assumption | (simp [go_sem]; done) | (simp [go_sem]; done) | (simp [go_sem, *]; done)
    have sw1_0 : w.heap.size < w1.heap.size := by first | omega | (simp at *; omega)
    have hBw1 : Below w.heap.size w w1 := (by repeat (first | exact Below.refl _ _ | refine bl_alloc ?_ _ | refine bl_drewN ?_ _ | refine bl_trans (by assumption) ?_ | refine bl_set ?_ (by first | omega | (simp; done) | (simp; omega)) _))
    have HBw1 := Lib.hid hBw1
    clear hBw1 hcw1 hfw1 hbw1
    rw [h]
    go_wp2
    go_ret2
    exact ⟨by rw [HE.out]; rfl, (by repeat (first | exact HBw1.out | exact Below.refl _ _ | refine bl_alloc ?_ _ | refine bl_drewN ?_ _ | refine bl_trans (by assumption) ?_ | refine bl_set ?_ (by first | omega | (simp; done) | (simp; omega)) _))⟩
  have HE := Lib.hid (show TI a b c d = txI a b c d by simp [TI, h])
  have HT := fun W => Lib.hid (htText_any a b c d h W)
  rw [HE.out]
  generalize txI a b c d = X at *
  go_enter Tryd.func5, Tryd.ntmps5
  go_wp2_with fail
  refine (spec_htGood _ _ _ _ _).mono ?_
  rintro e w1 ⟨rfl, hbw1⟩
  obtain ⟨hcw1, hfw1⟩ := bcell hbw1
  have hzw1 := bsize hbw1
  (try simp only [World.size_alloc, World.size_setCell] at hzw1)
  have kw1_0_0 : w1.cell? ⟨w.heap.size, 0, none⟩ = some (.int .i64 a) := by rw [hcw1 _ _ (by first | (simp; done) | omega | (simp; omega))]; first | assumption | (simp [go_sem]; done) | (simp [go_sem]; done) | (simp [go_sem, *]; done)
  have kw1_0_1 : w1.cell? ⟨w.heap.size, 1, none⟩ = some (.int .i64 b) := by rw [hcw1 _ _ (by first | (simp; done) | omega | (simp; omega))]; first | assumption | (simp [go_sem]; done) | (simp [go_sem]; done) | (simp [go_sem, *]; done)
  have kw1_0_2 : w1.cell? ⟨w.heap.size, 2, none⟩ = some (.int .i64 c) := by rw [hcw1 _ _ (by first | (simp; done) | omega | (simp; omega))]; first | assumption | (simp [go_sem]; done) | (simp [go_sem]; done) | (simp [go_sem, *]; done)
  have kw1_0_3 : w1.cell? ⟨w.heap.size, 3, none⟩ = some (.int .i64 d) := by rw [hcw1 _ _ (by first | (simp; done) | omega | (simp; omega))]; first | assumption | (simp [go_sem]; done) | (simp [go_sem]; done) | (simp [go_sem, *]; done)
  have sw1_0 : w.heap.size < w1.heap.size := by first | omega | (simp at *; omega)
  have hBw1 : Below w.heap.size w w1 := (by repeat (first | exact Below.refl _ _ | refine bl_alloc ?_ _ | refine bl_drewN ?_ _ | refine bl_trans (by assumption) ?_ | refine bl_set ?_ (by first | omega | (simp; done) | (simp; omega)) _))
  have HBw1 := Lib.hid hBw1
  clear hBw1 hcw1 hfw1 hbw1
  rw [h]
  go_wp2_with fail
  refine ((HT _).out).mono ?_
  rintro e w4 ⟨rfl, hb4⟩
  go_wp2
  go_ret2
  exact ⟨rfl, (by repeat (first | exact HBw1.out | exact Below.refl _ _ | refine bl_alloc ?_ _ | refine bl_drewN ?_ _ | refine bl_trans (by assumption) ?_ | refine bl_set ?_ (by first | omega | (simp; done) | (simp; omega)) _))⟩
set_option maxHeartbeats 4000000 in
theorem impl_IslandText (a b c d : Int) (w : World) (T : Tab w) :
    Calls Tryd.prog 7 #[.agg #[.int .i64 a, .int .i64 b, .int .i64 c, .int .i64 d]] w fun e w' => e = .returned (.tuple #[.string (TI a b c d), .bool (okIs a b c d)]) ∧ Below w.heap.size w w' := by
  cases h : okIs a b c d
  · have HE := Lib.hid (show TI a b c d = ⟨#[]⟩ by simp [TI, h])
    go_enter Tryd.func7, Tryd.ntmps7
    go_wp2_with fail
    refine (impl_IsIsland _ _ _ _ _).mono ?_
    rintro e w1 ⟨rfl, hbw1⟩
    obtain ⟨hcw1, hfw1⟩ := bcell hbw1
    have hzw1 := bsize hbw1
    (try simp only [World.size_alloc, World.size_setCell] at hzw1)
    have kw1_0_0 : w1.cell? ⟨w.heap.size, 0, none⟩ = some (.int .i64 a) := by rw [hcw1 _ _ (by first | (simp; done) | omega | (simp; omega))]; first | assumption | (simp [go_sem]; done) | (simp [go_sem]; done) | (simp [go_sem, *]; done)
    have kw1_0_1 : w1.cell? ⟨w.heap.size, 1, none⟩ = some (.int .i64 b) := by rw [hcw1 _ _ (by first | (simp; done) | omega | (simp; omega))]; first | assumption | (simp [go_sem]; done) | (simp [go_sem]; done) | (simp [go_sem, *]; done)
    have kw1_0_2 : w1.cell? ⟨w.heap.size, 2, none⟩ = some (.int .i64 c) := by rw [hcw1 _ _ (by first | (simp; done) | omega | (simp; omega))]; first | assumption | (simp [go_sem]; done) | (simp [go_sem]; done) | (simp [go_sem, *]; done)
    have kw1_0_3 : w1.cell? ⟨w.heap.size, 3, none⟩ = some (.int .i64 d) := by rw [hcw1 _ _ (by first | (simp; done) | omega | (simp; omega))]; first | assumption | (simp [go_sem]; done) | (simp [go_sem]; done) | (simp [go_sem, *]; done)
    have sw1_0 : w.heap.size < w1.heap.size := by first | omega | (simp at *; omega)
    have hBw1 : Below w.heap.size w w1 := (by repeat (first | exact Below.refl _ _ | refine bl_alloc ?_ _ | refine bl_drewN ?_ _ | refine bl_trans (by assumption) ?_ | refine bl_set ?_ (by first | omega | (simp; done) | (simp; omega)) _))
    have HBw1 := Lib.hid hBw1
    clear hBw1 hcw1 hfw1 hbw1
    rw [h]
    go_wp2
    go_ret2
    exact ⟨by rw [HE.out]; rfl, (by repeat (first | exact HBw1.out | exact Below.refl _ _ | refine bl_alloc ?_ _ | refine bl_drewN ?_ _ | refine bl_trans (by assumption) ?_ | refine bl_set ?_ (by first | omega | (simp; done) | (simp; omega)) _))⟩
  have HE := Lib.hid (show TI a b c d = (dec a ++ ⟨#[124]⟩ ++ dec b) ++ ⟨#[58]⟩ ++ (dec c ++ ⟨#[47]⟩ ++ dec d) by rw [txI_two]; simp [TI, h])
  obtain ⟨⟨a0, a1⟩, ⟨b0, b1⟩, ⟨c0, c1⟩, ⟨d0, d1⟩, cd⟩ := okIs_true h
  have s1 := dec_size a (by omega) (by omega)
  have s2 := dec_size b (by omega) (by omega)
  have s3 := dec_size c (by omega) (by omega)
  have s4 := dec_size d (by omega) (by omega)
  have n1 : ¬ 9223372036854775807 < (dec a).size + 1 := by omega
  have n2 : ¬ 9223372036854775807 < (dec a).size + 1 + (dec b).size := by omega
  have n3 : ¬ 9223372036854775807 < (dec c).size + 1 := by omega
  have n4 : ¬ 9223372036854775807 < (dec c).size + 1 + (dec d).size := by omega
  have n5 : ¬ 9223372036854775807 < (dec a).size + 1 + (dec b).size + 1 := by omega
  have n6 : ¬ 9223372036854775807 < (dec a).size + 1 + (dec b).size + 1 + ((dec c).size + 1 + (dec d).size) := by omega
  clear s1 s2 s3 s4
  go_enter Tryd.func7, Tryd.ntmps7
  go_wp2_with fail
  refine (impl_IsIsland _ _ _ _ _).mono ?_
  rintro e w1 ⟨rfl, hbw1⟩
  obtain ⟨hcw1, hfw1⟩ := bcell hbw1
  have hzw1 := bsize hbw1
  (try simp only [World.size_alloc, World.size_setCell] at hzw1)
  have kw1_0_0 : w1.cell? ⟨w.heap.size, 0, none⟩ = some (.int .i64 a) := by rw [hcw1 _ _ (by first | (simp; done) | omega | (simp; omega))]; first | assumption | (simp [go_sem]; done) | (simp [go_sem]; done) | (simp [go_sem, *]; done)
  have kw1_0_1 : w1.cell? ⟨w.heap.size, 1, none⟩ = some (.int .i64 b) := by rw [hcw1 _ _ (by first | (simp; done) | omega | (simp; omega))]; first | assumption | (simp [go_sem]; done) | (simp [go_sem]; done) | (simp [go_sem, *]; done)
  have kw1_0_2 : w1.cell? ⟨w.heap.size, 2, none⟩ = some (.int .i64 c) := by rw [hcw1 _ _ (by first | (simp; done) | omega | (simp; omega))]; first | assumption | (simp [go_sem]; done) | (simp [go_sem]; done) | (simp [go_sem, *]; done)
  have kw1_0_3 : w1.cell? ⟨w.heap.size, 3, none⟩ = some (.int .i64 d) := by rw [hcw1 _ _ (by first | (simp; done) | omega | (simp; omega))]; first | assumption | (simp [go_sem]; done) | (simp [go_sem]; done) | (simp [go_sem, *]; done)
  have sw1_0 : w.heap.size < w1.heap.size := by first | omega | (simp at *; omega)
  have hBw1 : Below w.heap.size w w1 := (by repeat (first | exact Below.refl _ _ | refine bl_alloc ?_ _ | refine bl_drewN ?_ _ | refine bl_trans (by assumption) ?_ | refine bl_set ?_ (by first | omega | (simp; done) | (simp; omega)) _))
  have HBw1 := Lib.hid hBw1
  clear hBw1 hcw1 hfw1 hbw1
  rw [h]
  have hS : w1.cell? ⟨w.heap.size, 0, none⟩ = some (.int .i64 a) ∧ w1.cell? ⟨w.heap.size, 1, none⟩ = some (.int .i64 b) ∧ w1.cell? ⟨w.heap.size, 2, none⟩ = some (.int .i64 c) ∧ w1.cell? ⟨w.heap.size, 3, none⟩ = some (.int .i64 d) ∧ w.heap.size < w1.heap.size ∧ Below w.heap.size w w1 := ⟨kw1_0_0, kw1_0_1, kw1_0_2, kw1_0_3, sw1_0, HBw1.out⟩
  go_wp2_with fail
  go_region_held3 (fun w' => w'.cell? ⟨w.heap.size, 0, none⟩ = some (.int .i64 a) ∧ w'.cell? ⟨w.heap.size, 1, none⟩ = some (.int .i64 b) ∧ w'.cell? ⟨w.heap.size, 2, none⟩ = some (.int .i64 c) ∧ w'.cell? ⟨w.heap.size, 3, none⟩ = some (.int .i64 d) ∧ w.heap.size < w'.heap.size ∧ Below w.heap.size w w') (first | exact S4i_after hb2 (by assumption) | exact S4i_after (below_drewN (Below.refl _ _) _) (by assumption) | exact S4i_after (Below.drew (Below.refl _ _)) (by assumption) | assumption) (first | (go_at_call 14; refine (itoa_S4 _ (by omega) (by omega) T (by assumption)).mono ?_; rintro e w2 ⟨rfl, hb2⟩))
  all_goals
    go_wp2_with fail
    go_region_held3 (fun w' => w'.cell? ⟨w.heap.size, 0, none⟩ = some (.int .i64 a) ∧ w'.cell? ⟨w.heap.size, 1, none⟩ = some (.int .i64 b) ∧ w'.cell? ⟨w.heap.size, 2, none⟩ = some (.int .i64 c) ∧ w'.cell? ⟨w.heap.size, 3, none⟩ = some (.int .i64 d) ∧ w.heap.size < w'.heap.size ∧ Below w.heap.size w w') (first | exact S4i_after hb2 (by assumption) | exact S4i_after (below_drewN (Below.refl _ _) _) (by assumption) | exact S4i_after (Below.drew (Below.refl _ _)) (by assumption) | assumption) (first | (go_at_call 14; refine (itoa_S4 _ (by omega) (by omega) T (by assumption)).mono ?_; rintro e w2 ⟨rfl, hb2⟩))
    all_goals
      have hfin := (show ∀ {a b c d e D : Prop}, a ∧ b ∧ c ∧ d ∧ e ∧ D → D from fun h => h.2.2.2.2.2) (by assumption)
      have HF := Lib.hid hfin
      go_wp2
      go_ret2
      exact ⟨by rw [HE.out]; rfl, HF.out⟩
end Go.Proofs.YtdlknbdgbmjkpaaDoor
