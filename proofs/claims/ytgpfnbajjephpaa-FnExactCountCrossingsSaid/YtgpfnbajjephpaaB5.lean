/- Corners and periods of beams. -/
import Derived.Test.YtgpfnbajjephpaaB4
namespace Go.Proofs.Ytgpfnbajjephpaa
open Go.RowKit Beam Go.Deep
set_option linter.unusedVariables false
set_option linter.unusedSimpArgs false
def wayI (a b x y : Int) (r u : Bool) : BWay := wayAt a.toNat b.toNat x.toNat y.toNat r u
/-- how many beams the program keeps -/
def wlen (t : BWay) : Nat := if t.e then t.M + 1 else t.M
theorem wayI_args {a b x y : Int} (h : okB a b x y = true) (r u : Bool) : (wayI a b x y r u).ok ∧ a = ((wayI a b x y r u).W : Nat) ∧ b = ((wayI a b x y r u).H : Nat) ∧ x = ((wayI a b x y r u).x 0 : Nat) ∧ y = ((wayI a b x y r u).y 0 : Nat) ∧
    turnI (wayI a b x y r u).W ((wayI a b x y r u).x 0) r = (wayI a b x y r u).r 0 ∧ turnI (wayI a b x y r u).H ((wayI a b x y r u).y 0) u = (wayI a b x y r u).u 0 := by
  have hk := wayAt_ok h r u
  obtain ⟨⟨⟨t1, t2⟩, t3, t4⟩, ⟨t5, t6⟩, t7, t8⟩ := okB_true h
  obtain ⟨e1, e2, e3, e4⟩ := wayAt_0 (W := a.toNat) (H := b.toNat) (x := x.toNat) (y := y.toNat) r u (by omega) (by omega) (by omega) (by omega)
  refine ⟨hk, ?_, ?_, ?_, ?_, ?_, ?_⟩
  · show a = (a.toNat : Int); omega
  · show b = (b.toNat : Int); omega
  · unfold wayI; rw [e1]; omega
  · unfold wayI; rw [e2]; omega
  · unfold wayI; rw [e1]; exact e3
  · unfold wayI; rw [e2]; exact e4
theorem row_end {w : World} {B C : Nat} {v a b : Value} {n : Nat} {t : BWay} {o : Obj} (h : BRow w C v n t) (hB : B + 1 + 1 < C) : BRow ((((w.setCell ⟨B + 1 + 1, 0, none⟩ a).setCell ⟨B + 1 + 1, 1, none⟩ b).alloc o).drew) B v n t := by
  have h1 : BRow ((w.setCell ⟨B + 1 + 1, 0, none⟩ a).setCell ⟨B + 1 + 1, 1, none⟩ b) C v n t := h.far fun g hg _ => by
    rw [blk_setCell_other _ _ _ _ (by simp only []; omega), blk_setCell_other _ _ _ _ (by simp only []; omega)]
  exact BRow.mono (BRow.keep h1 (Below.drew ((Below.refl _ _).alloc (Nat.le_refl _) o))) (by omega)
theorem wlen_pos {t : BWay} (h : t.ok) : 1 ≤ wlen t ∧ wlen t ≤ 7201 := by
  have := (t.M_spec h).1
  have := M_le h
  unfold wlen; split <;> omega
theorem wayOf_of {a b x y : Int} (h : okB a b x y = true) (r u : Bool) (w : World) :
    Calls Try.prog 20 #[.agg #[.int .i64 a, .int .i64 b], .agg #[.int .i64 x, .int .i64 y, .bool r, .bool u]] w fun e w' => ∃ g cap, e = .returned (.agg #[.slice (some ⟨g, 0, none⟩) (wlen (wayI a b x y r u)) cap, .bool (wayI a b x y r u).e]) ∧ BRow w' w.heap.size (.slice (some ⟨g, 0, none⟩) (wlen (wayI a b x y r u)) cap) (wlen (wayI a b x y r u)) (wayI a b x y r u) ∧ Below w.heap.size w w' := by
  obtain ⟨hk, h1, h2, h3, h4, h5, h6⟩ := wayI_args h r u
  generalize wayI a b x y r u = t at *
  rw [h1, h2, h3, h4]
  refine (wayOf_any t hk r u h5 h6 w).mono ?_
  rintro e w' ⟨v, rfl, hR, hb⟩
  obtain ⟨g, cap, rfl, -⟩ := BRow.open_ (n := wlen t) hR (wlen_pos hk).1
  exact ⟨g, cap, rfl, hR, hb⟩
theorem beRun_of {a b x y : Int} (h : okB a b x y = true) (r u : Bool) (s : Int) (h0 : 0 ≤ s) (h1 : s ≤ 1000000) (w : World) :
    Calls Try.prog 16 #[.agg #[.int .i64 a, .int .i64 b], .agg #[.int .i64 x, .int .i64 y, .bool r, .bool u], .int .i64 s] w fun e w' => ∃ g cap, e = .returned (.tuple #[.slice (some ⟨g, 0, none⟩) ((wayI a b x y r u).made s.toNat + 1) cap, .string (sidesS (wayI a b x y r u) ((wayI a b x y r u).made s.toNat))]) ∧ BRow w' w.heap.size (.slice (some ⟨g, 0, none⟩) ((wayI a b x y r u).made s.toNat + 1) cap) ((wayI a b x y r u).made s.toNat + 1) (wayI a b x y r u) ∧ Below w.heap.size w w' := by
  obtain ⟨hk, e1, e2, e3, e4, h5, h6⟩ := wayI_args h r u
  generalize wayI a b x y r u = t at *
  obtain ⟨n, rfl⟩ := Int.eq_ofNat_of_zero_le h0
  rw [e1, e2, e3, e4]
  refine (beRun_any t hk r u h5 h6 n (by omega) w).mono ?_
  rintro e w' ⟨v, rfl, hR, hb⟩
  obtain ⟨g, cap, rfl, -⟩ := hR.open_ (by omega)
  exact ⟨g, cap, rfl, hR, hb⟩
set_option maxRecDepth 100000 in
set_option maxHeartbeats 800000 in
theorem wtc_no (a b x y : Int) (r u : Bool) (h : okB a b x y = false) (w : World) :
    Calls Try.prog 11 #[.agg #[.int .i64 a, .int .i64 b], .agg #[.int .i64 x, .int .i64 y, .bool r, .bool u]] w fun e w' => e = .returned (.tuple #[.agg #[.slice none 0 0, .bool false], .bool false]) ∧ Below w.heap.size w w' := by
  go_enter Try.func11, Try.ntmps11
  go_wp2_with fail
  refine (impl_IsBeam _ _ _ _ _ _ _).mono ?_
  rintro e w1 ⟨rfl, hb1⟩
  obtain ⟨hc1, hf1⟩ := bcell hb1
  have hz1 := bsize hb1
  (try simp only [World.size_alloc, World.size_setCell] at hz1)
  have k1_0_0 : w1.cell? ⟨w.heap.size, 0, none⟩ = some (.int .i64 a) := by rw [hc1 _ _ (by first | (simp; done) | omega | (simp; omega))]; first | assumption | (simp [go_sem]; done) | (simp [go_sem]; done) | (simp [go_sem, *]; done)
  have k1_0_1 : w1.cell? ⟨w.heap.size, 1, none⟩ = some (.int .i64 b) := by rw [hc1 _ _ (by first | (simp; done) | omega | (simp; omega))]; first | assumption | (simp [go_sem]; done) | (simp [go_sem]; done) | (simp [go_sem, *]; done)
  have s1_0 : w.heap.size < w1.heap.size := by omega
  have k1_1_0 : w1.cell? ⟨w.heap.size + 1, 0, none⟩ = some (.int .i64 x) := by rw [hc1 _ _ (by first | (simp; done) | omega | (simp; omega))]; first | assumption | (simp [go_sem]; done) | (simp [go_sem]; done) | (simp [go_sem, *]; done)
  have k1_1_1 : w1.cell? ⟨w.heap.size + 1, 1, none⟩ = some (.int .i64 y) := by rw [hc1 _ _ (by first | (simp; done) | omega | (simp; omega))]; first | assumption | (simp [go_sem]; done) | (simp [go_sem]; done) | (simp [go_sem, *]; done)
  have k1_1_2 : w1.cell? ⟨w.heap.size + 1, 2, none⟩ = some (.bool r) := by rw [hc1 _ _ (by first | (simp; done) | omega | (simp; omega))]; first | assumption | (simp [go_sem]; done) | (simp [go_sem]; done) | (simp [go_sem, *]; done)
  have k1_1_3 : w1.cell? ⟨w.heap.size + 1, 3, none⟩ = some (.bool u) := by rw [hc1 _ _ (by first | (simp; done) | omega | (simp; omega))]; first | assumption | (simp [go_sem]; done) | (simp [go_sem]; done) | (simp [go_sem, *]; done)
  have s1_1 : w.heap.size + 1 < w1.heap.size := by omega
  have k1_2_0 : w1.cell? ⟨w.heap.size + 1 + 1, 0, none⟩ = some (.slice none 0 0) := by rw [hc1 _ _ (by first | (simp; done) | omega | (simp; omega))]; first | assumption | (simp [go_sem]; done) | (simp [go_sem]; done) | (simp [go_sem, *]; done)
  have f1_2_0 : w1.frozen? ⟨w.heap.size + 1 + 1, 0, none⟩ = false := by rw [hf1 _ _ (by first | (simp; done) | omega | (simp; omega))]; first | assumption | (simp [go_sem]; done) | (simp [go_sem]; done) | (simp [go_sem, *]; done)
  have k1_2_1 : w1.cell? ⟨w.heap.size + 1 + 1, 1, none⟩ = some (.bool false) := by rw [hc1 _ _ (by first | (simp; done) | omega | (simp; omega))]; first | assumption | (simp [go_sem]; done) | (simp [go_sem]; done) | (simp [go_sem, *]; done)
  have f1_2_1 : w1.frozen? ⟨w.heap.size + 1 + 1, 1, none⟩ = false := by rw [hf1 _ _ (by first | (simp; done) | omega | (simp; omega))]; first | assumption | (simp [go_sem]; done) | (simp [go_sem]; done) | (simp [go_sem, *]; done)
  have s1_2 : w.heap.size + 1 + 1 < w1.heap.size := by omega
  have hB1 : Below w.heap.size w w1 := (by repeat (first | exact Below.refl _ _ | refine bl_alloc ?_ _ | refine bl_drewN ?_ _ | refine bl_trans (by assumption) ?_ | refine bl_set ?_ (by first | omega | (simp; done) | (simp; omega)) _))
  have HB1 := Lib.hid hB1
  clear hB1 hc1 hf1 hb1
  rw [h]
  go_wp2
  refine bodyPost_ret (v := .tuple #[.agg #[.slice none 0 0, .bool false], .bool false]) (by simp [results, Try.results11, go_sem, *]) rfl ⟨rfl, ?_⟩
  repeat (first | exact HB1.out | refine bl_set ?_ (by first | omega | (simp; done) | (simp; omega)) _)
set_option maxRecDepth 100000 in
set_option maxHeartbeats 800000 in
theorem wtc_yes (a b x y : Int) (r u : Bool) (h : okB a b x y = true) (w : World) :
    Calls Try.prog 11 #[.agg #[.int .i64 a, .int .i64 b], .agg #[.int .i64 x, .int .i64 y, .bool r, .bool u]] w fun e w' => ∃ g cap, e = .returned (.tuple #[.agg #[.slice (some ⟨g, 0, none⟩) (wlen (wayI a b x y r u)) cap, .bool (wayI a b x y r u).e], .bool (wayI a b x y r u).e]) ∧ BRow w' w.heap.size (.slice (some ⟨g, 0, none⟩) (wlen (wayI a b x y r u)) cap) (wlen (wayI a b x y r u)) (wayI a b x y r u) ∧ Below w.heap.size w w' := by
  have HW := fun W => Lib.hid (wayOf_of h r u W)
  generalize wlen (wayI a b x y r u) = n at *
  generalize (wayI a b x y r u) = t at *
  generalize t.e = e0 at *
  go_enter Try.func11, Try.ntmps11
  go_wp2_with fail
  refine (impl_IsBeam _ _ _ _ _ _ _).mono ?_
  rintro e w1 ⟨rfl, hb1⟩
  obtain ⟨hc1, hf1⟩ := bcell hb1
  have hz1 := bsize hb1
  (try simp only [World.size_alloc, World.size_setCell] at hz1)
  have k1_0_0 : w1.cell? ⟨w.heap.size, 0, none⟩ = some (.int .i64 a) := by rw [hc1 _ _ (by first | (simp; done) | omega | (simp; omega))]; first | assumption | (simp [go_sem]; done) | (simp [go_sem]; done) | (simp [go_sem, *]; done)
  have k1_0_1 : w1.cell? ⟨w.heap.size, 1, none⟩ = some (.int .i64 b) := by rw [hc1 _ _ (by first | (simp; done) | omega | (simp; omega))]; first | assumption | (simp [go_sem]; done) | (simp [go_sem]; done) | (simp [go_sem, *]; done)
  have s1_0 : w.heap.size < w1.heap.size := by omega
  have k1_1_0 : w1.cell? ⟨w.heap.size + 1, 0, none⟩ = some (.int .i64 x) := by rw [hc1 _ _ (by first | (simp; done) | omega | (simp; omega))]; first | assumption | (simp [go_sem]; done) | (simp [go_sem]; done) | (simp [go_sem, *]; done)
  have k1_1_1 : w1.cell? ⟨w.heap.size + 1, 1, none⟩ = some (.int .i64 y) := by rw [hc1 _ _ (by first | (simp; done) | omega | (simp; omega))]; first | assumption | (simp [go_sem]; done) | (simp [go_sem]; done) | (simp [go_sem, *]; done)
  have k1_1_2 : w1.cell? ⟨w.heap.size + 1, 2, none⟩ = some (.bool r) := by rw [hc1 _ _ (by first | (simp; done) | omega | (simp; omega))]; first | assumption | (simp [go_sem]; done) | (simp [go_sem]; done) | (simp [go_sem, *]; done)
  have k1_1_3 : w1.cell? ⟨w.heap.size + 1, 3, none⟩ = some (.bool u) := by rw [hc1 _ _ (by first | (simp; done) | omega | (simp; omega))]; first | assumption | (simp [go_sem]; done) | (simp [go_sem]; done) | (simp [go_sem, *]; done)
  have s1_1 : w.heap.size + 1 < w1.heap.size := by omega
  have k1_2_0 : w1.cell? ⟨w.heap.size + 1 + 1, 0, none⟩ = some (.slice none 0 0) := by rw [hc1 _ _ (by first | (simp; done) | omega | (simp; omega))]; first | assumption | (simp [go_sem]; done) | (simp [go_sem]; done) | (simp [go_sem, *]; done)
  have f1_2_0 : w1.frozen? ⟨w.heap.size + 1 + 1, 0, none⟩ = false := by rw [hf1 _ _ (by first | (simp; done) | omega | (simp; omega))]; first | assumption | (simp [go_sem]; done) | (simp [go_sem]; done) | (simp [go_sem, *]; done)
  have k1_2_1 : w1.cell? ⟨w.heap.size + 1 + 1, 1, none⟩ = some (.bool false) := by rw [hc1 _ _ (by first | (simp; done) | omega | (simp; omega))]; first | assumption | (simp [go_sem]; done) | (simp [go_sem]; done) | (simp [go_sem, *]; done)
  have f1_2_1 : w1.frozen? ⟨w.heap.size + 1 + 1, 1, none⟩ = false := by rw [hf1 _ _ (by first | (simp; done) | omega | (simp; omega))]; first | assumption | (simp [go_sem]; done) | (simp [go_sem]; done) | (simp [go_sem, *]; done)
  have s1_2 : w.heap.size + 1 + 1 < w1.heap.size := by omega
  have hB1 : Below w.heap.size w w1 := (by repeat (first | exact Below.refl _ _ | refine bl_alloc ?_ _ | refine bl_drewN ?_ _ | refine bl_trans (by assumption) ?_ | refine bl_set ?_ (by first | omega | (simp; done) | (simp; omega)) _))
  have HB1 := Lib.hid hB1
  clear hB1 hc1 hf1 hb1
  rw [h]
  have HBp2 := HB1
  go_wp2_with fail
  refine ((HW _).out).mono ?_
  rintro e w2 ⟨g, cap, rfl, hR, hb2⟩
  obtain ⟨hc2, hf2⟩ := bcell hb2
  have hz2 := bsize hb2
  (try simp only [World.size_alloc, World.size_setCell] at hz2)
  have k2_0_0 : w2.cell? ⟨w.heap.size, 0, none⟩ = some (.int .i64 a) := by rw [hc2 _ _ (by first | (simp; done) | omega | (simp; omega))]; first | assumption | (simp [go_sem]; done) | (simp [go_sem, k1_0_0, k1_0_1, k1_1_0, k1_1_1, k1_1_2, k1_1_3, k1_2_0, f1_2_0, k1_2_1, f1_2_1]; done) | (simp [go_sem, *]; done)
  have k2_0_1 : w2.cell? ⟨w.heap.size, 1, none⟩ = some (.int .i64 b) := by rw [hc2 _ _ (by first | (simp; done) | omega | (simp; omega))]; first | assumption | (simp [go_sem]; done) | (simp [go_sem, k1_0_0, k1_0_1, k1_1_0, k1_1_1, k1_1_2, k1_1_3, k1_2_0, f1_2_0, k1_2_1, f1_2_1]; done) | (simp [go_sem, *]; done)
  have s2_0 : w.heap.size < w2.heap.size := by omega
  have k2_1_0 : w2.cell? ⟨w.heap.size + 1, 0, none⟩ = some (.int .i64 x) := by rw [hc2 _ _ (by first | (simp; done) | omega | (simp; omega))]; first | assumption | (simp [go_sem]; done) | (simp [go_sem, k1_0_0, k1_0_1, k1_1_0, k1_1_1, k1_1_2, k1_1_3, k1_2_0, f1_2_0, k1_2_1, f1_2_1]; done) | (simp [go_sem, *]; done)
  have k2_1_1 : w2.cell? ⟨w.heap.size + 1, 1, none⟩ = some (.int .i64 y) := by rw [hc2 _ _ (by first | (simp; done) | omega | (simp; omega))]; first | assumption | (simp [go_sem]; done) | (simp [go_sem, k1_0_0, k1_0_1, k1_1_0, k1_1_1, k1_1_2, k1_1_3, k1_2_0, f1_2_0, k1_2_1, f1_2_1]; done) | (simp [go_sem, *]; done)
  have k2_1_2 : w2.cell? ⟨w.heap.size + 1, 2, none⟩ = some (.bool r) := by rw [hc2 _ _ (by first | (simp; done) | omega | (simp; omega))]; first | assumption | (simp [go_sem]; done) | (simp [go_sem, k1_0_0, k1_0_1, k1_1_0, k1_1_1, k1_1_2, k1_1_3, k1_2_0, f1_2_0, k1_2_1, f1_2_1]; done) | (simp [go_sem, *]; done)
  have k2_1_3 : w2.cell? ⟨w.heap.size + 1, 3, none⟩ = some (.bool u) := by rw [hc2 _ _ (by first | (simp; done) | omega | (simp; omega))]; first | assumption | (simp [go_sem]; done) | (simp [go_sem, k1_0_0, k1_0_1, k1_1_0, k1_1_1, k1_1_2, k1_1_3, k1_2_0, f1_2_0, k1_2_1, f1_2_1]; done) | (simp [go_sem, *]; done)
  have s2_1 : w.heap.size + 1 < w2.heap.size := by omega
  have k2_2_0 : w2.cell? ⟨w.heap.size + 1 + 1, 0, none⟩ = some (.slice none 0 0) := by rw [hc2 _ _ (by first | (simp; done) | omega | (simp; omega))]; first | assumption | (simp [go_sem]; done) | (simp [go_sem, k1_0_0, k1_0_1, k1_1_0, k1_1_1, k1_1_2, k1_1_3, k1_2_0, f1_2_0, k1_2_1, f1_2_1]; done) | (simp [go_sem, *]; done)
  have f2_2_0 : w2.frozen? ⟨w.heap.size + 1 + 1, 0, none⟩ = false := by rw [hf2 _ _ (by first | (simp; done) | omega | (simp; omega))]; first | assumption | (simp [go_sem]; done) | (simp [go_sem, k1_0_0, k1_0_1, k1_1_0, k1_1_1, k1_1_2, k1_1_3, k1_2_0, f1_2_0, k1_2_1, f1_2_1]; done) | (simp [go_sem, *]; done)
  have k2_2_1 : w2.cell? ⟨w.heap.size + 1 + 1, 1, none⟩ = some (.bool false) := by rw [hc2 _ _ (by first | (simp; done) | omega | (simp; omega))]; first | assumption | (simp [go_sem]; done) | (simp [go_sem, k1_0_0, k1_0_1, k1_1_0, k1_1_1, k1_1_2, k1_1_3, k1_2_0, f1_2_0, k1_2_1, f1_2_1]; done) | (simp [go_sem, *]; done)
  have f2_2_1 : w2.frozen? ⟨w.heap.size + 1 + 1, 1, none⟩ = false := by rw [hf2 _ _ (by first | (simp; done) | omega | (simp; omega))]; first | assumption | (simp [go_sem]; done) | (simp [go_sem, k1_0_0, k1_0_1, k1_1_0, k1_1_1, k1_1_2, k1_1_3, k1_2_0, f1_2_0, k1_2_1, f1_2_1]; done) | (simp [go_sem, *]; done)
  have s2_2 : w.heap.size + 1 + 1 < w2.heap.size := by omega
  have hB2 : Below w.heap.size w w2 := (by repeat (first | exact Below.refl _ _ | exact HB1.out | refine bl_alloc ?_ _ | refine bl_drewN ?_ _ | refine bl_trans (by assumption) ?_ | refine bl_set ?_ (by first | omega | (simp; done) | (simp; omega)) _))
  have HB2 := Lib.hid hB2
  clear hB2 hc2 hf2 hb2 k1_0_0 k1_0_1 k1_1_0 k1_1_1 k1_1_2 k1_1_3 k1_2_0 f1_2_0 k1_2_1 f1_2_1
  have HR := Lib.hid hR
  clear hR
  go_wp2_with fail
  go_region
  go_wp2
  refine bodyPost_ret (v := .tuple #[.agg #[.slice (some ⟨g, 0, none⟩) n cap, .bool e0], .bool e0]) (by simp [results, Try.results11, go_sem, *]) rfl ⟨_, _, rfl, ?_, ?_⟩
  · exact row_end HR.out (by omega)
  · repeat (first | exact HB2.out | refine bl_alloc ?_ _ | refine bl_set ?_ (by first | omega | (simp; done) | (simp; omega)) _ | refine Below.drew ?_)
end Go.Proofs.Ytgpfnbajjephpaa
