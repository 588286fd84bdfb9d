/- BeamAfter: by the program and by the model alike. -/
import Derived.Test.YtnhjiipkekblfaaB9
namespace Go.Proofs.Ytnhjiipkekblfaa
open Go.RowKit Beam Go.Deep
set_option linter.unusedVariables false
set_option linter.unusedSimpArgs false
def bX (a b x y : Int) (r u : Bool) (s : Int) : Int := if okBS 100000 a b x y s then ((wayI a b x y r u).x ((wayI a b x y r u).made s.toNat) : Nat) else 0
def bY (a b x y : Int) (r u : Bool) (s : Int) : Int := if okBS 100000 a b x y s then ((wayI a b x y r u).y ((wayI a b x y r u).made s.toNat) : Nat) else 0
def bR (a b x y : Int) (r u : Bool) (s : Int) : Bool := okBS 100000 a b x y s && (wayI a b x y r u).kr ((wayI a b x y r u).made s.toNat)
def bU (a b x y : Int) (r u : Bool) (s : Int) : Bool := okBS 100000 a b x y s && (wayI a b x y r u).ku ((wayI a b x y r u).made s.toNat)
theorem sbt {a b a' b' : Int} {c d c' d' e e' : Bool} (h1 : a = a') (h2 : b = b') (h3 : c = c') (h4 : d = d') (h5 : e = e') : Ending.returned (.tuple #[.agg #[.int .i64 a, .int .i64 b, .bool c, .bool d], .bool e]) = .returned (.tuple #[.agg #[.int .i64 a', .int .i64 b', .bool c', .bool d'], .bool e']) := by rw [h1, h2, h3, h4, h5]
set_option maxRecDepth 100000 in
set_option maxHeartbeats 2000000 in
theorem impl_BeamAfter (a b x y : Int) (r u : Bool) (s : Int) (w : World) :
    Calls Try.prog 28 #[.agg #[.int .i64 a, .int .i64 b], .agg #[.int .i64 x, .int .i64 y, .bool r, .bool u], .int .i64 s] w fun e w' => e = .returned (.tuple #[.agg #[.int .i64 (bX a b x y r u s), .int .i64 (bY a b x y r u s), .bool (bR a b x y r u s), .bool (bU a b x y r u s)], .bool (okBS 100000 a b x y s)]) ∧ Below w.heap.size w w' := by
  cases h : okB a b x y
  · have HO := Lib.hid (show okBS 100000 a b x y s = false by simp [okBS, h])
    go_enter Try.func28, Try.ntmps28
    go_wp2_with fail
    refine (impl_IsBeam _ _ _ _ _ _ _).mono ?_
    rintro e w1 ⟨rfl, hb1⟩
    obtain ⟨hc1, hf1⟩ := bcell hb1
    have hz1 := bsize hb1
    (try simp only [World.size_alloc, World.size_setCell] at hz1)
    have k1_0_0 : w1.cell? ⟨w.heap.size, 0, none⟩ = some (.int .i64 a) := by rw [hc1 _ _ (by first | (simp; done) | omega | (simp; omega))]; first | assumption | (simp [go_sem]; done) | (simp [go_sem]; done) | (simp [go_sem, *]; done)
    have k1_0_1 : w1.cell? ⟨w.heap.size, 1, none⟩ = some (.int .i64 b) := by rw [hc1 _ _ (by first | (simp; done) | omega | (simp; omega))]; first | assumption | (simp [go_sem]; done) | (simp [go_sem]; done) | (simp [go_sem, *]; done)
    have s1_0 : w.heap.size < w1.heap.size := by omega
    have k1_1_0 : w1.cell? ⟨w.heap.size + 1, 0, none⟩ = some (.int .i64 x) := by rw [hc1 _ _ (by first | (simp; done) | omega | (simp; omega))]; first | assumption | (simp [go_sem]; done) | (simp [go_sem]; done) | (simp [go_sem, *]; done)
    have k1_1_1 : w1.cell? ⟨w.heap.size + 1, 1, none⟩ = some (.int .i64 y) := by rw [hc1 _ _ (by first | (simp; done) | omega | (simp; omega))]; first | assumption | (simp [go_sem]; done) | (simp [go_sem]; done) | (simp [go_sem, *]; done)
    have k1_1_2 : w1.cell? ⟨w.heap.size + 1, 2, none⟩ = some (.bool r) := by rw [hc1 _ _ (by first | (simp; done) | omega | (simp; omega))]; first | assumption | (simp [go_sem]; done) | (simp [go_sem]; done) | (simp [go_sem, *]; done)
    have k1_1_3 : w1.cell? ⟨w.heap.size + 1, 3, none⟩ = some (.bool u) := by rw [hc1 _ _ (by first | (simp; done) | omega | (simp; omega))]; first | assumption | (simp [go_sem]; done) | (simp [go_sem]; done) | (simp [go_sem, *]; done)
    have s1_1 : w.heap.size + 1 < w1.heap.size := by omega
    have k1_2_0 : w1.cell? ⟨w.heap.size + 1 + 1, 0, none⟩ = some (.int .i64 0) := by rw [hc1 _ _ (by first | (simp; done) | omega | (simp; omega))]; first | assumption | (simp [go_sem]; done) | (simp [go_sem]; done) | (simp [go_sem, *]; done)
    have f1_2_0 : w1.frozen? ⟨w.heap.size + 1 + 1, 0, none⟩ = false := by rw [hf1 _ _ (by first | (simp; done) | omega | (simp; omega))]; first | assumption | (simp [go_sem]; done) | (simp [go_sem]; done) | (simp [go_sem, *]; done)
    have k1_2_1 : w1.cell? ⟨w.heap.size + 1 + 1, 1, none⟩ = some (.int .i64 0) := by rw [hc1 _ _ (by first | (simp; done) | omega | (simp; omega))]; first | assumption | (simp [go_sem]; done) | (simp [go_sem]; done) | (simp [go_sem, *]; done)
    have f1_2_1 : w1.frozen? ⟨w.heap.size + 1 + 1, 1, none⟩ = false := by rw [hf1 _ _ (by first | (simp; done) | omega | (simp; omega))]; first | assumption | (simp [go_sem]; done) | (simp [go_sem]; done) | (simp [go_sem, *]; done)
    have k1_2_2 : w1.cell? ⟨w.heap.size + 1 + 1, 2, none⟩ = some (.bool false) := by rw [hc1 _ _ (by first | (simp; done) | omega | (simp; omega))]; first | assumption | (simp [go_sem]; done) | (simp [go_sem]; done) | (simp [go_sem, *]; done)
    have f1_2_2 : w1.frozen? ⟨w.heap.size + 1 + 1, 2, none⟩ = false := by rw [hf1 _ _ (by first | (simp; done) | omega | (simp; omega))]; first | assumption | (simp [go_sem]; done) | (simp [go_sem]; done) | (simp [go_sem, *]; done)
    have k1_2_3 : w1.cell? ⟨w.heap.size + 1 + 1, 3, none⟩ = some (.bool false) := by rw [hc1 _ _ (by first | (simp; done) | omega | (simp; omega))]; first | assumption | (simp [go_sem]; done) | (simp [go_sem]; done) | (simp [go_sem, *]; done)
    have f1_2_3 : w1.frozen? ⟨w.heap.size + 1 + 1, 3, none⟩ = false := by rw [hf1 _ _ (by first | (simp; done) | omega | (simp; omega))]; first | assumption | (simp [go_sem]; done) | (simp [go_sem]; done) | (simp [go_sem, *]; done)
    have s1_2 : w.heap.size + 1 + 1 < w1.heap.size := by omega
    have hB1 : Below w.heap.size w w1 := (by repeat (first | exact Below.refl _ _ | refine bl_alloc ?_ _ | refine bl_drewN ?_ _ | refine bl_trans (by assumption) ?_ | refine bl_set ?_ (by first | omega | (simp; done) | (simp; omega)) _))
    have HB1 := Lib.hid hB1
    clear hB1 hc1 hf1 hb1
    rw [h]
    go_wp2
    refine bodyPost_ret (v := .tuple #[.agg #[.int .i64 0, .int .i64 0, .bool false, .bool false], .bool false]) (by simp [results, Try.results28, go_sem, *]) rfl ⟨sbt (by simp [bX, HO.out]) (by simp [bY, HO.out]) (by simp [bR, HO.out]) (by simp [bU, HO.out]) HO.out.symm, ?_⟩
    repeat (first | exact HB1.out | refine bl_alloc ?_ _ | refine Below.drew ?_ | refine bl_drewN ?_ _ | refine bl_set ?_ (by first | omega | (simp; done) | (simp; omega)) _)
  cases h1 : within s 0 100000
  · have HO := Lib.hid (show okBS 100000 a b x y s = false by simp [okBS, h, h1])
    go_enter Try.func28, Try.ntmps28
    go_wp2_with fail
    refine (impl_IsBeam _ _ _ _ _ _ _).mono ?_
    rintro e w1 ⟨rfl, hb1⟩
    obtain ⟨hc1, hf1⟩ := bcell hb1
    have hz1 := bsize hb1
    (try simp only [World.size_alloc, World.size_setCell] at hz1)
    have k1_0_0 : w1.cell? ⟨w.heap.size, 0, none⟩ = some (.int .i64 a) := by rw [hc1 _ _ (by first | (simp; done) | omega | (simp; omega))]; first | assumption | (simp [go_sem]; done) | (simp [go_sem]; done) | (simp [go_sem, *]; done)
    have k1_0_1 : w1.cell? ⟨w.heap.size, 1, none⟩ = some (.int .i64 b) := by rw [hc1 _ _ (by first | (simp; done) | omega | (simp; omega))]; first | assumption | (simp [go_sem]; done) | (simp [go_sem]; done) | (simp [go_sem, *]; done)
    have s1_0 : w.heap.size < w1.heap.size := by omega
    have k1_1_0 : w1.cell? ⟨w.heap.size + 1, 0, none⟩ = some (.int .i64 x) := by rw [hc1 _ _ (by first | (simp; done) | omega | (simp; omega))]; first | assumption | (simp [go_sem]; done) | (simp [go_sem]; done) | (simp [go_sem, *]; done)
    have k1_1_1 : w1.cell? ⟨w.heap.size + 1, 1, none⟩ = some (.int .i64 y) := by rw [hc1 _ _ (by first | (simp; done) | omega | (simp; omega))]; first | assumption | (simp [go_sem]; done) | (simp [go_sem]; done) | (simp [go_sem, *]; done)
    have k1_1_2 : w1.cell? ⟨w.heap.size + 1, 2, none⟩ = some (.bool r) := by rw [hc1 _ _ (by first | (simp; done) | omega | (simp; omega))]; first | assumption | (simp [go_sem]; done) | (simp [go_sem]; done) | (simp [go_sem, *]; done)
    have k1_1_3 : w1.cell? ⟨w.heap.size + 1, 3, none⟩ = some (.bool u) := by rw [hc1 _ _ (by first | (simp; done) | omega | (simp; omega))]; first | assumption | (simp [go_sem]; done) | (simp [go_sem]; done) | (simp [go_sem, *]; done)
    have s1_1 : w.heap.size + 1 < w1.heap.size := by omega
    have k1_2_0 : w1.cell? ⟨w.heap.size + 1 + 1, 0, none⟩ = some (.int .i64 0) := by rw [hc1 _ _ (by first | (simp; done) | omega | (simp; omega))]; first | assumption | (simp [go_sem]; done) | (simp [go_sem]; done) | (simp [go_sem, *]; done)
    have f1_2_0 : w1.frozen? ⟨w.heap.size + 1 + 1, 0, none⟩ = false := by rw [hf1 _ _ (by first | (simp; done) | omega | (simp; omega))]; first | assumption | (simp [go_sem]; done) | (simp [go_sem]; done) | (simp [go_sem, *]; done)
    have k1_2_1 : w1.cell? ⟨w.heap.size + 1 + 1, 1, none⟩ = some (.int .i64 0) := by rw [hc1 _ _ (by first | (simp; done) | omega | (simp; omega))]; first | assumption | (simp [go_sem]; done) | (simp [go_sem]; done) | (simp [go_sem, *]; done)
    have f1_2_1 : w1.frozen? ⟨w.heap.size + 1 + 1, 1, none⟩ = false := by rw [hf1 _ _ (by first | (simp; done) | omega | (simp; omega))]; first | assumption | (simp [go_sem]; done) | (simp [go_sem]; done) | (simp [go_sem, *]; done)
    have k1_2_2 : w1.cell? ⟨w.heap.size + 1 + 1, 2, none⟩ = some (.bool false) := by rw [hc1 _ _ (by first | (simp; done) | omega | (simp; omega))]; first | assumption | (simp [go_sem]; done) | (simp [go_sem]; done) | (simp [go_sem, *]; done)
    have f1_2_2 : w1.frozen? ⟨w.heap.size + 1 + 1, 2, none⟩ = false := by rw [hf1 _ _ (by first | (simp; done) | omega | (simp; omega))]; first | assumption | (simp [go_sem]; done) | (simp [go_sem]; done) | (simp [go_sem, *]; done)
    have k1_2_3 : w1.cell? ⟨w.heap.size + 1 + 1, 3, none⟩ = some (.bool false) := by rw [hc1 _ _ (by first | (simp; done) | omega | (simp; omega))]; first | assumption | (simp [go_sem]; done) | (simp [go_sem]; done) | (simp [go_sem, *]; done)
    have f1_2_3 : w1.frozen? ⟨w.heap.size + 1 + 1, 3, none⟩ = false := by rw [hf1 _ _ (by first | (simp; done) | omega | (simp; omega))]; first | assumption | (simp [go_sem]; done) | (simp [go_sem]; done) | (simp [go_sem, *]; done)
    have s1_2 : w.heap.size + 1 + 1 < w1.heap.size := by omega
    have hB1 : Below w.heap.size w w1 := (by repeat (first | exact Below.refl _ _ | refine bl_alloc ?_ _ | refine bl_drewN ?_ _ | refine bl_trans (by assumption) ?_ | refine bl_set ?_ (by first | omega | (simp; done) | (simp; omega)) _))
    have HB1 := Lib.hid hB1
    clear hB1 hc1 hf1 hb1
    rw [h]
    go_wp2_with (go_at_call 67; refine (isWithin_any _ _ _ _).mono ?_; rintro e w' ⟨rfl, rfl⟩; rw [h1])
    refine bodyPost_ret (v := .tuple #[.agg #[.int .i64 0, .int .i64 0, .bool false, .bool false], .bool false]) (by simp [results, Try.results28, go_sem, *]) rfl ⟨sbt (by simp [bX, HO.out]) (by simp [bY, HO.out]) (by simp [bR, HO.out]) (by simp [bU, HO.out]) HO.out.symm, ?_⟩
    repeat (first | exact HB1.out | refine bl_alloc ?_ _ | refine Below.drew ?_ | refine bl_drewN ?_ _ | refine bl_set ?_ (by first | omega | (simp; done) | (simp; omega)) _)
  obtain ⟨s1, s2⟩ := within_true h1
  have HO := Lib.hid (show okBS 100000 a b x y s = true by simp [okBS, h, h1])
  have OK := Lib.hid (wayI_args h r u).1
  have HW := fun W => Lib.hid (wayOf_of h r u W)
  have HBA := fun (v : World) (C g cap : Nat) hR => Lib.hid (behind_any (wayI a b x y r u) OK.out g cap C s.toNat (by omega) v hR)
  have HV := Lib.hid (show bAt (wayI a b x y r u) s.toNat = .agg #[.int .i64 ((wayI a b x y r u).x ((wayI a b x y r u).made s.toNat) : Nat), .int .i64 ((wayI a b x y r u).y ((wayI a b x y r u).made s.toNat) : Nat), .bool ((wayI a b x y r u).kr ((wayI a b x y r u).made s.toNat)), .bool ((wayI a b x y r u).ku ((wayI a b x y r u).made s.toNat))] from rfl)
  have HS := Lib.hid (show ((s.toNat : Nat) : Int) = s by omega)
  have E1 := Lib.hid (show bX a b x y r u s = ((wayI a b x y r u).x ((wayI a b x y r u).made s.toNat) : Nat) by simp [bX, HO.out])
  have E2 := Lib.hid (show bY a b x y r u s = ((wayI a b x y r u).y ((wayI a b x y r u).made s.toNat) : Nat) by simp [bY, HO.out])
  have E3 := Lib.hid (show bR a b x y r u s = (wayI a b x y r u).kr ((wayI a b x y r u).made s.toNat) by simp [bR, HO.out])
  have E4 := Lib.hid (show bU a b x y r u s = (wayI a b x y r u).ku ((wayI a b x y r u).made s.toNat) by simp [bU, HO.out])
  simp only [HV.out, HS.out] at HBA
  clear HV HS OK
  generalize (wayI a b x y r u).x ((wayI a b x y r u).made s.toNat) = vx at *
  generalize (wayI a b x y r u).y ((wayI a b x y r u).made s.toNat) = vy at *
  generalize (wayI a b x y r u).kr ((wayI a b x y r u).made s.toNat) = vr_ at *
  generalize (wayI a b x y r u).ku ((wayI a b x y r u).made s.toNat) = vu at *
  generalize wlen (wayI a b x y r u) = n at *
  generalize (wayI a b x y r u) = t at *
  go_enter Try.func28, Try.ntmps28
  go_wp2_with fail
  refine (impl_IsBeam _ _ _ _ _ _ _).mono ?_
  rintro e w1 ⟨rfl, hb1⟩
  obtain ⟨hc1, hf1⟩ := bcell hb1
  have hz1 := bsize hb1
  (try simp only [World.size_alloc, World.size_setCell] at hz1)
  have k1_0_0 : w1.cell? ⟨w.heap.size, 0, none⟩ = some (.int .i64 a) := by rw [hc1 _ _ (by first | (simp; done) | omega | (simp; omega))]; first | assumption | (simp [go_sem]; done) | (simp [go_sem]; done) | (simp [go_sem, *]; done)
  have k1_0_1 : w1.cell? ⟨w.heap.size, 1, none⟩ = some (.int .i64 b) := by rw [hc1 _ _ (by first | (simp; done) | omega | (simp; omega))]; first | assumption | (simp [go_sem]; done) | (simp [go_sem]; done) | (simp [go_sem, *]; done)
  have s1_0 : w.heap.size < w1.heap.size := by omega
  have k1_1_0 : w1.cell? ⟨w.heap.size + 1, 0, none⟩ = some (.int .i64 x) := by rw [hc1 _ _ (by first | (simp; done) | omega | (simp; omega))]; first | assumption | (simp [go_sem]; done) | (simp [go_sem]; done) | (simp [go_sem, *]; done)
  have k1_1_1 : w1.cell? ⟨w.heap.size + 1, 1, none⟩ = some (.int .i64 y) := by rw [hc1 _ _ (by first | (simp; done) | omega | (simp; omega))]; first | assumption | (simp [go_sem]; done) | (simp [go_sem]; done) | (simp [go_sem, *]; done)
  have k1_1_2 : w1.cell? ⟨w.heap.size + 1, 2, none⟩ = some (.bool r) := by rw [hc1 _ _ (by first | (simp; done) | omega | (simp; omega))]; first | assumption | (simp [go_sem]; done) | (simp [go_sem]; done) | (simp [go_sem, *]; done)
  have k1_1_3 : w1.cell? ⟨w.heap.size + 1, 3, none⟩ = some (.bool u) := by rw [hc1 _ _ (by first | (simp; done) | omega | (simp; omega))]; first | assumption | (simp [go_sem]; done) | (simp [go_sem]; done) | (simp [go_sem, *]; done)
  have s1_1 : w.heap.size + 1 < w1.heap.size := by omega
  have k1_2_0 : w1.cell? ⟨w.heap.size + 1 + 1, 0, none⟩ = some (.int .i64 0) := by rw [hc1 _ _ (by first | (simp; done) | omega | (simp; omega))]; first | assumption | (simp [go_sem]; done) | (simp [go_sem]; done) | (simp [go_sem, *]; done)
  have f1_2_0 : w1.frozen? ⟨w.heap.size + 1 + 1, 0, none⟩ = false := by rw [hf1 _ _ (by first | (simp; done) | omega | (simp; omega))]; first | assumption | (simp [go_sem]; done) | (simp [go_sem]; done) | (simp [go_sem, *]; done)
  have k1_2_1 : w1.cell? ⟨w.heap.size + 1 + 1, 1, none⟩ = some (.int .i64 0) := by rw [hc1 _ _ (by first | (simp; done) | omega | (simp; omega))]; first | assumption | (simp [go_sem]; done) | (simp [go_sem]; done) | (simp [go_sem, *]; done)
  have f1_2_1 : w1.frozen? ⟨w.heap.size + 1 + 1, 1, none⟩ = false := by rw [hf1 _ _ (by first | (simp; done) | omega | (simp; omega))]; first | assumption | (simp [go_sem]; done) | (simp [go_sem]; done) | (simp [go_sem, *]; done)
  have k1_2_2 : w1.cell? ⟨w.heap.size + 1 + 1, 2, none⟩ = some (.bool false) := by rw [hc1 _ _ (by first | (simp; done) | omega | (simp; omega))]; first | assumption | (simp [go_sem]; done) | (simp [go_sem]; done) | (simp [go_sem, *]; done)
  have f1_2_2 : w1.frozen? ⟨w.heap.size + 1 + 1, 2, none⟩ = false := by rw [hf1 _ _ (by first | (simp; done) | omega | (simp; omega))]; first | assumption | (simp [go_sem]; done) | (simp [go_sem]; done) | (simp [go_sem, *]; done)
  have k1_2_3 : w1.cell? ⟨w.heap.size + 1 + 1, 3, none⟩ = some (.bool false) := by rw [hc1 _ _ (by first | (simp; done) | omega | (simp; omega))]; first | assumption | (simp [go_sem]; done) | (simp [go_sem]; done) | (simp [go_sem, *]; done)
  have f1_2_3 : w1.frozen? ⟨w.heap.size + 1 + 1, 3, none⟩ = false := by rw [hf1 _ _ (by first | (simp; done) | omega | (simp; omega))]; first | assumption | (simp [go_sem]; done) | (simp [go_sem]; done) | (simp [go_sem, *]; done)
  have s1_2 : w.heap.size + 1 + 1 < w1.heap.size := by omega
  have hB1 : Below w.heap.size w w1 := (by repeat (first | exact Below.refl _ _ | refine bl_alloc ?_ _ | refine bl_drewN ?_ _ | refine bl_trans (by assumption) ?_ | refine bl_set ?_ (by first | omega | (simp; done) | (simp; omega)) _))
  have HB1 := Lib.hid hB1
  clear hB1 hc1 hf1 hb1
  rw [h]
  go_wp2_with (go_at_call 67; refine (isWithin_any _ _ _ _).mono ?_; rintro e w' ⟨rfl, rfl⟩; rw [h1])
  have HBp2 := HB1
  go_wp2_with fail
  refine ((HW _).out).mono ?_
  rintro e w2 ⟨g, cap, rfl, hR, hb2⟩
  obtain ⟨hc2, hf2⟩ := bcell hb2
  have hz2 := bsize hb2
  (try simp only [World.size_alloc, World.size_setCell] at hz2)
  have k2_0_0 : w2.cell? ⟨w.heap.size, 0, none⟩ = some (.int .i64 a) := by rw [hc2 _ _ (by first | (simp; done) | omega | (simp; omega))]; first | assumption | (simp [go_sem]; done) | (simp [go_sem, k1_0_0, k1_0_1, k1_1_0, k1_1_1, k1_1_2, k1_1_3, k1_2_0, f1_2_0, k1_2_1, f1_2_1, k1_2_2, f1_2_2, k1_2_3, f1_2_3]; done) | (simp [go_sem, *]; done)
  have k2_0_1 : w2.cell? ⟨w.heap.size, 1, none⟩ = some (.int .i64 b) := by rw [hc2 _ _ (by first | (simp; done) | omega | (simp; omega))]; first | assumption | (simp [go_sem]; done) | (simp [go_sem, k1_0_0, k1_0_1, k1_1_0, k1_1_1, k1_1_2, k1_1_3, k1_2_0, f1_2_0, k1_2_1, f1_2_1, k1_2_2, f1_2_2, k1_2_3, f1_2_3]; done) | (simp [go_sem, *]; done)
  have s2_0 : w.heap.size < w2.heap.size := by omega
  have k2_1_0 : w2.cell? ⟨w.heap.size + 1, 0, none⟩ = some (.int .i64 x) := by rw [hc2 _ _ (by first | (simp; done) | omega | (simp; omega))]; first | assumption | (simp [go_sem]; done) | (simp [go_sem, k1_0_0, k1_0_1, k1_1_0, k1_1_1, k1_1_2, k1_1_3, k1_2_0, f1_2_0, k1_2_1, f1_2_1, k1_2_2, f1_2_2, k1_2_3, f1_2_3]; done) | (simp [go_sem, *]; done)
  have k2_1_1 : w2.cell? ⟨w.heap.size + 1, 1, none⟩ = some (.int .i64 y) := by rw [hc2 _ _ (by first | (simp; done) | omega | (simp; omega))]; first | assumption | (simp [go_sem]; done) | (simp [go_sem, k1_0_0, k1_0_1, k1_1_0, k1_1_1, k1_1_2, k1_1_3, k1_2_0, f1_2_0, k1_2_1, f1_2_1, k1_2_2, f1_2_2, k1_2_3, f1_2_3]; done) | (simp [go_sem, *]; done)
  have k2_1_2 : w2.cell? ⟨w.heap.size + 1, 2, none⟩ = some (.bool r) := by rw [hc2 _ _ (by first | (simp; done) | omega | (simp; omega))]; first | assumption | (simp [go_sem]; done) | (simp [go_sem, k1_0_0, k1_0_1, k1_1_0, k1_1_1, k1_1_2, k1_1_3, k1_2_0, f1_2_0, k1_2_1, f1_2_1, k1_2_2, f1_2_2, k1_2_3, f1_2_3]; done) | (simp [go_sem, *]; done)
  have k2_1_3 : w2.cell? ⟨w.heap.size + 1, 3, none⟩ = some (.bool u) := by rw [hc2 _ _ (by first | (simp; done) | omega | (simp; omega))]; first | assumption | (simp [go_sem]; done) | (simp [go_sem, k1_0_0, k1_0_1, k1_1_0, k1_1_1, k1_1_2, k1_1_3, k1_2_0, f1_2_0, k1_2_1, f1_2_1, k1_2_2, f1_2_2, k1_2_3, f1_2_3]; done) | (simp [go_sem, *]; done)
  have s2_1 : w.heap.size + 1 < w2.heap.size := by omega
  have k2_2_0 : w2.cell? ⟨w.heap.size + 1 + 1, 0, none⟩ = some (.int .i64 0) := by rw [hc2 _ _ (by first | (simp; done) | omega | (simp; omega))]; first | assumption | (simp [go_sem]; done) | (simp [go_sem, k1_0_0, k1_0_1, k1_1_0, k1_1_1, k1_1_2, k1_1_3, k1_2_0, f1_2_0, k1_2_1, f1_2_1, k1_2_2, f1_2_2, k1_2_3, f1_2_3]; done) | (simp [go_sem, *]; done)
  have f2_2_0 : w2.frozen? ⟨w.heap.size + 1 + 1, 0, none⟩ = false := by rw [hf2 _ _ (by first | (simp; done) | omega | (simp; omega))]; first | assumption | (simp [go_sem]; done) | (simp [go_sem, k1_0_0, k1_0_1, k1_1_0, k1_1_1, k1_1_2, k1_1_3, k1_2_0, f1_2_0, k1_2_1, f1_2_1, k1_2_2, f1_2_2, k1_2_3, f1_2_3]; done) | (simp [go_sem, *]; done)
  have k2_2_1 : w2.cell? ⟨w.heap.size + 1 + 1, 1, none⟩ = some (.int .i64 0) := by rw [hc2 _ _ (by first | (simp; done) | omega | (simp; omega))]; first | assumption | (simp [go_sem]; done) | (simp [go_sem, k1_0_0, k1_0_1, k1_1_0, k1_1_1, k1_1_2, k1_1_3, k1_2_0, f1_2_0, k1_2_1, f1_2_1, k1_2_2, f1_2_2, k1_2_3, f1_2_3]; done) | (simp [go_sem, *]; done)
  have f2_2_1 : w2.frozen? ⟨w.heap.size + 1 + 1, 1, none⟩ = false := by rw [hf2 _ _ (by first | (simp; done) | omega | (simp; omega))]; first | assumption | (simp [go_sem]; done) | (simp [go_sem, k1_0_0, k1_0_1, k1_1_0, k1_1_1, k1_1_2, k1_1_3, k1_2_0, f1_2_0, k1_2_1, f1_2_1, k1_2_2, f1_2_2, k1_2_3, f1_2_3]; done) | (simp [go_sem, *]; done)
  have k2_2_2 : w2.cell? ⟨w.heap.size + 1 + 1, 2, none⟩ = some (.bool false) := by rw [hc2 _ _ (by first | (simp; done) | omega | (simp; omega))]; first | assumption | (simp [go_sem]; done) | (simp [go_sem, k1_0_0, k1_0_1, k1_1_0, k1_1_1, k1_1_2, k1_1_3, k1_2_0, f1_2_0, k1_2_1, f1_2_1, k1_2_2, f1_2_2, k1_2_3, f1_2_3]; done) | (simp [go_sem, *]; done)
  have f2_2_2 : w2.frozen? ⟨w.heap.size + 1 + 1, 2, none⟩ = false := by rw [hf2 _ _ (by first | (simp; done) | omega | (simp; omega))]; first | assumption | (simp [go_sem]; done) | (simp [go_sem, k1_0_0, k1_0_1, k1_1_0, k1_1_1, k1_1_2, k1_1_3, k1_2_0, f1_2_0, k1_2_1, f1_2_1, k1_2_2, f1_2_2, k1_2_3, f1_2_3]; done) | (simp [go_sem, *]; done)
  have k2_2_3 : w2.cell? ⟨w.heap.size + 1 + 1, 3, none⟩ = some (.bool false) := by rw [hc2 _ _ (by first | (simp; done) | omega | (simp; omega))]; first | assumption | (simp [go_sem]; done) | (simp [go_sem, k1_0_0, k1_0_1, k1_1_0, k1_1_1, k1_1_2, k1_1_3, k1_2_0, f1_2_0, k1_2_1, f1_2_1, k1_2_2, f1_2_2, k1_2_3, f1_2_3]; done) | (simp [go_sem, *]; done)
  have f2_2_3 : w2.frozen? ⟨w.heap.size + 1 + 1, 3, none⟩ = false := by rw [hf2 _ _ (by first | (simp; done) | omega | (simp; omega))]; first | assumption | (simp [go_sem]; done) | (simp [go_sem, k1_0_0, k1_0_1, k1_1_0, k1_1_1, k1_1_2, k1_1_3, k1_2_0, f1_2_0, k1_2_1, f1_2_1, k1_2_2, f1_2_2, k1_2_3, f1_2_3]; done) | (simp [go_sem, *]; done)
  have s2_2 : w.heap.size + 1 + 1 < w2.heap.size := by omega
  have hB2 : Below w.heap.size w w2 := (by repeat (first | exact Below.refl _ _ | exact HB1.out | refine bl_alloc ?_ _ | refine bl_drewN ?_ _ | refine bl_trans (by assumption) ?_ | refine bl_set ?_ (by first | omega | (simp; done) | (simp; omega)) _))
  have HB2 := Lib.hid hB2
  clear hB2 hc2 hf2 hb2 k1_0_0 k1_0_1 k1_1_0 k1_1_1 k1_1_2 k1_1_3 k1_2_0 f1_2_0 k1_2_1 f1_2_1 k1_2_2 f1_2_2 k1_2_3 f1_2_3
  have R0 := Lib.hid hR
  clear hR
  have HBp3 := HB2
  go_wp2_with fail
  refine ((HBA _ _ _ _ R0.out).out).mono ?_
  rintro e w3 ⟨rfl, hb3⟩
  obtain ⟨hc3, hf3⟩ := bcell hb3
  have hz3 := bsize hb3
  (try simp only [World.size_alloc, World.size_setCell] at hz3)
  have k3_0_0 : w3.cell? ⟨w.heap.size, 0, none⟩ = some (.int .i64 a) := by rw [hc3 _ _ (by first | (simp; done) | omega | (simp; omega))]; first | assumption | (simp [go_sem]; done) | (simp [go_sem, k2_0_0, k2_0_1, k2_1_0, k2_1_1, k2_1_2, k2_1_3, k2_2_0, f2_2_0, k2_2_1, f2_2_1, k2_2_2, f2_2_2, k2_2_3, f2_2_3]; done) | (simp [go_sem, *]; done)
  have k3_0_1 : w3.cell? ⟨w.heap.size, 1, none⟩ = some (.int .i64 b) := by rw [hc3 _ _ (by first | (simp; done) | omega | (simp; omega))]; first | assumption | (simp [go_sem]; done) | (simp [go_sem, k2_0_0, k2_0_1, k2_1_0, k2_1_1, k2_1_2, k2_1_3, k2_2_0, f2_2_0, k2_2_1, f2_2_1, k2_2_2, f2_2_2, k2_2_3, f2_2_3]; done) | (simp [go_sem, *]; done)
  have s3_0 : w.heap.size < w3.heap.size := by omega
  have k3_1_0 : w3.cell? ⟨w.heap.size + 1, 0, none⟩ = some (.int .i64 x) := by rw [hc3 _ _ (by first | (simp; done) | omega | (simp; omega))]; first | assumption | (simp [go_sem]; done) | (simp [go_sem, k2_0_0, k2_0_1, k2_1_0, k2_1_1, k2_1_2, k2_1_3, k2_2_0, f2_2_0, k2_2_1, f2_2_1, k2_2_2, f2_2_2, k2_2_3, f2_2_3]; done) | (simp [go_sem, *]; done)
  have k3_1_1 : w3.cell? ⟨w.heap.size + 1, 1, none⟩ = some (.int .i64 y) := by rw [hc3 _ _ (by first | (simp; done) | omega | (simp; omega))]; first | assumption | (simp [go_sem]; done) | (simp [go_sem, k2_0_0, k2_0_1, k2_1_0, k2_1_1, k2_1_2, k2_1_3, k2_2_0, f2_2_0, k2_2_1, f2_2_1, k2_2_2, f2_2_2, k2_2_3, f2_2_3]; done) | (simp [go_sem, *]; done)
  have k3_1_2 : w3.cell? ⟨w.heap.size + 1, 2, none⟩ = some (.bool r) := by rw [hc3 _ _ (by first | (simp; done) | omega | (simp; omega))]; first | assumption | (simp [go_sem]; done) | (simp [go_sem, k2_0_0, k2_0_1, k2_1_0, k2_1_1, k2_1_2, k2_1_3, k2_2_0, f2_2_0, k2_2_1, f2_2_1, k2_2_2, f2_2_2, k2_2_3, f2_2_3]; done) | (simp [go_sem, *]; done)
  have k3_1_3 : w3.cell? ⟨w.heap.size + 1, 3, none⟩ = some (.bool u) := by rw [hc3 _ _ (by first | (simp; done) | omega | (simp; omega))]; first | assumption | (simp [go_sem]; done) | (simp [go_sem, k2_0_0, k2_0_1, k2_1_0, k2_1_1, k2_1_2, k2_1_3, k2_2_0, f2_2_0, k2_2_1, f2_2_1, k2_2_2, f2_2_2, k2_2_3, f2_2_3]; done) | (simp [go_sem, *]; done)
  have s3_1 : w.heap.size + 1 < w3.heap.size := by omega
  have k3_2_0 : w3.cell? ⟨w.heap.size + 1 + 1, 0, none⟩ = some (.int .i64 0) := by rw [hc3 _ _ (by first | (simp; done) | omega | (simp; omega))]; first | assumption | (simp [go_sem]; done) | (simp [go_sem, k2_0_0, k2_0_1, k2_1_0, k2_1_1, k2_1_2, k2_1_3, k2_2_0, f2_2_0, k2_2_1, f2_2_1, k2_2_2, f2_2_2, k2_2_3, f2_2_3]; done) | (simp [go_sem, *]; done)
  have f3_2_0 : w3.frozen? ⟨w.heap.size + 1 + 1, 0, none⟩ = false := by rw [hf3 _ _ (by first | (simp; done) | omega | (simp; omega))]; first | assumption | (simp [go_sem]; done) | (simp [go_sem, k2_0_0, k2_0_1, k2_1_0, k2_1_1, k2_1_2, k2_1_3, k2_2_0, f2_2_0, k2_2_1, f2_2_1, k2_2_2, f2_2_2, k2_2_3, f2_2_3]; done) | (simp [go_sem, *]; done)
  have k3_2_1 : w3.cell? ⟨w.heap.size + 1 + 1, 1, none⟩ = some (.int .i64 0) := by rw [hc3 _ _ (by first | (simp; done) | omega | (simp; omega))]; first | assumption | (simp [go_sem]; done) | (simp [go_sem, k2_0_0, k2_0_1, k2_1_0, k2_1_1, k2_1_2, k2_1_3, k2_2_0, f2_2_0, k2_2_1, f2_2_1, k2_2_2, f2_2_2, k2_2_3, f2_2_3]; done) | (simp [go_sem, *]; done)
  have f3_2_1 : w3.frozen? ⟨w.heap.size + 1 + 1, 1, none⟩ = false := by rw [hf3 _ _ (by first | (simp; done) | omega | (simp; omega))]; first | assumption | (simp [go_sem]; done) | (simp [go_sem, k2_0_0, k2_0_1, k2_1_0, k2_1_1, k2_1_2, k2_1_3, k2_2_0, f2_2_0, k2_2_1, f2_2_1, k2_2_2, f2_2_2, k2_2_3, f2_2_3]; done) | (simp [go_sem, *]; done)
  have k3_2_2 : w3.cell? ⟨w.heap.size + 1 + 1, 2, none⟩ = some (.bool false) := by rw [hc3 _ _ (by first | (simp; done) | omega | (simp; omega))]; first | assumption | (simp [go_sem]; done) | (simp [go_sem, k2_0_0, k2_0_1, k2_1_0, k2_1_1, k2_1_2, k2_1_3, k2_2_0, f2_2_0, k2_2_1, f2_2_1, k2_2_2, f2_2_2, k2_2_3, f2_2_3]; done) | (simp [go_sem, *]; done)
  have f3_2_2 : w3.frozen? ⟨w.heap.size + 1 + 1, 2, none⟩ = false := by rw [hf3 _ _ (by first | (simp; done) | omega | (simp; omega))]; first | assumption | (simp [go_sem]; done) | (simp [go_sem, k2_0_0, k2_0_1, k2_1_0, k2_1_1, k2_1_2, k2_1_3, k2_2_0, f2_2_0, k2_2_1, f2_2_1, k2_2_2, f2_2_2, k2_2_3, f2_2_3]; done) | (simp [go_sem, *]; done)
  have k3_2_3 : w3.cell? ⟨w.heap.size + 1 + 1, 3, none⟩ = some (.bool false) := by rw [hc3 _ _ (by first | (simp; done) | omega | (simp; omega))]; first | assumption | (simp [go_sem]; done) | (simp [go_sem, k2_0_0, k2_0_1, k2_1_0, k2_1_1, k2_1_2, k2_1_3, k2_2_0, f2_2_0, k2_2_1, f2_2_1, k2_2_2, f2_2_2, k2_2_3, f2_2_3]; done) | (simp [go_sem, *]; done)
  have f3_2_3 : w3.frozen? ⟨w.heap.size + 1 + 1, 3, none⟩ = false := by rw [hf3 _ _ (by first | (simp; done) | omega | (simp; omega))]; first | assumption | (simp [go_sem]; done) | (simp [go_sem, k2_0_0, k2_0_1, k2_1_0, k2_1_1, k2_1_2, k2_1_3, k2_2_0, f2_2_0, k2_2_1, f2_2_1, k2_2_2, f2_2_2, k2_2_3, f2_2_3]; done) | (simp [go_sem, *]; done)
  have s3_2 : w.heap.size + 1 + 1 < w3.heap.size := by omega
  have hB3 : Below w.heap.size w w3 := (by repeat (first | exact Below.refl _ _ | exact HB2.out | refine bl_alloc ?_ _ | refine bl_drewN ?_ _ | refine bl_trans (by assumption) ?_ | refine bl_set ?_ (by first | omega | (simp; done) | (simp; omega)) _))
  have HB3 := Lib.hid hB3
  clear hB3 hc3 hf3 hb3 k2_0_0 k2_0_1 k2_1_0 k2_1_1 k2_1_2 k2_1_3 k2_2_0 f2_2_0 k2_2_1 f2_2_1 k2_2_2 f2_2_2 k2_2_3 f2_2_3
  go_wp2
  refine bodyPost_ret (v := .tuple #[.agg #[.int .i64 (vx : Nat), .int .i64 (vy : Nat), .bool vr_, .bool vu], .bool true]) (by simp [results, Try.results28, go_sem, *]) rfl ⟨sbt E1.out.symm E2.out.symm E3.out.symm E4.out.symm HO.out.symm, ?_⟩
  repeat (first | exact HB3.out | refine bl_alloc ?_ _ | refine Below.drew ?_ | refine bl_drewN ?_ _ | refine bl_set ?_ (by first | omega | (simp; done) | (simp; omega)) _)

theorem after_1 {t : BWay} {n : Nat} (hn : n ≤ t.made (min n (longN t))) : t.made n = n := by
  have := (t.made_lt (min n (longN t))).1
  have e : min n (longN t) = n := by omega
  rw [e] at hn
  have := (t.made_lt n).1
  omega
theorem after_2 {t : BWay} (h : t.ok) {n : Nat} (hn : t.made (min n (longN t)) < n) (he : t.e = true) : t.made (min n (longN t)) = t.M ∧ t.made n = t.M := by
  have hl := (long_le h).2
  unfold BWay.made at hn ⊢
  rw [if_pos he] at hn ⊢
  rw [if_pos he]
  omega
theorem after_3 {t : BWay} (h : t.ok) {n : Nat} (hn : t.made (min n (longN t)) < n) (he : t.e = false) : t.M < t.made (min n (longN t)) + 1 := by
  have hl := (long_le h).2
  rw [made_long' he] at hn ⊢
  omega
theorem six_after {b1 b2 o1 o2 o3 o4 o5 o6 : Nat} {v1 v2 v3 v4 v5 v6 : Value} {W0 v : World} (h1 : W0.cell? ⟨b1, o1, none⟩ = some v1) (h2 : W0.cell? ⟨b1, o2, none⟩ = some v2) (h3 : W0.cell? ⟨b2, o3, none⟩ = some v3) (h4 : W0.cell? ⟨b2, o4, none⟩ = some v4) (h5 : W0.cell? ⟨b2, o5, none⟩ = some v5) (h6 : W0.cell? ⟨b2, o6, none⟩ = some v6) (l1 : b1 < W0.heap.size) (l2 : b2 < W0.heap.size) (hb : Below W0.heap.size W0 v) :
    v.cell? ⟨b1, o1, none⟩ = some v1 ∧ v.cell? ⟨b1, o2, none⟩ = some v2 ∧ v.cell? ⟨b2, o3, none⟩ = some v3 ∧ v.cell? ⟨b2, o4, none⟩ = some v4 ∧ v.cell? ⟨b2, o5, none⟩ = some v5 ∧ v.cell? ⟨b2, o6, none⟩ = some v6 ∧ Below W0.heap.size W0 v :=
  ⟨cell_after hb l1 h1, cell_after hb l1 h2, cell_after hb l2 h3, cell_after hb l2 h4, cell_after hb l2 h5, cell_after hb l2 h6, hb⟩
def S6w (a b x y : Int) (r u : Bool) (B : Nat) (W0 w : World) : Prop := w.cell? ⟨B, 0, none⟩ = some (.int .i64 a) ∧ w.cell? ⟨B, 1, none⟩ = some (.int .i64 b) ∧ w.cell? ⟨B + 1, 0, none⟩ = some (.int .i64 x) ∧ w.cell? ⟨B + 1, 1, none⟩ = some (.int .i64 y) ∧ w.cell? ⟨B + 1, 2, none⟩ = some (.bool r) ∧ w.cell? ⟨B + 1, 3, none⟩ = some (.bool u) ∧ Below W0.heap.size W0 w
theorem S6w.mk {a b x y : Int} {r u : Bool} {B : Nat} {W0 v : World} (h0 : W0.cell? ⟨B, 0, none⟩ = some (.int .i64 a)) (h1 : W0.cell? ⟨B, 1, none⟩ = some (.int .i64 b)) (h2 : W0.cell? ⟨B + 1, 0, none⟩ = some (.int .i64 x)) (h3 : W0.cell? ⟨B + 1, 1, none⟩ = some (.int .i64 y)) (h4 : W0.cell? ⟨B + 1, 2, none⟩ = some (.bool r)) (h5 : W0.cell? ⟨B + 1, 3, none⟩ = some (.bool u)) (hl : B + 1 < W0.heap.size) (hb : Below W0.heap.size W0 v) : S6w a b x y r u B W0 v :=
  ⟨cell_after hb (by omega) h0, cell_after hb (by omega) h1, cell_after hb hl h2, cell_after hb hl h3, cell_after hb hl h4, cell_after hb hl h5, hb⟩
set_option maxHeartbeats 400000 in
theorem l1Least_any (n m : Nat) (w : World) : Calls Try.prog 72 #[.int .i64 (n : Nat), .int .i64 (m : Nat)] w fun e w' => e = .returned (.int .i64 ((min n m : Nat) : Int)) ∧ w = w' := by
  by_cases h : n < m
  · have h' : (n : Int) < (m : Int) := by omega
    have e : min n m = n := by omega
    rw [e]
    go_enter Try.func72, Try.ntmps72
    go_wp2
    go_ret
    exact ⟨rfl, rfl⟩
  · have h' : ¬ (n : Int) < (m : Int) := by omega
    have e : min n m = m := by omega
    rw [e]
    go_enter Try.func72, Try.ntmps72
    go_wp2
    go_ret
    exact ⟨rfl, rfl⟩
theorem beLong_of {a b x y : Int} (h : okB a b x y = true) (r u : Bool) (w : World) : Calls Try.prog 73 #[.agg #[.int .i64 a, .int .i64 b]] w fun e w' => e = .returned (.int .i64 (longN (wayI a b x y r u) : Nat)) ∧ Below w.heap.size w w' := by
  obtain ⟨hk, h1, h2, _⟩ := wayI_args h r u
  generalize wayI a b x y r u = t at *
  rw [h1, h2]
  exact beLong_any t hk w
theorem beCorner_of {a b x y : Int} (h : okB a b x y = true) (r u : Bool) (n : Nat) (R U : Bool) (w : World) : Calls Try.prog 74 #[.agg #[.int .i64 a, .int .i64 b], .agg #[.int .i64 ((wayI a b x y r u).x n : Nat), .int .i64 ((wayI a b x y r u).y n : Nat), .bool R, .bool U]] w fun e w' => e = .returned (.bool ((wayI a b x y r u).cor n)) ∧ Below w.heap.size w w' := by
  obtain ⟨hk, h1, h2, _⟩ := wayI_args h r u
  generalize wayI a b x y r u = t at *
  rw [h1, h2, ← corI]
  exact beCorner_any _ _ _ _ _ _ w
set_option maxRecDepth 100000 in
set_option maxHeartbeats 4000000 in
theorem spec_BeamAfter (a b x y : Int) (r u : Bool) (s : Int) (w : World) :
    Calls Try.prog 27 #[.agg #[.int .i64 a, .int .i64 b], .agg #[.int .i64 x, .int .i64 y, .bool r, .bool u], .int .i64 s] w fun e w' => e = .returned (.tuple #[.agg #[.int .i64 (bX a b x y r u s), .int .i64 (bY a b x y r u s), .bool (bR a b x y r u s), .bool (bU a b x y r u s)], .bool (okBS 100000 a b x y s)]) ∧ Below w.heap.size w w' := by
  cases h : okBS 100000 a b x y s
  · go_enter Try.func27, Try.ntmps27
    go_wp2_with fail
    refine (spec_beAsked _ _ _ _ _ _ _ _ _).mono ?_
    rintro e w1 ⟨rfl, hb1⟩
    obtain ⟨hc1, hf1⟩ := bcell hb1
    have hz1 := bsize hb1
    (try simp only [World.size_alloc, World.size_setCell] at hz1)
    have k1_0_0 : w1.cell? ⟨w.heap.size, 0, none⟩ = some (.int .i64 a) := by rw [hc1 _ _ (by first | (simp; done) | omega | (simp; omega))]; first | assumption | (simp [go_sem]; done) | (simp [go_sem]; done) | (simp [go_sem, *]; done)
    have k1_0_1 : w1.cell? ⟨w.heap.size, 1, none⟩ = some (.int .i64 b) := by rw [hc1 _ _ (by first | (simp; done) | omega | (simp; omega))]; first | assumption | (simp [go_sem]; done) | (simp [go_sem]; done) | (simp [go_sem, *]; done)
    have s1_0 : w.heap.size < w1.heap.size := by omega
    have k1_1_0 : w1.cell? ⟨w.heap.size + 1, 0, none⟩ = some (.int .i64 x) := by rw [hc1 _ _ (by first | (simp; done) | omega | (simp; omega))]; first | assumption | (simp [go_sem]; done) | (simp [go_sem]; done) | (simp [go_sem, *]; done)
    have k1_1_1 : w1.cell? ⟨w.heap.size + 1, 1, none⟩ = some (.int .i64 y) := by rw [hc1 _ _ (by first | (simp; done) | omega | (simp; omega))]; first | assumption | (simp [go_sem]; done) | (simp [go_sem]; done) | (simp [go_sem, *]; done)
    have k1_1_2 : w1.cell? ⟨w.heap.size + 1, 2, none⟩ = some (.bool r) := by rw [hc1 _ _ (by first | (simp; done) | omega | (simp; omega))]; first | assumption | (simp [go_sem]; done) | (simp [go_sem]; done) | (simp [go_sem, *]; done)
    have k1_1_3 : w1.cell? ⟨w.heap.size + 1, 3, none⟩ = some (.bool u) := by rw [hc1 _ _ (by first | (simp; done) | omega | (simp; omega))]; first | assumption | (simp [go_sem]; done) | (simp [go_sem]; done) | (simp [go_sem, *]; done)
    have s1_1 : w.heap.size + 1 < w1.heap.size := by omega
    have k1_2_0 : w1.cell? ⟨w.heap.size + 1 + 1, 0, none⟩ = some (.int .i64 0) := by rw [hc1 _ _ (by first | (simp; done) | omega | (simp; omega))]; first | assumption | (simp [go_sem]; done) | (simp [go_sem]; done) | (simp [go_sem, *]; done)
    have f1_2_0 : w1.frozen? ⟨w.heap.size + 1 + 1, 0, none⟩ = false := by rw [hf1 _ _ (by first | (simp; done) | omega | (simp; omega))]; first | assumption | (simp [go_sem]; done) | (simp [go_sem]; done) | (simp [go_sem, *]; done)
    have k1_2_1 : w1.cell? ⟨w.heap.size + 1 + 1, 1, none⟩ = some (.int .i64 0) := by rw [hc1 _ _ (by first | (simp; done) | omega | (simp; omega))]; first | assumption | (simp [go_sem]; done) | (simp [go_sem]; done) | (simp [go_sem, *]; done)
    have f1_2_1 : w1.frozen? ⟨w.heap.size + 1 + 1, 1, none⟩ = false := by rw [hf1 _ _ (by first | (simp; done) | omega | (simp; omega))]; first | assumption | (simp [go_sem]; done) | (simp [go_sem]; done) | (simp [go_sem, *]; done)
    have k1_2_2 : w1.cell? ⟨w.heap.size + 1 + 1, 2, none⟩ = some (.bool false) := by rw [hc1 _ _ (by first | (simp; done) | omega | (simp; omega))]; first | assumption | (simp [go_sem]; done) | (simp [go_sem]; done) | (simp [go_sem, *]; done)
    have f1_2_2 : w1.frozen? ⟨w.heap.size + 1 + 1, 2, none⟩ = false := by rw [hf1 _ _ (by first | (simp; done) | omega | (simp; omega))]; first | assumption | (simp [go_sem]; done) | (simp [go_sem]; done) | (simp [go_sem, *]; done)
    have k1_2_3 : w1.cell? ⟨w.heap.size + 1 + 1, 3, none⟩ = some (.bool false) := by rw [hc1 _ _ (by first | (simp; done) | omega | (simp; omega))]; first | assumption | (simp [go_sem]; done) | (simp [go_sem]; done) | (simp [go_sem, *]; done)
    have f1_2_3 : w1.frozen? ⟨w.heap.size + 1 + 1, 3, none⟩ = false := by rw [hf1 _ _ (by first | (simp; done) | omega | (simp; omega))]; first | assumption | (simp [go_sem]; done) | (simp [go_sem]; done) | (simp [go_sem, *]; done)
    have s1_2 : w.heap.size + 1 + 1 < w1.heap.size := by omega
    have hB1 : Below w.heap.size w w1 := (by repeat (first | exact Below.refl _ _ | refine bl_alloc ?_ _ | refine bl_drewN ?_ _ | refine bl_trans (by assumption) ?_ | refine bl_set ?_ (by first | omega | (simp; done) | (simp; omega)) _))
    have HB1 := Lib.hid hB1
    clear hB1 hc1 hf1 hb1
    rw [h]
    go_wp2
    refine bodyPost_ret (v := .tuple #[.agg #[.int .i64 0, .int .i64 0, .bool false, .bool false], .bool false]) (by simp [results, Try.results27, go_sem, *]) rfl ⟨sbt (by simp [bX, h]) (by simp [bY, h]) (by simp [bR, h]) (by simp [bU, h]) rfl, ?_⟩
    repeat (first | exact HB1.out | refine bl_alloc ?_ _ | refine Below.drew ?_ | refine bl_drewN ?_ _ | refine bl_set ?_ (by first | omega | (simp; done) | (simp; omega)) _)
  have h0 := h
  simp only [okBS, Bool.and_eq_true] at h0
  obtain ⟨hB, hs⟩ := h0
  obtain ⟨s1, s2⟩ := within_true hs
  obtain ⟨n, rfl⟩ := Int.eq_ofNat_of_zero_le s1
  have OK := Lib.hid (wayI_args hB r u).1
  have HRUN := fun (q : Nat) (hq : q ≤ 100000) W => Lib.hid (beRun_of hB r u (q : Int) (by omega) (by omega) W)
  have HLN := fun W => Lib.hid (beLong_of hB r u W)
  have HCR := fun (k : Nat) R U W => Lib.hid (beCorner_of hB r u k R U W)
  have E1 := Lib.hid (show bX a b x y r u (n : Int) = ((wayI a b x y r u).x ((wayI a b x y r u).made n) : Nat) by simp [bX, h])
  have E2 := Lib.hid (show bY a b x y r u (n : Int) = ((wayI a b x y r u).y ((wayI a b x y r u).made n) : Nat) by simp [bY, h])
  have E3 := Lib.hid (show bR a b x y r u (n : Int) = (wayI a b x y r u).kr ((wayI a b x y r u).made n) by simp [bR, h])
  have E4 := Lib.hid (show bU a b x y r u (n : Int) = (wayI a b x y r u).ku ((wayI a b x y r u).made n) by simp [bU, h])
  generalize (wayI a b x y r u) = t at *
  simp only [Int.toNat_natCast] at HRUN
  clear hs hB
  go_enter Try.func27, Try.ntmps27
  go_wp2_with fail
  refine (spec_beAsked _ _ _ _ _ _ _ _ _).mono ?_
  rintro e w1 ⟨rfl, hb1⟩
  obtain ⟨hc1, hf1⟩ := bcell hb1
  have hz1 := bsize hb1
  (try simp only [World.size_alloc, World.size_setCell] at hz1)
  have k1_0_0 : w1.cell? ⟨w.heap.size, 0, none⟩ = some (.int .i64 a) := by rw [hc1 _ _ (by first | (simp; done) | omega | (simp; omega))]; first | assumption | (simp [go_sem]; done) | (simp [go_sem]; done) | (simp [go_sem, *]; done)
  have k1_0_1 : w1.cell? ⟨w.heap.size, 1, none⟩ = some (.int .i64 b) := by rw [hc1 _ _ (by first | (simp; done) | omega | (simp; omega))]; first | assumption | (simp [go_sem]; done) | (simp [go_sem]; done) | (simp [go_sem, *]; done)
  have s1_0 : w.heap.size < w1.heap.size := by omega
  have k1_1_0 : w1.cell? ⟨w.heap.size + 1, 0, none⟩ = some (.int .i64 x) := by rw [hc1 _ _ (by first | (simp; done) | omega | (simp; omega))]; first | assumption | (simp [go_sem]; done) | (simp [go_sem]; done) | (simp [go_sem, *]; done)
  have k1_1_1 : w1.cell? ⟨w.heap.size + 1, 1, none⟩ = some (.int .i64 y) := by rw [hc1 _ _ (by first | (simp; done) | omega | (simp; omega))]; first | assumption | (simp [go_sem]; done) | (simp [go_sem]; done) | (simp [go_sem, *]; done)
  have k1_1_2 : w1.cell? ⟨w.heap.size + 1, 2, none⟩ = some (.bool r) := by rw [hc1 _ _ (by first | (simp; done) | omega | (simp; omega))]; first | assumption | (simp [go_sem]; done) | (simp [go_sem]; done) | (simp [go_sem, *]; done)
  have k1_1_3 : w1.cell? ⟨w.heap.size + 1, 3, none⟩ = some (.bool u) := by rw [hc1 _ _ (by first | (simp; done) | omega | (simp; omega))]; first | assumption | (simp [go_sem]; done) | (simp [go_sem]; done) | (simp [go_sem, *]; done)
  have s1_1 : w.heap.size + 1 < w1.heap.size := by omega
  have k1_2_0 : w1.cell? ⟨w.heap.size + 1 + 1, 0, none⟩ = some (.int .i64 0) := by rw [hc1 _ _ (by first | (simp; done) | omega | (simp; omega))]; first | assumption | (simp [go_sem]; done) | (simp [go_sem]; done) | (simp [go_sem, *]; done)
  have f1_2_0 : w1.frozen? ⟨w.heap.size + 1 + 1, 0, none⟩ = false := by rw [hf1 _ _ (by first | (simp; done) | omega | (simp; omega))]; first | assumption | (simp [go_sem]; done) | (simp [go_sem]; done) | (simp [go_sem, *]; done)
  have k1_2_1 : w1.cell? ⟨w.heap.size + 1 + 1, 1, none⟩ = some (.int .i64 0) := by rw [hc1 _ _ (by first | (simp; done) | omega | (simp; omega))]; first | assumption | (simp [go_sem]; done) | (simp [go_sem]; done) | (simp [go_sem, *]; done)
  have f1_2_1 : w1.frozen? ⟨w.heap.size + 1 + 1, 1, none⟩ = false := by rw [hf1 _ _ (by first | (simp; done) | omega | (simp; omega))]; first | assumption | (simp [go_sem]; done) | (simp [go_sem]; done) | (simp [go_sem, *]; done)
  have k1_2_2 : w1.cell? ⟨w.heap.size + 1 + 1, 2, none⟩ = some (.bool false) := by rw [hc1 _ _ (by first | (simp; done) | omega | (simp; omega))]; first | assumption | (simp [go_sem]; done) | (simp [go_sem]; done) | (simp [go_sem, *]; done)
  have f1_2_2 : w1.frozen? ⟨w.heap.size + 1 + 1, 2, none⟩ = false := by rw [hf1 _ _ (by first | (simp; done) | omega | (simp; omega))]; first | assumption | (simp [go_sem]; done) | (simp [go_sem]; done) | (simp [go_sem, *]; done)
  have k1_2_3 : w1.cell? ⟨w.heap.size + 1 + 1, 3, none⟩ = some (.bool false) := by rw [hc1 _ _ (by first | (simp; done) | omega | (simp; omega))]; first | assumption | (simp [go_sem]; done) | (simp [go_sem]; done) | (simp [go_sem, *]; done)
  have f1_2_3 : w1.frozen? ⟨w.heap.size + 1 + 1, 3, none⟩ = false := by rw [hf1 _ _ (by first | (simp; done) | omega | (simp; omega))]; first | assumption | (simp [go_sem]; done) | (simp [go_sem]; done) | (simp [go_sem, *]; done)
  have s1_2 : w.heap.size + 1 + 1 < w1.heap.size := by omega
  have hB1 : Below w.heap.size w w1 := (by repeat (first | exact Below.refl _ _ | refine bl_alloc ?_ _ | refine bl_drewN ?_ _ | refine bl_trans (by assumption) ?_ | refine bl_set ?_ (by first | omega | (simp; done) | (simp; omega)) _))
  have HB1 := Lib.hid hB1
  clear hB1 hc1 hf1 hb1
  rw [h]
  have HS := Lib.hid (fun v hb => S6w.mk (v := v) k1_0_0 k1_0_1 k1_1_0 k1_1_1 k1_1_2 k1_1_3 s1_1 hb)
  have hS := HS.out w1 (Below.refl _ _)
  unfold S6w at hS
  go_wp2_with fail
  go_region_held3 (fun w' => w'.cell? ⟨w.heap.size, 0, none⟩ = some (.int .i64 a) ∧ w'.cell? ⟨w.heap.size, 1, none⟩ = some (.int .i64 b) ∧ w'.cell? ⟨w.heap.size + 1, 0, none⟩ = some (.int .i64 x) ∧ w'.cell? ⟨w.heap.size + 1, 1, none⟩ = some (.int .i64 y) ∧ w'.cell? ⟨w.heap.size + 1, 2, none⟩ = some (.bool r) ∧ w'.cell? ⟨w.heap.size + 1, 3, none⟩ = some (.bool u) ∧ Below w1.heap.size w1 w') (first | exact HS.out _ (bl_trans hb9 (last7 (by assumption))) | exact HS.out _ (below_drewN (Below.refl _ _) _) | exact HS.out _ (Below.drew (Below.refl _ _)) | assumption) (first | (go_at_call 73; refine ((HLN _).out).mono ?_; rintro e w9 ⟨rfl, hb9⟩) | (go_at_call 72; refine (l1Least_any _ _ _).mono ?_; rintro e w' ⟨rfl, rfl⟩) | (go_at_call 71; refine ((HRUN _ (by omega) _).out).mono ?_; rintro e w9 ⟨g, cap, rfl, hR, hb9⟩))
  rename_i hh
  have hB := last7 hh
  have r0 := cell_after hB s1_2 k1_2_0
  have f0 := frozen_after hB s1_2 f1_2_0
  have r1 := cell_after hB s1_2 k1_2_1
  have f1 := frozen_after hB s1_2 f1_2_1
  have r2 := cell_after hB s1_2 k1_2_2
  have f2 := frozen_after hB s1_2 f1_2_2
  have r3 := cell_after hB s1_2 k1_2_3
  have f3 := frozen_after hB s1_2 f1_2_3
  have lr := size_after hB s1_2
  have a0 := hh.1
  have a1 := hh.2.1
  have l0 : w.heap.size < w9.heap.size := by omega
  have HW9 := Lib.hid (bl_trans hB HB1.out)
  have R9 := Lib.hid hR
  obtain ⟨g', cap', e, _, hg, _, _, hcc⟩ := hR.open_ (by omega)
  simp only [Value.slice.injEq, Option.some.injEq, Addr.mk.injEq, and_true, true_and] at e
  obtain ⟨rfl, rfl⟩ := e
  have HCC := Lib.hid hcc
  have hq : t.made (min n (longN t)) ≤ 100000 := by have := (t.made_lt (min n (longN t))).1; omega
  have A1 := Lib.hid (fun h => after_1 (t := t) (n := n) h)
  have A2 := Lib.hid (fun h he => after_2 OK.out (n := n) h he)
  have A3 := Lib.hid (fun h he => after_3 OK.out (n := n) h he)
  clear hh hB hR hcc hb9 hS HS HRUN k1_0_0 k1_0_1 k1_1_0 k1_1_1 k1_1_2 k1_1_3 k1_2_0 k1_2_1 k1_2_2 k1_2_3 f1_2_0 f1_2_1 f1_2_2 f1_2_3
  generalize t.made (min n (longN t)) = mq at *
  generalize sidesS t mq = sd at *
  have ix0 : (0 : Int) ≤ (n : Int) := by omega
  by_cases hA : n ≤ mq
  · have hmn := A1.out hA
    obtain ⟨d0, d1, d2, d3⟩ := HCC.out n (by omega)
    simp only [bm, List.getElem?_cons_zero, List.getElem?_cons_succ] at d0 d1 d2 d3
    rw [hmn] at E1 E2 E3 E4
    clear hmn A1 A2 A3 R9
    have ix1 : (n : Int) < ((mq + 1 : Nat) : Int) := by omega
    have ix2 : (n : Int) < (mq : Int) + 1 := by omega
    go_wp2
    refine bodyPost_ret (v := .tuple #[.agg #[.int .i64 (t.x n : Nat), .int .i64 (t.y n : Nat), .bool (t.kr n), .bool (t.ku n)], .bool true]) (by simp [results, Try.results27, go_sem, *]) rfl ⟨sbt E1.out.symm E2.out.symm E3.out.symm E4.out.symm rfl, ?_⟩
    repeat (first | exact HW9.out | refine bl_alloc ?_ _ | refine Below.drew ?_ | refine bl_drewN ?_ _ | refine bl_set ?_ (by first | omega | (simp; done) | (simp; omega)) _)
  have hlt : mq < n := by omega
  obtain ⟨d0, d1, d2, d3⟩ := HCC.out mq (by omega)
  simp only [bm, List.getElem?_cons_zero, List.getElem?_cons_succ] at d0 d1 d2 d3
  have iy0 : (0 : Int) ≤ (mq : Int) := by omega
  have iy1 : (mq : Int) < (mq : Int) + 1 := by omega
  have iy3 : IntKind.i64.wrap (mq : Int) = (mq : Int) := IntWalk.i64_in _ (by omega)
  have iy4 : IntKind.i64.wrap (((mq + 1 : Nat) : Int) - 1) = (mq : Int) := by rw [show ((mq + 1 : Nat) : Int) - 1 = (mq : Int) by omega]; exact iy3
  have iy2 : IntKind.i64.wrap ((mq : Int) + 1 - 1) = (mq : Int) := by rw [Int.add_sub_cancel]; exact iy3
  have iy5 : (mq : Int).toNat = mq := by omega
  have hnl : ¬ (n : Int) < (mq : Int) + 1 := by omega
  have hnl2 : ¬ (n : Int) < ((mq + 1 : Nat) : Int) := by omega
  have HS := Lib.hid (fun v hb => six_after (v := v) a0 a1 d0 d1 d2 d3 l0 hg hb)
  have hS := HS.out w9 (Below.refl _ _)
  cases he : t.e
  · have hcor : t.cor mq = false := BWay.no_cor OK.out he mq
    have hM := A3.out hlt he
    have HMN := Lib.hid hM
    have hM1 := (t.M_spec OK.out).1
    have h0 : (((t.M : Nat) : Int) == 0) = false := by simp; omega
    obtain ⟨m, hm⟩ : ∃ m, n % t.M = m := ⟨_, rfl⟩
    have hmM : m < t.M := by rw [← hm]; exact Nat.mod_lt _ (by omega)
    obtain ⟨q1, q2, q3, q4⟩ := idx_val OK.out n
    have hix : idx t n = m := by simp [idx, he, hm]
    rw [hix] at q1 q2 q3 q4
    obtain ⟨m0, m1, m2, m3⟩ := HCC.out m (by omega)
    simp only [bm, List.getElem?_cons_zero, List.getElem?_cons_succ, q1, q2, q3, q4] at m0 m1 m2 m3
    have hmi : (n : Int) % ((t.M : Nat) : Int) = (m : Int) := by rw [← hm]; simp
    have HMI := Lib.hid hmi
    have jx0 : (0 : Int) ≤ (n : Int) % ((t.M : Nat) : Int) := by rw [hmi]; omega
    have jx1 : (n : Int) % ((t.M : Nat) : Int) < (mq : Int) + 1 := by rw [hmi]; omega
    have jx2 : ((n : Int) % ((t.M : Nat) : Int)).toNat = m := by rw [hmi]; simp
    have HE := Lib.hid he
    clear hm hmi q1 q2 q3 q4 hix he A1 A2 A3 hlt
    go_wp2_with fail
    go_region_held3 (fun w' => w'.cell? ⟨w.heap.size, 0, none⟩ = some (.int .i64 a) ∧ w'.cell? ⟨w.heap.size, 1, none⟩ = some (.int .i64 b) ∧ w'.cell? ⟨g, mq * 4, none⟩ = some (.int .i64 (t.x mq : Nat)) ∧ w'.cell? ⟨g, mq * 4 + 1, none⟩ = some (.int .i64 (t.y mq : Nat)) ∧ w'.cell? ⟨g, mq * 4 + 2, none⟩ = some (.bool (t.kr mq)) ∧ w'.cell? ⟨g, mq * 4 + 3, none⟩ = some (.bool (t.ku mq)) ∧ Below w9.heap.size w9 w') (first | exact HS.out _ (bl_trans hb9 (last7 (by assumption))) | exact HS.out _ (below_drewN (Below.refl _ _) _) | exact HS.out _ (Below.drew (Below.refl _ _)) | assumption) (first | (go_at_call 74; refine ((HCR mq _ _ _).out).mono ?_; rintro e wA ⟨rfl, hb9⟩; rw [hcor]))
    rename_i hh
    have hB := last7 hh
    have RA := Lib.hid (R9.out.keep hB)
    have HWA := Lib.hid (bl_trans hB HW9.out)
    have xm0 := cell_after hB hg m0
    have xm1 := cell_after hB hg m1
    have xm2 := cell_after hB hg m2
    have xm3 := cell_after hB hg m3
    have xr0 := cell_after hB lr r0
    have xf0 := frozen_after hB lr f0
    have xr1 := cell_after hB lr r1
    have xf1 := frozen_after hB lr f1
    have xr2 := cell_after hB lr r2
    have xf2 := frozen_after hB lr f2
    have xr3 := cell_after hB lr r3
    have xf3 := frozen_after hB lr f3
    have xlr := size_after hB lr
    have xg := size_after hB hg
    clear hh hB hb9 hS HS d0 d1 d2 d3 a0 a1 r0 r1 r2 r3 f0 f1 f2 f3 m0 m1 m2 m3 R9 HW9 hcor
    go_wp2_with fail
    refine (bePeriod_any t OK.out HE.out g cap (mq + 1) _ _ RA.out HMN.out).mono ?_
    rintro e wC ⟨rfl, hbC⟩
    have ym0 := cell_after hbC xg xm0
    have ym1 := cell_after hbC xg xm1
    have ym2 := cell_after hbC xg xm2
    have ym3 := cell_after hbC xg xm3
    have yr0 := cell_after hbC xlr xr0
    have yf0 := frozen_after hbC xlr xf0
    have yr1 := cell_after hbC xlr xr1
    have yf1 := frozen_after hbC xlr xf1
    have yr2 := cell_after hbC xlr xr2
    have yf2 := frozen_after hbC xlr xf2
    have yr3 := cell_after hbC xlr xr3
    have yf3 := frozen_after hbC xlr xf3
    have HWC := Lib.hid (bl_trans hbC HWA.out)
    have ylr := size_after hbC xlr
    clear hbC HWA xm0 xm1 xm2 xm3 xr0 xr1 xr2 xr3 xf0 xf1 xf2 xf3 RA
    go_wp2
    refine bodyPost_ret (v := .tuple #[.agg #[.int .i64 (t.x (t.made n) : Nat), .int .i64 (t.y (t.made n) : Nat), .bool (t.kr (t.made n)), .bool (t.ku (t.made n))], .bool true]) (by simp [results, Try.results27, go_sem, *]) rfl ⟨sbt E1.out.symm E2.out.symm E3.out.symm E4.out.symm rfl, ?_⟩
    repeat (first | exact HWC.out | refine bl_alloc ?_ _ | refine Below.drew ?_ | refine bl_drewN ?_ _ | refine bl_set ?_ (by first | omega | (simp; done) | (simp; omega)) _)
  · obtain ⟨hm1, hm2⟩ := A2.out hlt he
    have hcor : t.cor mq = true := by rw [hm1]; exact he
    rw [hm2, ← hm1] at E1 E2 E3 E4
    clear he hm1 hm2 A1 A2 A3 hlt
    go_wp2_with fail
    go_region_held3 (fun w' => w'.cell? ⟨w.heap.size, 0, none⟩ = some (.int .i64 a) ∧ w'.cell? ⟨w.heap.size, 1, none⟩ = some (.int .i64 b) ∧ w'.cell? ⟨g, mq * 4, none⟩ = some (.int .i64 (t.x mq : Nat)) ∧ w'.cell? ⟨g, mq * 4 + 1, none⟩ = some (.int .i64 (t.y mq : Nat)) ∧ w'.cell? ⟨g, mq * 4 + 2, none⟩ = some (.bool (t.kr mq)) ∧ w'.cell? ⟨g, mq * 4 + 3, none⟩ = some (.bool (t.ku mq)) ∧ Below w9.heap.size w9 w') (first | exact HS.out _ (bl_trans hb9 (last7 (by assumption))) | exact HS.out _ (below_drewN (Below.refl _ _) _) | exact HS.out _ (Below.drew (Below.refl _ _)) | assumption) (first | (go_at_call 74; refine ((HCR mq _ _ _).out).mono ?_; rintro e wA ⟨rfl, hb9⟩; rw [hcor]))
    rename_i hh
    have hB := last7 hh
    have HWA := Lib.hid (bl_trans hB HW9.out)
    have xd0 := cell_after hB hg d0
    have xd1 := cell_after hB hg d1
    have xd2 := cell_after hB hg d2
    have xd3 := cell_after hB hg d3
    have xr0 := cell_after hB lr r0
    have xf0 := frozen_after hB lr f0
    have xr1 := cell_after hB lr r1
    have xf1 := frozen_after hB lr f1
    have xr2 := cell_after hB lr r2
    have xf2 := frozen_after hB lr f2
    have xr3 := cell_after hB lr r3
    have xf3 := frozen_after hB lr f3
    have xlr := size_after hB lr
    clear hh hB hb9 hS HS d0 d1 d2 d3 a0 a1 r0 r1 r2 r3 f0 f1 f2 f3 R9 HW9 hcor
    go_wp2
    refine bodyPost_ret (v := .tuple #[.agg #[.int .i64 (t.x mq : Nat), .int .i64 (t.y mq : Nat), .bool (t.kr mq), .bool (t.ku mq)], .bool true]) (by simp [results, Try.results27, go_sem, *]) rfl ⟨sbt E1.out.symm E2.out.symm E3.out.symm E4.out.symm rfl, ?_⟩
    repeat (first | exact HWA.out | refine bl_alloc ?_ _ | refine Below.drew ?_ | refine bl_drewN ?_ _ | refine bl_set ?_ (by first | omega | (simp; done) | (simp; omega)) _)
end Go.Proofs.Ytnhjiipkekblfaa
