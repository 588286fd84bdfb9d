/- CountPlaces: by the program and by the model alike. -/
import Derived.Test.YtnhjiipkekblfaaB6
import Derived.Test.YtnhjiipkekblfaaM2
namespace Go.Proofs.Ytnhjiipkekblfaa
open Go.RowKit Beam Go.WideMaps Go.WideElems Go.Maps
set_option linter.unusedVariables false
set_option linter.unusedSimpArgs false
/-- how many places are among the first n -/
def cpN (t : BWay) (n : Nat) : Nat := (List.range ((t.W + 1) * (t.H + 1))).countP (fun i => decide (0 < timesUp (plAt t) n (uncell t.H i)))
def cpZ (a b x y : Int) (r u : Bool) : Int := if okB a b x y then (cpN (wayI a b x y r u) (wlen (wayI a b x y r u)) : Nat) else 0
theorem plAt_in {t : BWay} (h : t.ok) (j : Nat) : (plAt t j).1 ≤ t.W ∧ (plAt t j).2 ≤ t.H := ⟨tri_le _ _ h.1, tri_le _ _ h.2.1⟩
theorem PMap.size_ {w : World} {m n : Nat} {t : BWay} {K : List (Nat × Nat)} {es : List (Lit × DataW Unit)} (ho : t.ok) (h : PMap w m n (plAt t) K es) : Maps.size (.map es : DataW Unit) = cpN t n := by
  rw [size_eq, h.ent.length_eq, List.length_map]
  have := places_count (k := n) h.nd (fun j _ => plAt_in ho j) h.mem (fun _ => true)
  simp only [Bool.and_true] at this
  have e : K.countP (fun _ => true) = K.length := by rw [List.countP_eq_length_filter, List.filter_eq_self.2 (fun _ _ => rfl)]
  rw [← e]
  exact this
set_option maxRecDepth 100000 in
set_option maxHeartbeats 2000000 in
theorem impl_CountPlaces (a b x y : Int) (r u : Bool) (w : World) :
    Calls Try.prog 50 #[.agg #[.int .i64 a, .int .i64 b], .agg #[.int .i64 x, .int .i64 y, .bool r, .bool u]] w fun e w' => e = .returned (.tuple #[.int .i64 (cpZ a b x y r u), .bool (okB a b x y)]) ∧ Below w.heap.size w w' := by
  cases h : okB a b x y
  · go_enter Try.func50, Try.ntmps50
    go_wp2_with fail
    refine (impl_IsBeam _ _ _ _ _ _ _).mono ?_
    rintro e w1 ⟨rfl, hb1⟩
    obtain ⟨hc1, hf1⟩ := bcell hb1
    have hz1 := bsize hb1
    (try simp only [World.size_alloc, World.size_setCell] at hz1)
    have k1_0_0 : w1.cell? ⟨w.heap.size, 0, none⟩ = some (.int .i64 a) := by rw [hc1 _ _ (by first | (simp; done) | omega | (simp; omega))]; first | assumption | (simp [go_sem]; done) | (simp [go_sem]; done) | (simp [go_sem, *]; done)
    have k1_0_1 : w1.cell? ⟨w.heap.size, 1, none⟩ = some (.int .i64 b) := by rw [hc1 _ _ (by first | (simp; done) | omega | (simp; omega))]; first | assumption | (simp [go_sem]; done) | (simp [go_sem]; done) | (simp [go_sem, *]; done)
    have s1_0 : w.heap.size < w1.heap.size := by omega
    have k1_1_0 : w1.cell? ⟨w.heap.size + 1, 0, none⟩ = some (.int .i64 x) := by rw [hc1 _ _ (by first | (simp; done) | omega | (simp; omega))]; first | assumption | (simp [go_sem]; done) | (simp [go_sem]; done) | (simp [go_sem, *]; done)
    have k1_1_1 : w1.cell? ⟨w.heap.size + 1, 1, none⟩ = some (.int .i64 y) := by rw [hc1 _ _ (by first | (simp; done) | omega | (simp; omega))]; first | assumption | (simp [go_sem]; done) | (simp [go_sem]; done) | (simp [go_sem, *]; done)
    have k1_1_2 : w1.cell? ⟨w.heap.size + 1, 2, none⟩ = some (.bool r) := by rw [hc1 _ _ (by first | (simp; done) | omega | (simp; omega))]; first | assumption | (simp [go_sem]; done) | (simp [go_sem]; done) | (simp [go_sem, *]; done)
    have k1_1_3 : w1.cell? ⟨w.heap.size + 1, 3, none⟩ = some (.bool u) := by rw [hc1 _ _ (by first | (simp; done) | omega | (simp; omega))]; first | assumption | (simp [go_sem]; done) | (simp [go_sem]; done) | (simp [go_sem, *]; done)
    have s1_1 : w.heap.size + 1 < w1.heap.size := by omega
    have hB1 : Below w.heap.size w w1 := (by repeat (first | exact Below.refl _ _ | refine bl_alloc ?_ _ | refine bl_drewN ?_ _ | refine bl_trans (by assumption) ?_ | refine bl_set ?_ (by first | omega | (simp; done) | (simp; omega)) _))
    have HB1 := Lib.hid hB1
    clear hB1 hc1 hf1 hb1
    rw [h]
    go_wp2
    go_ret2
    exact ⟨by simp [cpZ, h], HB1.out⟩
  have OK := Lib.hid (wayI_args h r u).1
  have HW := fun W => Lib.hid (wayOf_of h r u W)
  have HZ := Lib.hid (show cpZ a b x y r u = (cpN (wayI a b x y r u) (wlen (wayI a b x y r u)) : Nat) by simp [cpZ, h])
  have hwl := wlen_pos (wayI_args h r u).1
  generalize wlen (wayI a b x y r u) = n at *
  generalize (wayI a b x y r u) = t at *
  generalize t.e = e0 at *
  obtain ⟨hn1, hn2⟩ := hwl
  go_enter Try.func50, Try.ntmps50
  go_wp2_with fail
  refine (impl_IsBeam _ _ _ _ _ _ _).mono ?_
  rintro e w1 ⟨rfl, hb1⟩
  obtain ⟨hc1, hf1⟩ := bcell hb1
  have hz1 := bsize hb1
  (try simp only [World.size_alloc, World.size_setCell] at hz1)
  have k1_0_0 : w1.cell? ⟨w.heap.size, 0, none⟩ = some (.int .i64 a) := by rw [hc1 _ _ (by first | (simp; done) | omega | (simp; omega))]; first | assumption | (simp [go_sem]; done) | (simp [go_sem]; done) | (simp [go_sem, *]; done)
  have k1_0_1 : w1.cell? ⟨w.heap.size, 1, none⟩ = some (.int .i64 b) := by rw [hc1 _ _ (by first | (simp; done) | omega | (simp; omega))]; first | assumption | (simp [go_sem]; done) | (simp [go_sem]; done) | (simp [go_sem, *]; done)
  have s1_0 : w.heap.size < w1.heap.size := by omega
  have k1_1_0 : w1.cell? ⟨w.heap.size + 1, 0, none⟩ = some (.int .i64 x) := by rw [hc1 _ _ (by first | (simp; done) | omega | (simp; omega))]; first | assumption | (simp [go_sem]; done) | (simp [go_sem]; done) | (simp [go_sem, *]; done)
  have k1_1_1 : w1.cell? ⟨w.heap.size + 1, 1, none⟩ = some (.int .i64 y) := by rw [hc1 _ _ (by first | (simp; done) | omega | (simp; omega))]; first | assumption | (simp [go_sem]; done) | (simp [go_sem]; done) | (simp [go_sem, *]; done)
  have k1_1_2 : w1.cell? ⟨w.heap.size + 1, 2, none⟩ = some (.bool r) := by rw [hc1 _ _ (by first | (simp; done) | omega | (simp; omega))]; first | assumption | (simp [go_sem]; done) | (simp [go_sem]; done) | (simp [go_sem, *]; done)
  have k1_1_3 : w1.cell? ⟨w.heap.size + 1, 3, none⟩ = some (.bool u) := by rw [hc1 _ _ (by first | (simp; done) | omega | (simp; omega))]; first | assumption | (simp [go_sem]; done) | (simp [go_sem]; done) | (simp [go_sem, *]; done)
  have s1_1 : w.heap.size + 1 < w1.heap.size := by omega
  have hB1 : Below w.heap.size w w1 := (by repeat (first | exact Below.refl _ _ | refine bl_alloc ?_ _ | refine bl_drewN ?_ _ | refine bl_trans (by assumption) ?_ | refine bl_set ?_ (by first | omega | (simp; done) | (simp; omega)) _))
  have HB1 := Lib.hid hB1
  clear hB1 hc1 hf1 hb1
  rw [h]
  have HBp2 := HB1
  go_wp2_with fail
  refine ((HW _).out).mono ?_
  rintro e w2 ⟨g, cap, rfl, hR, hb2⟩
  obtain ⟨hc2, hf2⟩ := bcell hb2
  have hz2 := bsize hb2
  (try simp only [World.size_alloc, World.size_setCell] at hz2)
  have k2_0_0 : w2.cell? ⟨w.heap.size, 0, none⟩ = some (.int .i64 a) := by rw [hc2 _ _ (by first | (simp; done) | omega | (simp; omega))]; first | assumption | (simp [go_sem]; done) | (simp [go_sem, k1_0_0, k1_0_1, k1_1_0, k1_1_1, k1_1_2, k1_1_3]; done) | (simp [go_sem, *]; done)
  have k2_0_1 : w2.cell? ⟨w.heap.size, 1, none⟩ = some (.int .i64 b) := by rw [hc2 _ _ (by first | (simp; done) | omega | (simp; omega))]; first | assumption | (simp [go_sem]; done) | (simp [go_sem, k1_0_0, k1_0_1, k1_1_0, k1_1_1, k1_1_2, k1_1_3]; done) | (simp [go_sem, *]; done)
  have s2_0 : w.heap.size < w2.heap.size := by omega
  have k2_1_0 : w2.cell? ⟨w.heap.size + 1, 0, none⟩ = some (.int .i64 x) := by rw [hc2 _ _ (by first | (simp; done) | omega | (simp; omega))]; first | assumption | (simp [go_sem]; done) | (simp [go_sem, k1_0_0, k1_0_1, k1_1_0, k1_1_1, k1_1_2, k1_1_3]; done) | (simp [go_sem, *]; done)
  have k2_1_1 : w2.cell? ⟨w.heap.size + 1, 1, none⟩ = some (.int .i64 y) := by rw [hc2 _ _ (by first | (simp; done) | omega | (simp; omega))]; first | assumption | (simp [go_sem]; done) | (simp [go_sem, k1_0_0, k1_0_1, k1_1_0, k1_1_1, k1_1_2, k1_1_3]; done) | (simp [go_sem, *]; done)
  have k2_1_2 : w2.cell? ⟨w.heap.size + 1, 2, none⟩ = some (.bool r) := by rw [hc2 _ _ (by first | (simp; done) | omega | (simp; omega))]; first | assumption | (simp [go_sem]; done) | (simp [go_sem, k1_0_0, k1_0_1, k1_1_0, k1_1_1, k1_1_2, k1_1_3]; done) | (simp [go_sem, *]; done)
  have k2_1_3 : w2.cell? ⟨w.heap.size + 1, 3, none⟩ = some (.bool u) := by rw [hc2 _ _ (by first | (simp; done) | omega | (simp; omega))]; first | assumption | (simp [go_sem]; done) | (simp [go_sem, k1_0_0, k1_0_1, k1_1_0, k1_1_1, k1_1_2, k1_1_3]; done) | (simp [go_sem, *]; done)
  have s2_1 : w.heap.size + 1 < w2.heap.size := by omega
  have hB2 : Below w.heap.size w w2 := (by repeat (first | exact Below.refl _ _ | exact HB1.out | refine bl_alloc ?_ _ | refine bl_drewN ?_ _ | refine bl_trans (by assumption) ?_ | refine bl_set ?_ (by first | omega | (simp; done) | (simp; omega)) _))
  have HB2 := Lib.hid hB2
  clear hB2 hc2 hf2 hb2 k1_0_0 k1_0_1 k1_1_0 k1_1_1 k1_1_2 k1_1_3
  have R0 := Lib.hid hR
  clear hR
  have HBp3 := HB2
  go_wp2_with fail
  refine ((timesAt OK.out g cap n e0 hn1 (by omega) _ _ R0.out)).mono ?_
  rintro e w3 ⟨m, K, es, rfl, hm9, hPM, hb3⟩
  obtain ⟨hc3, hf3⟩ := bcell hb3
  have hz3 := bsize hb3
  (try simp only [World.size_alloc, World.size_setCell] at hz3)
  have k3_0_0 : w3.cell? ⟨w.heap.size, 0, none⟩ = some (.int .i64 a) := by rw [hc3 _ _ (by first | (simp; done) | omega | (simp; omega))]; first | assumption | (simp [go_sem]; done) | (simp [go_sem, k2_0_0, k2_0_1, k2_1_0, k2_1_1, k2_1_2, k2_1_3]; done) | (simp [go_sem, *]; done)
  have k3_0_1 : w3.cell? ⟨w.heap.size, 1, none⟩ = some (.int .i64 b) := by rw [hc3 _ _ (by first | (simp; done) | omega | (simp; omega))]; first | assumption | (simp [go_sem]; done) | (simp [go_sem, k2_0_0, k2_0_1, k2_1_0, k2_1_1, k2_1_2, k2_1_3]; done) | (simp [go_sem, *]; done)
  have s3_0 : w.heap.size < w3.heap.size := by omega
  have k3_1_0 : w3.cell? ⟨w.heap.size + 1, 0, none⟩ = some (.int .i64 x) := by rw [hc3 _ _ (by first | (simp; done) | omega | (simp; omega))]; first | assumption | (simp [go_sem]; done) | (simp [go_sem, k2_0_0, k2_0_1, k2_1_0, k2_1_1, k2_1_2, k2_1_3]; done) | (simp [go_sem, *]; done)
  have k3_1_1 : w3.cell? ⟨w.heap.size + 1, 1, none⟩ = some (.int .i64 y) := by rw [hc3 _ _ (by first | (simp; done) | omega | (simp; omega))]; first | assumption | (simp [go_sem]; done) | (simp [go_sem, k2_0_0, k2_0_1, k2_1_0, k2_1_1, k2_1_2, k2_1_3]; done) | (simp [go_sem, *]; done)
  have k3_1_2 : w3.cell? ⟨w.heap.size + 1, 2, none⟩ = some (.bool r) := by rw [hc3 _ _ (by first | (simp; done) | omega | (simp; omega))]; first | assumption | (simp [go_sem]; done) | (simp [go_sem, k2_0_0, k2_0_1, k2_1_0, k2_1_1, k2_1_2, k2_1_3]; done) | (simp [go_sem, *]; done)
  have k3_1_3 : w3.cell? ⟨w.heap.size + 1, 3, none⟩ = some (.bool u) := by rw [hc3 _ _ (by first | (simp; done) | omega | (simp; omega))]; first | assumption | (simp [go_sem]; done) | (simp [go_sem, k2_0_0, k2_0_1, k2_1_0, k2_1_1, k2_1_2, k2_1_3]; done) | (simp [go_sem, *]; done)
  have s3_1 : w.heap.size + 1 < w3.heap.size := by omega
  have hB3 : Below w.heap.size w w3 := (by repeat (first | exact Below.refl _ _ | exact HB2.out | refine bl_alloc ?_ _ | refine bl_drewN ?_ _ | refine bl_trans (by assumption) ?_ | refine bl_set ?_ (by first | omega | (simp; done) | (simp; omega)) _))
  have HB3 := Lib.hid hB3
  clear hB3 hc3 hf3 hb3 k2_0_0 k2_0_1 k2_1_0 k2_1_1 k2_1_2 k2_1_3
  have HPM := Lib.hid hPM
  clear hPM
  have HL := HPM.out.own.len (e := 3) Try.underlying87 3
  rw [HPM.out.size_ OK.out] at HL
  go_wp2
  go_ret2
  exact ⟨by rw [HZ.out]; rfl, HB3.out⟩
end Go.Proofs.Ytnhjiipkekblfaa
