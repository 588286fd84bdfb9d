/- CountCrossings by the model. -/
import Derived.Test.YtgpfnbajjephpaaM6
import Derived.Test.YtgpfnbajjephpaaM4
namespace Go.Proofs.Ytgpfnbajjephpaa
open Go.RowKit Beam Go.WideMaps Go.WideElems Go.Maps
set_option linter.unusedVariables false
set_option linter.unusedSimpArgs false
theorem beTimes_of {a b x y : Int} (h : okB a b x y = true) (r u : Bool) (g cap n : Nat) (h1 : 1 ≤ n) (h2 : n ≤ 100000) (w : World) (B : Nat) (hR : BRow w B (.slice (some ⟨g, 0, none⟩) n cap) n (wayI a b x y r u)) :
    Calls Try.prog 10 #[.agg #[.int .i64 a, .int .i64 b], .slice (some ⟨g, 0, none⟩) n cap] w fun e w' => ∃ c, e = .returned (.slice (some ⟨c, 0, none⟩) (cntN (wayI a b x y r u)) (cntN (wayI a b x y r u))) ∧ IRow w' w.heap.size (.slice (some ⟨c, 0, none⟩) (cntN (wayI a b x y r u)) (cntN (wayI a b x y r u))) (cnts (wayI a b x y r u) n) ∧ Below w.heap.size w w' := by
  obtain ⟨hk, e1, e2, _⟩ := wayI_args h r u
  generalize wayI a b x y r u = t at *
  rw [e1, e2]
  exact beTimes_any hk g cap n h1 h2 w B hR
theorem cnts_at {t : BWay} {n i : Nat} (h : i < cntN t) : (cnts t n).getD i 0 = ((timesUp (plAt t) n (uncell t.H i) : Nat) : Int) := by
  rw [List.getD_eq_getElem?_getD, List.getElem?_eq_getElem (by rw [cnts_len]; exact h)]
  simp only [cnts, List.getElem_map, List.getElem_range, Option.getD_some]
def ccP (t : BWay) (n i : Nat) : Bool := decide (0 < timesUp (plAt t) n (uncell t.H i)) && crP t n (uncell t.H i)
def ccTo (t : BWay) (n i : Nat) : Nat := (List.range i).countP (ccP t n)
theorem ccTo_le (t : BWay) (n i : Nat) : ccTo t n i ≤ i := by
  have := List.countP_le_length (l := List.range i) (p := ccP t n)
  rwa [List.length_range] at this
theorem ccTo_yes {t : BWay} {n i : Nat} (h : ccP t n i = true) : ccTo t n (i + 1) = ccTo t n i + 1 := by unfold ccTo; rw [countP_range_succ]; simp [h]
theorem ccTo_no {t : BWay} {n i : Nat} (h : ccP t n i = false) : ccTo t n (i + 1) = ccTo t n i := by unfold ccTo; rw [countP_range_succ]; simp [h]
theorem made_e {t : BWay} (h : t.ok) (he : t.e = true) : t.made (longN t) + 1 = wlen t := by rw [made_long h he]; simp [wlen, he]
theorem quo_nat (i H : Nat) : (i : Int) / ((H : Int) + 1) = ((i / (H + 1) : Nat) : Int) := by rw [Int.natCast_ediv]; rfl
theorem rem_nat (i H : Nat) : (i : Int) % ((H : Int) + 1) = ((i % (H + 1) : Nat) : Int) := by rw [Int.natCast_emod]; rfl
theorem quo_le {i W H : Nat} (h : i < (W + 1) * (H + 1)) : i / (H + 1) ≤ W := Nat.le_of_lt_succ (Nat.div_lt_of_lt_mul (by rw [Nat.mul_comm]; exact h))
set_option maxRecDepth 100000 in
set_option maxHeartbeats 4000000 in
theorem spec_CountCrossings (a b x y : Int) (r u : Bool) (w : World) :
    Calls Try.prog 4 #[.agg #[.int .i64 a, .int .i64 b], .agg #[.int .i64 x, .int .i64 y, .bool r, .bool u]] w fun e w' => e = .returned (.tuple #[.int .i64 (ccZ a b x y r u), .bool (okCC a b x y r u)]) ∧ Below w.heap.size w w' := by
  cases h : okB a b x y
  · have HZ := Lib.hid (show ccZ a b x y r u = 0 by simp [ccZ, okCC, h])
    have HO := Lib.hid (show okCC a b x y r u = false by simp [okCC, h])
    go_enter Try.func4, Try.ntmps4
    go_wp2_with fail
    refine (spec_beGood _ _ _ _ _ _ _).mono ?_
    rintro e w1 ⟨rfl, hb1⟩
    obtain ⟨hc1, hf1⟩ := bcell hb1
    have hz1 := bsize hb1
    (try simp only [World.size_alloc, World.size_setCell] at hz1)
    have k1_0_0 : w1.cell? ⟨w.heap.size, 0, none⟩ = some (.int .i64 a) := by rw [hc1 _ _ (by first | (simp; done) | omega | (simp; omega))]; first | assumption | (simp [go_sem]; done) | (simp [go_sem]; done) | (simp [go_sem, *]; done)
    have k1_0_1 : w1.cell? ⟨w.heap.size, 1, none⟩ = some (.int .i64 b) := by rw [hc1 _ _ (by first | (simp; done) | omega | (simp; omega))]; first | assumption | (simp [go_sem]; done) | (simp [go_sem]; done) | (simp [go_sem, *]; done)
    have s1_0 : w.heap.size < w1.heap.size := by omega
    have k1_1_0 : w1.cell? ⟨w.heap.size + 1, 0, none⟩ = some (.int .i64 x) := by rw [hc1 _ _ (by first | (simp; done) | omega | (simp; omega))]; first | assumption | (simp [go_sem]; done) | (simp [go_sem]; done) | (simp [go_sem, *]; done)
    have k1_1_1 : w1.cell? ⟨w.heap.size + 1, 1, none⟩ = some (.int .i64 y) := by rw [hc1 _ _ (by first | (simp; done) | omega | (simp; omega))]; first | assumption | (simp [go_sem]; done) | (simp [go_sem]; done) | (simp [go_sem, *]; done)
    have k1_1_2 : w1.cell? ⟨w.heap.size + 1, 2, none⟩ = some (.bool r) := by rw [hc1 _ _ (by first | (simp; done) | omega | (simp; omega))]; first | assumption | (simp [go_sem]; done) | (simp [go_sem]; done) | (simp [go_sem, *]; done)
    have k1_1_3 : w1.cell? ⟨w.heap.size + 1, 3, none⟩ = some (.bool u) := by rw [hc1 _ _ (by first | (simp; done) | omega | (simp; omega))]; first | assumption | (simp [go_sem]; done) | (simp [go_sem]; done) | (simp [go_sem, *]; done)
    have s1_1 : w.heap.size + 1 < w1.heap.size := by omega
    have hB1 : Below w.heap.size w w1 := (by repeat (first | exact Below.refl _ _ | refine bl_alloc ?_ _ | refine bl_drewN ?_ _ | refine bl_trans (by assumption) ?_ | refine bl_set ?_ (by first | omega | (simp; done) | (simp; omega)) _))
    have HB1 := Lib.hid hB1
    clear hB1 hc1 hf1 hb1
    rw [h]
    go_wp2
    go_ret2
    exact ⟨by rw [HZ.out, HO.out]; first | done | rfl, HB1.out⟩
  have OK := Lib.hid (wayI_args h r u).1
  have HE := fun W => Lib.hid (beEnd_of h r u W)
  have HT := fun g cap n h1 h2 W B hR => Lib.hid (beTimes_of h r u g cap n h1 h2 W B hR)
  have hwl := wlen_pos (wayI_args h r u).1
  have hmd := fun he => made_e (t := wayI a b x y r u) (wayI_args h r u).1 he
  obtain ⟨_, ea, eb, ex, ey, _⟩ := wayI_args h r u
  have HZ := Lib.hid (show ccZ a b x y r u = if (wayI a b x y r u).e then ((ccN (wayI a b x y r u) (wlen (wayI a b x y r u)) : Nat) : Int) else 0 by simp [ccZ, okCC, h])
  have HO := Lib.hid (show okCC a b x y r u = (wayI a b x y r u).e by simp [okCC, h])
  generalize wlen (wayI a b x y r u) = n at *
  generalize (wayI a b x y r u) = t at *
  subst ea eb ex ey
  obtain ⟨hn1, hn2⟩ := hwl
  cases he : t.e
  · rw [he] at HZ HO
    simp only [he] at HE
    clear hmd HT
    go_enter Try.func4, Try.ntmps4
    go_wp2_with fail
    refine (spec_beGood _ _ _ _ _ _ _).mono ?_
    rintro e w1 ⟨rfl, hb1⟩
    obtain ⟨hc1, hf1⟩ := bcell hb1
    have hz1 := bsize hb1
    (try simp only [World.size_alloc, World.size_setCell] at hz1)
    have k1_0_0 : w1.cell? ⟨w.heap.size, 0, none⟩ = some (.int .i64 (t.W : Nat)) := by rw [hc1 _ _ (by first | (simp; done) | omega | (simp; omega))]; first | assumption | (simp [go_sem]; done) | (simp [go_sem]; done) | (simp [go_sem, *]; done)
    have k1_0_1 : w1.cell? ⟨w.heap.size, 1, none⟩ = some (.int .i64 (t.H : Nat)) := by rw [hc1 _ _ (by first | (simp; done) | omega | (simp; omega))]; first | assumption | (simp [go_sem]; done) | (simp [go_sem]; done) | (simp [go_sem, *]; done)
    have s1_0 : w.heap.size < w1.heap.size := by omega
    have k1_1_0 : w1.cell? ⟨w.heap.size + 1, 0, none⟩ = some (.int .i64 (t.x 0 : Nat)) := by rw [hc1 _ _ (by first | (simp; done) | omega | (simp; omega))]; first | assumption | (simp [go_sem]; done) | (simp [go_sem]; done) | (simp [go_sem, *]; done)
    have k1_1_1 : w1.cell? ⟨w.heap.size + 1, 1, none⟩ = some (.int .i64 (t.y 0 : Nat)) := by rw [hc1 _ _ (by first | (simp; done) | omega | (simp; omega))]; first | assumption | (simp [go_sem]; done) | (simp [go_sem]; done) | (simp [go_sem, *]; done)
    have k1_1_2 : w1.cell? ⟨w.heap.size + 1, 2, none⟩ = some (.bool r) := by rw [hc1 _ _ (by first | (simp; done) | omega | (simp; omega))]; first | assumption | (simp [go_sem]; done) | (simp [go_sem]; done) | (simp [go_sem, *]; done)
    have k1_1_3 : w1.cell? ⟨w.heap.size + 1, 3, none⟩ = some (.bool u) := by rw [hc1 _ _ (by first | (simp; done) | omega | (simp; omega))]; first | assumption | (simp [go_sem]; done) | (simp [go_sem]; done) | (simp [go_sem, *]; done)
    have s1_1 : w.heap.size + 1 < w1.heap.size := by omega
    have hB1 : Below w.heap.size w w1 := (by repeat (first | exact Below.refl _ _ | refine bl_alloc ?_ _ | refine bl_drewN ?_ _ | refine bl_trans (by assumption) ?_ | refine bl_set ?_ (by first | omega | (simp; done) | (simp; omega)) _))
    have HB1 := Lib.hid hB1
    clear hB1 hc1 hf1 hb1
    rw [h]
    have HBp2 := HB1
    go_wp2_with fail
    refine ((HE _).out).mono ?_
    rintro e w2 ⟨g, cap, rfl, hR, hb2⟩
    obtain ⟨hc2, hf2⟩ := bcell hb2
    have hz2 := bsize hb2
    (try simp only [World.size_alloc, World.size_setCell] at hz2)
    have k2_0_0 : w2.cell? ⟨w.heap.size, 0, none⟩ = some (.int .i64 (t.W : Nat)) := by rw [hc2 _ _ (by first | (simp; done) | omega | (simp; omega))]; first | assumption | (simp [go_sem]; done) | (simp [go_sem, k1_0_0, k1_0_1, k1_1_0, k1_1_1, k1_1_2, k1_1_3]; done) | (simp [go_sem, *]; done)
    have k2_0_1 : w2.cell? ⟨w.heap.size, 1, none⟩ = some (.int .i64 (t.H : Nat)) := by rw [hc2 _ _ (by first | (simp; done) | omega | (simp; omega))]; first | assumption | (simp [go_sem]; done) | (simp [go_sem, k1_0_0, k1_0_1, k1_1_0, k1_1_1, k1_1_2, k1_1_3]; done) | (simp [go_sem, *]; done)
    have s2_0 : w.heap.size < w2.heap.size := by omega
    have k2_1_0 : w2.cell? ⟨w.heap.size + 1, 0, none⟩ = some (.int .i64 (t.x 0 : Nat)) := by rw [hc2 _ _ (by first | (simp; done) | omega | (simp; omega))]; first | assumption | (simp [go_sem]; done) | (simp [go_sem, k1_0_0, k1_0_1, k1_1_0, k1_1_1, k1_1_2, k1_1_3]; done) | (simp [go_sem, *]; done)
    have k2_1_1 : w2.cell? ⟨w.heap.size + 1, 1, none⟩ = some (.int .i64 (t.y 0 : Nat)) := by rw [hc2 _ _ (by first | (simp; done) | omega | (simp; omega))]; first | assumption | (simp [go_sem]; done) | (simp [go_sem, k1_0_0, k1_0_1, k1_1_0, k1_1_1, k1_1_2, k1_1_3]; done) | (simp [go_sem, *]; done)
    have k2_1_2 : w2.cell? ⟨w.heap.size + 1, 2, none⟩ = some (.bool r) := by rw [hc2 _ _ (by first | (simp; done) | omega | (simp; omega))]; first | assumption | (simp [go_sem]; done) | (simp [go_sem, k1_0_0, k1_0_1, k1_1_0, k1_1_1, k1_1_2, k1_1_3]; done) | (simp [go_sem, *]; done)
    have k2_1_3 : w2.cell? ⟨w.heap.size + 1, 3, none⟩ = some (.bool u) := by rw [hc2 _ _ (by first | (simp; done) | omega | (simp; omega))]; first | assumption | (simp [go_sem]; done) | (simp [go_sem, k1_0_0, k1_0_1, k1_1_0, k1_1_1, k1_1_2, k1_1_3]; done) | (simp [go_sem, *]; done)
    have s2_1 : w.heap.size + 1 < w2.heap.size := by omega
    have hB2 : Below w.heap.size w w2 := (by repeat (first | exact Below.refl _ _ | exact HB1.out | refine bl_alloc ?_ _ | refine bl_drewN ?_ _ | refine bl_trans (by assumption) ?_ | refine bl_set ?_ (by first | omega | (simp; done) | (simp; omega)) _))
    have HB2 := Lib.hid hB2
    clear hB2 hc2 hf2 hb2 k1_0_0 k1_0_1 k1_1_0 k1_1_1 k1_1_2 k1_1_3
    go_wp2
    go_ret2
    exact ⟨by rw [HZ.out, HO.out]; first | done | rfl, HB2.out⟩
  have hm := hmd he
  rw [he] at HZ HO
  simp only [he, hm] at HE
  clear hmd
  go_enter Try.func4, Try.ntmps4
  go_wp2_with fail
  refine (spec_beGood _ _ _ _ _ _ _).mono ?_
  rintro e w1 ⟨rfl, hb1⟩
  obtain ⟨hc1, hf1⟩ := bcell hb1
  have hz1 := bsize hb1
  (try simp only [World.size_alloc, World.size_setCell] at hz1)
  have k1_0_0 : w1.cell? ⟨w.heap.size, 0, none⟩ = some (.int .i64 (t.W : Nat)) := by rw [hc1 _ _ (by first | (simp; done) | omega | (simp; omega))]; first | assumption | (simp [go_sem]; done) | (simp [go_sem]; done) | (simp [go_sem, *]; done)
  have k1_0_1 : w1.cell? ⟨w.heap.size, 1, none⟩ = some (.int .i64 (t.H : Nat)) := by rw [hc1 _ _ (by first | (simp; done) | omega | (simp; omega))]; first | assumption | (simp [go_sem]; done) | (simp [go_sem]; done) | (simp [go_sem, *]; done)
  have s1_0 : w.heap.size < w1.heap.size := by omega
  have k1_1_0 : w1.cell? ⟨w.heap.size + 1, 0, none⟩ = some (.int .i64 (t.x 0 : Nat)) := by rw [hc1 _ _ (by first | (simp; done) | omega | (simp; omega))]; first | assumption | (simp [go_sem]; done) | (simp [go_sem]; done) | (simp [go_sem, *]; done)
  have k1_1_1 : w1.cell? ⟨w.heap.size + 1, 1, none⟩ = some (.int .i64 (t.y 0 : Nat)) := by rw [hc1 _ _ (by first | (simp; done) | omega | (simp; omega))]; first | assumption | (simp [go_sem]; done) | (simp [go_sem]; done) | (simp [go_sem, *]; done)
  have k1_1_2 : w1.cell? ⟨w.heap.size + 1, 2, none⟩ = some (.bool r) := by rw [hc1 _ _ (by first | (simp; done) | omega | (simp; omega))]; first | assumption | (simp [go_sem]; done) | (simp [go_sem]; done) | (simp [go_sem, *]; done)
  have k1_1_3 : w1.cell? ⟨w.heap.size + 1, 3, none⟩ = some (.bool u) := by rw [hc1 _ _ (by first | (simp; done) | omega | (simp; omega))]; first | assumption | (simp [go_sem]; done) | (simp [go_sem]; done) | (simp [go_sem, *]; done)
  have s1_1 : w.heap.size + 1 < w1.heap.size := by omega
  have hB1 : Below w.heap.size w w1 := (by repeat (first | exact Below.refl _ _ | refine bl_alloc ?_ _ | refine bl_drewN ?_ _ | refine bl_trans (by assumption) ?_ | refine bl_set ?_ (by first | omega | (simp; done) | (simp; omega)) _))
  have HB1 := Lib.hid hB1
  clear hB1 hc1 hf1 hb1
  rw [h]
  have HBp2 := HB1
  go_wp2_with fail
  refine ((HE _).out).mono ?_
  rintro e w2 ⟨g, cap, rfl, hR, hb2⟩
  obtain ⟨hc2, hf2⟩ := bcell hb2
  have hz2 := bsize hb2
  (try simp only [World.size_alloc, World.size_setCell] at hz2)
  have k2_0_0 : w2.cell? ⟨w.heap.size, 0, none⟩ = some (.int .i64 (t.W : Nat)) := by rw [hc2 _ _ (by first | (simp; done) | omega | (simp; omega))]; first | assumption | (simp [go_sem]; done) | (simp [go_sem, k1_0_0, k1_0_1, k1_1_0, k1_1_1, k1_1_2, k1_1_3]; done) | (simp [go_sem, *]; done)
  have k2_0_1 : w2.cell? ⟨w.heap.size, 1, none⟩ = some (.int .i64 (t.H : Nat)) := by rw [hc2 _ _ (by first | (simp; done) | omega | (simp; omega))]; first | assumption | (simp [go_sem]; done) | (simp [go_sem, k1_0_0, k1_0_1, k1_1_0, k1_1_1, k1_1_2, k1_1_3]; done) | (simp [go_sem, *]; done)
  have s2_0 : w.heap.size < w2.heap.size := by omega
  have k2_1_0 : w2.cell? ⟨w.heap.size + 1, 0, none⟩ = some (.int .i64 (t.x 0 : Nat)) := by rw [hc2 _ _ (by first | (simp; done) | omega | (simp; omega))]; first | assumption | (simp [go_sem]; done) | (simp [go_sem, k1_0_0, k1_0_1, k1_1_0, k1_1_1, k1_1_2, k1_1_3]; done) | (simp [go_sem, *]; done)
  have k2_1_1 : w2.cell? ⟨w.heap.size + 1, 1, none⟩ = some (.int .i64 (t.y 0 : Nat)) := by rw [hc2 _ _ (by first | (simp; done) | omega | (simp; omega))]; first | assumption | (simp [go_sem]; done) | (simp [go_sem, k1_0_0, k1_0_1, k1_1_0, k1_1_1, k1_1_2, k1_1_3]; done) | (simp [go_sem, *]; done)
  have k2_1_2 : w2.cell? ⟨w.heap.size + 1, 2, none⟩ = some (.bool r) := by rw [hc2 _ _ (by first | (simp; done) | omega | (simp; omega))]; first | assumption | (simp [go_sem]; done) | (simp [go_sem, k1_0_0, k1_0_1, k1_1_0, k1_1_1, k1_1_2, k1_1_3]; done) | (simp [go_sem, *]; done)
  have k2_1_3 : w2.cell? ⟨w.heap.size + 1, 3, none⟩ = some (.bool u) := by rw [hc2 _ _ (by first | (simp; done) | omega | (simp; omega))]; first | assumption | (simp [go_sem]; done) | (simp [go_sem, k1_0_0, k1_0_1, k1_1_0, k1_1_1, k1_1_2, k1_1_3]; done) | (simp [go_sem, *]; done)
  have s2_1 : w.heap.size + 1 < w2.heap.size := by omega
  have hB2 : Below w.heap.size w w2 := (by repeat (first | exact Below.refl _ _ | exact HB1.out | refine bl_alloc ?_ _ | refine bl_drewN ?_ _ | refine bl_trans (by assumption) ?_ | refine bl_set ?_ (by first | omega | (simp; done) | (simp; omega)) _))
  have HB2 := Lib.hid hB2
  clear hB2 hc2 hf2 hb2 k1_0_0 k1_0_1 k1_1_0 k1_1_1 k1_1_2 k1_1_3
  have R0 := Lib.hid hR
  clear hR
  have HBp3 := HB2
  go_wp2_with fail
  refine ((HT g cap n hn1 (by omega) _ _ R0.out).out).mono ?_
  rintro e w3 ⟨c9, rfl, hC, hb3⟩
  obtain ⟨hc3, hf3⟩ := bcell hb3
  have hz3 := bsize hb3
  (try simp only [World.size_alloc, World.size_setCell] at hz3)
  have k3_0_0 : w3.cell? ⟨w.heap.size, 0, none⟩ = some (.int .i64 (t.W : Nat)) := by rw [hc3 _ _ (by first | (simp; done) | omega | (simp; omega))]; first | assumption | (simp [go_sem]; done) | (simp [go_sem, k2_0_0, k2_0_1, k2_1_0, k2_1_1, k2_1_2, k2_1_3]; done) | (simp [go_sem, *]; done)
  have k3_0_1 : w3.cell? ⟨w.heap.size, 1, none⟩ = some (.int .i64 (t.H : Nat)) := by rw [hc3 _ _ (by first | (simp; done) | omega | (simp; omega))]; first | assumption | (simp [go_sem]; done) | (simp [go_sem, k2_0_0, k2_0_1, k2_1_0, k2_1_1, k2_1_2, k2_1_3]; done) | (simp [go_sem, *]; done)
  have s3_0 : w.heap.size < w3.heap.size := by omega
  have k3_1_0 : w3.cell? ⟨w.heap.size + 1, 0, none⟩ = some (.int .i64 (t.x 0 : Nat)) := by rw [hc3 _ _ (by first | (simp; done) | omega | (simp; omega))]; first | assumption | (simp [go_sem]; done) | (simp [go_sem, k2_0_0, k2_0_1, k2_1_0, k2_1_1, k2_1_2, k2_1_3]; done) | (simp [go_sem, *]; done)
  have k3_1_1 : w3.cell? ⟨w.heap.size + 1, 1, none⟩ = some (.int .i64 (t.y 0 : Nat)) := by rw [hc3 _ _ (by first | (simp; done) | omega | (simp; omega))]; first | assumption | (simp [go_sem]; done) | (simp [go_sem, k2_0_0, k2_0_1, k2_1_0, k2_1_1, k2_1_2, k2_1_3]; done) | (simp [go_sem, *]; done)
  have k3_1_2 : w3.cell? ⟨w.heap.size + 1, 2, none⟩ = some (.bool r) := by rw [hc3 _ _ (by first | (simp; done) | omega | (simp; omega))]; first | assumption | (simp [go_sem]; done) | (simp [go_sem, k2_0_0, k2_0_1, k2_1_0, k2_1_1, k2_1_2, k2_1_3]; done) | (simp [go_sem, *]; done)
  have k3_1_3 : w3.cell? ⟨w.heap.size + 1, 3, none⟩ = some (.bool u) := by rw [hc3 _ _ (by first | (simp; done) | omega | (simp; omega))]; first | assumption | (simp [go_sem]; done) | (simp [go_sem, k2_0_0, k2_0_1, k2_1_0, k2_1_1, k2_1_2, k2_1_3]; done) | (simp [go_sem, *]; done)
  have s3_1 : w.heap.size + 1 < w3.heap.size := by omega
  have hB3 : Below w.heap.size w w3 := (by repeat (first | exact Below.refl _ _ | exact HB2.out | refine bl_alloc ?_ _ | refine bl_drewN ?_ _ | refine bl_trans (by assumption) ?_ | refine bl_set ?_ (by first | omega | (simp; done) | (simp; omega)) _))
  have HB3 := Lib.hid hB3
  clear hB3 hc3 hf3 hb3 k2_0_0 k2_0_1 k2_1_0 k2_1_1 k2_1_2 k2_1_3
  have R2 := Lib.hid hC
  clear hC
  have hcc : cntN t ≤ 3721 := cntN_le OK.out
  obtain ⟨c', cap', hcv, _, hcs, _, _, hcell, _⟩ := R2.out.some_ (by rw [cnts_len]; unfold cntN; exact Nat.mul_pos (Nat.succ_pos _) (Nat.succ_pos _))
  rw [cnts_len] at hcv hcell
  simp only [Value.slice.injEq, Option.some.injEq, Addr.mk.injEq, and_true, true_and] at hcv
  obtain ⟨rfl, _⟩ := hcv
  have HCELL := Lib.hid hcell
  have hHl : t.H ≤ 60 := OK.out.2.2.2
  clear hcell
  go_wp2
  go_loopw [9, 31] (fun cr i wr => ∃ k m : Nat, k ≤ cntN t ∧ i = .int .i64 (k : Int) ∧ cr = .int .i64 ((ccTo t n k : Nat) : Int) ∧ wr = w3.drewN m) (fun _ i _ => cntN t - (intOf i).toNat)
  case atStart => exact ⟨0, 0, Nat.zero_le _, rfl, rfl, rfl⟩
  case round =>
    obtain ⟨k, m, hk, rfl, rfl, rfl⟩ := hrel
    have hcl := Nat.le_trans (ccTo_le t n k) hk
    by_cases hlt : k < cntN t
    · have c1 := HCELL.out k hlt
      rw [cnts_at hlt] at c1
      have hlt' : (k : Int) < (cntN t : Int) := by omega
      have hpx := quo_le (W := t.W) (H := t.H) (i := k) hlt
      have hpy : k % (t.H + 1) ≤ t.H := Nat.le_of_lt_succ (Nat.mod_lt _ (Nat.succ_pos _))
      have f1 := quo_nat k t.H
      have f2 := rem_nat k t.H
      have hU : uncell t.H k = (k / (t.H + 1), k % (t.H + 1)) := rfl
      have HP : Hid (ccP t n k = (decide (0 < timesUp (plAt t) n (uncell t.H k)) && (decide (1 < timesUp (plAt t) n (uncell t.H k)) && (!((k / (t.H + 1) == t.x 0) && (k % (t.H + 1) == t.y 0)) && (!(k / (t.H + 1) == 0 || k / (t.H + 1) == t.W) && !(k % (t.H + 1) == 0 || k % (t.H + 1) == t.H)))))) := Lib.hid (by
        unfold ccP crP
        have e : ((uncell t.H k) == plAt t 0) = ((k / (t.H + 1) == t.x 0) && (k % (t.H + 1) == t.y 0)) := by rw [Bool.eq_iff_iff]; simp [plAt, uncell]
        rw [e]
        rfl)
      have htm : timesUp (plAt t) n (uncell t.H k) ≤ 7201 := Nat.le_trans (timesUp_le _ _ _) (by omega)
      have hY := fun h => ccTo_yes (t := t) (n := n) (i := k) h
      have hN := fun h => ccTo_no (t := t) (n := n) (i := k) h
      have HY := Lib.hid hY
      have HN := Lib.hid hN
      generalize timesUp (plAt t) n (uncell t.H k) = tm at *
      generalize k / (t.H + 1) = px at *
      generalize k % (t.H + 1) = py at *
      generalize ccTo t n k = c at *
      clear hU hY hN
      have hne0 : (((t.H : Int) + 1) == 0) = false := by simp; omega
      have hWl : t.W ≤ 60 := OK.out.2.2.1
      have hx0l : t.x 0 ≤ 60 := x_le OK.out 0
      have WX := Lib.hid (IntWalk.wrap64_in (px : Int) ⟨by omega, by omega⟩)
      clear hWl hx0l
      by_cases g1 : 1 < tm
      · by_cases g2 : 0 < px
        · by_cases g3 : px < t.W
          · by_cases g4 : 0 < py
            · by_cases g5 : py < t.H
              · by_cases g6 : px = t.x 0
                · have b6 : ((px : Int) != ((t.x 0 : Nat) : Int)) = false := by simp [g6]
                  by_cases g7 : py = t.y 0
                  · have b7 : ((py : Int) != ((t.y 0 : Nat) : Int)) = false := by simp [g7]
                    have HQ := Lib.hid (HN.out (by rw [HP.out]; simp [g6, g7]))
                    (try clear z1); (try clear z2); (try clear z3); (try clear z4); (try clear z5); (try clear g6); (try clear g7)
                    clear HP HN HY hpx hpy
                    have wx := WX.out
                    go_wp2_with fail
                    go_quiet (fail)
                    go_wp2
                    go_roundw
                    case rel =>
                      clear wx
                      exact ⟨k + 1, m + nq, by omega, by go_num, by rw [HQ.out], by simp⟩
                    case measure =>
                      clear wx
                      simp only [intOf]
                      omega
                  · have b7 : ((py : Int) != ((t.y 0 : Nat) : Int)) = true := by simp; omega
                    have z1 : 0 < tm := by omega
                    have z2 : px ≠ 0 := by omega
                    have z3 : px ≠ t.W := by omega
                    have z4 : py ≠ 0 := by omega
                    have z5 : py ≠ t.H := by omega
                    have HQ := Lib.hid (HY.out (by rw [HP.out]; simp [z1, g1, g7, z2, z3, z4, z5]))
                    (try clear z1); (try clear z2); (try clear z3); (try clear z4); (try clear z5); (try clear g6); (try clear g7)
                    clear HP HN HY hpx hpy
                    have wx := WX.out
                    go_wp2_with fail
                    go_quiet (fail)
                    go_wp2
                    go_roundw
                    case rel =>
                      clear wx
                      exact ⟨k + 1, m + nq, by omega, by go_num, by rw [HQ.out]; first | done | rfl | go_num, by simp⟩
                    case measure =>
                      clear wx
                      simp only [intOf]
                      omega
                · have b6 : ((px : Int) != ((t.x 0 : Nat) : Int)) = true := by simp; omega
                  have z1 : 0 < tm := by omega
                  have z2 : px ≠ 0 := by omega
                  have z3 : px ≠ t.W := by omega
                  have z4 : py ≠ 0 := by omega
                  have z5 : py ≠ t.H := by omega
                  have HQ := Lib.hid (HY.out (by rw [HP.out]; simp [z1, g1, g6, z2, z3, z4, z5]))
                  (try clear z1); (try clear z2); (try clear z3); (try clear z4); (try clear z5); (try clear g6); (try clear g7)
                  clear HP HN HY hpx hpy
                  have wx := WX.out
                  go_wp2_with fail
                  go_quiet (fail)
                  go_wp2
                  go_roundw
                  case rel =>
                    clear wx
                    exact ⟨k + 1, m + nq, by omega, by go_num, by rw [HQ.out]; first | done | rfl | go_num, by simp⟩
                  case measure =>
                    clear wx
                    simp only [intOf]
                    omega
              · have z5 : py = t.H := by omega
                have HQ := Lib.hid (HN.out (by rw [HP.out]; simp [z5]))
                (try clear z1); (try clear z2); (try clear z3); (try clear z4); (try clear z5); (try clear g6); (try clear g7)
                clear HP HN HY hpx hpy
                have wx := WX.out
                go_wp2_with fail
                go_quiet (fail)
                go_wp2
                go_roundw
                case rel =>
                  clear wx
                  exact ⟨k + 1, m + nq, by omega, by go_num, by rw [HQ.out], by simp⟩
                case measure =>
                  clear wx
                  simp only [intOf]
                  omega
            · have z4 : py = 0 := by omega
              have HQ := Lib.hid (HN.out (by rw [HP.out]; simp [z4]))
              (try clear z1); (try clear z2); (try clear z3); (try clear z4); (try clear z5); (try clear g6); (try clear g7)
              clear HP HN HY hpx hpy
              have wx := WX.out
              go_wp2_with fail
              go_quiet (fail)
              go_wp2
              go_roundw
              case rel =>
                clear wx
                exact ⟨k + 1, m + nq, by omega, by go_num, by rw [HQ.out], by simp⟩
              case measure =>
                clear wx
                simp only [intOf]
                omega
          · have z3 : px = t.W := by omega
            have HQ := Lib.hid (HN.out (by rw [HP.out]; simp [z3]))
            (try clear z1); (try clear z2); (try clear z3); (try clear z4); (try clear z5); (try clear g6); (try clear g7)
            clear HP HN HY hpx hpy
            have wx := WX.out
            go_wp2_with fail
            go_quiet (fail)
            go_wp2
            go_roundw
            case rel =>
              clear wx
              exact ⟨k + 1, m + nq, by omega, by go_num, by rw [HQ.out], by simp⟩
            case measure =>
              clear wx
              simp only [intOf]
              omega
        · have z2 : px = 0 := by omega
          have HQ := Lib.hid (HN.out (by rw [HP.out]; simp [z2]))
          (try clear z1); (try clear z2); (try clear z3); (try clear z4); (try clear z5); (try clear g6); (try clear g7)
          clear HP HN HY hpx hpy
          have wx := WX.out
          go_wp2_with fail
          go_quiet (fail)
          go_wp2
          go_roundw
          case rel =>
            clear wx
            exact ⟨k + 1, m + nq, by omega, by go_num, by rw [HQ.out], by simp⟩
          case measure =>
            clear wx
            simp only [intOf]
            omega
      · have HQ := Lib.hid (HN.out (by rw [HP.out]; simp [g1]))
        (try clear z1); (try clear z2); (try clear z3); (try clear z4); (try clear z5); (try clear g6); (try clear g7)
        clear HP HN HY hpx hpy
        have wx := WX.out
        go_wp2_with fail
        go_quiet (fail)
        go_wp2
        go_roundw
        case rel =>
          clear wx
          exact ⟨k + 1, m + nq, by omega, by go_num, by rw [HQ.out], by simp⟩
        case measure =>
          clear wx
          simp only [intOf]
          omega
    · obtain rfl : k = cntN t := by omega
      have HF := Lib.hid (show ccTo t n (cntN t) = ccN t n from rfl)
      go_wp2
      go_ret2
      exact ⟨by rw [HZ.out, HO.out, ← HF.out]; first | done | rfl, bl_drewN HB3.out _⟩
end Go.Proofs.Ytgpfnbajjephpaa
