/- CountPlaces: by the model. -/
import Derived.Test.YtnhjiipkekblfaaB10
import Derived.Test.YtnhjiipkekblfaaM3
import Derived.Test.YtnhjiipkekblfaaM4
namespace Go.Proofs.Ytnhjiipkekblfaa
open Go.RowKit Beam
set_option linter.unusedVariables false
set_option linter.unusedSimpArgs false
theorem cp_same {t : BWay} (h : t.ok) : cpN t (t.made (longN t) + 1) = cpN t (wlen t) := by
  cases he : t.e
  · have hm : t.made (longN t) = longN t := made_long' he _
    have hl := (long_le h).2
    have hw : wlen t = t.M := by simp [wlen, he]
    have hM := (t.M_spec h).1
    rw [hm, hw]
    unfold cpN
    refine List.countP_congr fun i _ => ?_
    simp only [decide_eq_true_eq, timesUp_pos]
    constructor
    · rintro ⟨j, _, e⟩
      obtain ⟨e1, e2, _⟩ := BWay.mod_M h he j
      exact ⟨j % t.M, Nat.mod_lt _ (by omega), by rw [← e]; simp only [plAt, e1, e2]⟩
    · rintro ⟨j, hj, e⟩
      exact ⟨j, by omega, e⟩
  · rw [made_long h he]
    simp [wlen, he]
theorem beTimes_of {a b x y : Int} (h : okB a b x y = true) (r u : Bool) (g cap n : Nat) (h1 : 1 ≤ n) (h2 : n ≤ 100000) (w : World) (B : Nat) (hR : BRow w B (.slice (some ⟨g, 0, none⟩) n cap) n (wayI a b x y r u)) :
    Calls Try.prog 88 #[.agg #[.int .i64 a, .int .i64 b], .slice (some ⟨g, 0, none⟩) n cap] w fun e w' => ∃ c, e = .returned (.slice (some ⟨c, 0, none⟩) (cntN (wayI a b x y r u)) (cntN (wayI a b x y r u))) ∧ IRow w' w.heap.size (.slice (some ⟨c, 0, none⟩) (cntN (wayI a b x y r u)) (cntN (wayI a b x y r u))) (cnts (wayI a b x y r u) n) ∧ Below w.heap.size w w' := by
  obtain ⟨hk, e1, e2, _⟩ := wayI_args h r u
  generalize wayI a b x y r u = t at *
  rw [e1, e2]
  exact beTimes_any hk g cap n h1 h2 w B hR
def cpTo (t : BWay) (n i : Nat) : Nat := (List.range i).countP (fun j => decide (0 < timesUp (plAt t) n (uncell t.H j)))
theorem cpTo_le (t : BWay) (n i : Nat) : cpTo t n i ≤ i := by
  have := List.countP_le_length (p := fun j => decide (0 < timesUp (plAt t) n (uncell t.H j))) (l := List.range i)
  rw [List.length_range] at this
  exact this
theorem cpTo_yes {t : BWay} {n i : Nat} (h : 0 < timesUp (plAt t) n (uncell t.H i)) : cpTo t n (i + 1) = cpTo t n i + 1 := by unfold cpTo; rw [countP_range_succ]; simp [h]
theorem cpTo_no {t : BWay} {n i : Nat} (h : ¬ 0 < timesUp (plAt t) n (uncell t.H i)) : cpTo t n (i + 1) = cpTo t n i := by unfold cpTo; rw [countP_range_succ]; simp [h]
theorem cnts_at {t : BWay} {n i : Nat} (h : i < cntN t) : (cnts t n).getD i 0 = ((timesUp (plAt t) n (uncell t.H i) : Nat) : Int) := by
  rw [List.getD_eq_getElem?_getD, List.getElem?_eq_getElem (by rw [cnts_len]; exact h)]
  simp only [cnts, List.getElem_map, List.getElem_range, Option.getD_some]
set_option maxRecDepth 100000 in
set_option maxHeartbeats 4000000 in
theorem spec_CountPlaces (a b x y : Int) (r u : Bool) (w : World) :
    Calls Try.prog 49 #[.agg #[.int .i64 a, .int .i64 b], .agg #[.int .i64 x, .int .i64 y, .bool r, .bool u]] w fun e w' => e = .returned (.tuple #[.int .i64 (cpZ a b x y r u), .bool (okB a b x y)]) ∧ Below w.heap.size w w' := by
  cases h : okB a b x y
  · go_enter Try.func49, Try.ntmps49
    go_wp2_with fail
    refine (spec_beGood _ _ _ _ _ _ _).mono ?_
    rintro e w1 ⟨rfl, hb1⟩
    obtain ⟨hc1, hf1⟩ := bcell hb1
    have hz1 := bsize hb1
    (try simp only [World.size_alloc, World.size_setCell] at hz1)
    have k1_0_0 : w1.cell? ⟨w.heap.size, 0, none⟩ = some (.int .i64 a) := by rw [hc1 _ _ (by first | (simp; done) | omega | (simp; omega))]; first | assumption | (simp [go_sem]; done) | (simp [go_sem]; done) | (simp [go_sem, *]; done)
    have k1_0_1 : w1.cell? ⟨w.heap.size, 1, none⟩ = some (.int .i64 b) := by rw [hc1 _ _ (by first | (simp; done) | omega | (simp; omega))]; first | assumption | (simp [go_sem]; done) | (simp [go_sem]; done) | (simp [go_sem, *]; done)
    have s1_0 : w.heap.size < w1.heap.size := by omega
    have k1_1_0 : w1.cell? ⟨w.heap.size + 1, 0, none⟩ = some (.int .i64 x) := by rw [hc1 _ _ (by first | (simp; done) | omega | (simp; omega))]; first | assumption | (simp [go_sem]; done) | (simp [go_sem]; done) | (simp [go_sem, *]; done)
    have k1_1_1 : w1.cell? ⟨w.heap.size + 1, 1, none⟩ = some (.int .i64 y) := by rw [hc1 _ _ (by first | (simp; done) | omega | (simp; omega))]; first | assumption | (simp [go_sem]; done) | (simp [go_sem]; done) | (simp [go_sem, *]; done)
    have k1_1_2 : w1.cell? ⟨w.heap.size + 1, 2, none⟩ = some (.bool r) := by rw [hc1 _ _ (by first | (simp; done) | omega | (simp; omega))]; first | assumption | (simp [go_sem]; done) | (simp [go_sem]; done) | (simp [go_sem, *]; done)
    have k1_1_3 : w1.cell? ⟨w.heap.size + 1, 3, none⟩ = some (.bool u) := by rw [hc1 _ _ (by first | (simp; done) | omega | (simp; omega))]; first | assumption | (simp [go_sem]; done) | (simp [go_sem]; done) | (simp [go_sem, *]; done)
    have s1_1 : w.heap.size + 1 < w1.heap.size := by omega
    have hB1 : Below w.heap.size w w1 := (by repeat (first | exact Below.refl _ _ | refine bl_alloc ?_ _ | refine bl_drewN ?_ _ | refine bl_trans (by assumption) ?_ | refine bl_set ?_ (by first | omega | (simp; done) | (simp; omega)) _))
    have HB1 := Lib.hid hB1
    clear hB1 hc1 hf1 hb1
    rw [h]
    go_wp2
    go_ret2
    exact ⟨by simp [cpZ, h], HB1.out⟩
  have OK := Lib.hid (wayI_args h r u).1
  have HL := (long_le OK.out).1
  have HML := (BWay.made_lt (t := wayI a b x y r u) (longN (wayI a b x y r u))).1
  have HRUN := fun (q : Nat) (hq : q ≤ 100000) W => Lib.hid (beRun_of h r u (q : Int) (by omega) (by omega) W)
  have HLN := fun W => Lib.hid (beLong_of h r u W)
  have HBT := fun g cap n h1 h2 W B hR => Lib.hid (beTimes_of h r u g cap n h1 h2 W B hR)
  have HZ := Lib.hid (show cpZ a b x y r u = (cpN (wayI a b x y r u) ((wayI a b x y r u).made (longN (wayI a b x y r u)) + 1) : Nat) by rw [cp_same OK.out]; simp [cpZ, h])
  have HN := cntN_le OK.out
  generalize (wayI a b x y r u) = t at *
  simp only [Int.toNat_natCast] at HRUN
  have HH := Lib.hid h
  go_enter Try.func49, Try.ntmps49
  go_wp2_with fail
  refine (spec_beGood _ _ _ _ _ _ _).mono ?_
  rintro e w1 ⟨rfl, hb1⟩
  obtain ⟨hc1, hf1⟩ := bcell hb1
  have hz1 := bsize hb1
  (try simp only [World.size_alloc, World.size_setCell] at hz1)
  have k1_0_0 : w1.cell? ⟨w.heap.size, 0, none⟩ = some (.int .i64 a) := by rw [hc1 _ _ (by first | (simp; done) | omega | (simp; omega))]; first | assumption | (simp [go_sem]; done) | (simp [go_sem]; done) | (simp [go_sem, *]; done)
  have k1_0_1 : w1.cell? ⟨w.heap.size, 1, none⟩ = some (.int .i64 b) := by rw [hc1 _ _ (by first | (simp; done) | omega | (simp; omega))]; first | assumption | (simp [go_sem]; done) | (simp [go_sem]; done) | (simp [go_sem, *]; done)
  have s1_0 : w.heap.size < w1.heap.size := by omega
  have k1_1_0 : w1.cell? ⟨w.heap.size + 1, 0, none⟩ = some (.int .i64 x) := by rw [hc1 _ _ (by first | (simp; done) | omega | (simp; omega))]; first | assumption | (simp [go_sem]; done) | (simp [go_sem]; done) | (simp [go_sem, *]; done)
  have k1_1_1 : w1.cell? ⟨w.heap.size + 1, 1, none⟩ = some (.int .i64 y) := by rw [hc1 _ _ (by first | (simp; done) | omega | (simp; omega))]; first | assumption | (simp [go_sem]; done) | (simp [go_sem]; done) | (simp [go_sem, *]; done)
  have k1_1_2 : w1.cell? ⟨w.heap.size + 1, 2, none⟩ = some (.bool r) := by rw [hc1 _ _ (by first | (simp; done) | omega | (simp; omega))]; first | assumption | (simp [go_sem]; done) | (simp [go_sem]; done) | (simp [go_sem, *]; done)
  have k1_1_3 : w1.cell? ⟨w.heap.size + 1, 3, none⟩ = some (.bool u) := by rw [hc1 _ _ (by first | (simp; done) | omega | (simp; omega))]; first | assumption | (simp [go_sem]; done) | (simp [go_sem]; done) | (simp [go_sem, *]; done)
  have s1_1 : w.heap.size + 1 < w1.heap.size := by omega
  have hB1 : Below w.heap.size w w1 := (by repeat (first | exact Below.refl _ _ | refine bl_alloc ?_ _ | refine bl_drewN ?_ _ | refine bl_trans (by assumption) ?_ | refine bl_set ?_ (by first | omega | (simp; done) | (simp; omega)) _))
  have HB1 := Lib.hid hB1
  clear hB1 hc1 hf1 hb1
  rw [h]
  have HS := Lib.hid (fun v hb => S6w.mk (v := v) k1_0_0 k1_0_1 k1_1_0 k1_1_1 k1_1_2 k1_1_3 s1_1 hb)
  have hS := HS.out w1 (Below.refl _ _)
  unfold S6w at hS
  go_wp2_with fail
  go_region_held3 (fun w' => w'.cell? ⟨w.heap.size, 0, none⟩ = some (.int .i64 a) ∧ w'.cell? ⟨w.heap.size, 1, none⟩ = some (.int .i64 b) ∧ w'.cell? ⟨w.heap.size + 1, 0, none⟩ = some (.int .i64 x) ∧ w'.cell? ⟨w.heap.size + 1, 1, none⟩ = some (.int .i64 y) ∧ w'.cell? ⟨w.heap.size + 1, 2, none⟩ = some (.bool r) ∧ w'.cell? ⟨w.heap.size + 1, 3, none⟩ = some (.bool u) ∧ Below w1.heap.size w1 w') (first | exact HS.out _ (bl_trans hb9 (last7 (by assumption))) | exact HS.out _ (below_drewN (Below.refl _ _) _) | exact HS.out _ (Below.drew (Below.refl _ _)) | assumption) (first | (go_at_call 73; refine ((HLN _).out).mono ?_; rintro e w9 ⟨rfl, hb9⟩) | (go_at_call 71; refine ((HRUN _ (by omega) _).out).mono ?_; rintro e w9 ⟨g, cap, rfl, hR, hb9⟩))
  rename_i hh
  have hB := last7 hh
  have a0 := hh.1
  have a1 := hh.2.1
  have HW9 := Lib.hid (bl_trans hB HB1.out)
  have R9 := Lib.hid hR
  generalize hS' : t.made (longN t) + 1 = n at *
  clear hh hB hR hS
  have hn1 : 1 ≤ n := by omega
  have hn2 : n ≤ 100000 := by omega
  clear HRUN HLN HML hS' HB1
  have HBp9 := HW9
  go_wp2_with fail
  refine ((HBT g cap n hn1 hn2 _ _ R9.out).out).mono ?_
  rintro e wA ⟨c, rfl, hI, hbA⟩
  have HWA := Lib.hid (bl_trans hbA HW9.out)
  clear HBT hbA R9 HBp9
  obtain ⟨g2, cap2, e2, -, hl2, -, -, hcc2, -⟩ := hI.some_ (by rw [cnts_len]; unfold cntN; exact Nat.mul_pos (by omega) (by omega))
  simp only [Value.slice.injEq, Option.some.injEq, Addr.mk.injEq, and_true, true_and] at e2
  obtain ⟨rfl, -, rfl⟩ := e2
  rw [cnts_len] at hcc2
  have HC := Lib.hid (fun i (hi : i < cntN t) => (hcc2 i hi).trans (by rw [cnts_at hi]))
  have HE := Lib.hid (show cpTo t n (cntN t) = cpN t n from rfl)
  clear hcc2 hI
  generalize cntN t = N at *
  go_wp2_with fail
  go_loopw [8, 27] (fun v kk wr => ∃ i : Nat, i ≤ N ∧ kk = .int .i64 (i : Nat) ∧ v = .int .i64 (cpTo t n i : Nat) ∧ wr = wA) (fun _ kk _ => N - (intOf kk).toNat)
  case atStart => exact ⟨0, Nat.zero_le _, rfl, rfl, rfl⟩
  case round =>
    obtain ⟨i, hi, rfl, rfl, hw⟩ := hrel
    subst hw
    by_cases hlt : i < N
    · have ci := HC.out i hlt
      have ix0 : (0 : Int) ≤ (i : Int) := by omega
      have ix1 : (i : Int) < (N : Int) := by omega
      have hle := cpTo_le t n i
      by_cases hp : 0 < timesUp (plAt t) n (uncell t.H i)
      · have HY := Lib.hid (cpTo_yes hp)
        generalize timesUp (plAt t) n (uncell t.H i) = z at *
        have hzI : (0 : Int) < (z : Int) := by omega
        generalize cpTo t n i = q at *
        go_wp2
        go_roundw
        case rel => exact ⟨i + 1, by omega, by go_num, by rw [HY.out]; go_num, by trivial⟩
        case measure => simp only [intOf]; omega
      · have HY := Lib.hid (cpTo_no hp)
        generalize timesUp (plAt t) n (uncell t.H i) = z at *
        have hzI : ¬ (0 : Int) < (z : Int) := by omega
        generalize cpTo t n i = q at *
        go_wp2
        go_roundw
        case rel => exact ⟨i + 1, by omega, by go_num, by rw [HY.out], by trivial⟩
        case measure => simp only [intOf]; omega
    · obtain rfl : i = N := by omega
      clear HC
      go_wp2
      go_ret2
      exact ⟨by rw [HZ.out, HE.out]; rfl, HWA.out⟩
end Go.Proofs.Ytnhjiipkekblfaa
