/- beTimes: the model's row of counters. -/
import Derived.Test.YtgpfnbajjephpaaB5
import Derived.Test.YtgpfnbajjephpaaM2
namespace Go.Proofs.Ytgpfnbajjephpaa
open Go.RowKit Beam
set_option linter.unusedVariables false
set_option linter.unusedSimpArgs false
def cntN (t : BWay) : Nat := (t.W + 1) * (t.H + 1)
def cnts (t : BWay) (k : Nat) : List Int := (List.range (cntN t)).map fun i => ((timesUp (plAt t) k (uncell t.H i) : Nat) : Int)
theorem cnts_len (t : BWay) (k : Nat) : (cnts t k).length = cntN t := by simp [cnts]
theorem cntN_le {t : BWay} (h : t.ok) : cntN t ≤ 3721 := Nat.mul_le_mul (Nat.add_le_add_right h.2.2.1 1) (Nat.add_le_add_right h.2.2.2 1)
theorem cnts_made (t : BWay) : (madeCells (Value.int .i64 0).cells (cntN t * 1)).toList = (cnts t 0).map (Value.int .i64) := by
  refine List.ext_getElem (by simp [madeCells, cnts]) fun i h1 h2 => ?_
  simp [madeCells, cnts, timesUp, Value.cells, Nat.mod_one]
theorem cnts_get {t : BWay} {k : Nat} {p : Nat × Nat} (hp : p.1 ≤ t.W ∧ p.2 ≤ t.H) : (cnts t k).getD (cell t.H p) 0 = ((timesUp (plAt t) k p : Nat) : Int) := by
  have h1 : cell t.H p < cntN t := cell_lt hp.1 hp.2
  rw [List.getD_eq_getElem?_getD, List.getElem?_eq_getElem (by rw [cnts_len]; exact h1)]
  simp only [cnts, List.getElem_map, List.getElem_range, Option.getD_some, uncell_cell hp.2]
theorem cnts_set {t : BWay} {k : Nat} (hp : (plAt t k).1 ≤ t.W ∧ (plAt t k).2 ≤ t.H) : (cnts t k).set (cell t.H (plAt t k)) ((timesUp (plAt t) k (plAt t k) : Nat) + 1 : Int) = cnts t (k + 1) := by
  refine List.ext_getElem (by simp [cnts_len]) fun i h1 h2 => ?_
  have hi : i < cntN t := by rw [cnts_len] at h2; exact h2
  rw [List.getElem_set]
  simp only [cnts, List.getElem_map, List.getElem_range]
  by_cases c : cell t.H (plAt t k) = i
  · rw [if_pos c, ← c, uncell_cell hp.2, timesUp_here]; simp
  · rw [if_neg c, timesUp_other]
    intro e
    exact c (by rw [← e, cell_uncell])
theorem infoI : (Try.prog.info? 3).map (fun i => (i.zero, i.size, i.bytes)) = some (some (.int .i64 0), 1, 8) := by kernel_rfl
theorem plAt_in4 {t : BWay} (h : t.ok) (j : Nat) : (plAt t j).1 ≤ t.W ∧ (plAt t j).2 ≤ t.H := ⟨tri_le _ _ h.1, tri_le _ _ h.2.1⟩
theorem IRow.mono4 {w : World} {B B' : Nat} {v : Value} {xs : List Int} (h : IRow w B v xs) (hb : B' ≤ B) : IRow w B' v xs := by
  obtain ⟨h1, h2⟩ := h
  refine ⟨h1, ?_⟩
  rcases h2 with h2 | ⟨g, cap, cur, e, hB, rest⟩
  · exact .inl h2
  · exact .inr ⟨g, cap, cur, e, Nat.le_trans hb hB, rest⟩
theorem cell_block {a b : World} {x : Addr} (h : b.heap[x.block]? = a.heap[x.block]?) : b.cell? x = a.cell? x := by
  unfold World.cell?
  rw [h]
set_option maxRecDepth 100000 in
set_option maxHeartbeats 2000000 in
theorem beTimes_any {t : BWay} (hok : t.ok) (g cap n : Nat) (h1 : 1 ≤ n) (h2 : n ≤ 100000) (w : World) (B : Nat) (hR : BRow w B (.slice (some ⟨g, 0, none⟩) n cap) n t) :
    Calls Try.prog 10 #[.agg #[.int .i64 (t.W : Nat), .int .i64 (t.H : Nat)], .slice (some ⟨g, 0, none⟩) n cap] w fun e w' => ∃ c, e = .returned (.slice (some ⟨c, 0, none⟩) (cntN t) (cntN t)) ∧ IRow w' w.heap.size (.slice (some ⟨c, 0, none⟩) (cntN t) (cntN t)) (cnts t n) ∧ Below w.heap.size w w' := by
  have R0 := Lib.hid hR
  clear hR
  have IN := Lib.hid (plAt_in4 hok)
  have hN := cntN_le hok
  obtain ⟨_, _, hW, hH⟩ := hok
  have hp0 : ((t.W : Int) + 1) * ((t.H : Int) + 1) = ((cntN t : Nat) : Int) := by simp [cntN]
  have hp1 : IntKind.i64.wrap (((t.W : Int) + 1) * ((t.H : Int) + 1)) = ((cntN t : Nat) : Int) := by rw [hp0]; exact IntWalk.i64_in _ (by omega)
  obtain ⟨i0, ji, iz0, iz1, iz2⟩ := info_parts infoI
  have hbs : (w.alloc (.cells #[.int .i64 (t.W : Nat), .int .i64 (t.H : Nat)] 28)).heap.size = w.heap.size + 1 := by simp
  obtain ⟨w5, m1, m2, m3⟩ := run_makeSlice_full (w := w.alloc (.cells #[.int .i64 (t.W : Nat), .int .i64 (t.H : Nat)] 28)) (P := Try.prog) (w.heap.size + 1) 37 3 i0 (.int .i64 0) 1 Try.underlying37 ji iz0 iz1 .i64 .i64 (cntN t) (by omega) (by rw [iz2]; omega) (by unfold maxLen; omega) (by rw [hbs]; omega)
  rw [cnts_made] at m2
  rw [hbs] at m1 m2
  have hI : IRow w5 (w.heap.size + 1) (.slice (some ⟨w.heap.size + 1, 0, none⟩) (cntN t) (cntN t)) (cnts t 0) := by unfold IRow; rw [cnts_len]; exact m2
  have hB5 : Below w.heap.size w w5 := Below.grown (bl_alloc (Below.refl _ _) _) m3 (by rw [hbs]; omega) (fun j hj => by cases hj)
  have hb5 : Below (w.alloc (.cells #[.int .i64 (t.W : Nat), .int .i64 (t.H : Nat)] 28)).heap.size (w.alloc (.cells #[.int .i64 (t.W : Nat), .int .i64 (t.H : Nat)] 28)) w5 := Below.grown (Below.refl _ _) m3 (Nat.le_refl _) (fun j hj => by cases hj)
  have hz5 : w.heap.size + 1 ≤ w5.heap.size := by have := hb5.size; rw [hbs] at this; exact this
  obtain ⟨hc5, _⟩ := bcell hb5
  have b0 : w5.cell? ⟨w.heap.size, 0, none⟩ = some (.int .i64 (t.W : Nat)) := by rw [hc5 _ _ (by simp)]; simp [go_sem]
  have b1 : w5.cell? ⟨w.heap.size, 1, none⟩ = some (.int .i64 (t.H : Nat)) := by rw [hc5 _ _ (by simp)]; simp [go_sem]
  have I0 := Lib.hid hI
  have HB5 := Lib.hid hB5
  clear hI hB5 m2 m3 hb5 hc5 ji iz0 iz1 iz2 hp0
  generalize hC : cntN t = N at *
  go_enter Try.func10, Try.ntmps10
  go_wp2_with fail
  go_loopw [18] (fun kk wr => ∃ k : Nat, k ≤ n ∧ kk = .int .i64 (k : Nat) ∧ IRow wr (w.heap.size + 1) (.slice (some ⟨w.heap.size + 1, 0, none⟩) N N) (cnts t k) ∧ w5.grownBy wr (some (w.heap.size + 1))) (fun kk _ => n - (intOf kk).toNat)
  case atStart => exact ⟨0, Nat.zero_le _, rfl, I0.out, grown_refl' _ _⟩
  case round =>
    obtain ⟨k, hk, rfl, hI, hb⟩ := hrel
    by_cases hlt : k < n
    · have HBw : Below w.heap.size w wr := Below.grown HB5.out hb (by omega) (fun j hj => by cases hj; omega)
      obtain ⟨g', cap', e, _, hg', _, _, hcc⟩ := (R0.out.keep HBw).open_ (by omega)
      simp only [Value.slice.injEq, Option.some.injEq, Addr.mk.injEq, and_true, true_and] at e
      obtain ⟨rfl, rfl⟩ := e
      obtain ⟨c0, c1, c2, c3⟩ := hcc k hlt
      simp only [bm, List.getElem?_cons_zero, List.getElem?_cons_succ] at c0 c1 c2 c3
      clear hcc
      have ix0 : (0 : Int) ≤ (k : Int) := by omega
      have ix1 : (k : Int) < (n : Int) := by omega
      have HCW : w.heap.size + 1 ≤ wr.heap.size := Nat.le_trans hz5 hb.size
      have lz : w.heap.size < wr.heap.size := by omega
      have d1 : wr.cell? ⟨w.heap.size, 1, none⟩ = some (.int .i64 (t.H : Nat)) := by
        rw [← b1]
        exact cell_block (hb.block w.heap.size (Nat.lt_of_lt_of_le (Nat.lt_succ_self _) hz5) (by simp))
      have hlen : (cnts t k).length = N := by rw [cnts_len, hC]
      have hcl := cell_lt (H := t.H) (IN.out k).1 (IN.out k).2
      rw [show (t.W + 1) * (t.H + 1) = N from hC] at hcl
      have hg1 := cnts_get (k := k) (IN.out k)
      obtain ⟨g2, cap2, e2, -, hl2, -, -, hcc2, hff2⟩ := hI.some_ (by rw [hlen]; omega)
      simp only [Value.slice.injEq, Option.some.injEq, Addr.mk.injEq, and_true, true_and] at e2
      obtain ⟨rfl, -, rfl⟩ := e2
      have cq := hcc2 _ (by rw [hlen]; exact hcl)
      rw [hg1] at cq
      have fq := hff2 (cell t.H (plAt t k))
      have hset := cnts_set (k := k) (IN.out k)
      have HSET := Lib.hid hset
      have hle := timesUp_le (plAt t) k (plAt t k)
      generalize timesUp (plAt t) k (plAt t k) = ct at *
      have hq : ((t.x k : Nat) : Int) * ((t.H : Int) + 1) = ((t.x k * (t.H + 1) : Nat) : Int) := by simp
      have ecl : cell t.H (plAt t k) = t.x k * (t.H + 1) + t.y k := rfl
      rw [ecl] at hcl cq fq HSET
      clear hset hg1 hcc2 hff2 ecl
      generalize t.x k * (t.H + 1) = q at *
      have hqw : IntKind.i64.wrap (((t.x k : Nat) : Int) * ((t.H : Int) + 1)) = (q : Int) := by rw [hq]; exact IntWalk.i64_in _ (by omega)
      obtain ⟨z, hz⟩ : ∃ z, z = q + t.y k := ⟨_, rfl⟩
      rw [← hz] at hcl cq fq HSET
      have hzi : (q : Int) + ((t.y k : Nat) : Int) = (z : Int) := by omega
      have hzw : IntKind.i64.wrap ((q : Int) + ((t.y k : Nat) : Int)) = (z : Int) := by rw [hzi]; exact IntWalk.i64_in _ (by omega)
      have iy0 : (0 : Int) ≤ (z : Int) := by omega
      have iy1 : (z : Int) < (N : Int) := by omega
      clear hz
      have HLN := Lib.hid hlen
      have HI := Lib.hid hI
      have HB := Lib.hid hb
      clear hI hb hlen
      go_wp2
      have hlen := HLN.out
      have hst := HI.out.stored hlen z ((ct : Int) + 1)
      rw [HSET.out] at hst
      have hgr := HI.out.stored_grown hlen z ((ct : Int) + 1)
      have hal := hst.keep (bl_alloc (Below.refl _ _) (.cells #[.int .i64 (t.x k : Nat), .int .i64 (t.y k : Nat), .bool (t.kr k), .bool (t.ku k)] 30))
      have hgw := grown_trans' (grown_trans' HB.out hgr) (World.grownBy_alloc _ (.cells #[.int .i64 (t.x k : Nat), .int .i64 (t.y k : Nat), .bool (t.kr k), .bool (t.ku k)] 30) _)
      have Q1 := Lib.hid hal
      have Q2 := Lib.hid hgw
      clear hal hst hgr hgw
      go_roundw
      case rel => exact ⟨k + 1, by omega, by go_num, Q1.out, Q2.out⟩
      case measure => simp only [intOf]; omega
    · obtain rfl : k = n := by omega
      have HI := Lib.hid hI
      have HB := Lib.hid hb
      clear hI hb
      go_wp2
      go_ret
      exact ⟨_, rfl, HI.out.mono4 (by omega), Below.grown HB5.out HB.out (by omega) (fun j hj => by cases hj; omega)⟩
end Go.Proofs.Ytgpfnbajjephpaa
