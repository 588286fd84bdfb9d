/- What is drawn for chapter 1: ladders. -/
import Derived.Test.YtohlbnfncllhoaaDoorDRP
import Derived.Test.YtohlbnfncllhoaaDoorC4
import Derived.Deep.RegionHeld3
import Derived.Deep.RegionWith
namespace Go.Proofs.YtohlbnfncllhoaaDoor
open Go.RowKit
set_option linter.unusedVariables false
set_option linter.unusedSimpArgs false
theorem Bytes.up {w u : World} {v : Value} (h : Bytes w w.heap.size v) (hb : Below w.heap.size w u) : Bytes u u.heap.size v := by
  rcases h with h | ⟨g, off, n, cap, hv, h0, h1, hg, hx⟩
  · exact .inl h
  · refine .inr ⟨g, off, n, cap, hv, h0, h1, Nat.lt_of_lt_of_le hg hb.size, fun i hi => ?_⟩
    obtain ⟨x, x0, x1, hx⟩ := hx i hi
    exact ⟨x, x0, x1, by rw [(bcell hb).1 _ _ hg]; exact hx⟩
theorem Bytes.mono {w : World} {v : Value} {a b : Nat} (h : Bytes w a v) (hab : a ≤ b) : Bytes w b v := by
  rcases h with h | ⟨g, off, n, cap, hv, h0, h1, hg, hx⟩
  · exact .inl h
  · exact .inr ⟨g, off, n, cap, hv, h0, h1, Nat.lt_of_lt_of_le hg hab, hx⟩
theorem Cur.kept2 {w w' : World} {b r k : Nat} {cv : Value} (h : Cur w b cv k) (hB : Bytes w r cv) (hr : r < b) (g : w.grownBy w' (some r)) : Cur w' b cv k := by
  obtain ⟨h1, h2, h3, ⟨a, a0, a1, ha⟩, ⟨s, hs⟩, f1, f2⟩ := h
  have hc := fun o => grown_cell (o := o) g h1 (by omega)
  have hf := fun o => grown_frozen (o := o) g h1 (by omega)
  exact ⟨Nat.lt_of_lt_of_le h1 g.size, (bytes_grown hB (fun x o hx => grown_cell g (by omega) (by omega))).mono (by omega), by rw [hc]; exact h3, ⟨a, a0, a1, by rw [hc]; exact ha⟩, ⟨s, by rw [hc]; exact hs⟩, by rw [hf]; exact f1, by rw [hf]; exact f2⟩
theorem frozen_aft {w w' : World} {g o : Nat} (hb : Below w.heap.size w w') (hg : g < w.heap.size) (h : w.frozen? ⟨g, o, none⟩ = false) : w'.frozen? ⟨g, o, none⟩ = false := ((bcell hb).2 _ _ hg).trans h
theorem grown_below {w u v : World} {b : Nat} (h : Below w.heap.size w u) (hs : w.heap.size ≤ b) (g : u.grownBy v (some b)) : Below w.heap.size w v :=
  h.grown g h.size fun k e => by injection e with e; omega
set_option maxRecDepth 100000 in
set_option maxHeartbeats 4000000 in
theorem sureLadders_any (b k : Nat) (cv : Value) (w : World) (hk : k ≤ 700000) (h : Cur w b cv k) :
    Calls Tryd.prog 62 #[.pointer (some ⟨b, 0, none⟩)] w fun e w' => ∃ x y z : Int, e = .returned (.agg #[.int .i64 x, .int .i64 y, .int .i64 z]) ∧ Cur w' b cv (k + 8) ∧ w.grownBy w' (some b) := by
  have hb := h.1
  obtain ⟨hc0, hg0⟩ := h.alloc (.cells #[.int .i64 0, .int .i64 0, .int .i64 0] 25)
  have cr0 : (w.alloc (.cells #[.int .i64 0, .int .i64 0, .int .i64 0] 25)).cell? ⟨w.heap.size, 0, none⟩ = some (.int .i64 0) := by simp
  have cr1 : (w.alloc (.cells #[.int .i64 0, .int .i64 0, .int .i64 0] 25)).cell? ⟨w.heap.size, 1, none⟩ = some (.int .i64 0) := by simp
  have cr2 : (w.alloc (.cells #[.int .i64 0, .int .i64 0, .int .i64 0] 25)).cell? ⟨w.heap.size, 2, none⟩ = some (.int .i64 0) := by simp
  have fr0 : (w.alloc (.cells #[.int .i64 0, .int .i64 0, .int .i64 0] 25)).frozen? ⟨w.heap.size, 0, none⟩ = false := by simp [go_sem]
  have fr1 : (w.alloc (.cells #[.int .i64 0, .int .i64 0, .int .i64 0] 25)).frozen? ⟨w.heap.size, 1, none⟩ = false := by simp [go_sem]
  have fr2 : (w.alloc (.cells #[.int .i64 0, .int .i64 0, .int .i64 0] 25)).frozen? ⟨w.heap.size, 2, none⟩ = false := by simp [go_sem]
  have hzr : w.heap.size < (w.alloc (.cells #[.int .i64 0, .int .i64 0, .int .i64 0] 25)).heap.size := by first | (simp; done) | (simp; omega)
  have H0 := Lib.hid hc0
  have G0 := Lib.hid hg0
  clear h hc0 hg0
  go_enter Tryd.func62, Tryd.ntmps62
  go_wp2_with fail
  generalize (w.alloc (.cells #[.int .i64 0, .int .i64 0, .int .i64 0] 25)) = w0 at *
  refine (pick_any b k cv 6 (by omega) (by omega) _ (by omega) H0.out).mono ?_
  rintro e w1 ⟨r, rfl, ⟨r0, r1⟩, hc, hg⟩
  have Hw1 := Lib.hid hc
  have Gw1 := Lib.hid (grown_trans G0.out hg)
  have cr0 := (grown_cell hg hzr (by omega)).trans cr0
  have cr1 := (grown_cell hg hzr (by omega)).trans cr1
  have cr2 := (grown_cell hg hzr (by omega)).trans cr2
  have fr0 := (grown_frozen hg hzr (by omega)).trans fr0
  have fr1 := (grown_frozen hg hzr (by omega)).trans fr1
  have fr2 := (grown_frozen hg hzr (by omega)).trans fr2
  have hzr := Nat.lt_of_lt_of_le hzr hg.size
  clear hc hg
  by_cases hr0 : r = 0
  · subst hr0
    go_wp2
    refine bodyPost_ret (v := .agg #[.int .i64 56, .int .i64 105, .int .i64 42]) (by simp [results, Tryd.results62, go_sem, *]) rfl ⟨_, _, _, rfl, ?_, ?_⟩
    · repeat (first | exact Hw1.out | exact Hw1.out.mono (by omega) | refine Cur.kept ?_ (grown_set _ _ _ _) (by omega))
    · repeat (first | exact Gw1.out | refine grown_new ?_ (grown_set _ _ _ _) (by omega))
  by_cases hr1 : r = 1
  · subst hr1
    go_wp2_with fail
    refine (pick_any b (k + 2) cv 9 (by omega) (by omega) _ (by omega) Hw1.out).mono ?_
    rintro e w2 ⟨q, rfl, ⟨q0, q1⟩, hc, hg⟩
    have Hw2 := Lib.hid hc
    have Gw2 := Lib.hid (grown_trans Gw1.out hg)
    have cr0 := (grown_cell hg hzr (by omega)).trans cr0
    have cr1 := (grown_cell hg hzr (by omega)).trans cr1
    have cr2 := (grown_cell hg hzr (by omega)).trans cr2
    have fr0 := (grown_frozen hg hzr (by omega)).trans fr0
    have fr1 := (grown_frozen hg hzr (by omega)).trans fr1
    have fr2 := (grown_frozen hg hzr (by omega)).trans fr2
    have hzr := Nat.lt_of_lt_of_le hzr hg.size
    clear hc hg
    obtain ⟨hca, hga⟩ := Hw2.out.alloc (.cells #[.int .i64 5, .int .i64 9, .int .i64 16, .int .i64 35] 3)
    have HA := Lib.hid hca
    have hA := hga
    have nbw3 : w2.heap.size ≠ b := by omega
    clear hca
    go_wp2_with fail
    refine (among_any b (k + 4) w2.heap.size cv 4 (fun i => [5, 9, 16, 35].getD i 0) (by omega) (by omega) _ (by omega) HA.out (by simp) nbw3 (fun i hi => by
      rcases (show i = 0 ∨ i = 1 ∨ i = 2 ∨ i = 3 by omega) with rfl | rfl | rfl | rfl <;> simp)).mono ?_
    rintro e w3 ⟨t, rfl, hc, hg⟩
    have GG := grown_trans hA hg
    have Hw3 := Lib.hid hc
    have Gw3 := Lib.hid (grown_trans Gw2.out GG)
    have cr0 := (grown_cell GG hzr (by omega)).trans cr0
    have cr1 := (grown_cell GG hzr (by omega)).trans cr1
    have cr2 := (grown_cell GG hzr (by omega)).trans cr2
    have fr0 := (grown_frozen GG hzr (by omega)).trans fr0
    have fr1 := (grown_frozen GG hzr (by omega)).trans fr1
    have fr2 := (grown_frozen GG hzr (by omega)).trans fr2
    have hzr := Nat.lt_of_lt_of_le hzr GG.size
    have hbsw3 : b < w3.heap.size := hc.1
    clear hc hg hA hga GG HA
    obtain ⟨hca, hga⟩ := Hw3.out.alloc (.cells #[.int .i64 5, .int .i64 9, .int .i64 16, .int .i64 35] 3)
    have HA := Lib.hid hca
    have hA := hga
    have nbw4 : w3.heap.size ≠ b := by omega
    clear hca
    go_wp2_with fail
    refine (among_any b (k + 6) w3.heap.size cv 4 (fun i => [5, 9, 16, 35].getD i 0) (by omega) (by omega) _ (by omega) HA.out (by simp) nbw4 (fun i hi => by
      rcases (show i = 0 ∨ i = 1 ∨ i = 2 ∨ i = 3 by omega) with rfl | rfl | rfl | rfl <;> simp)).mono ?_
    rintro e w4 ⟨u, rfl, hc, hg⟩
    have GG := grown_trans hA hg
    have Hw4 := Lib.hid hc
    have Gw4 := Lib.hid (grown_trans Gw3.out GG)
    have cr0 := (grown_cell GG hzr (by omega)).trans cr0
    have cr1 := (grown_cell GG hzr (by omega)).trans cr1
    have cr2 := (grown_cell GG hzr (by omega)).trans cr2
    have fr0 := (grown_frozen GG hzr (by omega)).trans fr0
    have fr1 := (grown_frozen GG hzr (by omega)).trans fr1
    have fr2 := (grown_frozen GG hzr (by omega)).trans fr2
    have hzr := Nat.lt_of_lt_of_le hzr GG.size
    have hbsw4 : b < w4.heap.size := hc.1
    clear hc hg hA hga GG HA
    go_wp2
    refine bodyPost_ret (v := .agg #[.int .i64 (12 * (1 + q)), .int .i64 (wrap64 (t * (1 + q))), .int .i64 (wrap64 (u * (1 + q)))]) (by simp [results, Tryd.results62, go_sem, *]) rfl ⟨_, _, _, rfl, ?_, ?_⟩
    · repeat (first | exact Hw4.out | exact Hw4.out.mono (by omega) | refine Cur.kept ?_ (grown_set _ _ _ _) (by omega))
    · repeat (first | exact Gw4.out | refine grown_new ?_ (grown_set _ _ _ _) (by omega))
  have e0 : (r == 0) = false := beq_eq_false_iff_ne.2 hr0
  have e1 : (r == 1) = false := beq_eq_false_iff_ne.2 hr1
  go_wp2_with fail
  refine (pick_any b (k + 2) cv 20 (by omega) (by omega) _ (by omega) Hw1.out).mono ?_
  rintro e w2 ⟨q, rfl, ⟨q0, q1⟩, hc, hg⟩
  have Hw2 := Lib.hid hc
  have Gw2 := Lib.hid (grown_trans Gw1.out hg)
  have cr0 := (grown_cell hg hzr (by omega)).trans cr0
  have cr1 := (grown_cell hg hzr (by omega)).trans cr1
  have cr2 := (grown_cell hg hzr (by omega)).trans cr2
  have fr0 := (grown_frozen hg hzr (by omega)).trans fr0
  have fr1 := (grown_frozen hg hzr (by omega)).trans fr1
  have fr2 := (grown_frozen hg hzr (by omega)).trans fr2
  have hzr := Nat.lt_of_lt_of_le hzr hg.size
  clear hc hg
  go_wp2_with fail
  refine (pick_any b (k + 4) cv 20 (by omega) (by omega) _ (by omega) Hw2.out).mono ?_
  rintro e w3 ⟨t, rfl, ⟨t0, t1⟩, hc, hg⟩
  have Hw3 := Lib.hid hc
  have Gw3 := Lib.hid (grown_trans Gw2.out hg)
  have cr0 := (grown_cell hg hzr (by omega)).trans cr0
  have cr1 := (grown_cell hg hzr (by omega)).trans cr1
  have cr2 := (grown_cell hg hzr (by omega)).trans cr2
  have fr0 := (grown_frozen hg hzr (by omega)).trans fr0
  have fr1 := (grown_frozen hg hzr (by omega)).trans fr1
  have fr2 := (grown_frozen hg hzr (by omega)).trans fr2
  have hzr := Nat.lt_of_lt_of_le hzr hg.size
  clear hc hg
  go_wp2_with fail
  refine (pick_any b (k + 6) cv 20 (by omega) (by omega) _ (by omega) Hw3.out).mono ?_
  rintro e w4 ⟨u, rfl, ⟨u0, u1⟩, hc, hg⟩
  have Hw4 := Lib.hid hc
  have Gw4 := Lib.hid (grown_trans Gw3.out hg)
  have cr0 := (grown_cell hg hzr (by omega)).trans cr0
  have cr1 := (grown_cell hg hzr (by omega)).trans cr1
  have cr2 := (grown_cell hg hzr (by omega)).trans cr2
  have fr0 := (grown_frozen hg hzr (by omega)).trans fr0
  have fr1 := (grown_frozen hg hzr (by omega)).trans fr1
  have fr2 := (grown_frozen hg hzr (by omega)).trans fr2
  have hzr := Nat.lt_of_lt_of_le hzr hg.size
  clear hc hg
  go_wp2
  refine bodyPost_ret (v := .agg #[.int .i64 (1 + q), .int .i64 (1 + t), .int .i64 (1 + u)]) (by simp [results, Tryd.results62, go_sem, *]) rfl ⟨_, _, _, rfl, ?_, ?_⟩
  · repeat (first | exact Hw4.out | exact Hw4.out.mono (by omega) | refine Cur.kept ?_ (grown_set _ _ _ _) (by omega))
  · repeat (first | exact Gw4.out | refine grown_new ?_ (grown_set _ _ _ _) (by omega))
set_option maxRecDepth 100000 in
set_option maxHeartbeats 4000000 in
theorem ladders_any (b k : Nat) (cv : Value) (w : World) (hk : k ≤ 700000) (h : Cur w b cv k) :
    Calls Tryd.prog 48 #[.pointer (some ⟨b, 0, none⟩)] w fun e w' => ∃ x y z : Int, e = .returned (.agg #[.int .i64 x, .int .i64 y, .int .i64 z]) ∧ Cur w' b cv (k + 12) ∧ w.grownBy w' (some b) := by
  have hb := h.1
  obtain ⟨hc0, hg0⟩ := h.alloc (.cells #[.int .i64 0, .int .i64 0, .int .i64 0] 25)
  have cr0 : (w.alloc (.cells #[.int .i64 0, .int .i64 0, .int .i64 0] 25)).cell? ⟨w.heap.size, 0, none⟩ = some (.int .i64 0) := by simp
  have cr1 : (w.alloc (.cells #[.int .i64 0, .int .i64 0, .int .i64 0] 25)).cell? ⟨w.heap.size, 1, none⟩ = some (.int .i64 0) := by simp
  have cr2 : (w.alloc (.cells #[.int .i64 0, .int .i64 0, .int .i64 0] 25)).cell? ⟨w.heap.size, 2, none⟩ = some (.int .i64 0) := by simp
  have fr0 : (w.alloc (.cells #[.int .i64 0, .int .i64 0, .int .i64 0] 25)).frozen? ⟨w.heap.size, 0, none⟩ = false := by simp [go_sem]
  have fr1 : (w.alloc (.cells #[.int .i64 0, .int .i64 0, .int .i64 0] 25)).frozen? ⟨w.heap.size, 1, none⟩ = false := by simp [go_sem]
  have fr2 : (w.alloc (.cells #[.int .i64 0, .int .i64 0, .int .i64 0] 25)).frozen? ⟨w.heap.size, 2, none⟩ = false := by simp [go_sem]
  have hzr : w.heap.size < (w.alloc (.cells #[.int .i64 0, .int .i64 0, .int .i64 0] 25)).heap.size := by first | (simp; done) | (simp; omega)
  have H0 := Lib.hid hc0
  have G0 := Lib.hid hg0
  clear h hc0 hg0
  go_enter Tryd.func48, Tryd.ntmps48
  go_wp2_with fail
  generalize (w.alloc (.cells #[.int .i64 0, .int .i64 0, .int .i64 0] 25)) = w0 at *
  refine (sureLadders_any b k cv _ (by omega) H0.out).mono ?_
  rintro e w1 ⟨x, y, z, rfl, hc, hg⟩
  have cr0 := (grown_cell hg hzr (by omega)).trans cr0
  have cr1 := (grown_cell hg hzr (by omega)).trans cr1
  have cr2 := (grown_cell hg hzr (by omega)).trans cr2
  have fr0 := (grown_frozen hg hzr (by omega)).trans fr0
  have fr1 := (grown_frozen hg hzr (by omega)).trans fr1
  have fr2 := (grown_frozen hg hzr (by omega)).trans fr2
  have hzr := Nat.lt_of_lt_of_le hzr hg.size
  obtain ⟨hca, hga⟩ := hc.alloc (.cells #[.int .i64 x, .int .i64 y, .int .i64 z] 25)
  have hp : b < w1.heap.size := hc.1
  have hps : w.heap.size ≤ w1.heap.size := by omega
  have hne : w.heap.size ≠ w1.heap.size := by omega
  have H1 := Lib.hid hca
  have G1 := Lib.hid (grown_trans (grown_trans G0.out hg) hga)
  have cr0 := (grown_cell hga hzr (by omega)).trans cr0
  have cr1 := (grown_cell hga hzr (by omega)).trans cr1
  have cr2 := (grown_cell hga hzr (by omega)).trans cr2
  have fr0 := (grown_frozen hga hzr (by omega)).trans fr0
  have fr1 := (grown_frozen hga hzr (by omega)).trans fr1
  have fr2 := (grown_frozen hga hzr (by omega)).trans fr2
  have hzr := Nat.lt_of_lt_of_le hzr hga.size
  have cp0 : (w1.alloc (.cells #[.int .i64 x, .int .i64 y, .int .i64 z] 25)).cell? ⟨w1.heap.size, 0, none⟩ = some (.int .i64 x) := by simp
  have cp1 : (w1.alloc (.cells #[.int .i64 x, .int .i64 y, .int .i64 z] 25)).cell? ⟨w1.heap.size, 1, none⟩ = some (.int .i64 y) := by simp
  have cp2 : (w1.alloc (.cells #[.int .i64 x, .int .i64 y, .int .i64 z] 25)).cell? ⟨w1.heap.size, 2, none⟩ = some (.int .i64 z) := by simp
  have fp0 : (w1.alloc (.cells #[.int .i64 x, .int .i64 y, .int .i64 z] 25)).frozen? ⟨w1.heap.size, 0, none⟩ = false := by simp [go_sem]
  have fp1 : (w1.alloc (.cells #[.int .i64 x, .int .i64 y, .int .i64 z] 25)).frozen? ⟨w1.heap.size, 1, none⟩ = false := by simp [go_sem]
  have fp2 : (w1.alloc (.cells #[.int .i64 x, .int .i64 y, .int .i64 z] 25)).frozen? ⟨w1.heap.size, 2, none⟩ = false := by simp [go_sem]
  have hzp : w1.heap.size < (w1.alloc (.cells #[.int .i64 x, .int .i64 y, .int .i64 z] 25)).heap.size := by first | (simp; done) | (simp; omega)
  clear hc hg hca hga
  go_wp2_with fail
  generalize (w1.alloc (.cells #[.int .i64 x, .int .i64 y, .int .i64 z] 25)) = wp at *
  refine (pick_any b (k + 8) cv 20 (by omega) (by omega) _ (by omega) H1.out).mono ?_
  rintro e w2 ⟨r, rfl, ⟨r0, r1⟩, hc, hg⟩
  have Hw2 := Lib.hid hc
  have Gw2 := Lib.hid (grown_trans G1.out hg)
  have cr0 := (grown_cell hg hzr (by omega)).trans cr0
  have cr1 := (grown_cell hg hzr (by omega)).trans cr1
  have cr2 := (grown_cell hg hzr (by omega)).trans cr2
  have fr0 := (grown_frozen hg hzr (by omega)).trans fr0
  have fr1 := (grown_frozen hg hzr (by omega)).trans fr1
  have fr2 := (grown_frozen hg hzr (by omega)).trans fr2
  have hzr := Nat.lt_of_lt_of_le hzr hg.size
  have cp0 := (grown_cell hg hzp (by omega)).trans cp0
  have cp1 := (grown_cell hg hzp (by omega)).trans cp1
  have cp2 := (grown_cell hg hzp (by omega)).trans cp2
  have fp0 := (grown_frozen hg hzp (by omega)).trans fp0
  have fp1 := (grown_frozen hg hzp (by omega)).trans fp1
  have fp2 := (grown_frozen hg hzp (by omega)).trans fp2
  have hzp := Nat.lt_of_lt_of_le hzp hg.size
  clear hc hg
  have nb : w2.heap.size ≠ b := by omega
  by_cases hr0 : r = 0
  · subst hr0
    obtain ⟨hca, hga⟩ := Hw2.out.alloc (.cells #[.int .i64 (-1), .int .i64 0, .int .i64 1, .int .i64 1000, .int .i64 1001, .int .i64 4611686018427387904] 3)
    have HA := Lib.hid hca
    have hA := hga
    have nbw3 : w2.heap.size ≠ b := by omega
    clear hca
    go_wp2_with fail
    refine (among_any b (k + 10) w2.heap.size cv 6 (fun i => [-1, 0, 1, 1000, 1001, 4611686018427387904].getD i 0) (by omega) (by omega) _ (by omega) HA.out (by simp) nbw3 (fun i hi => by
      rcases (show i = 0 ∨ i = 1 ∨ i = 2 ∨ i = 3 ∨ i = 4 ∨ i = 5 by omega) with rfl | rfl | rfl | rfl | rfl | rfl <;> simp)).mono ?_
    rintro e w3 ⟨s, rfl, hc, hg⟩
    have GG := grown_trans hA hg
    have Hw3 := Lib.hid hc
    have Gw3 := Lib.hid (grown_trans Gw2.out GG)
    have cr0 := (grown_cell GG hzr (by omega)).trans cr0
    have cr1 := (grown_cell GG hzr (by omega)).trans cr1
    have cr2 := (grown_cell GG hzr (by omega)).trans cr2
    have fr0 := (grown_frozen GG hzr (by omega)).trans fr0
    have fr1 := (grown_frozen GG hzr (by omega)).trans fr1
    have fr2 := (grown_frozen GG hzr (by omega)).trans fr2
    have hzr := Nat.lt_of_lt_of_le hzr GG.size
    have cp0 := (grown_cell GG hzp (by omega)).trans cp0
    have cp1 := (grown_cell GG hzp (by omega)).trans cp1
    have cp2 := (grown_cell GG hzp (by omega)).trans cp2
    have fp0 := (grown_frozen GG hzp (by omega)).trans fp0
    have fp1 := (grown_frozen GG hzp (by omega)).trans fp1
    have fp2 := (grown_frozen GG hzp (by omega)).trans fp2
    have hzp := Nat.lt_of_lt_of_le hzp GG.size
    have hbsw3 : b < w3.heap.size := hc.1
    clear hc hg hA hga GG HA
    go_wp2
    refine bodyPost_ret (v := .agg #[.int .i64 s, .int .i64 y, .int .i64 z]) (by simp [results, Tryd.results48, go_sem, *]) rfl ⟨_, _, _, rfl, ?_, ?_⟩
    · repeat (first | exact Hw3.out | exact Hw3.out.mono (by omega) | refine Cur.kept ?_ (grown_set _ _ _ _) (by omega))
    · repeat (first | exact Gw3.out | refine grown_new ?_ (grown_set _ _ _ _) (by omega))
  by_cases hr1 : r = 1
  · subst hr1
    obtain ⟨hca, hga⟩ := Hw2.out.alloc (.cells #[.int .i64 (-1), .int .i64 0, .int .i64 1, .int .i64 1000, .int .i64 1001, .int .i64 4611686018427387904] 3)
    have HA := Lib.hid hca
    have hA := hga
    have nbw3 : w2.heap.size ≠ b := by omega
    clear hca
    go_wp2_with fail
    refine (among_any b (k + 10) w2.heap.size cv 6 (fun i => [-1, 0, 1, 1000, 1001, 4611686018427387904].getD i 0) (by omega) (by omega) _ (by omega) HA.out (by simp) nbw3 (fun i hi => by
      rcases (show i = 0 ∨ i = 1 ∨ i = 2 ∨ i = 3 ∨ i = 4 ∨ i = 5 by omega) with rfl | rfl | rfl | rfl | rfl | rfl <;> simp)).mono ?_
    rintro e w3 ⟨s, rfl, hc, hg⟩
    have GG := grown_trans hA hg
    have Hw3 := Lib.hid hc
    have Gw3 := Lib.hid (grown_trans Gw2.out GG)
    have cr0 := (grown_cell GG hzr (by omega)).trans cr0
    have cr1 := (grown_cell GG hzr (by omega)).trans cr1
    have cr2 := (grown_cell GG hzr (by omega)).trans cr2
    have fr0 := (grown_frozen GG hzr (by omega)).trans fr0
    have fr1 := (grown_frozen GG hzr (by omega)).trans fr1
    have fr2 := (grown_frozen GG hzr (by omega)).trans fr2
    have hzr := Nat.lt_of_lt_of_le hzr GG.size
    have cp0 := (grown_cell GG hzp (by omega)).trans cp0
    have cp1 := (grown_cell GG hzp (by omega)).trans cp1
    have cp2 := (grown_cell GG hzp (by omega)).trans cp2
    have fp0 := (grown_frozen GG hzp (by omega)).trans fp0
    have fp1 := (grown_frozen GG hzp (by omega)).trans fp1
    have fp2 := (grown_frozen GG hzp (by omega)).trans fp2
    have hzp := Nat.lt_of_lt_of_le hzp GG.size
    have hbsw3 : b < w3.heap.size := hc.1
    clear hc hg hA hga GG HA
    go_wp2
    refine bodyPost_ret (v := .agg #[.int .i64 x, .int .i64 s, .int .i64 z]) (by simp [results, Tryd.results48, go_sem, *]) rfl ⟨_, _, _, rfl, ?_, ?_⟩
    · repeat (first | exact Hw3.out | exact Hw3.out.mono (by omega) | refine Cur.kept ?_ (grown_set _ _ _ _) (by omega))
    · repeat (first | exact Gw3.out | refine grown_new ?_ (grown_set _ _ _ _) (by omega))
  by_cases hr2 : r = 2
  · subst hr2
    obtain ⟨hca, hga⟩ := Hw2.out.alloc (.cells #[.int .i64 (-1), .int .i64 0, .int .i64 1, .int .i64 1000, .int .i64 1001, .int .i64 4611686018427387904] 3)
    have HA := Lib.hid hca
    have hA := hga
    have nbw3 : w2.heap.size ≠ b := by omega
    clear hca
    go_wp2_with fail
    refine (among_any b (k + 10) w2.heap.size cv 6 (fun i => [-1, 0, 1, 1000, 1001, 4611686018427387904].getD i 0) (by omega) (by omega) _ (by omega) HA.out (by simp) nbw3 (fun i hi => by
      rcases (show i = 0 ∨ i = 1 ∨ i = 2 ∨ i = 3 ∨ i = 4 ∨ i = 5 by omega) with rfl | rfl | rfl | rfl | rfl | rfl <;> simp)).mono ?_
    rintro e w3 ⟨s, rfl, hc, hg⟩
    have GG := grown_trans hA hg
    have Hw3 := Lib.hid hc
    have Gw3 := Lib.hid (grown_trans Gw2.out GG)
    have cr0 := (grown_cell GG hzr (by omega)).trans cr0
    have cr1 := (grown_cell GG hzr (by omega)).trans cr1
    have cr2 := (grown_cell GG hzr (by omega)).trans cr2
    have fr0 := (grown_frozen GG hzr (by omega)).trans fr0
    have fr1 := (grown_frozen GG hzr (by omega)).trans fr1
    have fr2 := (grown_frozen GG hzr (by omega)).trans fr2
    have hzr := Nat.lt_of_lt_of_le hzr GG.size
    have cp0 := (grown_cell GG hzp (by omega)).trans cp0
    have cp1 := (grown_cell GG hzp (by omega)).trans cp1
    have cp2 := (grown_cell GG hzp (by omega)).trans cp2
    have fp0 := (grown_frozen GG hzp (by omega)).trans fp0
    have fp1 := (grown_frozen GG hzp (by omega)).trans fp1
    have fp2 := (grown_frozen GG hzp (by omega)).trans fp2
    have hzp := Nat.lt_of_lt_of_le hzp GG.size
    have hbsw3 : b < w3.heap.size := hc.1
    clear hc hg hA hga GG HA
    go_wp2
    refine bodyPost_ret (v := .agg #[.int .i64 x, .int .i64 y, .int .i64 s]) (by simp [results, Tryd.results48, go_sem, *]) rfl ⟨_, _, _, rfl, ?_, ?_⟩
    · repeat (first | exact Hw3.out | exact Hw3.out.mono (by omega) | refine Cur.kept ?_ (grown_set _ _ _ _) (by omega))
    · repeat (first | exact Gw3.out | refine grown_new ?_ (grown_set _ _ _ _) (by omega))
  have e0 : (r == 0) = false := beq_eq_false_iff_ne.2 hr0
  have e1 : (r == 1) = false := beq_eq_false_iff_ne.2 hr1
  have e2 : (r == 2) = false := beq_eq_false_iff_ne.2 hr2
  have H3 := Lib.hid (Hw2.out.mono (show k + 10 ≤ k + 12 by omega))
  go_wp2
  refine bodyPost_ret (v := .agg #[.int .i64 x, .int .i64 y, .int .i64 z]) (by simp [results, Tryd.results48, go_sem, *]) rfl ⟨_, _, _, rfl, ?_, ?_⟩
  · repeat (first | exact H3.out | exact H3.out.mono (by omega) | refine Cur.kept ?_ (grown_set _ _ _ _) (by omega))
  · repeat (first | exact Gw2.out | refine grown_new ?_ (grown_set _ _ _ _) (by omega))
set_option maxRecDepth 100000 in
set_option maxHeartbeats 4000000 in
theorem DrawAreLadders_any (v : Value) (w : World) (hv : Bytes w w.heap.size v) :
    Calls Tryd.prog 37 #[v] w fun e w' => ∃ x y z : Int, e = .returned (.agg #[.int .i64 x, .int .i64 y, .int .i64 z]) ∧ Below w.heap.size w w' := by
  obtain ⟨a, n, c, rfl, hn⟩ := hv.shape
  have hb0 := bl_alloc (Below.refl w.heap.size w) (.cells #[.int .i64 0, .int .i64 0, .int .i64 0] 25)
  have cr0 : (w.alloc (.cells #[.int .i64 0, .int .i64 0, .int .i64 0] 25)).cell? ⟨w.heap.size, 0, none⟩ = some (.int .i64 0) := by simp
  have cr1 : (w.alloc (.cells #[.int .i64 0, .int .i64 0, .int .i64 0] 25)).cell? ⟨w.heap.size, 1, none⟩ = some (.int .i64 0) := by simp
  have cr2 : (w.alloc (.cells #[.int .i64 0, .int .i64 0, .int .i64 0] 25)).cell? ⟨w.heap.size, 2, none⟩ = some (.int .i64 0) := by simp
  have fr0 : (w.alloc (.cells #[.int .i64 0, .int .i64 0, .int .i64 0] 25)).frozen? ⟨w.heap.size, 0, none⟩ = false := by simp [go_sem]
  have fr1 : (w.alloc (.cells #[.int .i64 0, .int .i64 0, .int .i64 0] 25)).frozen? ⟨w.heap.size, 1, none⟩ = false := by simp [go_sem]
  have fr2 : (w.alloc (.cells #[.int .i64 0, .int .i64 0, .int .i64 0] 25)).frozen? ⟨w.heap.size, 2, none⟩ = false := by simp [go_sem]
  have hzr : w.heap.size < (w.alloc (.cells #[.int .i64 0, .int .i64 0, .int .i64 0] 25)).heap.size := by first | (simp; done) | (simp; omega)
  have hv1 : Bytes (w.alloc (.cells #[.int .i64 0, .int .i64 0, .int .i64 0] 25)) (w.alloc (.cells #[.int .i64 0, .int .i64 0, .int .i64 0] 25)).heap.size (.slice a n c) := Bytes.up hv hb0
  have hs0 : (w.alloc (.cells #[.int .i64 0, .int .i64 0, .int .i64 0] 25)).heap.size = w.heap.size + 1 := by simp
  have HB0 := Lib.hid hb0
  clear hb0
  go_enter Tryd.func37, Tryd.ntmps37
  go_wp2_with fail
  generalize (w.alloc (.cells #[.int .i64 0, .int .i64 0, .int .i64 0] 25)) = w0 at *
  obtain ⟨hc, hb⟩ := Cur.start hv1 63
  rw [hs0] at hc
  have H0 := Lib.hid hc
  have HB := Lib.hid (bl_trans hb HB0.out)
  have cr0 := cell_after hb hzr cr0
  have cr1 := cell_after hb hzr cr1
  have cr2 := cell_after hb hzr cr2
  have fr0 := frozen_aft hb hzr fr0
  have fr1 := frozen_aft hb hzr fr1
  have fr2 := frozen_aft hb hzr fr2
  have hzr := Nat.lt_of_lt_of_le hzr hb.size
  clear hc hb HB0 hs0 hv1
  generalize (w0.alloc (.cells #[.slice a n c, .int .i64 0, .int .u64 0] 63)) = wd at *
  refine (ladders_any _ 0 _ _ (by omega) H0.out).mono ?_
  rintro e w1 ⟨x, y, z, rfl, hc, hg⟩
  have cr0 := (grown_cell hg hzr (by omega)).trans cr0
  have cr1 := (grown_cell hg hzr (by omega)).trans cr1
  have cr2 := (grown_cell hg hzr (by omega)).trans cr2
  have fr0 := (grown_frozen hg hzr (by omega)).trans fr0
  have fr1 := (grown_frozen hg hzr (by omega)).trans fr1
  have fr2 := (grown_frozen hg hzr (by omega)).trans fr2
  have hzr := Nat.lt_of_lt_of_le hzr hg.size
  have HBw1 := Lib.hid (grown_below HB.out (by omega) hg)
  have Hw1 := Lib.hid hc
  have hqw1 := hc.1
  clear hc hg
  go_wp2
  refine bodyPost_ret (v := .agg #[.int .i64 x, .int .i64 y, .int .i64 z]) (by simp [results, Tryd.results37, go_sem, *]) rfl ⟨_, _, _, rfl, ?_⟩
  repeat (first | exact HBw1.out | exact below_drewN HBw1.out 1 | refine bl_set ?_ (by first | omega | (simp; done) | (simp; omega)) _ | refine bl_alloc ?_ _ | refine Below.drew ?_)
set_option maxRecDepth 100000 in
set_option maxHeartbeats 4000000 in
theorem DrawCrossHeight_any (v : Value) (w : World) (hv : Bytes w w.heap.size v) :
    Calls Tryd.prog 6 #[v] w fun e w' => ∃ x y z : Int, e = .returned (.agg #[.int .i64 x, .int .i64 y, .int .i64 z]) ∧ Below w.heap.size w w' := by
  obtain ⟨a, n, c, rfl, hn⟩ := hv.shape
  have hb0 := bl_alloc (Below.refl w.heap.size w) (.cells #[.int .i64 0, .int .i64 0, .int .i64 0] 25)
  have cr0 : (w.alloc (.cells #[.int .i64 0, .int .i64 0, .int .i64 0] 25)).cell? ⟨w.heap.size, 0, none⟩ = some (.int .i64 0) := by simp
  have cr1 : (w.alloc (.cells #[.int .i64 0, .int .i64 0, .int .i64 0] 25)).cell? ⟨w.heap.size, 1, none⟩ = some (.int .i64 0) := by simp
  have cr2 : (w.alloc (.cells #[.int .i64 0, .int .i64 0, .int .i64 0] 25)).cell? ⟨w.heap.size, 2, none⟩ = some (.int .i64 0) := by simp
  have fr0 : (w.alloc (.cells #[.int .i64 0, .int .i64 0, .int .i64 0] 25)).frozen? ⟨w.heap.size, 0, none⟩ = false := by simp [go_sem]
  have fr1 : (w.alloc (.cells #[.int .i64 0, .int .i64 0, .int .i64 0] 25)).frozen? ⟨w.heap.size, 1, none⟩ = false := by simp [go_sem]
  have fr2 : (w.alloc (.cells #[.int .i64 0, .int .i64 0, .int .i64 0] 25)).frozen? ⟨w.heap.size, 2, none⟩ = false := by simp [go_sem]
  have hzr : w.heap.size < (w.alloc (.cells #[.int .i64 0, .int .i64 0, .int .i64 0] 25)).heap.size := by first | (simp; done) | (simp; omega)
  have hv1 : Bytes (w.alloc (.cells #[.int .i64 0, .int .i64 0, .int .i64 0] 25)) (w.alloc (.cells #[.int .i64 0, .int .i64 0, .int .i64 0] 25)).heap.size (.slice a n c) := Bytes.up hv hb0
  have HB0 := Lib.hid hb0
  clear hb0
  go_enter Tryd.func6, Tryd.ntmps6
  go_wp2_with fail
  generalize (w.alloc (.cells #[.int .i64 0, .int .i64 0, .int .i64 0] 25)) = w0 at *
  refine (DrawAreLadders_any _ _ hv1).mono ?_
  rintro e w1 ⟨x, y, z, rfl, hb⟩
  have cr0 := cell_after hb hzr cr0
  have cr1 := cell_after hb hzr cr1
  have cr2 := cell_after hb hzr cr2
  have fr0 := frozen_aft hb hzr fr0
  have fr1 := frozen_aft hb hzr fr1
  have fr2 := frozen_aft hb hzr fr2
  have hzr := Nat.lt_of_lt_of_le hzr hb.size
  have HB1 := Lib.hid (bl_trans hb HB0.out)
  clear hb hv1
  go_wp2
  refine bodyPost_ret (v := .agg #[.int .i64 x, .int .i64 y, .int .i64 z]) (by simp [results, Tryd.results6, go_sem, *]) rfl ⟨_, _, _, rfl, ?_⟩
  repeat (first | exact HB1.out | exact below_drewN HB1.out 1 | refine bl_set ?_ (by first | omega | (simp; done) | (simp; omega)) _ | refine bl_alloc ?_ _ | refine Below.drew ?_)
set_option maxRecDepth 100000 in
set_option maxHeartbeats 4000000 in
theorem DrawMoveWall_any (v : Value) (w : World) (hv : Bytes w w.heap.size v) :
    Calls Tryd.prog 34 #[v] w fun e w' => ∃ x y z d : Int, e = .returned (.tuple #[.agg #[.int .i64 x, .int .i64 y, .int .i64 z], .int .i64 d]) ∧ Below w.heap.size w w' := by
  obtain ⟨a, n, c, rfl, hn⟩ := hv.shape
  have hb0 := bl_alloc (Below.refl w.heap.size w) (.cells #[.int .i64 0, .int .i64 0, .int .i64 0] 25)
  have cr0 : (w.alloc (.cells #[.int .i64 0, .int .i64 0, .int .i64 0] 25)).cell? ⟨w.heap.size, 0, none⟩ = some (.int .i64 0) := by simp
  have cr1 : (w.alloc (.cells #[.int .i64 0, .int .i64 0, .int .i64 0] 25)).cell? ⟨w.heap.size, 1, none⟩ = some (.int .i64 0) := by simp
  have cr2 : (w.alloc (.cells #[.int .i64 0, .int .i64 0, .int .i64 0] 25)).cell? ⟨w.heap.size, 2, none⟩ = some (.int .i64 0) := by simp
  have fr0 : (w.alloc (.cells #[.int .i64 0, .int .i64 0, .int .i64 0] 25)).frozen? ⟨w.heap.size, 0, none⟩ = false := by simp [go_sem]
  have fr1 : (w.alloc (.cells #[.int .i64 0, .int .i64 0, .int .i64 0] 25)).frozen? ⟨w.heap.size, 1, none⟩ = false := by simp [go_sem]
  have fr2 : (w.alloc (.cells #[.int .i64 0, .int .i64 0, .int .i64 0] 25)).frozen? ⟨w.heap.size, 2, none⟩ = false := by simp [go_sem]
  have hzr : w.heap.size < (w.alloc (.cells #[.int .i64 0, .int .i64 0, .int .i64 0] 25)).heap.size := by first | (simp; done) | (simp; omega)
  have hv1 : Bytes (w.alloc (.cells #[.int .i64 0, .int .i64 0, .int .i64 0] 25)) (w.alloc (.cells #[.int .i64 0, .int .i64 0, .int .i64 0] 25)).heap.size (.slice a n c) := Bytes.up hv hb0
  have hs0 : (w.alloc (.cells #[.int .i64 0, .int .i64 0, .int .i64 0] 25)).heap.size = w.heap.size + 1 := by simp
  have HB0 := Lib.hid hb0
  clear hb0
  go_enter Tryd.func34, Tryd.ntmps34
  go_wp2_with fail
  generalize (w.alloc (.cells #[.int .i64 0, .int .i64 0, .int .i64 0] 25)) = w0 at *
  obtain ⟨hc, hb⟩ := Cur.start hv1 63
  rw [hs0] at hc
  have H0 := Lib.hid hc
  have HB := Lib.hid (bl_trans hb HB0.out)
  have cr0 := cell_after hb hzr cr0
  have cr1 := cell_after hb hzr cr1
  have cr2 := cell_after hb hzr cr2
  have fr0 := frozen_aft hb hzr fr0
  have fr1 := frozen_aft hb hzr fr1
  have fr2 := frozen_aft hb hzr fr2
  have hzr := Nat.lt_of_lt_of_le hzr hb.size
  clear hc hb HB0 hs0 hv1
  generalize (w0.alloc (.cells #[.slice a n c, .int .i64 0, .int .u64 0] 63)) = wd at *
  refine (ladders_any _ 0 _ _ (by omega) H0.out).mono ?_
  rintro e w1 ⟨x, y, z, rfl, hc, hg⟩
  have cr0 := (grown_cell hg hzr (by omega)).trans cr0
  have cr1 := (grown_cell hg hzr (by omega)).trans cr1
  have cr2 := (grown_cell hg hzr (by omega)).trans cr2
  have fr0 := (grown_frozen hg hzr (by omega)).trans fr0
  have fr1 := (grown_frozen hg hzr (by omega)).trans fr1
  have fr2 := (grown_frozen hg hzr (by omega)).trans fr2
  have hzr := Nat.lt_of_lt_of_le hzr hg.size
  have HBw1 := Lib.hid (grown_below HB.out (by omega) hg)
  have Hw1 := Lib.hid hc
  have hqw1 := hc.1
  clear hc hg
  obtain ⟨hca, hga⟩ := Hw1.out.alloc (.cells #[.int .i64 0, .int .i64 1, .int .i64 (-1), .int .i64 5, .int .i64 (-5), .int .i64 (-19), .int .i64 990, .int .i64 1000, .int .i64 (-1000), .int .i64 1001, .int .i64 (-1001)] 3)
  have HA := Lib.hid hca
  have hA := hga
  have nbw2 : w1.heap.size ≠ w.heap.size + 1 := by omega
  clear hca
  go_wp2_with fail
  refine (among_any (w.heap.size + 1) 12 w1.heap.size (.slice a n c) 11 (fun i => [0, 1, -1, 5, -5, -19, 990, 1000, -1000, 1001, -1001].getD i 0) (by omega) (by omega) _ (by omega) HA.out (by simp) nbw2 (fun i hi => by
    rcases (show i = 0 ∨ i = 1 ∨ i = 2 ∨ i = 3 ∨ i = 4 ∨ i = 5 ∨ i = 6 ∨ i = 7 ∨ i = 8 ∨ i = 9 ∨ i = 10 by omega) with rfl | rfl | rfl | rfl | rfl | rfl | rfl | rfl | rfl | rfl | rfl <;> simp)).mono ?_
  rintro e w2 ⟨s, rfl, hc, hg⟩
  have GG := grown_trans hA hg
  have Hw2 := Lib.hid hc
  have HBw2 := Lib.hid (grown_below HBw1.out (by omega) GG)
  have cr0 := (grown_cell GG hzr (by omega)).trans cr0
  have cr1 := (grown_cell GG hzr (by omega)).trans cr1
  have cr2 := (grown_cell GG hzr (by omega)).trans cr2
  have fr0 := (grown_frozen GG hzr (by omega)).trans fr0
  have fr1 := (grown_frozen GG hzr (by omega)).trans fr1
  have fr2 := (grown_frozen GG hzr (by omega)).trans fr2
  have hzr := Nat.lt_of_lt_of_le hzr GG.size
  have hbsw2 : w.heap.size + 1 < w2.heap.size := hc.1
  clear hc hg hA hga GG HA
  go_wp2
  refine bodyPost_ret (v := .tuple #[.agg #[.int .i64 x, .int .i64 y, .int .i64 z], .int .i64 s]) (by simp [results, Tryd.results34, go_sem, *]) rfl ⟨_, _, _, _, rfl, ?_⟩
  repeat (first | exact HBw2.out | exact below_drewN HBw2.out 1 | refine bl_set ?_ (by first | omega | (simp; done) | (simp; omega)) _ | refine bl_alloc ?_ _ | refine Below.drew ?_)
set_option maxRecDepth 100000 in
set_option maxHeartbeats 4000000 in
theorem DrawOtherHeight_any (v : Value) (w : World) (hv : Bytes w w.heap.size v) :
    Calls Tryd.prog 32 #[v] w fun e w' => ∃ x y z : Int, e = .returned (.tuple #[.int .i64 x, .int .i64 y, .int .i64 z]) ∧ Below w.heap.size w w' := by
  obtain ⟨a, n, c, rfl, hn⟩ := hv.shape
  obtain ⟨hc, hb⟩ := Cur.start hv 63
  have H0 := Lib.hid hc
  have HB := Lib.hid hb
  clear hv hc hb
  go_enter Tryd.func32, Tryd.ntmps32
  go_wp2_with fail
  generalize (w.alloc (.cells #[.slice a n c, .int .i64 0, .int .u64 0] 63)) = wd at *
  refine (one_any w.heap.size 0 (.slice a n c) 8 (by omega) (by omega) _ (by omega) H0.out).mono ?_
  rintro e w1 ⟨o1, rfl, hc, hg⟩
  have Hw1 := Lib.hid hc
  have hbs1 := hc.1
  have HBw1 := Lib.hid (grown_below HB.out (by omega) hg)
  clear hc hg
  cases o1
  · go_wp2_with fail
    refine (pick_any w.heap.size 2 (.slice a n c) 30 (by omega) (by omega) _ (by omega) Hw1.out).mono ?_
    rintro e w2 ⟨p, rfl, ⟨p0, p1⟩, hc, hg⟩
    have Hw2 := Lib.hid hc
    have HBw2 := Lib.hid (grown_below HBw1.out (by omega) hg)
    clear hc hg
    go_wp2_with fail
    refine (pick_any w.heap.size 4 (.slice a n c) 30 (by omega) (by omega) _ (by omega) Hw2.out).mono ?_
    rintro e w3 ⟨q, rfl, ⟨q0, q1⟩, hc, hg⟩
    have Hw3 := Lib.hid hc
    have HBw3 := Lib.hid (grown_below HBw2.out (by omega) hg)
    clear hc hg
    go_wp2_with fail
    refine (pick_any w.heap.size 6 (.slice a n c) 4 (by omega) (by omega) _ (by omega) Hw3.out).mono ?_
    rintro e w4 ⟨s, rfl, ⟨s0, s1⟩, hc, hg⟩
    have Hw4 := Lib.hid hc
    have HBw4 := Lib.hid (grown_below HBw3.out (by omega) hg)
    clear hc hg
    go_wp2
    go_ret3
    exact ⟨_, _, _, rfl, by repeat (first | exact HBw4.out | refine Below.drew ?_)⟩
  · obtain ⟨hca, hga⟩ := Hw1.out.alloc (.cells #[.int .i64 (-1), .int .i64 0, .int .i64 1, .int .i64 1000, .int .i64 1001] 3)
    have HA := Lib.hid hca
    have hA := hga
    have nbw2 : w1.heap.size ≠ w.heap.size := by omega
    clear hca
    go_wp2_with fail
    refine (among_any (w.heap.size) 2 w1.heap.size (.slice a n c) 5 (fun i => [-1, 0, 1, 1000, 1001].getD i 0) (by omega) (by omega) _ (by omega) HA.out (by simp) nbw2 (fun i hi => by
      rcases (show i = 0 ∨ i = 1 ∨ i = 2 ∨ i = 3 ∨ i = 4 by omega) with rfl | rfl | rfl | rfl | rfl <;> simp)).mono ?_
    rintro e w2 ⟨p, rfl, hc, hg⟩
    have GG := grown_trans hA hg
    have Hw2 := Lib.hid hc
    have HBw2 := Lib.hid (grown_below HBw1.out (by omega) GG)
    have hbsw2 : w.heap.size < w2.heap.size := hc.1
    clear hc hg hA hga GG HA
    obtain ⟨hca, hga⟩ := Hw2.out.alloc (.cells #[.int .i64 (-1), .int .i64 0, .int .i64 1, .int .i64 1000, .int .i64 1001] 3)
    have HA := Lib.hid hca
    have hA := hga
    have nbw3 : w2.heap.size ≠ w.heap.size := by omega
    clear hca
    go_wp2_with fail
    refine (among_any (w.heap.size) 4 w2.heap.size (.slice a n c) 5 (fun i => [-1, 0, 1, 1000, 1001].getD i 0) (by omega) (by omega) _ (by omega) HA.out (by simp) nbw3 (fun i hi => by
      rcases (show i = 0 ∨ i = 1 ∨ i = 2 ∨ i = 3 ∨ i = 4 by omega) with rfl | rfl | rfl | rfl | rfl <;> simp)).mono ?_
    rintro e w3 ⟨q, rfl, hc, hg⟩
    have GG := grown_trans hA hg
    have Hw3 := Lib.hid hc
    have HBw3 := Lib.hid (grown_below HBw2.out (by omega) GG)
    have hbsw3 : w.heap.size < w3.heap.size := hc.1
    clear hc hg hA hga GG HA
    obtain ⟨hca, hga⟩ := Hw3.out.alloc (.cells #[.int .i64 (-1), .int .i64 0, .int .i64 1, .int .i64 1000, .int .i64 1001] 3)
    have HA := Lib.hid hca
    have hA := hga
    have nbw4 : w3.heap.size ≠ w.heap.size := by omega
    clear hca
    go_wp2_with fail
    refine (among_any (w.heap.size) 6 w3.heap.size (.slice a n c) 5 (fun i => [-1, 0, 1, 1000, 1001].getD i 0) (by omega) (by omega) _ (by omega) HA.out (by simp) nbw4 (fun i hi => by
      rcases (show i = 0 ∨ i = 1 ∨ i = 2 ∨ i = 3 ∨ i = 4 by omega) with rfl | rfl | rfl | rfl | rfl <;> simp)).mono ?_
    rintro e w4 ⟨s, rfl, hc, hg⟩
    have GG := grown_trans hA hg
    have Hw4 := Lib.hid hc
    have HBw4 := Lib.hid (grown_below HBw3.out (by omega) GG)
    have hbsw4 : w.heap.size < w4.heap.size := hc.1
    clear hc hg hA hga GG HA
    go_wp2
    go_ret3
    exact ⟨_, _, _, rfl, by repeat (first | exact HBw4.out | refine Below.drew ?_)⟩
end Go.Proofs.YtohlbnfncllhoaaDoor
