/- What is drawn for chapter 6: walkers. -/
import Derived.Test.YtfnamahdofigaaaDRP
import Derived.Test.YtfnamahdofigaaaWK4
import Derived.Deep.RegionHeld3
namespace Go.Proofs.Ytfnamahdofigaaa
open Go.RowKit
set_option linter.unusedVariables false
set_option linter.unusedSimpArgs false
theorem grown_drewN {u w : World} {b : Option Nat} (h : u.grownBy w b) (n : Nat) : u.grownBy (w.drewN n) b :=
  ⟨h.os, h.tape, h.output, h.size, h.block⟩
theorem Bytes.up {w u : World} {v : Value} (h : Bytes w w.heap.size v) (hb : Below w.heap.size w u) : Bytes u u.heap.size v := by
  rcases h with h | ⟨g, off, n, cap, hv, h0, h1, hg, hx⟩
  · exact .inl h
  · refine .inr ⟨g, off, n, cap, hv, h0, h1, Nat.lt_of_lt_of_le hg hb.size, fun i hi => ?_⟩
    obtain ⟨x, x0, x1, hx⟩ := hx i hi
    exact ⟨x, x0, x1, by rw [(bcell hb).1 _ _ hg]; exact hx⟩
theorem Bytes.mono {w : World} {v : Value} {a b : Nat} (h : Bytes w a v) (hab : a ≤ b) : Bytes w b v := by
  rcases h with h | ⟨g, off, n, cap, hv, h0, h1, hg, hx⟩
  · exact .inl h
  · exact .inr ⟨g, off, n, cap, hv, h0, h1, Nat.lt_of_lt_of_le hg hab, hx⟩
theorem Cur.kept2 {w w' : World} {b r k : Nat} {cv : Value} (h : Cur w b cv k) (hB : Bytes w r cv) (hr : r < b) (g : w.grownBy w' (some r)) : Cur w' b cv k := by
  obtain ⟨h1, h2, h3, ⟨a, a0, a1, ha⟩, ⟨s, hs⟩, f1, f2⟩ := h
  have hc := fun o => grown_cell (o := o) g h1 (by omega)
  have hf := fun o => grown_frozen (o := o) g h1 (by omega)
  exact ⟨Nat.lt_of_lt_of_le h1 g.size, (bytes_grown hB (fun x o hx => grown_cell g (by omega) (by omega))).mono (by omega), by rw [hc]; exact h3, ⟨a, a0, a1, by rw [hc]; exact ha⟩, ⟨s, by rw [hc]; exact hs⟩, by rw [hf]; exact f1, by rw [hf]; exact f2⟩
theorem frozen_aft {w w' : World} {g o : Nat} (hb : Below w.heap.size w w') (hg : g < w.heap.size) (h : w.frozen? ⟨g, o, none⟩ = false) : w'.frozen? ⟨g, o, none⟩ = false := ((bcell hb).2 _ _ hg).trans h
theorem grown_below {w u v : World} {b : Nat} (h : Below w.heap.size w u) (hs : w.heap.size ≤ b) (g : u.grownBy v (some b)) : Below w.heap.size w v :=
  h.grown g h.size fun k e => by injection e with e; omega
set_option maxRecDepth 100000 in
set_option maxHeartbeats 4000000 in
theorem sureWalker_any (b k : Nat) (cv : Value) (w : World) (hk : k ≤ 800000) (h : Cur w b cv k) :
    Calls Try.prog 50 #[.pointer (some ⟨b, 0, none⟩)] w fun e w' => ∃ x y z : Int, e = .returned (.agg #[.int .i64 x, .int .i64 y, .int .i64 z]) ∧ Cur w' b cv (k + 6) ∧ w.grownBy w' (some b) := by
  have hb := h.1
  obtain ⟨hc0, hg0⟩ := h.alloc (.cells #[.int .i64 0, .int .i64 0, .int .i64 0] 25)
  have cr0 : (w.alloc (.cells #[.int .i64 0, .int .i64 0, .int .i64 0] 25)).cell? ⟨w.heap.size, 0, none⟩ = some (.int .i64 0) := by simp
  have cr1 : (w.alloc (.cells #[.int .i64 0, .int .i64 0, .int .i64 0] 25)).cell? ⟨w.heap.size, 1, none⟩ = some (.int .i64 0) := by simp
  have cr2 : (w.alloc (.cells #[.int .i64 0, .int .i64 0, .int .i64 0] 25)).cell? ⟨w.heap.size, 2, none⟩ = some (.int .i64 0) := by simp
  have fr0 : (w.alloc (.cells #[.int .i64 0, .int .i64 0, .int .i64 0] 25)).frozen? ⟨w.heap.size, 0, none⟩ = false := by simp [go_sem]
  have fr1 : (w.alloc (.cells #[.int .i64 0, .int .i64 0, .int .i64 0] 25)).frozen? ⟨w.heap.size, 1, none⟩ = false := by simp [go_sem]
  have fr2 : (w.alloc (.cells #[.int .i64 0, .int .i64 0, .int .i64 0] 25)).frozen? ⟨w.heap.size, 2, none⟩ = false := by simp [go_sem]
  have hzr : w.heap.size < (w.alloc (.cells #[.int .i64 0, .int .i64 0, .int .i64 0] 25)).heap.size := by first | (simp; done) | (simp; omega)
  have H0 := Lib.hid hc0
  have G0 := Lib.hid hg0
  clear h hc0 hg0
  go_enter Try.func50, Try.ntmps50
  go_wp2_with fail
  generalize (w.alloc (.cells #[.int .i64 0, .int .i64 0, .int .i64 0] 25)) = w0 at *
  refine (pick_any b (k + 0) cv 3 (by omega) (by omega) _ (by omega) H0.out).mono ?_
  rintro e w1 ⟨r, rfl, ⟨r0, r1⟩, hc, hg⟩
  have Hw1 := Lib.hid hc
  have Gw1 := Lib.hid (grown_trans G0.out hg)
  have cr0 := (grown_cell hg hzr (by omega)).trans cr0
  have cr1 := (grown_cell hg hzr (by omega)).trans cr1
  have cr2 := (grown_cell hg hzr (by omega)).trans cr2
  have fr0 := (grown_frozen hg hzr (by omega)).trans fr0
  have fr1 := (grown_frozen hg hzr (by omega)).trans fr1
  have fr2 := (grown_frozen hg hzr (by omega)).trans fr2
  have hzr := Nat.lt_of_lt_of_le hzr hg.size
  clear hc hg
  go_wp2_with fail
  refine (pick_any b (k + 2) cv 13 (by omega) (by omega) _ (by omega) Hw1.out).mono ?_
  rintro e w2 ⟨q, rfl, ⟨q0, q1⟩, hc, hg⟩
  have Hw2 := Lib.hid hc
  have Gw2 := Lib.hid (grown_trans Gw1.out hg)
  have cr0 := (grown_cell hg hzr (by omega)).trans cr0
  have cr1 := (grown_cell hg hzr (by omega)).trans cr1
  have cr2 := (grown_cell hg hzr (by omega)).trans cr2
  have fr0 := (grown_frozen hg hzr (by omega)).trans fr0
  have fr1 := (grown_frozen hg hzr (by omega)).trans fr1
  have fr2 := (grown_frozen hg hzr (by omega)).trans fr2
  have hzr := Nat.lt_of_lt_of_le hzr hg.size
  obtain ⟨hca, hga⟩ := hc.alloc (.cells #[.int .i64 (1 + r), .int .i64 q, .int .i64 0] 25)
  have hp : b < w2.heap.size := hc.1
  have hps : w.heap.size ≤ w2.heap.size := by omega
  have hne : w.heap.size ≠ w2.heap.size := by omega
  have H2 := Lib.hid hca
  have G2 := Lib.hid (grown_trans Gw2.out hga)
  have cr0 := (grown_cell hga hzr (by omega)).trans cr0
  have cr1 := (grown_cell hga hzr (by omega)).trans cr1
  have cr2 := (grown_cell hga hzr (by omega)).trans cr2
  have fr0 := (grown_frozen hga hzr (by omega)).trans fr0
  have fr1 := (grown_frozen hga hzr (by omega)).trans fr1
  have fr2 := (grown_frozen hga hzr (by omega)).trans fr2
  have hzr := Nat.lt_of_lt_of_le hzr hga.size
  have cp0 : (w2.alloc (.cells #[.int .i64 (1 + r), .int .i64 q, .int .i64 0] 25)).cell? ⟨w2.heap.size, 0, none⟩ = some (.int .i64 (1 + r)) := by simp
  have cp1 : (w2.alloc (.cells #[.int .i64 (1 + r), .int .i64 q, .int .i64 0] 25)).cell? ⟨w2.heap.size, 1, none⟩ = some (.int .i64 q) := by simp
  have cp2 : (w2.alloc (.cells #[.int .i64 (1 + r), .int .i64 q, .int .i64 0] 25)).cell? ⟨w2.heap.size, 2, none⟩ = some (.int .i64 0) := by simp
  have fp0 : (w2.alloc (.cells #[.int .i64 (1 + r), .int .i64 q, .int .i64 0] 25)).frozen? ⟨w2.heap.size, 0, none⟩ = false := by simp [go_sem]
  have fp1 : (w2.alloc (.cells #[.int .i64 (1 + r), .int .i64 q, .int .i64 0] 25)).frozen? ⟨w2.heap.size, 1, none⟩ = false := by simp [go_sem]
  have fp2 : (w2.alloc (.cells #[.int .i64 (1 + r), .int .i64 q, .int .i64 0] 25)).frozen? ⟨w2.heap.size, 2, none⟩ = false := by simp [go_sem]
  have hzp : w2.heap.size < (w2.alloc (.cells #[.int .i64 (1 + r), .int .i64 q, .int .i64 0] 25)).heap.size := by first | (simp; done) | (simp; omega)
  clear hc hg hca hga
  go_wp2_with fail
  generalize (w2.alloc (.cells #[.int .i64 (1 + r), .int .i64 q, .int .i64 0] 25)) = wp at *
  have nb : w2.heap.size ≠ b := by omega
  refine (pick_any b (k + 4) cv 9 (by omega) (by omega) _ (by omega) H2.out).mono ?_
  rintro e w3 ⟨v, rfl, ⟨v0, v1⟩, hc, hg⟩
  have Hw3 := Lib.hid hc
  have Gw3 := Lib.hid (grown_trans G2.out hg)
  have cr0 := (grown_cell hg hzr (by omega)).trans cr0
  have cr1 := (grown_cell hg hzr (by omega)).trans cr1
  have cr2 := (grown_cell hg hzr (by omega)).trans cr2
  have fr0 := (grown_frozen hg hzr (by omega)).trans fr0
  have fr1 := (grown_frozen hg hzr (by omega)).trans fr1
  have fr2 := (grown_frozen hg hzr (by omega)).trans fr2
  have hzr := Nat.lt_of_lt_of_le hzr hg.size
  have cp0 := (grown_cell hg hzp (by omega)).trans cp0
  have cp1 := (grown_cell hg hzp (by omega)).trans cp1
  have cp2 := (grown_cell hg hzp (by omega)).trans cp2
  have fp0 := (grown_frozen hg hzp (by omega)).trans fp0
  have fp1 := (grown_frozen hg hzp (by omega)).trans fp1
  have fp2 := (grown_frozen hg hzp (by omega)).trans fp2
  have hzp := Nat.lt_of_lt_of_le hzp hg.size
  clear hc hg
  go_wp2
  refine bodyPost_ret (v := .agg #[.int .i64 (1 + r), .int .i64 q, .int .i64 (v - 3)]) (by simp [results, Try.results50, go_sem, *]) rfl ⟨_, _, _, rfl, ?_, ?_⟩
  · repeat (first | exact Hw3.out | refine Cur.kept ?_ (grown_set _ _ _ _) (by omega))
  · repeat (first | exact Gw3.out | refine grown_new ?_ (grown_set _ _ _ _) (by omega))
set_option maxRecDepth 100000 in
set_option maxHeartbeats 8000000 in
theorem walker_any (b k : Nat) (cv : Value) (w : World) (hk : k ≤ 700000) (h : Cur w b cv k) :
    Calls Try.prog 26 #[.pointer (some ⟨b, 0, none⟩)] w fun e w' => ∃ x y z : Int, e = .returned (.agg #[.int .i64 x, .int .i64 y, .int .i64 z]) ∧ Cur w' b cv (k + 10) ∧ w.grownBy w' (some b) := by
  have hb := h.1
  obtain ⟨hc0, hg0⟩ := h.alloc (.cells #[.int .i64 0, .int .i64 0, .int .i64 0] 25)
  have cr0 : (w.alloc (.cells #[.int .i64 0, .int .i64 0, .int .i64 0] 25)).cell? ⟨w.heap.size, 0, none⟩ = some (.int .i64 0) := by simp
  have cr1 : (w.alloc (.cells #[.int .i64 0, .int .i64 0, .int .i64 0] 25)).cell? ⟨w.heap.size, 1, none⟩ = some (.int .i64 0) := by simp
  have cr2 : (w.alloc (.cells #[.int .i64 0, .int .i64 0, .int .i64 0] 25)).cell? ⟨w.heap.size, 2, none⟩ = some (.int .i64 0) := by simp
  have fr0 : (w.alloc (.cells #[.int .i64 0, .int .i64 0, .int .i64 0] 25)).frozen? ⟨w.heap.size, 0, none⟩ = false := by simp [go_sem]
  have fr1 : (w.alloc (.cells #[.int .i64 0, .int .i64 0, .int .i64 0] 25)).frozen? ⟨w.heap.size, 1, none⟩ = false := by simp [go_sem]
  have fr2 : (w.alloc (.cells #[.int .i64 0, .int .i64 0, .int .i64 0] 25)).frozen? ⟨w.heap.size, 2, none⟩ = false := by simp [go_sem]
  have hzr : w.heap.size < (w.alloc (.cells #[.int .i64 0, .int .i64 0, .int .i64 0] 25)).heap.size := by first | (simp; done) | (simp; omega)
  have H0 := Lib.hid hc0
  have G0 := Lib.hid hg0
  clear h hc0 hg0
  go_enter Try.func26, Try.ntmps26
  go_wp2_with fail
  generalize (w.alloc (.cells #[.int .i64 0, .int .i64 0, .int .i64 0] 25)) = w0 at *
  refine (sureWalker_any b k cv _ (by omega) H0.out).mono ?_
  rintro e w1 ⟨x, y, z, rfl, hc, hg⟩
  have cr0 := (grown_cell hg hzr (by omega)).trans cr0
  have cr1 := (grown_cell hg hzr (by omega)).trans cr1
  have cr2 := (grown_cell hg hzr (by omega)).trans cr2
  have fr0 := (grown_frozen hg hzr (by omega)).trans fr0
  have fr1 := (grown_frozen hg hzr (by omega)).trans fr1
  have fr2 := (grown_frozen hg hzr (by omega)).trans fr2
  have hzr := Nat.lt_of_lt_of_le hzr hg.size
  obtain ⟨hca, hga⟩ := hc.alloc (.cells #[.int .i64 x, .int .i64 y, .int .i64 z] 25)
  have hp : b < w1.heap.size := hc.1
  have hps : w.heap.size ≤ w1.heap.size := by omega
  have hne : w.heap.size ≠ w1.heap.size := by omega
  have H1 := Lib.hid hca
  have G1 := Lib.hid (grown_trans (grown_trans G0.out hg) hga)
  have cr0 := (grown_cell hga hzr (by omega)).trans cr0
  have cr1 := (grown_cell hga hzr (by omega)).trans cr1
  have cr2 := (grown_cell hga hzr (by omega)).trans cr2
  have fr0 := (grown_frozen hga hzr (by omega)).trans fr0
  have fr1 := (grown_frozen hga hzr (by omega)).trans fr1
  have fr2 := (grown_frozen hga hzr (by omega)).trans fr2
  have hzr := Nat.lt_of_lt_of_le hzr hga.size
  have cp0 : (w1.alloc (.cells #[.int .i64 x, .int .i64 y, .int .i64 z] 25)).cell? ⟨w1.heap.size, 0, none⟩ = some (.int .i64 x) := by simp
  have cp1 : (w1.alloc (.cells #[.int .i64 x, .int .i64 y, .int .i64 z] 25)).cell? ⟨w1.heap.size, 1, none⟩ = some (.int .i64 y) := by simp
  have cp2 : (w1.alloc (.cells #[.int .i64 x, .int .i64 y, .int .i64 z] 25)).cell? ⟨w1.heap.size, 2, none⟩ = some (.int .i64 z) := by simp
  have fp0 : (w1.alloc (.cells #[.int .i64 x, .int .i64 y, .int .i64 z] 25)).frozen? ⟨w1.heap.size, 0, none⟩ = false := by simp [go_sem]
  have fp1 : (w1.alloc (.cells #[.int .i64 x, .int .i64 y, .int .i64 z] 25)).frozen? ⟨w1.heap.size, 1, none⟩ = false := by simp [go_sem]
  have fp2 : (w1.alloc (.cells #[.int .i64 x, .int .i64 y, .int .i64 z] 25)).frozen? ⟨w1.heap.size, 2, none⟩ = false := by simp [go_sem]
  have hzp : w1.heap.size < (w1.alloc (.cells #[.int .i64 x, .int .i64 y, .int .i64 z] 25)).heap.size := by first | (simp; done) | (simp; omega)
  clear hc hg hca hga
  go_wp2_with fail
  generalize (w1.alloc (.cells #[.int .i64 x, .int .i64 y, .int .i64 z] 25)) = wp at *
  refine (pick_any b (k + 6) cv 16 (by omega) (by omega) _ (by omega) H1.out).mono ?_
  rintro e w2 ⟨r, rfl, ⟨r0, r1⟩, hc, hg⟩
  have Hw2 := Lib.hid hc
  have Gw2 := Lib.hid (grown_trans G1.out hg)
  have cr0 := (grown_cell hg hzr (by omega)).trans cr0
  have cr1 := (grown_cell hg hzr (by omega)).trans cr1
  have cr2 := (grown_cell hg hzr (by omega)).trans cr2
  have fr0 := (grown_frozen hg hzr (by omega)).trans fr0
  have fr1 := (grown_frozen hg hzr (by omega)).trans fr1
  have fr2 := (grown_frozen hg hzr (by omega)).trans fr2
  have hzr := Nat.lt_of_lt_of_le hzr hg.size
  have cp0 := (grown_cell hg hzp (by omega)).trans cp0
  have cp1 := (grown_cell hg hzp (by omega)).trans cp1
  have cp2 := (grown_cell hg hzp (by omega)).trans cp2
  have fp0 := (grown_frozen hg hzp (by omega)).trans fp0
  have fp1 := (grown_frozen hg hzp (by omega)).trans fp1
  have fp2 := (grown_frozen hg hzp (by omega)).trans fp2
  have hzp := Nat.lt_of_lt_of_le hzp hg.size
  clear hc hg
  have nb : w2.heap.size ≠ b := by omega
  by_cases hr0 : r = 0
  · subst hr0
    obtain ⟨hca, hga⟩ := Hw2.out.alloc (.cells #[.int .i64 0, .int .i64 (-1), .int .i64 9, .int .i64 200, .int .i64 4611686018427387904] 3)
    have HA := Lib.hid hca
    have hA := hga
    clear hca
    go_wp2_with fail
    refine (among_any b (k + 8) w2.heap.size cv 5 (fun i => [0, -1, 9, 200, 4611686018427387904].getD i 0) (by omega) (by omega) _ (by omega) HA.out (by simp) (by omega) (fun i hi => by
      rcases (show i = 0 ∨ i = 1 ∨ i = 2 ∨ i = 3 ∨ i = 4 by omega) with rfl | rfl | rfl | rfl | rfl <;> simp)).mono ?_
    rintro e w3 ⟨s, rfl, hc, hg⟩
    have GG := grown_trans hA hg
    have H3 := Lib.hid hc
    have G3 := Lib.hid (grown_trans Gw2.out GG)
    have cr0 := (grown_cell GG hzr (by omega)).trans cr0
    have cr1 := (grown_cell GG hzr (by omega)).trans cr1
    have cr2 := (grown_cell GG hzr (by omega)).trans cr2
    have fr0 := (grown_frozen GG hzr (by omega)).trans fr0
    have fr1 := (grown_frozen GG hzr (by omega)).trans fr1
    have fr2 := (grown_frozen GG hzr (by omega)).trans fr2
    have hzr := Nat.lt_of_lt_of_le hzr GG.size
    have cp0 := (grown_cell GG hzp (by omega)).trans cp0
    have cp1 := (grown_cell GG hzp (by omega)).trans cp1
    have cp2 := (grown_cell GG hzp (by omega)).trans cp2
    have fp0 := (grown_frozen GG hzp (by omega)).trans fp0
    have fp1 := (grown_frozen GG hzp (by omega)).trans fp1
    have fp2 := (grown_frozen GG hzp (by omega)).trans fp2
    have hzp := Nat.lt_of_lt_of_le hzp GG.size
    clear hc hg hA hga GG
    go_wp2
    refine bodyPost_ret (v := .agg #[.int .i64 s, .int .i64 y, .int .i64 z]) (by simp [results, Try.results26, go_sem, *]) rfl ⟨_, _, _, rfl, ?_, ?_⟩
    · repeat (first | exact H3.out | refine Cur.kept ?_ (grown_set _ _ _ _) (by omega))
    · repeat (first | exact G3.out | refine grown_new ?_ (grown_set _ _ _ _) (by omega))
  by_cases hr1 : r = 1
  · subst hr1
    obtain ⟨hca, hga⟩ := Hw2.out.alloc (.cells #[.int .i64 (-1), .int .i64 500, .int .i64 501, .int .i64 4611686018427387904] 3)
    have HA := Lib.hid hca
    have hA := hga
    clear hca
    go_wp2_with fail
    refine (among_any b (k + 8) w2.heap.size cv 4 (fun i => [-1, 500, 501, 4611686018427387904].getD i 0) (by omega) (by omega) _ (by omega) HA.out (by simp) (by omega) (fun i hi => by
      rcases (show i = 0 ∨ i = 1 ∨ i = 2 ∨ i = 3 by omega) with rfl | rfl | rfl | rfl <;> simp)).mono ?_
    rintro e w3 ⟨s, rfl, hc, hg⟩
    have GG := grown_trans hA hg
    have H3 := Lib.hid hc
    have G3 := Lib.hid (grown_trans Gw2.out GG)
    have cr0 := (grown_cell GG hzr (by omega)).trans cr0
    have cr1 := (grown_cell GG hzr (by omega)).trans cr1
    have cr2 := (grown_cell GG hzr (by omega)).trans cr2
    have fr0 := (grown_frozen GG hzr (by omega)).trans fr0
    have fr1 := (grown_frozen GG hzr (by omega)).trans fr1
    have fr2 := (grown_frozen GG hzr (by omega)).trans fr2
    have hzr := Nat.lt_of_lt_of_le hzr GG.size
    have cp0 := (grown_cell GG hzp (by omega)).trans cp0
    have cp1 := (grown_cell GG hzp (by omega)).trans cp1
    have cp2 := (grown_cell GG hzp (by omega)).trans cp2
    have fp0 := (grown_frozen GG hzp (by omega)).trans fp0
    have fp1 := (grown_frozen GG hzp (by omega)).trans fp1
    have fp2 := (grown_frozen GG hzp (by omega)).trans fp2
    have hzp := Nat.lt_of_lt_of_le hzp GG.size
    clear hc hg hA hga GG
    go_wp2
    refine bodyPost_ret (v := .agg #[.int .i64 x, .int .i64 s, .int .i64 z]) (by simp [results, Try.results26, go_sem, *]) rfl ⟨_, _, _, rfl, ?_, ?_⟩
    · repeat (first | exact H3.out | refine Cur.kept ?_ (grown_set _ _ _ _) (by omega))
    · repeat (first | exact G3.out | refine grown_new ?_ (grown_set _ _ _ _) (by omega))
  by_cases hr2 : r = 2
  · subst hr2
    obtain ⟨hca, hga⟩ := Hw2.out.alloc (.cells #[.int .i64 (-50), .int .i64 50, .int .i64 51, .int .i64 (-51), .int .i64 4611686018427387904] 3)
    have HA := Lib.hid hca
    have hA := hga
    clear hca
    go_wp2_with fail
    refine (among_any b (k + 8) w2.heap.size cv 5 (fun i => [-50, 50, 51, -51, 4611686018427387904].getD i 0) (by omega) (by omega) _ (by omega) HA.out (by simp) (by omega) (fun i hi => by
      rcases (show i = 0 ∨ i = 1 ∨ i = 2 ∨ i = 3 ∨ i = 4 by omega) with rfl | rfl | rfl | rfl | rfl <;> simp)).mono ?_
    rintro e w3 ⟨s, rfl, hc, hg⟩
    have GG := grown_trans hA hg
    have H3 := Lib.hid hc
    have G3 := Lib.hid (grown_trans Gw2.out GG)
    have cr0 := (grown_cell GG hzr (by omega)).trans cr0
    have cr1 := (grown_cell GG hzr (by omega)).trans cr1
    have cr2 := (grown_cell GG hzr (by omega)).trans cr2
    have fr0 := (grown_frozen GG hzr (by omega)).trans fr0
    have fr1 := (grown_frozen GG hzr (by omega)).trans fr1
    have fr2 := (grown_frozen GG hzr (by omega)).trans fr2
    have hzr := Nat.lt_of_lt_of_le hzr GG.size
    have cp0 := (grown_cell GG hzp (by omega)).trans cp0
    have cp1 := (grown_cell GG hzp (by omega)).trans cp1
    have cp2 := (grown_cell GG hzp (by omega)).trans cp2
    have fp0 := (grown_frozen GG hzp (by omega)).trans fp0
    have fp1 := (grown_frozen GG hzp (by omega)).trans fp1
    have fp2 := (grown_frozen GG hzp (by omega)).trans fp2
    have hzp := Nat.lt_of_lt_of_le hzp GG.size
    clear hc hg hA hga GG
    go_wp2
    refine bodyPost_ret (v := .agg #[.int .i64 x, .int .i64 y, .int .i64 s]) (by simp [results, Try.results26, go_sem, *]) rfl ⟨_, _, _, rfl, ?_, ?_⟩
    · repeat (first | exact H3.out | refine Cur.kept ?_ (grown_set _ _ _ _) (by omega))
    · repeat (first | exact G3.out | refine grown_new ?_ (grown_set _ _ _ _) (by omega))
  have e0 : (r == 0) = false := beq_eq_false_iff_ne.2 hr0
  have e1 : (r == 1) = false := beq_eq_false_iff_ne.2 hr1
  have e2 : (r == 2) = false := beq_eq_false_iff_ne.2 hr2
  have H3 := Lib.hid (Hw2.out.mono (show k + 8 ≤ k + 10 by omega))
  go_wp2
  refine bodyPost_ret (v := .agg #[.int .i64 x, .int .i64 y, .int .i64 z]) (by simp [results, Try.results26, go_sem, *]) rfl ⟨_, _, _, rfl, ?_, ?_⟩
  · repeat (first | exact H3.out | refine Cur.kept ?_ (grown_set _ _ _ _) (by omega))
  · repeat (first | exact Gw2.out | refine grown_new ?_ (grown_set _ _ _ _) (by omega))
set_option maxHeartbeats 1000000 in
theorem away_any (b k : Nat) (cv : Value) (w : World) (hk : k ≤ 800000) (h : Cur w b cv k) :
    Calls Try.prog 36 #[.pointer (some ⟨b, 0, none⟩)] w fun e w' => ∃ r : Int, e = .returned (.int .i64 r) ∧ Cur w' b cv (k + 4) ∧ w.grownBy w' (some b) := by
  have HN := fun W h => Lib.hid (one_any b k cv 10 (by omega) (by omega) W (by omega) h)
  have H0 := Lib.hid h
  clear h
  go_enter Try.func36, Try.ntmps36
  go_wp2_with fail
  refine ((HN _ H0.out).out).mono ?_
  rintro e w1 ⟨r, rfl, hc1, hg1⟩
  cases r
  · have H1 := Lib.hid hc1
    have G1 := Lib.hid hg1
    clear hc1 hg1
    go_wp2_with fail
    refine (pick_any b (k + 2) cv 8 (by omega) (by omega) _ (by omega) H1.out).mono ?_
    rintro e w2 ⟨q, rfl, ⟨q0, q1⟩, hc2, hg2⟩
    have H2 := Lib.hid hc2
    have G2 := Lib.hid (grown_trans G1.out hg2)
    clear hc2 hg2
    go_wp2
    go_ret
    exact ⟨_, rfl, H2.out, G2.out⟩
  · obtain ⟨hc2, hg2⟩ := hc1.alloc (.cells #[.int .i64 (-1), .int .i64 60, .int .i64 61, .int .i64 4611686018427387904] 3)
    have H1 := Lib.hid hc2
    have G1 := Lib.hid (grown_trans hg1 hg2)
    have hb := hc1.1
    clear hc1 hg1 hc2 hg2
    go_wp2_with fail
    refine (among_any b (k + 2) w1.heap.size cv 4 (fun i => [-1, 60, 61, 4611686018427387904].getD i 0) (by omega) (by omega) _ (by omega) H1.out (by simp) (by omega) (fun i hi => by
      rcases (show i = 0 ∨ i = 1 ∨ i = 2 ∨ i = 3 by omega) with rfl | rfl | rfl | rfl <;> simp)).mono ?_
    rintro e w2 ⟨q, rfl, hc2, hg2⟩
    have H2 := Lib.hid hc2
    have G2 := Lib.hid (grown_trans G1.out hg2)
    clear hc2 hg2
    go_wp2
    go_ret
    exact ⟨_, rfl, H2.out, G2.out⟩
def CurN (N : Nat) (u : World) (b : Nat) (cv : Value) (k : Nat) : Prop := Cur u b cv k ∧ Bytes u N cv
theorem CurN.set {N b k r o : Nat} {u : World} {cv x : Value} (h : CurN N u b cv k) (h1 : N ≤ r) (h2 : r < b) : CurN N (u.setCell ⟨r, o, none⟩ x) b cv k :=
  ⟨h.1.kept2 (h.2.mono h1) h2 (grown_set _ _ _ _), bytes_grown h.2 (fun g q hg => by first | (simp [go_sem]; done) | (simp [go_sem]; omega))⟩
theorem CurN.fst {N b k : Nat} {u : World} {cv : Value} (h : CurN N u b cv k) : Cur u b cv k := h.1
theorem CurN.drew {N b k : Nat} {u : World} {cv : Value} (h : CurN N u b cv k) : CurN N u.drew b cv k := h
theorem K1_set {u : World} {A r o : Nat} {x y z : Int} {v : Value} (hA : ¬ r = A) (h : u.cell? ⟨A, 0, none⟩ = some (.int .i64 x) ∧ u.cell? ⟨A, 1, none⟩ = some (.int .i64 y) ∧ u.cell? ⟨A, 2, none⟩ = some (.int .i64 z)) : (u.setCell ⟨r, o, none⟩ v).cell? ⟨A, 0, none⟩ = some (.int .i64 x) ∧ (u.setCell ⟨r, o, none⟩ v).cell? ⟨A, 1, none⟩ = some (.int .i64 y) ∧ (u.setCell ⟨r, o, none⟩ v).cell? ⟨A, 2, none⟩ = some (.int .i64 z) := by
  obtain ⟨h0, h1, h2⟩ := h
  have hA' : ¬ A = r := fun e => hA e.symm
  exact ⟨by simp [go_sem, *], by simp [go_sem, *], by simp [go_sem, *]⟩
theorem K1_grown {u u' : World} {A b : Nat} {x y z : Int} (g : u.grownBy u' (some b)) (hs : A < u.heap.size) (hA : ¬ A = b) (h : u.cell? ⟨A, 0, none⟩ = some (.int .i64 x) ∧ u.cell? ⟨A, 1, none⟩ = some (.int .i64 y) ∧ u.cell? ⟨A, 2, none⟩ = some (.int .i64 z)) : u'.cell? ⟨A, 0, none⟩ = some (.int .i64 x) ∧ u'.cell? ⟨A, 1, none⟩ = some (.int .i64 y) ∧ u'.cell? ⟨A, 2, none⟩ = some (.int .i64 z) := by
  obtain ⟨h0, h1, h2⟩ := h
  exact ⟨(grown_cell g hs hA).trans h0, (grown_cell g hs hA).trans h1, (grown_cell g hs hA).trans h2⟩
theorem K2_set {u : World} {A B r o : Nat} {x y z xB yB zB : Int} {v : Value} (hA : ¬ r = A) (hB : ¬ r = B) (h : u.cell? ⟨A, 0, none⟩ = some (.int .i64 x) ∧ u.cell? ⟨A, 1, none⟩ = some (.int .i64 y) ∧ u.cell? ⟨A, 2, none⟩ = some (.int .i64 z) ∧ u.cell? ⟨B, 0, none⟩ = some (.int .i64 xB) ∧ u.cell? ⟨B, 1, none⟩ = some (.int .i64 yB) ∧ u.cell? ⟨B, 2, none⟩ = some (.int .i64 zB)) : (u.setCell ⟨r, o, none⟩ v).cell? ⟨A, 0, none⟩ = some (.int .i64 x) ∧ (u.setCell ⟨r, o, none⟩ v).cell? ⟨A, 1, none⟩ = some (.int .i64 y) ∧ (u.setCell ⟨r, o, none⟩ v).cell? ⟨A, 2, none⟩ = some (.int .i64 z) ∧ (u.setCell ⟨r, o, none⟩ v).cell? ⟨B, 0, none⟩ = some (.int .i64 xB) ∧ (u.setCell ⟨r, o, none⟩ v).cell? ⟨B, 1, none⟩ = some (.int .i64 yB) ∧ (u.setCell ⟨r, o, none⟩ v).cell? ⟨B, 2, none⟩ = some (.int .i64 zB) := by
  obtain ⟨h0, h1, h2, h3⟩ := h
  obtain ⟨k0, k1, k2⟩ := K1_set (o := o) (v := v) hA ⟨h0, h1, h2⟩
  exact ⟨k0, k1, k2, K1_set hB h3⟩
theorem K2_grown {u u' : World} {A B b : Nat} {x y z xB yB zB : Int} (g : u.grownBy u' (some b)) (hs : A < u.heap.size) (hs2 : B < u.heap.size) (hA : ¬ A = b) (hB : ¬ B = b) (h : u.cell? ⟨A, 0, none⟩ = some (.int .i64 x) ∧ u.cell? ⟨A, 1, none⟩ = some (.int .i64 y) ∧ u.cell? ⟨A, 2, none⟩ = some (.int .i64 z) ∧ u.cell? ⟨B, 0, none⟩ = some (.int .i64 xB) ∧ u.cell? ⟨B, 1, none⟩ = some (.int .i64 yB) ∧ u.cell? ⟨B, 2, none⟩ = some (.int .i64 zB)) : u'.cell? ⟨A, 0, none⟩ = some (.int .i64 x) ∧ u'.cell? ⟨A, 1, none⟩ = some (.int .i64 y) ∧ u'.cell? ⟨A, 2, none⟩ = some (.int .i64 z) ∧ u'.cell? ⟨B, 0, none⟩ = some (.int .i64 xB) ∧ u'.cell? ⟨B, 1, none⟩ = some (.int .i64 yB) ∧ u'.cell? ⟨B, 2, none⟩ = some (.int .i64 zB) := by
  obtain ⟨h0, h1, h2, h3⟩ := h
  obtain ⟨k0, k1, k2⟩ := K1_grown g hs hA ⟨h0, h1, h2⟩
  exact ⟨k0, k1, k2, K1_grown g hs2 hB h3⟩
set_option maxHeartbeats 8000000 in
theorem DrawSumOfShadows_any (v : Value) (w : World) (hv : Bytes w w.heap.size v) :
    Calls Try.prog 16 #[v] w fun e w' => ∃ a l r x h : Int, e = .returned (.tuple #[.int .i64 a, .int .i64 l, .int .i64 r, .int .i64 x, .int .i64 h]) ∧ Below w.heap.size w w' := by
  obtain ⟨a, n, c, rfl, hn⟩ := hv.shape
  obtain ⟨hc, hb⟩ := Cur.start hv 50
  have H0 := Lib.hid hc
  have HB := Lib.hid hb
  clear hc hb
  go_enter Try.func16, Try.ntmps16
  go_wp2_with fail
  generalize (w.alloc (.cells #[.slice a n c, .int .i64 0, .int .u64 0] 50)) = w0 at *
  refine (shadow_any _ 0 _ _ (by omega) H0.out).mono ?_
  rintro e w1 ⟨s, rfl, hc, hg⟩
  have H1 := Lib.hid hc
  have HB1 := Lib.hid (grown_below HB.out (Nat.le_refl _) hg)
  clear hc hg
  go_wp2_with fail
  refine (lamp_any _ 4 _ _ (by omega) H1.out).mono ?_
  rintro e w2 ⟨l, rfl, hc, hg⟩
  have H2 := Lib.hid hc
  have HB2 := Lib.hid (grown_below HB1.out (Nat.le_refl _) hg)
  clear hc hg
  go_wp2_with fail
  refine (lamp_any _ 8 _ _ (by omega) H2.out).mono ?_
  rintro e w3 ⟨r, rfl, hc, hg⟩
  have H3 := Lib.hid hc
  have HB3 := Lib.hid (grown_below HB2.out (Nat.le_refl _) hg)
  clear hc hg
  have hm1 : 0 ≤ min (max s 0) 30 := by omega
  have hm2 : min (max s 0) 30 ≤ 30 := by omega
  go_wp2_with fail
  refine (l1Most_any _ _ _).mono ?_
  rintro e w' ⟨rfl, rfl⟩
  go_wp2_with fail
  refine (l1Least_any _ _ _).mono ?_
  rintro e w' ⟨rfl, rfl⟩
  generalize min (max s 0) 30 = M at *
  go_wp2_with fail
  refine (pick_any _ 12 _ (M + 3) (by omega) (by omega) _ (by omega) H3.out).mono ?_
  rintro e w4 ⟨q, rfl, ⟨q0, q1⟩, hc, hg⟩
  have HB4 := Lib.hid (grown_below HB3.out (Nat.le_refl _) hg)
  obtain ⟨hca, hga⟩ := hc.alloc (.cells #[.int .i64 1, .int .i64 2, .int .i64 3, .int .i64 0, .int .i64 (-1), .int .i64 12] 3)
  have hbb := hc.1
  have H4 := Lib.hid hca
  have HB5 := Lib.hid (grown_below HB4.out (Nat.le_refl _) hga)
  clear hc hg hca hga
  go_wp2_with fail
  refine (among_any _ 14 w4.heap.size _ 6 (fun i => [1, 2, 3, 0, -1, 12].getD i 0) (by omega) (by omega) _ (by omega) H4.out (by simp) (by omega) (fun i hi => by
    rcases (show i = 0 ∨ i = 1 ∨ i = 2 ∨ i = 3 ∨ i = 4 ∨ i = 5 by omega) with rfl | rfl | rfl | rfl | rfl | rfl <;> simp)).mono ?_
  rintro e w5 ⟨h, rfl, hc, hg⟩
  have HB6 := Lib.hid (grown_below HB5.out (Nat.le_refl _) hg)
  clear hc hg
  go_wp2
  refine bodyPost_ret (v := .tuple #[.int .i64 s, .int .i64 l, .int .i64 r, .int .i64 (q - 1), .int .i64 h]) (by simp [results, Try.results16, go_sem, *]) rfl ⟨_, _, _, _, _, rfl, HB6.out⟩
end Go.Proofs.Ytfnamahdofigaaa
