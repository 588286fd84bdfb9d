/- What is drawn for chapter 5: spots. -/
import Derived.Test.YtbnkigponkelpaaDRP
import Derived.Test.YtbnkigponkelpaaLW1
import Derived.Deep.RegionHeld3
namespace Go.Proofs.Ytbnkigponkelpaa
open Go.RowKit
set_option linter.unusedVariables false
set_option linter.unusedSimpArgs false
theorem grown_drewN {u w : World} {b : Option Nat} (h : u.grownBy w b) (n : Nat) : u.grownBy (w.drewN n) b :=
  ⟨h.os, h.tape, h.output, h.size, h.block⟩
theorem Bytes.up {w u : World} {v : Value} (h : Bytes w w.heap.size v) (hb : Below w.heap.size w u) : Bytes u u.heap.size v := by
  rcases h with h | ⟨g, off, n, cap, hv, h0, h1, hg, hx⟩
  · exact .inl h
  · refine .inr ⟨g, off, n, cap, hv, h0, h1, Nat.lt_of_lt_of_le hg hb.size, fun i hi => ?_⟩
    obtain ⟨x, x0, x1, hx⟩ := hx i hi
    exact ⟨x, x0, x1, by rw [(bcell hb).1 _ _ hg]; exact hx⟩
theorem Bytes.mono {w : World} {v : Value} {a b : Nat} (h : Bytes w a v) (hab : a ≤ b) : Bytes w b v := by
  rcases h with h | ⟨g, off, n, cap, hv, h0, h1, hg, hx⟩
  · exact .inl h
  · exact .inr ⟨g, off, n, cap, hv, h0, h1, Nat.lt_of_lt_of_le hg hab, hx⟩
theorem Cur.kept2 {w w' : World} {b r k : Nat} {cv : Value} (h : Cur w b cv k) (hB : Bytes w r cv) (hr : r < b) (g : w.grownBy w' (some r)) : Cur w' b cv k := by
  obtain ⟨h1, h2, h3, ⟨a, a0, a1, ha⟩, ⟨s, hs⟩, f1, f2⟩ := h
  have hc := fun o => grown_cell (o := o) g h1 (by omega)
  have hf := fun o => grown_frozen (o := o) g h1 (by omega)
  exact ⟨Nat.lt_of_lt_of_le h1 g.size, (bytes_grown hB (fun x o hx => grown_cell g (by omega) (by omega))).mono (by omega), by rw [hc]; exact h3, ⟨a, a0, a1, by rw [hc]; exact ha⟩, ⟨s, by rw [hc]; exact hs⟩, by rw [hf]; exact f1, by rw [hf]; exact f2⟩
theorem frozen_aft {w w' : World} {g o : Nat} (hb : Below w.heap.size w w') (hg : g < w.heap.size) (h : w.frozen? ⟨g, o, none⟩ = false) : w'.frozen? ⟨g, o, none⟩ = false := ((bcell hb).2 _ _ hg).trans h
theorem grown_below {w u v : World} {b : Nat} (h : Below w.heap.size w u) (hs : w.heap.size ≤ b) (g : u.grownBy v (some b)) : Below w.heap.size w v :=
  h.grown g h.size fun k e => by injection e with e; omega
set_option maxHeartbeats 2000000 in
theorem sureSpot_any (b k : Nat) (cv : Value) (w : World) (hk : k ≤ 800000) (h : Cur w b cv k) :
    Calls Try.prog 58 #[.pointer (some ⟨b, 0, none⟩)] w fun e w' => ∃ x y : Int, e = .returned (.agg #[.int .i64 x, .int .i64 y]) ∧ Cur w' b cv (k + 4) ∧ w.grownBy w' (some b) := by
  have hb := h.1
  obtain ⟨hc0, hg0⟩ := h.alloc (.cells #[.int .i64 0, .int .i64 0] 25)
  have c0 : (w.alloc (.cells #[.int .i64 0, .int .i64 0] 25)).cell? ⟨w.heap.size, 0, none⟩ = some (.int .i64 0) := by simp
  have c1 : (w.alloc (.cells #[.int .i64 0, .int .i64 0] 25)).cell? ⟨w.heap.size, 1, none⟩ = some (.int .i64 0) := by simp
  have f0 : (w.alloc (.cells #[.int .i64 0, .int .i64 0] 25)).frozen? ⟨w.heap.size, 0, none⟩ = false := by simp [go_sem]
  have f1 : (w.alloc (.cells #[.int .i64 0, .int .i64 0] 25)).frozen? ⟨w.heap.size, 1, none⟩ = false := by simp [go_sem]
  have s0 : w.heap.size < (w.alloc (.cells #[.int .i64 0, .int .i64 0] 25)).heap.size := by simp
  have H0 := Lib.hid hc0
  have G0 := Lib.hid hg0
  clear h hc0 hg0
  go_enter Try.func58, Try.ntmps58
  go_wp2_with fail
  generalize (w.alloc (.cells #[.int .i64 0, .int .i64 0] 25)) = w0 at *
  refine (pick_any b k cv 25 (by omega) (by omega) _ (by omega) H0.out).mono ?_
  rintro e w1 ⟨r, rfl, ⟨r0, r1⟩, hc, hg⟩
  have H1 := Lib.hid hc
  have G1 := Lib.hid (grown_trans G0.out hg)
  have c0 := (grown_cell hg s0 (by omega)).trans c0
  have c1 := (grown_cell hg s0 (by omega)).trans c1
  have f0 := (grown_frozen hg s0 (by omega)).trans f0
  have f1 := (grown_frozen hg s0 (by omega)).trans f1
  have s0 := Nat.lt_of_lt_of_le s0 hg.size
  clear hc hg
  go_wp2_with fail
  refine (pick_any b (k + 2) cv 9 (by omega) (by omega) _ (by omega) H1.out).mono ?_
  rintro e w2 ⟨q, rfl, ⟨q0, q1⟩, hc, hg⟩
  have H2 := Lib.hid hc
  have G2 := Lib.hid (grown_trans G1.out hg)
  have c0 := (grown_cell hg s0 (by omega)).trans c0
  have c1 := (grown_cell hg s0 (by omega)).trans c1
  have f0 := (grown_frozen hg s0 (by omega)).trans f0
  have f1 := (grown_frozen hg s0 (by omega)).trans f1
  have s0 := Nat.lt_of_lt_of_le s0 hg.size
  clear hc hg
  go_wp2
  refine bodyPost_ret (v := .agg #[.int .i64 (r - 6), .int .i64 (1 + q)]) (by simp [results, Try.results58, go_sem, *]) rfl ⟨_, _, rfl, ?_, ?_⟩
  · exact (H2.out.kept (grown_set _ _ _ _) hb).kept (grown_set _ _ _ _) hb
  · exact grown_new (grown_new G2.out (grown_set _ _ _ _) (Nat.le_refl _)) (grown_set _ _ _ _) (Nat.le_refl _)
set_option maxRecDepth 100000 in
set_option maxHeartbeats 4000000 in
theorem spot_any (b k : Nat) (cv : Value) (w : World) (hk : k ≤ 700000) (h : Cur w b cv k) :
    Calls Try.prog 48 #[.pointer (some ⟨b, 0, none⟩)] w fun e w' => ∃ x y : Int, e = .returned (.agg #[.int .i64 x, .int .i64 y]) ∧ Cur w' b cv (k + 8) ∧ w.grownBy w' (some b) := by
  have hb := h.1
  obtain ⟨hc0, hg0⟩ := h.alloc (.cells #[.int .i64 0, .int .i64 0] 25)
  have c0 : (w.alloc (.cells #[.int .i64 0, .int .i64 0] 25)).cell? ⟨w.heap.size, 0, none⟩ = some (.int .i64 0) := by simp
  have c1 : (w.alloc (.cells #[.int .i64 0, .int .i64 0] 25)).cell? ⟨w.heap.size, 1, none⟩ = some (.int .i64 0) := by simp
  have f0 : (w.alloc (.cells #[.int .i64 0, .int .i64 0] 25)).frozen? ⟨w.heap.size, 0, none⟩ = false := by simp [go_sem]
  have f1 : (w.alloc (.cells #[.int .i64 0, .int .i64 0] 25)).frozen? ⟨w.heap.size, 1, none⟩ = false := by simp [go_sem]
  have s0 : w.heap.size < (w.alloc (.cells #[.int .i64 0, .int .i64 0] 25)).heap.size := by simp
  have H0 := Lib.hid hc0
  have G0 := Lib.hid hg0
  clear h hc0 hg0
  go_enter Try.func48, Try.ntmps48
  go_wp2_with fail
  generalize (w.alloc (.cells #[.int .i64 0, .int .i64 0] 25)) = w0 at *
  refine (sureSpot_any b k cv _ (by omega) H0.out).mono ?_
  rintro e w1 ⟨x, y, rfl, hc, hg⟩
  obtain ⟨hca, hga⟩ := hc.alloc (.cells #[.int .i64 x, .int .i64 y] 25)
  have GG := grown_trans hg hga
  have H1 := Lib.hid hca
  have G1 := Lib.hid (grown_trans G0.out GG)
  have hp : b < w1.heap.size := hc.1
  have hps : w.heap.size ≤ w1.heap.size := by have := hg.size; omega
  have hps' : w.heap.size < w1.heap.size := by have := hg.size; omega
  have c0 := (grown_cell GG s0 (by omega)).trans c0
  have c1 := (grown_cell GG s0 (by omega)).trans c1
  have f0 := (grown_frozen GG s0 (by omega)).trans f0
  have f1 := (grown_frozen GG s0 (by omega)).trans f1
  have s0 := Nat.lt_of_lt_of_le s0 GG.size
  have p0 : (w1.alloc (.cells #[.int .i64 x, .int .i64 y] 25)).cell? ⟨w1.heap.size, 0, none⟩ = some (.int .i64 x) := by simp
  have p1 : (w1.alloc (.cells #[.int .i64 x, .int .i64 y] 25)).cell? ⟨w1.heap.size, 1, none⟩ = some (.int .i64 y) := by simp
  have q0 : (w1.alloc (.cells #[.int .i64 x, .int .i64 y] 25)).frozen? ⟨w1.heap.size, 0, none⟩ = false := by simp [go_sem]
  have q1 : (w1.alloc (.cells #[.int .i64 x, .int .i64 y] 25)).frozen? ⟨w1.heap.size, 1, none⟩ = false := by simp [go_sem]
  have t0 : w1.heap.size < (w1.alloc (.cells #[.int .i64 x, .int .i64 y] 25)).heap.size := by simp
  clear hc hg hca hga GG
  go_wp2_with fail
  generalize (w1.alloc (.cells #[.int .i64 x, .int .i64 y] 25)) = wp at *
  refine (pick_any b (k + 4) cv 24 (by omega) (by omega) _ (by omega) H1.out).mono ?_
  rintro e w2 ⟨r, rfl, ⟨r0, r1⟩, hc, hg⟩
  have H2 := Lib.hid hc
  have G2 := Lib.hid (grown_trans G1.out hg)
  have GG := hg
  have c0 := (grown_cell GG s0 (by omega)).trans c0
  have c1 := (grown_cell GG s0 (by omega)).trans c1
  have f0 := (grown_frozen GG s0 (by omega)).trans f0
  have f1 := (grown_frozen GG s0 (by omega)).trans f1
  have p0 := (grown_cell GG t0 (by omega)).trans p0
  have p1 := (grown_cell GG t0 (by omega)).trans p1
  have q0 := (grown_frozen GG t0 (by omega)).trans q0
  have q1 := (grown_frozen GG t0 (by omega)).trans q1
  have s0 := Nat.lt_of_lt_of_le s0 GG.size
  have t0 := Nat.lt_of_lt_of_le t0 GG.size
  have nb : w2.heap.size ≠ b := by omega
  have hne : w.heap.size ≠ w1.heap.size := by omega
  clear hc hg GG
  by_cases hr0 : r = 0
  · subst hr0
    obtain ⟨hca, hga⟩ := H2.out.alloc (.cells #[.int .i64 (-1001), .int .i64 (-1000), .int .i64 0, .int .i64 1000, .int .i64 1001, .int .i64 (-9223372036854775808)] 3)
    have HA := Lib.hid hca
    have hA := hga
    clear hca
    go_wp2_with fail
    refine (among_any b (k + 6) w2.heap.size cv 6 (fun i => [-1001, -1000, 0, 1000, 1001, -9223372036854775808].getD i 0) (by omega) (by omega) _ (by omega) HA.out (by simp) (by omega) (fun i hi => by
      rcases (show i = 0 ∨ i = 1 ∨ i = 2 ∨ i = 3 ∨ i = 4 ∨ i = 5 by omega) with rfl | rfl | rfl | rfl | rfl | rfl <;> simp)).mono ?_
    rintro e w3 ⟨z, rfl, hc, hg⟩
    have GG := grown_trans hA hg
    have H3 := Lib.hid hc
    have G3 := Lib.hid (grown_trans G2.out GG)
    have c0 := (grown_cell GG s0 (by omega)).trans c0
    have c1 := (grown_cell GG s0 (by omega)).trans c1
    have f0 := (grown_frozen GG s0 (by omega)).trans f0
    have f1 := (grown_frozen GG s0 (by omega)).trans f1
    have p0 := (grown_cell GG t0 (by omega)).trans p0
    have p1 := (grown_cell GG t0 (by omega)).trans p1
    have q0 := (grown_frozen GG t0 (by omega)).trans q0
    have q1 := (grown_frozen GG t0 (by omega)).trans q1
    have s0 := Nat.lt_of_lt_of_le s0 GG.size
    have t0 := Nat.lt_of_lt_of_le t0 GG.size
    clear hc hg hA hga GG
    go_wp2
    refine bodyPost_ret (v := .agg #[.int .i64 z, .int .i64 y]) (by simp [results, Try.results48, go_sem, *]) rfl ⟨_, _, rfl, ?_, ?_⟩
    · exact ((H3.out.kept (grown_set _ _ _ _) hp).kept (grown_set _ _ _ _) hb).kept (grown_set _ _ _ _) hb
    · exact grown_new (grown_new (grown_new G3.out (grown_set _ _ _ _) hps) (grown_set _ _ _ _) (Nat.le_refl _)) (grown_set _ _ _ _) (Nat.le_refl _)
  by_cases hr1 : r = 1
  · subst hr1
    obtain ⟨hca, hga⟩ := H2.out.alloc (.cells #[.int .i64 (-1), .int .i64 0, .int .i64 1, .int .i64 1000, .int .i64 1001, .int .i64 4611686018427387904] 3)
    have HA := Lib.hid hca
    have hA := hga
    clear hca
    go_wp2_with fail
    refine (among_any b (k + 6) w2.heap.size cv 6 (fun i => [-1, 0, 1, 1000, 1001, 4611686018427387904].getD i 0) (by omega) (by omega) _ (by omega) HA.out (by simp) (by omega) (fun i hi => by
      rcases (show i = 0 ∨ i = 1 ∨ i = 2 ∨ i = 3 ∨ i = 4 ∨ i = 5 by omega) with rfl | rfl | rfl | rfl | rfl | rfl <;> simp)).mono ?_
    rintro e w3 ⟨z, rfl, hc, hg⟩
    have GG := grown_trans hA hg
    have H3 := Lib.hid hc
    have G3 := Lib.hid (grown_trans G2.out GG)
    have c0 := (grown_cell GG s0 (by omega)).trans c0
    have c1 := (grown_cell GG s0 (by omega)).trans c1
    have f0 := (grown_frozen GG s0 (by omega)).trans f0
    have f1 := (grown_frozen GG s0 (by omega)).trans f1
    have p0 := (grown_cell GG t0 (by omega)).trans p0
    have p1 := (grown_cell GG t0 (by omega)).trans p1
    have q0 := (grown_frozen GG t0 (by omega)).trans q0
    have q1 := (grown_frozen GG t0 (by omega)).trans q1
    have s0 := Nat.lt_of_lt_of_le s0 GG.size
    have t0 := Nat.lt_of_lt_of_le t0 GG.size
    clear hc hg hA hga GG
    go_wp2
    refine bodyPost_ret (v := .agg #[.int .i64 x, .int .i64 z]) (by simp [results, Try.results48, go_sem, *]) rfl ⟨_, _, rfl, ?_, ?_⟩
    · exact ((H3.out.kept (grown_set _ _ _ _) hp).kept (grown_set _ _ _ _) hb).kept (grown_set _ _ _ _) hb
    · exact grown_new (grown_new (grown_new G3.out (grown_set _ _ _ _) hps) (grown_set _ _ _ _) (Nat.le_refl _)) (grown_set _ _ _ _) (Nat.le_refl _)
  have e0 : (r == 0) = false := beq_eq_false_iff_ne.2 hr0
  have e1 : (r == 1) = false := beq_eq_false_iff_ne.2 hr1
  go_wp2
  refine bodyPost_ret (v := .agg #[.int .i64 x, .int .i64 y]) (by simp [results, Try.results48, go_sem, *]) rfl ⟨_, _, rfl, ?_, ?_⟩
  · exact ((H2.out.mono (by omega)).kept (grown_set _ _ _ _) hb).kept (grown_set _ _ _ _) hb
  · exact grown_new (grown_new G2.out (grown_set _ _ _ _) (Nat.le_refl _)) (grown_set _ _ _ _) (Nat.le_refl _)
end Go.Proofs.Ytbnkigponkelpaa
