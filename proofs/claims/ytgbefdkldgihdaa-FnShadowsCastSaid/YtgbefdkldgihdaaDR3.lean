/- What is drawn for chapter 2: a place, a lamp, a wall. -/
import Derived.Test.YtgbefdkldgihdaaDRP
import Derived.Deep.RegionWith
namespace Go.Proofs.Ytgbefdkldgihdaa
open Go.RowKit
set_option linter.unusedVariables false
set_option linter.unusedSimpArgs false
theorem l1Least_any (a b : Int) (w : World) :
    Calls Try.prog 33 #[.int .i64 a, .int .i64 b] w fun e w' => ∃ r : Int, e = .returned (.int .i64 r) ∧ w = w' := by
  go_enter Try.func33, Try.ntmps33
  by_cases h : a < b <;> go_wp2 <;> go_ret <;> first | exact ⟨_, rfl, rfl⟩ | exact ⟨⟨_, rfl⟩, rfl⟩
set_option maxHeartbeats 2000000 in
theorem DrawPlaceOfShadow_any (v : Value) (w : World) (hv : Bytes w w.heap.size v) :
    Calls Try.prog 26 #[v] w fun e w' => ∃ a b c : Int, e = .returned (.tuple #[.int .i64 a, .int .i64 b, .int .i64 c]) ∧ Below w.heap.size w w' := by
  obtain ⟨a, n, c, rfl, hn⟩ := hv.shape
  obtain ⟨hc, hb⟩ := Cur.start hv 45
  have H0 := Lib.hid hc
  have HB := Lib.hid hb
  have G0 := Lib.hid (World.grownBy.refl (w.alloc (.cells #[.slice a n c, .int .i64 0, .int .u64 0] 45)) (some w.heap.size))
  clear hv hc hb
  go_enter Try.func26, Try.ntmps26
  go_wp2_with fail
  refine (lamp_any _ 0 _ _ (by omega) H0.out).mono ?_
  rintro e w1 ⟨r0, rfl, hc, hg⟩
  obtain ⟨hca, hga⟩ := hc.alloc (.cells #[.int .i64 1, .int .i64 2, .int .i64 3, .int .i64 5, .int .i64 12, .int .i64 0, .int .i64 (-1)] 3)
  have H1 := Lib.hid hca
  have G1 := Lib.hid (grown_trans (grown_trans G0.out hg) hga)
  have nb : w1.heap.size ≠ w.heap.size := by have := hc.1; omega
  clear hc hg hca hga
  go_wp2_with fail
  refine (among_any _ 4 w1.heap.size _ 7 (fun i => [1, 2, 3, 5, 12, 0, -1].getD i 0) (by omega) (by omega) _ (by omega) H1.out (by simp) nb (fun i hi => by
    rcases (show i = 0 ∨ i = 1 ∨ i = 2 ∨ i = 3 ∨ i = 4 ∨ i = 5 ∨ i = 6 by omega) with rfl | rfl | rfl | rfl | rfl | rfl | rfl <;> simp)).mono ?_
  rintro e w2 ⟨r1, rfl, hc, hg⟩
  have H2 := Lib.hid hc
  have G2 := Lib.hid (grown_trans G1.out hg)
  clear hc hg
  go_wp2_with fail
  refine (shadow_any _ 6 _ _ (by omega) H2.out).mono ?_
  rintro e w3 ⟨r2, rfl, hc, hg⟩
  have G3 := Lib.hid (grown_trans G2.out hg)
  clear hc hg
  go_wp2
  go_ret3
  exact ⟨_, _, _, rfl, Below.drawn HB.out (by simp) G3.out⟩
theorem grown_drewN {u w : World} {b : Option Nat} (h : u.grownBy w b) (n : Nat) : u.grownBy (w.drewN n) b :=
  ⟨h.os, h.tape, h.output, h.size, h.block⟩
theorem Bytes.up {w u : World} {v : Value} (h : Bytes w w.heap.size v) (hb : Below w.heap.size w u) : Bytes u u.heap.size v := by
  rcases h with h | ⟨g, off, n, cap, hv, h0, h1, hg, hx⟩
  · exact .inl h
  · refine .inr ⟨g, off, n, cap, hv, h0, h1, Nat.lt_of_lt_of_le hg hb.size, fun i hi => ?_⟩
    obtain ⟨x, x0, x1, hx⟩ := hx i hi
    exact ⟨x, x0, x1, by rw [(bcell hb).1 _ _ hg]; exact hx⟩
theorem Bytes.mono {w : World} {v : Value} {a b : Nat} (h : Bytes w a v) (hab : a ≤ b) : Bytes w b v := by
  rcases h with h | ⟨g, off, n, cap, hv, h0, h1, hg, hx⟩
  · exact .inl h
  · exact .inr ⟨g, off, n, cap, hv, h0, h1, Nat.lt_of_lt_of_le hg hab, hx⟩
theorem Cur.kept2 {w w' : World} {b r k : Nat} {cv : Value} (h : Cur w b cv k) (hB : Bytes w r cv) (hr : r < b) (g : w.grownBy w' (some r)) : Cur w' b cv k := by
  obtain ⟨h1, h2, h3, ⟨a, a0, a1, ha⟩, ⟨s, hs⟩, f1, f2⟩ := h
  have hc := fun o => grown_cell (o := o) g h1 (by omega)
  have hf := fun o => grown_frozen (o := o) g h1 (by omega)
  exact ⟨Nat.lt_of_lt_of_le h1 g.size, (bytes_grown hB (fun x o hx => grown_cell g (by omega) (by omega))).mono (by omega), by rw [hc]; exact h3, ⟨a, a0, a1, by rw [hc]; exact ha⟩, ⟨s, by rw [hc]; exact hs⟩, by rw [hf]; exact f1, by rw [hf]; exact f2⟩
theorem frozen_aft {w w' : World} {g o : Nat} (hb : Below w.heap.size w w') (hg : g < w.heap.size) (h : w.frozen? ⟨g, o, none⟩ = false) : w'.frozen? ⟨g, o, none⟩ = false := ((bcell hb).2 _ _ hg).trans h
theorem grown_below {w u v : World} {b : Nat} (h : Below w.heap.size w u) (hs : w.heap.size ≤ b) (g : u.grownBy v (some b)) : Below w.heap.size w v :=
  h.grown g h.size fun k e => by injection e with e; omega
set_option maxHeartbeats 4000000 in
theorem DrawLampOfShadow_any (v : Value) (w : World) (hv : Bytes w w.heap.size v) :
    Calls Try.prog 22 #[v] w fun e w' => ∃ x y s : Int, e = .returned (.tuple #[.agg #[.int .i64 x, .int .i64 y], .int .i64 s]) ∧ Below w.heap.size w w' := by
  obtain ⟨a, n, c, rfl, hn⟩ := hv.shape
  have hb0 := bl_alloc (Below.refl w.heap.size w) (.cells #[.int .i64 0, .int .i64 0] 25)
  have hz0 : w.heap.size < (w.alloc (.cells #[.int .i64 0, .int .i64 0] 25)).heap.size := by simp
  have c0 : (w.alloc (.cells #[.int .i64 0, .int .i64 0] 25)).cell? ⟨w.heap.size, 0, none⟩ = some (.int .i64 0) := by simp
  have c1 : (w.alloc (.cells #[.int .i64 0, .int .i64 0] 25)).cell? ⟨w.heap.size, 1, none⟩ = some (.int .i64 0) := by simp
  have f0 : (w.alloc (.cells #[.int .i64 0, .int .i64 0] 25)).frozen? ⟨w.heap.size, 0, none⟩ = false := by simp [go_sem]
  have f1 : (w.alloc (.cells #[.int .i64 0, .int .i64 0] 25)).frozen? ⟨w.heap.size, 1, none⟩ = false := by simp [go_sem]
  have hv1 : Bytes (w.alloc (.cells #[.int .i64 0, .int .i64 0] 25)) (w.alloc (.cells #[.int .i64 0, .int .i64 0] 25)).heap.size (.slice a n c) := Bytes.up hv hb0
  have hs0 : (w.alloc (.cells #[.int .i64 0, .int .i64 0] 25)).heap.size = w.heap.size + 1 := by simp
  have HB0 := Lib.hid hb0
  clear hb0
  go_enter Try.func22, Try.ntmps22
  go_wp2_with fail
  generalize (w.alloc (.cells #[.int .i64 0, .int .i64 0] 25)) = w0 at *
  obtain ⟨hc, hb⟩ := Cur.start hv1 45
  rw [hs0] at hc
  have H0 := Lib.hid hc
  have HB := Lib.hid (bl_trans hb HB0.out)
  have c0 := cell_after hb hz0 c0
  have c1 := cell_after hb hz0 c1
  have f0 := frozen_aft hb hz0 f0
  have f1 := frozen_aft hb hz0 f1
  have hz0 := Nat.lt_of_lt_of_le hz0 hb.size
  clear hc hb HB0 hs0 hv1
  generalize (w0.alloc (.cells #[.slice a n c, .int .i64 0, .int .u64 0] 45)) = wd at *
  refine (pole_any _ 0 _ _ (by omega) H0.out).mono ?_
  rintro e w1 ⟨x, y, rfl, hc, hg⟩
  have c0 := (grown_cell hg hz0 (by omega)).trans c0
  have c1 := (grown_cell hg hz0 (by omega)).trans c1
  have f0 := (grown_frozen hg hz0 (by omega)).trans f0
  have f1 := (grown_frozen hg hz0 (by omega)).trans f1
  have hz0 := Nat.lt_of_lt_of_le hz0 hg.size
  have HB1 := Lib.hid (grown_below HB.out (by omega) hg)
  obtain ⟨hca, hga⟩ := hc.alloc (.cells #[.int .i64 x, .int .i64 y] 25)
  have c0 := (grown_cell hga hz0 (by omega)).trans c0
  have c1 := (grown_cell hga hz0 (by omega)).trans c1
  have f0 := (grown_frozen hga hz0 (by omega)).trans f0
  have f1 := (grown_frozen hga hz0 (by omega)).trans f1
  have hz0 := Nat.lt_of_lt_of_le hz0 hga.size
  have HB2 := Lib.hid (bl_alloc HB1.out (.cells #[.int .i64 x, .int .i64 y] 25))
  have p0 : (w1.alloc (.cells #[.int .i64 x, .int .i64 y] 25)).cell? ⟨w1.heap.size, 0, none⟩ = some (.int .i64 x) := by simp
  have p1 : (w1.alloc (.cells #[.int .i64 x, .int .i64 y] 25)).cell? ⟨w1.heap.size, 1, none⟩ = some (.int .i64 y) := by simp
  have t0 : w1.heap.size < (w1.alloc (.cells #[.int .i64 x, .int .i64 y] 25)).heap.size := by simp
  have hq := hc.1
  have hne : w.heap.size ≠ w1.heap.size := by omega
  have nb : w1.heap.size ≠ w.heap.size + 1 := by omega
  have hcb := hca
  clear hc hg hca hga
  go_wp2_with fail
  generalize (w1.alloc (.cells #[.int .i64 x, .int .i64 y] 25)) = wp at *
  have hbv := bytes_grown hv (fun g o hg => (bcell HB2.out).1 g o hg)
  have HC := Lib.hid (fun u (g : wp.grownBy u (some w.heap.size)) => hcb.kept2 hbv (Nat.lt_succ_self _) g)
  have hd : wp.grownBy wp.drew (some w.heap.size) := ⟨rfl, rfl, rfl, Nat.le_refl _, fun _ _ _ => rfl⟩
  have HR := Lib.hid hd
  have HRS := fun o v o' v' => Lib.hid (grown_trans hd (grown_trans (grown_set wp.drew w.heap.size o v) (grown_set (wp.drew.setCell ⟨w.heap.size, o, none⟩ v) w.heap.size o' v')))
  clear hd
  clear hcb hbv hv HB HB1 H0
  go_region_with (go_at_call 45; refine (shadow_any _ 8 _ _ (by omega) (HC.out _ (by first | exact HR.out | exact (HRS _ _ _ _).out))).mono ?_; rintro e w9 ⟨s, rfl, hc9, hg9⟩; have xz := hg9.size; simp at xz; have xc0 := (grown_cell (g := w.heap.size) (o := 0) hg9 (by simp; omega) (by omega)).trans (by first | exact c0 | (simp [go_sem]; rfl)); have xc1 := (grown_cell (g := w.heap.size) (o := 1) hg9 (by simp; omega) (by omega)).trans (by first | exact c1 | (simp [go_sem]; rfl)); have xp0 := (grown_cell (g := w1.heap.size) (o := 0) hg9 (by simp; omega) (by omega)).trans (by first | exact p0 | (simp [go_sem]; rfl)); have xp1 := (grown_cell (g := w1.heap.size) (o := 1) hg9 (by simp; omega) (by omega)).trans (by first | exact p1 | (simp [go_sem]; rfl)); have xf0 := (grown_frozen (g := w.heap.size) (o := 0) hg9 (by simp; omega) (by omega)).trans (by first | exact f0 | (simp [go_sem, *]; done)); have xf1 := (grown_frozen (g := w.heap.size) (o := 1) hg9 (by simp; omega) (by omega)).trans (by first | exact f1 | (simp [go_sem, *]; done)))
  all_goals
    go_wp2
    refine bodyPost_ret (v := .tuple #[.agg #[.int .i64 x, .int .i64 y], .int .i64 s]) (by simp [results, Try.results22, go_sem, *]) rfl ⟨_, _, _, rfl, ?_⟩
    repeat (first | exact HB2.out | exact below_drewN HB2.out 1 | refine bl_set ?_ (Nat.le_refl _) _ | refine grown_below ?_ ?_ (by assumption) | omega)
set_option maxHeartbeats 8000000 in
theorem DrawShadowOnWall_any (v : Value) (w : World) (hv : Bytes w w.heap.size v) :
    Calls Try.prog 5 #[v] w fun e w' => ∃ l x y z : Int, e = .returned (.tuple #[.int .i64 l, .agg #[.int .i64 x, .int .i64 y], .int .i64 z]) ∧ Below w.heap.size w w' := by
  obtain ⟨a, n, c, rfl, hn⟩ := hv.shape
  have hb0 := bl_alloc (Below.refl w.heap.size w) (.cells #[.int .i64 0, .int .i64 0] 25)
  have hz0 : w.heap.size < (w.alloc (.cells #[.int .i64 0, .int .i64 0] 25)).heap.size := by simp
  have c0 : (w.alloc (.cells #[.int .i64 0, .int .i64 0] 25)).cell? ⟨w.heap.size, 0, none⟩ = some (.int .i64 0) := by simp
  have c1 : (w.alloc (.cells #[.int .i64 0, .int .i64 0] 25)).cell? ⟨w.heap.size, 1, none⟩ = some (.int .i64 0) := by simp
  have f0 : (w.alloc (.cells #[.int .i64 0, .int .i64 0] 25)).frozen? ⟨w.heap.size, 0, none⟩ = false := by simp [go_sem]
  have f1 : (w.alloc (.cells #[.int .i64 0, .int .i64 0] 25)).frozen? ⟨w.heap.size, 1, none⟩ = false := by simp [go_sem]
  have hv1 : Bytes (w.alloc (.cells #[.int .i64 0, .int .i64 0] 25)) (w.alloc (.cells #[.int .i64 0, .int .i64 0] 25)).heap.size (.slice a n c) := Bytes.up hv hb0
  have hs0 : (w.alloc (.cells #[.int .i64 0, .int .i64 0] 25)).heap.size = w.heap.size + 1 := by simp
  have HB0 := Lib.hid hb0
  clear hb0
  go_enter Try.func5, Try.ntmps5
  go_wp2_with fail
  generalize (w.alloc (.cells #[.int .i64 0, .int .i64 0] 25)) = w0 at *
  obtain ⟨hc, hb⟩ := Cur.start hv1 45
  rw [hs0] at hc
  have H0 := Lib.hid hc
  have HB := Lib.hid (bl_trans hb HB0.out)
  have c0 := cell_after hb hz0 c0
  have c1 := cell_after hb hz0 c1
  have f0 := frozen_aft hb hz0 f0
  have f1 := frozen_aft hb hz0 f1
  have hz0 := Nat.lt_of_lt_of_le hz0 hb.size
  clear hc hb HB0 hs0 hv1
  generalize (w0.alloc (.cells #[.slice a n c, .int .i64 0, .int .u64 0] 45)) = wd at *
  refine (lamp_any _ 0 _ _ (by omega) H0.out).mono ?_
  rintro e wl ⟨l, rfl, hc, hg⟩
  have c0 := (grown_cell hg hz0 (by omega)).trans c0
  have c1 := (grown_cell hg hz0 (by omega)).trans c1
  have f0 := (grown_frozen hg hz0 (by omega)).trans f0
  have f1 := (grown_frozen hg hz0 (by omega)).trans f1
  have hz0 := Nat.lt_of_lt_of_le hz0 hg.size
  have HBl := Lib.hid (grown_below HB.out (by omega) hg)
  have Hl := Lib.hid hc
  clear hc hg HB H0
  have HB := Lib.hid HBl.out
  go_wp2_with fail
  refine (pole_any _ 4 _ _ (by omega) Hl.out).mono ?_
  rintro e w1 ⟨x, y, rfl, hc, hg⟩
  have c0 := (grown_cell hg hz0 (by omega)).trans c0
  have c1 := (grown_cell hg hz0 (by omega)).trans c1
  have f0 := (grown_frozen hg hz0 (by omega)).trans f0
  have f1 := (grown_frozen hg hz0 (by omega)).trans f1
  have hz0 := Nat.lt_of_lt_of_le hz0 hg.size
  have HB1 := Lib.hid (grown_below HB.out (by omega) hg)
  obtain ⟨hca, hga⟩ := hc.alloc (.cells #[.int .i64 x, .int .i64 y] 25)
  have c0 := (grown_cell hga hz0 (by omega)).trans c0
  have c1 := (grown_cell hga hz0 (by omega)).trans c1
  have f0 := (grown_frozen hga hz0 (by omega)).trans f0
  have f1 := (grown_frozen hga hz0 (by omega)).trans f1
  have hz0 := Nat.lt_of_lt_of_le hz0 hga.size
  have HB2 := Lib.hid (bl_alloc HB1.out (.cells #[.int .i64 x, .int .i64 y] 25))
  have p0 : (w1.alloc (.cells #[.int .i64 x, .int .i64 y] 25)).cell? ⟨w1.heap.size, 0, none⟩ = some (.int .i64 x) := by simp
  have p1 : (w1.alloc (.cells #[.int .i64 x, .int .i64 y] 25)).cell? ⟨w1.heap.size, 1, none⟩ = some (.int .i64 y) := by simp
  have t0 : w1.heap.size < (w1.alloc (.cells #[.int .i64 x, .int .i64 y] 25)).heap.size := by simp
  have hq := hc.1
  have hne : w.heap.size ≠ w1.heap.size := by omega
  have nb : w1.heap.size ≠ w.heap.size + 1 := by omega
  have hcb := hca
  clear hc hg hca hga
  go_wp2_with fail
  generalize (w1.alloc (.cells #[.int .i64 x, .int .i64 y] 25)) = wp at *
  have hbv := bytes_grown hv (fun g o hg => (bcell HB2.out).1 g o hg)
  have HC := Lib.hid (fun u (g : wp.grownBy u (some w.heap.size)) => hcb.kept2 hbv (Nat.lt_succ_self _) g)
  have hd : wp.grownBy wp.drew (some w.heap.size) := ⟨rfl, rfl, rfl, Nat.le_refl _, fun _ _ _ => rfl⟩
  have HR := Lib.hid hd
  have HRS := fun o v o' v' => Lib.hid (grown_trans hd (grown_trans (grown_set wp.drew w.heap.size o v) (grown_set (wp.drew.setCell ⟨w.heap.size, o, none⟩ v) w.heap.size o' v')))
  clear hd hcb hbv hv HB HB1 Hl HBl
  go_region_with (first | (go_at_call 33; refine (l1Least_any _ _ _).mono ?_; rintro e w8 ⟨m, rfl, rfl⟩) | (go_at_call 34; refine (pick_any _ 12 _ 9 (by omega) (by omega) _ (by omega) (HC.out _ (by first | exact HR.out | exact (HRS _ _ _ _).out))).mono ?_; rintro e w9 ⟨s, rfl, ⟨s0, s1⟩, hc9, hg9⟩; have xz := hg9.size; simp at xz; have xc0 := (grown_cell (g := w.heap.size) (o := 0) hg9 (by simp; omega) (by omega)).trans (by first | exact c0 | (simp [go_sem]; rfl)); have xc1 := (grown_cell (g := w.heap.size) (o := 1) hg9 (by simp; omega) (by omega)).trans (by first | exact c1 | (simp [go_sem]; rfl)); have xp0 := (grown_cell (g := w1.heap.size) (o := 0) hg9 (by simp; omega) (by omega)).trans (by first | exact p0 | (simp [go_sem]; rfl)); have xp1 := (grown_cell (g := w1.heap.size) (o := 1) hg9 (by simp; omega) (by omega)).trans (by first | exact p1 | (simp [go_sem]; rfl)); have xf0 := (grown_frozen (g := w.heap.size) (o := 0) hg9 (by simp; omega) (by omega)).trans (by first | exact f0 | (simp [go_sem, *]; done)); have xf1 := (grown_frozen (g := w.heap.size) (o := 1) hg9 (by simp; omega) (by omega)).trans (by first | exact f1 | (simp [go_sem, *]; done))))
  all_goals
    go_wp2
    refine bodyPost_ret (v := .tuple #[.int .i64 l, .agg #[.int .i64 x, .int .i64 y], .int .i64 (IntKind.i64.wrap (m + s))]) (by simp [results, Try.results5, go_sem, *]) rfl ⟨_, _, _, _, rfl, ?_⟩
    repeat (first | exact HB2.out | exact below_drewN HB2.out 1 | refine bl_set ?_ (Nat.le_refl _) _ | refine grown_below ?_ ?_ (by assumption) | omega)
end Go.Proofs.Ytgbefdkldgihdaa
