/- The place behind some steps; CornerOf: by the program and by the model alike. -/
import Derived.Test.YtnhjiipkekblfaaB7
import Derived.Deep.RegionLaw
import Derived.Deep.RegionWith
namespace Go.Proofs.Ytnhjiipkekblfaa
open Go.RowKit Beam Go.Deep
set_option linter.unusedVariables false
set_option linter.unusedSimpArgs false
theorem frozen_after {u v : World} (hb : Below u.heap.size u v) {n o : Nat} (hn : n < u.heap.size) (hu : u.frozen? ⟨n, o, none⟩ = false) : v.frozen? ⟨n, o, none⟩ = false := by
  rw [(bcell hb).2 _ _ hn]; exact hu
theorem stepsMade_t (g cap n : Nat) (s : Int) (h1 : 1 ≤ n) (h2 : n ≤ 1000000) (h3 : 0 ≤ s) (h4 : s ≤ 1000000) (w : World) :
    Calls Try.prog 78 #[.agg #[.slice (some ⟨g, 0, none⟩) n cap, .bool true], .int .i64 s] w fun e w' => e = .returned (.int .i64 (min s (n - 1 : Int))) ∧ Below w.heap.size w w' :=
  (stepsMade_any g cap n true s h1 h2 h3 h4 w).mono fun _ _ ⟨he, hb⟩ => ⟨he.trans (by rw [if_pos rfl]), hb⟩
/-- the beam behind s steps as a value -/
def bAt (t : BWay) (s : Nat) : Value := .agg #[.int .i64 (t.x (t.made s) : Nat), .int .i64 (t.y (t.made s) : Nat), .bool (t.kr (t.made s)), .bool (t.ku (t.made s))]
theorem kr_go {t : BWay} {k : Nat} (h : t.cor k = false) : t.kr k = t.r k ∧ t.ku k = t.u k := by
  unfold BWay.kr BWay.ku
  rw [if_neg (by simp [h]), if_neg (by simp [h])]
  exact ⟨rfl, rfl⟩
/-- the number of the beam that the program takes -/
def idx (t : BWay) (s : Nat) : Nat := if t.e then t.made s else s % t.M
theorem idx_lt {t : BWay} (h : t.ok) (s : Nat) : idx t s < wlen t := by
  have h1 := (t.M_spec h).1
  cases he : t.e
  · simp only [idx, wlen, he]; exact Nat.mod_lt _ (by omega)
  · have : t.made s ≤ t.M := by unfold BWay.made; rw [if_pos he]; exact Nat.min_le_right _ _
    simp [idx, wlen, he]; omega
theorem idx_val {t : BWay} (h : t.ok) (s : Nat) : t.x (idx t s) = t.x (t.made s) ∧ t.y (idx t s) = t.y (t.made s) ∧ t.kr (idx t s) = t.kr (t.made s) ∧ t.ku (idx t s) = t.ku (t.made s) := by
  cases he : t.e
  · obtain ⟨a, b, c, d⟩ := BWay.mod_M h he s
    have e1 : idx t s = s % t.M := by simp [idx, he]
    rw [e1, made_long' he]
    obtain ⟨q1, q2⟩ := kr_go (BWay.no_cor h he (s % t.M))
    obtain ⟨q3, q4⟩ := kr_go (BWay.no_cor h he s)
    rw [q1, q2, q3, q4]
    exact ⟨a, b, c, d⟩
  · have e1 : idx t s = t.made s := by simp [idx, he]
    rw [e1]
    exact ⟨rfl, rfl, rfl, rfl⟩
theorem row_at {w : World} {C g cap : Nat} {t : BWay} (h : t.ok) (hR : BRow w C (.slice (some ⟨g, 0, none⟩) (wlen t) cap) (wlen t) t) (s : Nat) :
    w.cell? ⟨g, idx t s * 4, none⟩ = some (.int .i64 (t.x (t.made s) : Nat)) ∧ w.cell? ⟨g, idx t s * 4 + 1, none⟩ = some (.int .i64 (t.y (t.made s) : Nat)) ∧ w.cell? ⟨g, idx t s * 4 + 2, none⟩ = some (.bool (t.kr (t.made s))) ∧ w.cell? ⟨g, idx t s * 4 + 3, none⟩ = some (.bool (t.ku (t.made s))) := by
  obtain ⟨g', cap', e, _, hg, _, _, hc⟩ := hR.open_ (wlen_pos h).1
  simp only [Value.slice.injEq, Option.some.injEq, Addr.mk.injEq, and_true, true_and] at e
  obtain ⟨rfl, rfl⟩ := e
  obtain ⟨c0, c1, c2, c3⟩ := hc (idx t s) (idx_lt h s)
  obtain ⟨q1, q2, q3, q4⟩ := idx_val h s
  simp only [bm, List.getElem?_cons_zero, List.getElem?_cons_succ, q1, q2, q3, q4] at c0 c1 c2 c3
  exact ⟨c0, c1, c2, c3⟩
set_option maxRecDepth 100000 in
set_option maxHeartbeats 2000000 in
theorem behind_any (t : BWay) (h : t.ok) (g cap C : Nat) (s : Nat) (hs : s ≤ 1000000) (w : World) (hR : BRow w C (.slice (some ⟨g, 0, none⟩) (wlen t) cap) (wlen t) t) :
    Calls Try.prog 77 #[.agg #[.slice (some ⟨g, 0, none⟩) (wlen t) cap, .bool t.e], .int .i64 (s : Nat)] w fun e w' => e = .returned (bAt t s) ∧ Below w.heap.size w w' := by
  obtain ⟨d0, d1, d2, d3⟩ := row_at h hR s
  have hix := idx_lt h s
  obtain ⟨g', cap', e, _, hg, _, _, _⟩ := hR.open_ (wlen_pos h).1
  simp only [Value.slice.injEq, Option.some.injEq, Addr.mk.injEq, and_true, true_and] at e
  obtain ⟨rfl, rfl⟩ := e
  have hn := wlen_pos h
  have HV := Lib.hid (show bAt t s = .agg #[.int .i64 (t.x (t.made s) : Nat), .int .i64 (t.y (t.made s) : Nat), .bool (t.kr (t.made s)), .bool (t.ku (t.made s))] from rfl)
  have hI : (idx t s : Int) = if t.e then min (s : Int) ((wlen t : Int) - 1) else (s : Int) % (wlen t : Int) := by
    cases he : t.e
    · simp [idx, wlen, he]
    · simp [idx, wlen, he, BWay.made]; omega
  clear hR h
  rw [HV.out]
  generalize (t.x (t.made s) : Nat) = vx at *
  generalize (t.y (t.made s) : Nat) = vy at *
  generalize t.kr (t.made s) = vr_ at *
  generalize t.ku (t.made s) = vu at *
  generalize wlen t = n at *
  generalize idx t s = m at *
  generalize t.e = e0 at *
  clear HV
  obtain ⟨hn1, hn2⟩ := hn
  cases e0
  · simp only [Bool.false_eq_true, if_false] at hI
    have HI := Lib.hid hI
    have ix0 : (0 : Int) ≤ (s : Int) % (n : Int) := by rw [← hI]; omega
    have ix1 : (s : Int) % (n : Int) < (n : Int) := by rw [← hI]; omega
    have ix2 : ((s : Int) % (n : Int)).toNat = m := by rw [← hI]; simp
    have hn0 : ((n : Int) == 0) = false := by simp; omega
    have hnn : (0 : Int) < (n : Int) := by omega
    clear hI
    go_enter Try.func77, Try.ntmps77
    go_wp2_with fail
    have q0 : ((w.alloc (.cells #[.slice (some ⟨g, 0, none⟩) n cap, .bool false] 72)).alloc (.cells #[.int .i64 0, .int .i64 0, .bool false, .bool false] 31)).cell? ⟨g, m * 4, none⟩ = some (.int .i64 (vx : Nat)) := by
      rw [cell_after ((Below.refl _ _).alloc (Nat.le_refl _) _) (show g < (w.alloc _).heap.size by simp; omega) (cell_after ((Below.refl w.heap.size w).alloc (Nat.le_refl _) _) hg d0)]
    have q1 : ((w.alloc (.cells #[.slice (some ⟨g, 0, none⟩) n cap, .bool false] 72)).alloc (.cells #[.int .i64 0, .int .i64 0, .bool false, .bool false] 31)).cell? ⟨g, m * 4 + 1, none⟩ = some (.int .i64 (vy : Nat)) := by
      rw [cell_after ((Below.refl _ _).alloc (Nat.le_refl _) _) (show g < (w.alloc _).heap.size by simp; omega) (cell_after ((Below.refl w.heap.size w).alloc (Nat.le_refl _) _) hg d1)]
    have q2 : ((w.alloc (.cells #[.slice (some ⟨g, 0, none⟩) n cap, .bool false] 72)).alloc (.cells #[.int .i64 0, .int .i64 0, .bool false, .bool false] 31)).cell? ⟨g, m * 4 + 2, none⟩ = some (.bool vr_) := by
      rw [cell_after ((Below.refl _ _).alloc (Nat.le_refl _) _) (show g < (w.alloc _).heap.size by simp; omega) (cell_after ((Below.refl w.heap.size w).alloc (Nat.le_refl _) _) hg d2)]
    have q3 : ((w.alloc (.cells #[.slice (some ⟨g, 0, none⟩) n cap, .bool false] 72)).alloc (.cells #[.int .i64 0, .int .i64 0, .bool false, .bool false] 31)).cell? ⟨g, m * 4 + 3, none⟩ = some (.bool vu) := by
      rw [cell_after ((Below.refl _ _).alloc (Nat.le_refl _) _) (show g < (w.alloc _).heap.size by simp; omega) (cell_after ((Below.refl w.heap.size w).alloc (Nat.le_refl _) _) hg d3)]
    go_region
    go_wp2
    refine bodyPost_ret (v := .agg #[.int .i64 (vx : Nat), .int .i64 (vy : Nat), .bool vr_, .bool vu]) (by simp [results, Try.results77, go_sem, *]) rfl ⟨rfl, ?_⟩
    repeat (first | exact Below.refl _ _ | refine bl_alloc ?_ _ | refine Below.drew ?_ | refine bl_drewN ?_ _ | refine bl_set ?_ (by first | omega | (simp; done) | (simp; omega)) _)
  · simp only [if_true] at hI
    have HM := Lib.hid hI.symm
    have ix0 : (0 : Int) ≤ (m : Int) := by omega
    have ix1 : (m : Int) < (n : Int) := by omega
    have ix2 : (m : Int).toNat = m := by omega
    clear hI
    go_enter Try.func77, Try.ntmps77
    go_wp2_with fail
    have hBz : Below w.heap.size w ((w.alloc (.cells #[.slice (some ⟨g, 0, none⟩) n cap, .bool true] 72)).alloc (.cells #[.int .i64 0, .int .i64 0, .bool false, .bool false] 31)) := (Below.refl w.heap.size w).alloc (Nat.le_refl _) _ |>.alloc (by simp) _
    have a0 : ((w.alloc (.cells #[.slice (some ⟨g, 0, none⟩) n cap, .bool true] 72)).alloc (.cells #[.int .i64 0, .int .i64 0, .bool false, .bool false] 31)).cell? ⟨w.heap.size, 0, none⟩ = some (.slice (some ⟨g, 0, none⟩) n cap) := by simp [go_sem]
    have a1 : ((w.alloc (.cells #[.slice (some ⟨g, 0, none⟩) n cap, .bool true] 72)).alloc (.cells #[.int .i64 0, .int .i64 0, .bool false, .bool false] 31)).cell? ⟨w.heap.size, 1, none⟩ = some (.bool true) := by simp [go_sem]
    have r0 : ((w.alloc (.cells #[.slice (some ⟨g, 0, none⟩) n cap, .bool true] 72)).alloc (.cells #[.int .i64 0, .int .i64 0, .bool false, .bool false] 31)).cell? ⟨w.heap.size + 1, 0, none⟩ = some (.int .i64 0) := by simp [go_sem]
    have r1 : ((w.alloc (.cells #[.slice (some ⟨g, 0, none⟩) n cap, .bool true] 72)).alloc (.cells #[.int .i64 0, .int .i64 0, .bool false, .bool false] 31)).cell? ⟨w.heap.size + 1, 1, none⟩ = some (.int .i64 0) := by simp [go_sem]
    have r2 : ((w.alloc (.cells #[.slice (some ⟨g, 0, none⟩) n cap, .bool true] 72)).alloc (.cells #[.int .i64 0, .int .i64 0, .bool false, .bool false] 31)).cell? ⟨w.heap.size + 1, 2, none⟩ = some (.bool false) := by simp [go_sem]
    have r3 : ((w.alloc (.cells #[.slice (some ⟨g, 0, none⟩) n cap, .bool true] 72)).alloc (.cells #[.int .i64 0, .int .i64 0, .bool false, .bool false] 31)).cell? ⟨w.heap.size + 1, 3, none⟩ = some (.bool false) := by simp [go_sem]
    have f0 : ((w.alloc (.cells #[.slice (some ⟨g, 0, none⟩) n cap, .bool true] 72)).alloc (.cells #[.int .i64 0, .int .i64 0, .bool false, .bool false] 31)).frozen? ⟨w.heap.size + 1, 0, none⟩ = false := by simp [go_sem]
    have f1 : ((w.alloc (.cells #[.slice (some ⟨g, 0, none⟩) n cap, .bool true] 72)).alloc (.cells #[.int .i64 0, .int .i64 0, .bool false, .bool false] 31)).frozen? ⟨w.heap.size + 1, 1, none⟩ = false := by simp [go_sem]
    have f2 : ((w.alloc (.cells #[.slice (some ⟨g, 0, none⟩) n cap, .bool true] 72)).alloc (.cells #[.int .i64 0, .int .i64 0, .bool false, .bool false] 31)).frozen? ⟨w.heap.size + 1, 2, none⟩ = false := by simp [go_sem]
    have f3 : ((w.alloc (.cells #[.slice (some ⟨g, 0, none⟩) n cap, .bool true] 72)).alloc (.cells #[.int .i64 0, .int .i64 0, .bool false, .bool false] 31)).frozen? ⟨w.heap.size + 1, 3, none⟩ = false := by simp [go_sem]
    have d0 := (hBz.cell (p := ⟨g, m * 4, none⟩) hg).trans d0
    have d1 := (hBz.cell (p := ⟨g, m * 4 + 1, none⟩) hg).trans d1
    have d2 := (hBz.cell (p := ⟨g, m * 4 + 2, none⟩) hg).trans d2
    have d3 := (hBz.cell (p := ⟨g, m * 4 + 3, none⟩) hg).trans d3
    have l0 : w.heap.size < ((w.alloc (.cells #[.slice (some ⟨g, 0, none⟩) n cap, .bool true] 72)).alloc (.cells #[.int .i64 0, .int .i64 0, .bool false, .bool false] 31)).heap.size := by simp; omega
    have l1 : w.heap.size + 1 < ((w.alloc (.cells #[.slice (some ⟨g, 0, none⟩) n cap, .bool true] 72)).alloc (.cells #[.int .i64 0, .int .i64 0, .bool false, .bool false] 31)).heap.size := by simp
    have lg : g < ((w.alloc (.cells #[.slice (some ⟨g, 0, none⟩) n cap, .bool true] 72)).alloc (.cells #[.int .i64 0, .int .i64 0, .bool false, .bool false] 31)).heap.size := Nat.lt_of_lt_of_le hg hBz.size
    have HB := Lib.hid hBz
    clear hBz
    generalize ((w.alloc (.cells #[.slice (some ⟨g, 0, none⟩) n cap, .bool true] 72)).alloc (.cells #[.int .i64 0, .int .i64 0, .bool false, .bool false] 31)) = wz at *
    go_region_with (go_at_call 78; refine (stepsMade_t _ _ _ _ (by omega) (by omega) (by omega) (by omega) _).mono ?_; rintro e w9 ⟨rfl, hb9⟩; obtain ⟨hc9, hf9⟩ := bcell hb9; have xd0 := cell_after hb9 lg d0; have xd1 := cell_after hb9 lg d1; have xd2 := cell_after hb9 lg d2; have xd3 := cell_after hb9 lg d3; have xr0 := cell_after hb9 l1 r0; have xr1 := cell_after hb9 l1 r1; have xr2 := cell_after hb9 l1 r2; have xr3 := cell_after hb9 l1 r3; have xf0 := frozen_after hb9 l1 f0; have xf1 := frozen_after hb9 l1 f1; have xf2 := frozen_after hb9 l1 f2; have xf3 := frozen_after hb9 l1 f3; have xa0 := cell_after hb9 l0 a0; have xa1 := cell_after hb9 l0 a1; clear hc9 hf9; rw [HM.out])
    all_goals
      go_wp2
      refine bodyPost_ret (v := .agg #[.int .i64 (vx : Nat), .int .i64 (vy : Nat), .bool vr_, .bool vu]) (by simp [results, Try.results77, go_sem, *]) rfl ⟨rfl, ?_⟩
      repeat (first | exact HB.out | refine bl_alloc ?_ _ | refine Below.drew ?_ | refine bl_drewN ?_ _ | refine bl_trans (by assumption) ?_ | refine bl_set ?_ (by first | omega | (simp; done) | (simp; omega)) _)
end Go.Proofs.Ytnhjiipkekblfaa
