/- What is drawn for chapter 2. -/
import Derived.Test.YtfnamahdofigaaaDR1
namespace Go.Proofs.Ytfnamahdofigaaa
open Go.RowKit
set_option linter.unusedVariables false
set_option linter.unusedSimpArgs false
theorem results_tmp4 {fn : Func} {t u v x : Tmp} (h : fn.results = #[.tmp t, .tmp u, .tmp v, .tmp x]) (tmps : Array Value) (P : Program) (w : World) :
    (results fn tmps).run P w = .ok (.tuple #[tmps.getD t undef, tmps.getD u undef, tmps.getD v undef, tmps.getD x undef]) w := by
  simp [results, h]
theorem Cur.start {w : World} {a : Option Addr} {n c : Nat} (h : Bytes w w.heap.size (.slice a n c)) (t : TypeId) : Cur (w.alloc (.cells #[.slice a n c, .int .i64 0, .int .u64 0] t)) w.heap.size (.slice a n c) 0 ∧ Below w.heap.size w (w.alloc (.cells #[.slice a n c, .int .i64 0, .int .u64 0] t)) := by
  have hB := bl_alloc (Below.refl w.heap.size w) (.cells #[.slice a n c, .int .i64 0, .int .u64 0] t)
  exact ⟨⟨by simp, bytes_grown h (fun g o hg => (bcell hB).1 g o hg), by simp, ⟨0, by omega, by omega, by simp⟩, ⟨0, by simp⟩, by simp [go_sem], by simp [go_sem]⟩, hB⟩
theorem Below.drawn {w u v : World} (h : Below w.heap.size w u) (hs : w.heap.size ≤ u.heap.size) (g : u.grownBy v (some w.heap.size)) : Below w.heap.size w v :=
  h.grown g hs fun k e => by injection e with e; omega
set_option maxHeartbeats 1000000 in
theorem lamp_any (b k : Nat) (cv : Value) (w : World) (hk : k ≤ 800000) (h : Cur w b cv k) :
    Calls Try.prog 25 #[.pointer (some ⟨b, 0, none⟩)] w fun e w' => ∃ r : Int, e = .returned (.int .i64 r) ∧ Cur w' b cv (k + 4) ∧ w.grownBy w' (some b) := by
  have HN := fun W h => Lib.hid (one_any b k cv 14 (by omega) (by omega) W (by omega) h)
  have H0 := Lib.hid h
  clear h
  go_enter Try.func25, Try.ntmps25
  go_wp2_with fail
  refine ((HN _ H0.out).out).mono ?_
  rintro e w1 ⟨r, rfl, hc1, hg1⟩
  cases r
  · have H1 := Lib.hid hc1
    have G1 := Lib.hid hg1
    clear hc1 hg1
    go_wp2_with fail
    refine (pick_any b (k + 2) cv 9 (by omega) (by omega) _ (by omega) H1.out).mono ?_
    rintro e w2 ⟨q, rfl, ⟨q0, q1⟩, hc2, hg2⟩
    have H2 := Lib.hid hc2
    have G2 := Lib.hid (grown_trans G1.out hg2)
    clear hc2 hg2
    go_wp2
    go_ret
    exact ⟨_, rfl, H2.out, G2.out⟩
  · obtain ⟨hc2, hg2⟩ := hc1.alloc (.cells #[.int .i64 0, .int .i64 1, .int .i64 (-1), .int .i64 200, .int .i64 201, .int .i64 4611686018427387904] 3)
    have H1 := Lib.hid hc2
    have G1 := Lib.hid (grown_trans hg1 hg2)
    have hb := hc1.1
    clear hc1 hg1 hc2 hg2
    go_wp2_with fail
    refine (among_any b (k + 2) w1.heap.size cv 6 (fun i => [0, 1, -1, 200, 201, 4611686018427387904].getD i 0) (by omega) (by omega) _ (by omega) H1.out (by simp) (by omega) (fun i hi => by
      rcases (show i = 0 ∨ i = 1 ∨ i = 2 ∨ i = 3 ∨ i = 4 ∨ i = 5 by omega) with rfl | rfl | rfl | rfl | rfl | rfl <;> simp)).mono ?_
    rintro e w2 ⟨q, rfl, hc2, hg2⟩
    have H2 := Lib.hid hc2
    have G2 := Lib.hid (grown_trans G1.out hg2)
    clear hc2 hg2
    go_wp2
    go_ret
    exact ⟨_, rfl, H2.out, G2.out⟩
set_option maxHeartbeats 1000000 in
theorem shadow_any (b k : Nat) (cv : Value) (w : World) (hk : k ≤ 800000) (h : Cur w b cv k) :
    Calls Try.prog 39 #[.pointer (some ⟨b, 0, none⟩)] w fun e w' => ∃ r : Int, e = .returned (.int .i64 r) ∧ Cur w' b cv (k + 4) ∧ w.grownBy w' (some b) := by
  have HN := fun W h => Lib.hid (one_any b k cv 12 (by omega) (by omega) W (by omega) h)
  have H0 := Lib.hid h
  clear h
  go_enter Try.func39, Try.ntmps39
  go_wp2_with fail
  refine ((HN _ H0.out).out).mono ?_
  rintro e w1 ⟨r, rfl, hc1, hg1⟩
  cases r
  · have H1 := Lib.hid hc1
    have G1 := Lib.hid hg1
    clear hc1 hg1
    go_wp2_with fail
    refine (pick_any b (k + 2) cv 12 (by omega) (by omega) _ (by omega) H1.out).mono ?_
    rintro e w2 ⟨q, rfl, ⟨q0, q1⟩, hc2, hg2⟩
    have H2 := Lib.hid hc2
    have G2 := Lib.hid (grown_trans G1.out hg2)
    clear hc2 hg2
    go_wp2
    go_ret
    exact ⟨_, rfl, H2.out, G2.out⟩
  · obtain ⟨hc2, hg2⟩ := hc1.alloc (.cells #[.int .i64 0, .int .i64 (-1), .int .i64 500, .int .i64 501, .int .i64 4611686018427387904] 3)
    have H1 := Lib.hid hc2
    have G1 := Lib.hid (grown_trans hg1 hg2)
    have hb := hc1.1
    clear hc1 hg1 hc2 hg2
    go_wp2_with fail
    refine (among_any b (k + 2) w1.heap.size cv 5 (fun i => [0, -1, 500, 501, 4611686018427387904].getD i 0) (by omega) (by omega) _ (by omega) H1.out (by simp) (by omega) (fun i hi => by
      rcases (show i = 0 ∨ i = 1 ∨ i = 2 ∨ i = 3 ∨ i = 4 by omega) with rfl | rfl | rfl | rfl | rfl <;> simp)).mono ?_
    rintro e w2 ⟨q, rfl, hc2, hg2⟩
    have H2 := Lib.hid hc2
    have G2 := Lib.hid (grown_trans G1.out hg2)
    clear hc2 hg2
    go_wp2
    go_ret
    exact ⟨_, rfl, H2.out, G2.out⟩
end Go.Proofs.Ytfnamahdofigaaa
