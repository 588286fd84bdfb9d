/- Clues without one of them; puzzles made anew. -/
import Derived.Test.YtgghceckpdfogaaPZ7
namespace Go.Proofs.Ytgghceckpdfogaa
open Go.RowKit
set_option linter.unusedVariables false
set_option linter.unusedSimpArgs false
set_option maxHeartbeats 400000 in
theorem firstClues_any (a : Option Addr) (n c k : Nat) (w : World) (hk : k ≤ n) (hc : n ≤ c) :
    Calls Try.prog 85 #[.slice a n c, .int .i64 k] w fun e w' => e = .returned (.slice a k k) ∧ w = w' := by
  cases a with
  | none =>
    go_enter Try.func85, Try.ntmps85
    go_wp2
    go_ret
    exact ⟨rfl, rfl⟩
  | some p =>
    go_enter Try.func85, Try.ntmps85
    go_wp2
    go_ret
    exact ⟨rfl, rfl⟩
set_option maxHeartbeats 400000 in
theorem countFit_any (wd : Int) (v : Value) (n : Nat) (f : Nat → Int) (w : World) (hp : PClu w v n f) (hk : okCs n f = true) (h1 : 1 ≤ wd) (h2 : wd ≤ 12) :
    Calls Try.prog 79 #[.int .i64 wd, v] w fun e w' => e = .returned (.int .i64 (cnt n f wd)) ∧ Below w.heap.size w w' := by
  obtain ⟨a, c, rfl⟩ := hp.shape
  have HH := Lib.hid hp
  have HK := Lib.hid hk
  have hN := cnt_le n f wd
  clear hp hk
  go_enter Try.func79, Try.ntmps79
  go_wp2_with fail
  refine (allThatFit_any wd _ n f _ HH.out HK.out h1 h2).mono ?_
  rintro e w2 ⟨u, rfl, hR, hb2⟩
  obtain ⟨a1, c1, rfl⟩ := hR.shape
  clear hR
  go_wp2
  go_ret
  exact ⟨rfl, (by repeat (first | exact Below.refl _ _ | refine bl_alloc ?_ _ | refine bl_drewN ?_ _ | refine bl_trans (by assumption) ?_ | refine bl_set ?_ (by first | omega | (simp; done) | (simp; omega)) _))⟩
set_option maxRecDepth 10000 in
set_option maxHeartbeats 800000 in
theorem cluesWithout_any (v : Value) (n k : Nat) (f : Nat → Int) (w : World) (hp : PClu w v n f) (hcap : Caps v) (hk : k < n) (hn : n ≤ 1000) :
    Calls Try.prog 80 #[v, .int .i64 k] w fun e w' => ∃ u, e = .returned u ∧ PClu w' u (n - 1) (dropF f k) ∧ Caps u ∧ Below w.heap.size w w' := by
  obtain ⟨b, off, c, rfl, hb, _⟩ := hp.some_ (by omega)
  have hc : n ≤ c := hcap _ _ _ rfl
  have H1 := Lib.hid (show PClu w.drew (.slice (some ⟨b, off, none⟩) k k) k f from PClu.first hp (by omega) k)
  obtain ⟨K, hK⟩ : ∃ K, K = k + 1 := ⟨_, rfl⟩
  have hw1 : IntKind.i64.wrap ((k : Int) + 1) = (K : Int) := by rw [hK, IntWalk.i64_in _ (by omega)]; simp
  have g0 : (0 : Int) ≤ (K : Int) := by omega
  have g1 : (K : Int) ≤ (n : Int) := by omega
  have g2 : K ≤ n := by omega
  have g3 : k + (n - K) = n - 1 := by omega
  have HE := Lib.hid (fun (w2 : World) (v' : Value) (h : PClu w2 v' (k + (n - K)) (catF f k (fromF f K))) => (show PClu w2 v' (n - 1) (dropF f k) from by
    rw [g3] at h
    rw [hK] at h
    exact h.congr fun i _ => cat_drop f k i))
  have hk1000 : k + (n - K) ≤ 1000000 := by omega
  have hkc : k ≤ n := by omega
  by_cases hck : c = K
  · obtain rfl : n = K := by omega
    subst hck
    have H2 := Lib.hid (show PClu w.drew (.slice (some ⟨b, off, none⟩) 0 0) 0 (fromF f c) from .inl ⟨rfl, _, _, rfl⟩)
    have HE2 := Lib.hid (fun (w2 : World) (v' : Value) (h : PClu w2 v' (k + 0) (catF f k (fromF f c))) => HE.out w2 v' (by rw [Nat.sub_self]; exact h))
    clear hp hcap hb g3 hk HE
    have HK := Lib.hid hK
    clear hK
    go_enter Try.func80, Try.ntmps80
    go_wp2_with fail
    go_region_law (first | (go_simp; go_at_call 85; refine (firstClues_any _ _ _ _ _ (by omega) (by omega)).mono ?_; rintro e w3 ⟨rfl, rfl⟩) | (refine step_app_full rfl (.tmp 7) (.tmp 11) rfl (some ⟨b, off, none⟩) k f rfl H1.out (.slice (some ⟨b, off, none⟩) 0 0) 0 (fromF f c) rfl H2.out (by omega) ?_; intro v' w2 hq1 hq2 hq3 hq4 hq5; clear hq4 hq5))
    all_goals
      go_wp2
      go_ret
      exact ⟨_, rfl, HE2.out _ _ hq1, hq2, bl_trans hq3 (Below.drew (Below.refl _ _))⟩
  · have H2 := Lib.hid (show PClu w.drew (.slice (some ⟨b, off + K * 3, none⟩) (n - K) (c - K)) (n - K) (fromF f K) from hp.from_ g2 _ _ (by omega))
    clear hp hcap hb g3 hk
    have HK := Lib.hid hK
    clear hK
    go_enter Try.func80, Try.ntmps80
    go_wp2_with fail
    go_region_law (first | (go_simp; go_at_call 85; refine (firstClues_any _ _ _ _ _ (by omega) (by omega)).mono ?_; rintro e w3 ⟨rfl, rfl⟩) | (refine step_app_full rfl (.tmp 7) (.tmp 11) rfl (some ⟨b, off, none⟩) k f rfl H1.out (.slice (some ⟨b, off + K * 3, none⟩) (n - K) (c - K)) (n - K) (fromF f K) (by simp [Act.eval, Act.put]) H2.out (by omega) ?_; intro v' w2 hq1 hq2 hq3 hq4 hq5; clear hq4 hq5))
    all_goals
      go_wp2
      go_ret
      exact ⟨_, rfl, HE.out _ _ hq1, hq2, bl_trans hq3 (Below.drew (Below.refl _ _))⟩
theorem build_puz (wd : Int) (a : Option Addr) (n c : Nat) (W : World) : (Instr.build 35 #[(0, .int .i64 wd), (1, .slice a n c)]).run Try.prog W = .ok (.agg #[.int .i64 wd, .slice a n c]) W := run_build W _ _ _ (by kernel_rfl)
set_option maxHeartbeats 800000 in
theorem newPuzzle_any (wd : Int) (v : Value) (n : Nat) (f : Nat → Int) (w : World) (hp : PClu w v n f) (hn : n ≤ 1000) :
    Calls Try.prog 83 #[.int .i64 wd, v] w fun e w' => ∃ u, e = .returned (.agg #[.int .i64 wd, u]) ∧ OClu w' w.heap.size u n f ∧ Below w.heap.size w w' := by
  have HH := Lib.hid (show PClu (w.alloc (.cells #[.int .i64 0, .slice none 0 0] 35)) v n f from hp.keep (by repeat (first | exact Below.refl _ _ | refine bl_alloc ?_ _ | refine bl_drewN ?_ _ | refine bl_trans (by assumption) ?_ | refine bl_set ?_ (by first | omega | (simp; done) | (simp; omega)) _)))
  have HN := Lib.hid (OClu.nil (w.alloc (.cells #[.int .i64 0, .slice none 0 0] 35)) (w.heap.size + 1) (fun _ => 0))
  clear hp
  go_enter Try.func83, Try.ntmps83
  go_wp2_with (at_builtin; refine wpList_app_own rfl _ _ rfl (w.heap.size + 1) (.slice none 0 0) 0 (fun _ => 0) rfl HN.out v n f rfl HH.out (by simp) (by omega) ?_; intro v' w2 hq1 hq2; have hb2 : Below (w.heap.size + 1) (w.alloc (.cells #[.int .i64 0, .slice none 0 0] 35)) w2 := (Below.refl _ _).grown hq2 (by simp) (fun g e => (by simp [Value.ownBlock] at e)); have k0 : w2.cell? ⟨w.heap.size, 0, none⟩ = some (.int .i64 0) := (by rw [hb2.cell (p := ⟨w.heap.size, 0, none⟩) (by simp)]; simp [go_sem]); have k1 : w2.cell? ⟨w.heap.size, 1, none⟩ = some (.slice none 0 0) := (by rw [hb2.cell (p := ⟨w.heap.size, 1, none⟩) (by simp)]; simp [go_sem]); have f0 : w2.frozen? ⟨w.heap.size, 0, none⟩ = false := (by rw [hb2.frozen (p := ⟨w.heap.size, 0, none⟩) (by simp)]; simp [go_sem]); have f1 : w2.frozen? ⟨w.heap.size, 1, none⟩ = false := (by rw [hb2.frozen (p := ⟨w.heap.size, 1, none⟩) (by simp)]; simp [go_sem]); have B2 := Lib.hid (show Below w.heap.size w w2 from (bl_alloc (Below.refl _ _) _).trans (hb2.mono (by omega))); rw [Nat.zero_add] at hq1; have hO := (hq1.congr (g := f) (fun i hi => by simp [catF])); obtain ⟨a1, c1, rfl⟩ := hO.toP.shape; have O2 := Lib.hid hO; clear hq1 hq2 hO hb2; have hbu := build_puz wd a1 n c1)
  exact bodyPost_ret (v := .agg #[.int .i64 wd, .slice a1 n c1]) (by simp [results, Try.results83, go_sem, k0, k1, f0, f1]) rfl ⟨.slice a1 n c1, rfl, (((O2.out.low (by simp) _).low (by simp) _).lower (by omega)), (by repeat (first | refine bl_set ?_ (by first | omega | (simp; done) | (simp; omega)) _ | exact B2.out))⟩
set_option maxRecDepth 10000 in
set_option maxHeartbeats 800000 in
theorem pzWithout_any (v : Value) (n k : Nat) (f : Nat → Int) (w : World) (hp : PClu w v n f) (hcap : Caps v) (hk : k < n) (hn : n ≤ 1000) :
    Calls Try.prog 78 #[v, .int .i64 k] w fun e w' => ∃ u, e = .returned u ∧ OClu w' w.heap.size u (n - 1) (dropF f k) ∧ Below w.heap.size w w' := by
  obtain ⟨b, off, c, rfl, hb, _⟩ := hp.some_ (by omega)
  have hc : n ≤ c := hcap _ _ _ rfl
  have hw0 : (k : Int) ≤ (c : Int) := by omega
  have g01 : (0 : Int) ≤ (k : Int) := by omega
  obtain ⟨K, hK⟩ : ∃ K, K = k + 1 := ⟨_, rfl⟩
  have hw1 : IntKind.i64.wrap ((k : Int) + 1) = (K : Int) := by rw [hK, IntWalk.i64_in _ (by omega)]; simp
  have g0 : (0 : Int) ≤ (K : Int) := by omega
  have g1 : (K : Int) ≤ (n : Int) := by omega
  have g2 : K ≤ n := by omega
  have g3 : k + (n - K) = n - 1 := by omega
  have hkc : k ≤ 1000 := by omega
  have HE := Lib.hid (show OClu (w.alloc (.cells #[] 25)).drew w.heap.size (.slice (some ⟨w.heap.size, 0, none⟩) 0 0) 0 (fun _ => 0) from ⟨rfl, .inr ⟨w.heap.size, 0, #[], rfl, Nat.le_refl _, heap_alloc_new w _, Nat.le_refl _, by unfold maxLen; omega, rfl, rfl⟩⟩)
  have H1 := Lib.hid (show PClu (w.alloc (.cells #[] 25)).drew (.slice (some ⟨b, off, none⟩) k c) k f from (hp.first (by omega) c).keep ((Below.refl _ w).alloc (Nat.le_refl _) _).drew)
  have HF := Lib.hid (fun (w2 : World) (v' : Value) (h : OClu w2 w.heap.size v' (0 + k + (n - K)) (catF (catF (fun _ => 0) 0 f) (0 + k) (fromF f K))) => (show OClu w2 w.heap.size v' (n - 1) (dropF f k) from by
    have g5 : 0 + k + (n - K) = n - 1 := by omega
    rw [g5, hK] at h
    refine h.congr fun i _ => ?_
    rw [← cat_drop f k i]
    simp only [catF, Nat.zero_mul, Nat.zero_add, Nat.not_lt_zero, if_false, Nat.sub_zero]))
  by_cases hck : c = K
  · obtain rfl : n = K := by omega
    subst hck
    have H2 := Lib.hid (fun (w1 : World) (_ : Below w.heap.size w w1) => (show PClu w1 (.slice (some ⟨b, off, none⟩) 0 0) (c - c) (fromF f c) from .inl ⟨by omega, _, _, rfl⟩))
    clear hp hcap hb g3 hk
    have HK := Lib.hid hK
    clear hK
    go_enter Try.func78, Try.ntmps78
    go_wp2_with fail
    go_region_law (first | (refine step_app_own rfl (.tmp 5) (.tmp 8) rfl w.heap.size (.slice (some ⟨w.heap.size, 0, none⟩) 0 0) 0 (fun _ => 0) rfl HE.out (.slice (some ⟨b, off, none⟩) k c) k f rfl H1.out (by simp) (by omega) ?_; intro v1 w1 hq1 hq2; have hb1 : Below w.heap.size w w1 := ((Below.refl _ w).alloc (Nat.le_refl _) _).drew.grown hq2 (by simp) (fun g e => by simp [Value.ownBlock] at e; omega); have O1 := Lib.hid hq1; have B1 := Lib.hid hb1; have P2 := Lib.hid (H2.out w1 hb1); have hz1 := hb1.size; clear hq1 hq2 hb1) | (refine step_app_own rfl (.tmp 9) (.tmp 13) rfl w.heap.size v1 (0 + k) (catF (fun _ => 0) 0 f) rfl O1.out (.slice (some ⟨b, off, none⟩) 0 0) (c - c) (fromF f c) rfl P2.out hz1 (by omega) ?_; intro v2 w2 hq3 hq4; have hb2 := B1.out.grown hq4 hz1 (fun g e => (World.ownsRow.lt O1.out g e).1); have O2 := Lib.hid hq3; have B2 := Lib.hid hb2; clear hq3 hq4 hb2))
    go_wp2
    go_ret
    exact ⟨_, rfl, HF.out _ _ O2.out, B2.out⟩
  · have H2 := Lib.hid (fun (w1 : World) (h : Below w.heap.size w w1) => (show PClu w1 (.slice (some ⟨b, off + K * 3, none⟩) (n - K) (c - K)) (n - K) (fromF f K) from (hp.from_ g2 _ _ (by omega)).keep h))
    clear hp hcap hb g3 hk
    have HK := Lib.hid hK
    clear hK
    go_enter Try.func78, Try.ntmps78
    go_wp2_with fail
    go_region_law (first | (refine step_app_own rfl (.tmp 5) (.tmp 8) rfl w.heap.size (.slice (some ⟨w.heap.size, 0, none⟩) 0 0) 0 (fun _ => 0) rfl HE.out (.slice (some ⟨b, off, none⟩) k c) k f rfl H1.out (by simp) (by omega) ?_; intro v1 w1 hq1 hq2; have hb1 : Below w.heap.size w w1 := ((Below.refl _ w).alloc (Nat.le_refl _) _).drew.grown hq2 (by simp) (fun g e => by simp [Value.ownBlock] at e; omega); have O1 := Lib.hid hq1; have B1 := Lib.hid hb1; have P2 := Lib.hid (H2.out w1 hb1); have hz1 := hb1.size; clear hq1 hq2 hb1) | (refine step_app_own rfl (.tmp 9) (.tmp 13) rfl w.heap.size v1 (0 + k) (catF (fun _ => 0) 0 f) rfl O1.out (.slice (some ⟨b, off + K * 3, none⟩) (n - K) (c - K)) (n - K) (fromF f K) rfl P2.out hz1 (by omega) ?_; intro v2 w2 hq3 hq4; have hb2 := B1.out.grown hq4 hz1 (fun g e => (World.ownsRow.lt O1.out g e).1); have O2 := Lib.hid hq3; have B2 := Lib.hid hb2; clear hq3 hq4 hb2))
    go_wp2
    go_ret
    exact ⟨_, rfl, HF.out _ _ O2.out, B2.out⟩
end Go.Proofs.Ytgghceckpdfogaa
