/- Clues without one of them; puzzles made anew. -/
import Derived.Test.YtahcfjpplkemdaaPZ7
namespace Go.Proofs.Ytahcfjpplkemdaa
open Go.RowKit
set_option linter.unusedVariables false
set_option linter.unusedSimpArgs false
set_option maxHeartbeats 400000 in
theorem firstClues_any (a : Option Addr) (n c k : Nat) (w : World) (hk : k ≤ n) (hc : n ≤ c) :
    Calls Try.prog 49 #[.slice a n c, .int .i64 k] w fun e w' => e = .returned (.slice a k k) ∧ w = w' := by
  cases a with
  | none =>
    go_enter Try.func49, Try.ntmps49
    go_wp2
    go_ret
    exact ⟨rfl, rfl⟩
  | some p =>
    go_enter Try.func49, Try.ntmps49
    go_wp2
    go_ret
    exact ⟨rfl, rfl⟩
theorem build_puz (wd : Int) (a : Option Addr) (n c : Nat) (W : World) : (Instr.build 53 #[(0, .int .i64 wd), (1, .slice a n c)]).run Try.prog W = .ok (.agg #[.int .i64 wd, .slice a n c]) W := run_build W _ _ _ (by kernel_rfl)
set_option maxHeartbeats 800000 in
theorem newPuzzle_any (wd : Int) (v : Value) (n : Nat) (f : Nat → Int) (w : World) (hp : PClu w v n f) (hn : n ≤ 1000) :
    Calls Try.prog 48 #[.int .i64 wd, v] w fun e w' => ∃ u, e = .returned (.agg #[.int .i64 wd, u]) ∧ OClu w' w.heap.size u n f ∧ Below w.heap.size w w' := by
  have HH := Lib.hid (show PClu (w.alloc (.cells #[.int .i64 0, .slice none 0 0] 53)) v n f from hp.keep (by repeat (first | exact Below.refl _ _ | refine bl_alloc ?_ _ | refine bl_drewN ?_ _ | refine bl_trans (by assumption) ?_ | refine bl_set ?_ (by first | omega | (simp; done) | (simp; omega)) _)))
  have HN := Lib.hid (OClu.nil (w.alloc (.cells #[.int .i64 0, .slice none 0 0] 53)) (w.heap.size + 1) (fun _ => 0))
  clear hp
  go_enter Try.func48, Try.ntmps48
  go_wp2_with (at_builtin; refine wpList_app_own rfl _ _ rfl (w.heap.size + 1) (.slice none 0 0) 0 (fun _ => 0) rfl HN.out v n f rfl HH.out (by simp) (by omega) ?_; intro v' w2 hq1 hq2; have hb2 : Below (w.heap.size + 1) (w.alloc (.cells #[.int .i64 0, .slice none 0 0] 53)) w2 := (Below.refl _ _).grown hq2 (by simp) (fun g e => (by simp [Value.ownBlock] at e)); have k0 : w2.cell? ⟨w.heap.size, 0, none⟩ = some (.int .i64 0) := (by rw [hb2.cell (p := ⟨w.heap.size, 0, none⟩) (by simp)]; simp [go_sem]); have k1 : w2.cell? ⟨w.heap.size, 1, none⟩ = some (.slice none 0 0) := (by rw [hb2.cell (p := ⟨w.heap.size, 1, none⟩) (by simp)]; simp [go_sem]); have f0 : w2.frozen? ⟨w.heap.size, 0, none⟩ = false := (by rw [hb2.frozen (p := ⟨w.heap.size, 0, none⟩) (by simp)]; simp [go_sem]); have f1 : w2.frozen? ⟨w.heap.size, 1, none⟩ = false := (by rw [hb2.frozen (p := ⟨w.heap.size, 1, none⟩) (by simp)]; simp [go_sem]); have B2 := Lib.hid (show Below w.heap.size w w2 from (bl_alloc (Below.refl _ _) _).trans (hb2.mono (by omega))); rw [Nat.zero_add] at hq1; have hO := (hq1.congr (g := f) (fun i hi => by simp [catF])); obtain ⟨a1, c1, rfl⟩ := hO.toP.shape; have O2 := Lib.hid hO; clear hq1 hq2 hO hb2; have hbu := build_puz wd a1 n c1)
  exact bodyPost_ret (v := .agg #[.int .i64 wd, .slice a1 n c1]) (by simp [results, Try.results48, go_sem, k0, k1, f0, f1]) rfl ⟨.slice a1 n c1, rfl, (((O2.out.low (by simp) _).low (by simp) _).lower (by omega)), (by repeat (first | refine bl_set ?_ (by first | omega | (simp; done) | (simp; omega)) _ | exact B2.out))⟩
end Go.Proofs.Ytahcfjpplkemdaa
