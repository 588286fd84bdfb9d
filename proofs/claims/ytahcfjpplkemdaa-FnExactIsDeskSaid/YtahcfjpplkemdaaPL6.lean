/- Own slices of poles that are numbered. -/
import Derived.Test.YtahcfjpplkemdaaPL1
import Derived.OwnWalk
namespace Go.Proofs.Ytahcfjpplkemdaa
open Go.RowKit
set_option linter.unusedVariables false
set_option linter.unusedSimpArgs false
def ORowmix (k : Int) (f : Nat → Int) (j : Nat) : Nat → Int := fun i => if i < j then k + (i : Int) else f i
set_option maxHeartbeats 800000 in
theorem markPoleS_any (v : Value) (k : Int) (n : Nat) (f : Nat → Int) (B : Nat) (w : World) (h : ORow w B v n f) (k0 : 0 ≤ k) (k1 : k + n * 2 ≤ 4611686018427387904) :
    Calls Try.prog 31 #[v, .int .i64 k] w fun e w' => e = .returned (.int .i64 (k + (n : Int) * 2)) ∧ ORow w' B v n (fun i => k + (i : Int)) ∧ w.grownBy w' v.ownBlock ∧ w'.heap.size = w.heap.size := by
  have hl := h.toP.len_le
  rcases h.open_ with ⟨rfl, rfl⟩ | ⟨g, cap, rfl, hB, hg, hnc, hm, hc, hf⟩
  · have HH := Lib.hid h
    clear h
    go_enter Try.func31, Try.ntmps31
    go_wp2
    go_loopw [1, 5] (fun c i wr => c = .int .i64 k ∧ i = .int .i64 0 ∧ wr = w) (fun _ _ _ => 0)
    case atStart => exact ⟨rfl, rfl, rfl⟩
    case round =>
      obtain ⟨rfl, rfl, rfl⟩ := hrel
      go_wp2
      go_ret
      exact ⟨by simp, HH.out.congr (fun i hi => absurd hi (by omega)), ⟨rfl, rfl, rfl, Nat.le_refl _, fun _ _ _ => rfl⟩, rfl⟩
  · have HH := Lib.hid h
    clear h hc hf
    go_enter Try.func31, Try.ntmps31
    go_wp2
    go_loopw [1, 5] (fun c i wr => ∃ j : Nat, j ≤ n ∧ c = .int .i64 (k + (j : Int) * 2) ∧ i = .int .i64 j ∧ ORow wr B (.slice (some ⟨g, 0, none⟩) n cap) n (ORowmix k f (j * 2)) ∧ w.grownBy wr (some g) ∧ wr.heap.size = w.heap.size) (fun _ i _ => n - (intOf i).toNat)
    case atStart => exact ⟨0, Nat.zero_le _, by simp, rfl, HH.out.congr (fun i _ => by simp [ORowmix]), ⟨rfl, rfl, rfl, Nat.le_refl _, fun _ _ _ => rfl⟩, rfl⟩
    case round =>
      obtain ⟨j, hj, rfl, rfl, hO, hG, hS⟩ := hrel
      by_cases hlt : j < n
      · rcases hO.open_ with ⟨he, _⟩ | ⟨g', cap', he, _, hg', _, _, hcc, hff⟩
        · cases he
        simp only [Value.slice.injEq, Option.some.injEq, Addr.mk.injEq, and_true, true_and] at he
        obtain ⟨rfl, rfl⟩ := he
        have d0 := hcc (j * 2) (by omega)
        have f0 := hff (j * 2)
        have d1 := hcc (j * 2 + 1) (by omega)
        have f1 := hff (j * 2 + 1)
        have s0 := hO.stored (j * 2) (k + (j : Int) * 2)
        have s1 := s0.1.stored (j * 2 + 1) (k + (j : Int) * 2 + 1)
        have S1 := Lib.hid s1.1
        have S2 := Lib.hid (grown_trans' hG (grown_trans' s0.2 s1.2))
        have HS := Lib.hid hS
        have hlt' : (j : Int) < (n : Int) := by omega
        clear hcc hff hO hG hS s0 s1
        go_wp2
        go_roundw
        case rel =>
          refine ⟨j + 1, by omega, by go_num, by go_num, S1.out.congr (fun i hi => ?_), S2.out, by simp [World.setCell, HS.out]⟩
          unfold ORowmix
          by_cases e1 : i = j * 2 + 1
          · rw [if_pos e1, if_pos (show i < (j + 1) * 2 by omega), e1]; push_cast; omega
          · by_cases e0 : i = j * 2
            · rw [if_neg e1, if_pos e0, if_pos (show i < (j + 1) * 2 by omega), e0]; push_cast; omega
            · by_cases e9 : i < j * 2
              · rw [if_neg e1, if_neg e0, if_pos e9, if_pos (show i < (j + 1) * 2 by omega)]
              · rw [if_neg e1, if_neg e0, if_neg e9, if_neg (show ¬ i < (j + 1) * 2 by omega)]
        case measure => simp only [intOf]; omega
      · obtain rfl : j = n := by omega
        have HO := Lib.hid hO
        have HG := Lib.hid hG
        have HS := Lib.hid hS
        clear hO hG hS
        go_wp2
        go_ret
        exact ⟨rfl, HO.out.congr (fun i hi => by simp [ORowmix, hi]), HG.out, HS.out⟩
set_option maxHeartbeats 800000 in
theorem heldPoleS_any (v : Value) (k : Int) (n : Nat) (w : World) (h : PRow w v n (fun i => k + (i : Int))) (k0 : 0 ≤ k) (k1 : k + n * 2 ≤ 4611686018427387904) :
    Calls Try.prog 32 #[v, .int .i64 k] w fun e w' => e = .returned (.int .i64 (k + (n : Int) * 2)) ∧ ∃ m, w' = w.drewN m := by
  have hl := h.len_le
  by_cases h0 : 0 < n
  · obtain ⟨b, off, cap, rfl, hb, hc⟩ := h.some_ h0
    have HC := Lib.hid hc
    clear h hc
    go_enter Try.func32, Try.ntmps32
    go_wp2
    go_loopw [1, 5] (fun c i wr => ∃ j m : Nat, j ≤ n ∧ c = .int .i64 (k + (j : Int) * 2) ∧ i = .int .i64 j ∧ wr = w.drewN m) (fun _ i _ => n - (intOf i).toNat)
    case atStart => exact ⟨0, 0, Nat.zero_le _, by simp, rfl, rfl⟩
    case round =>
      obtain ⟨j, m, hj, rfl, rfl, rfl⟩ := hrel
      by_cases hlt : j < n
      · obtain ⟨d0, d1⟩ := HC.out j hlt
        have d0 : w.cell? ⟨b, off + j * 2, none⟩ = some (.int .i64 (k + (j : Int) * 2)) := by rw [d0]; push_cast; first | rfl | (congr 2; omega)
        have d1 : w.cell? ⟨b, off + j * 2 + 1, none⟩ = some (.int .i64 (k + (j : Int) * 2 + 1)) := by rw [d1]; push_cast; first | rfl | (congr 2; omega)
        have hlt' : (j : Int) < (n : Int) := by omega
        go_wp2
        go_roundw
        case rel => exact ⟨j + 1, m, by omega, by go_num, by go_num, rfl⟩
        case measure => simp only [intOf]; omega
      · obtain rfl : j = n := by omega
        go_wp2
        go_ret
        exact ⟨rfl, m, rfl⟩
  · obtain rfl : n = 0 := by omega
    obtain ⟨a, c, rfl⟩ := h.zero
    clear h
    go_enter Try.func32, Try.ntmps32
    go_wp2
    go_loopw [1, 5] (fun c i wr => c = .int .i64 k ∧ i = .int .i64 0 ∧ wr = w) (fun _ _ _ => 0)
    case atStart => exact ⟨rfl, rfl, rfl⟩
    case round =>
      obtain ⟨rfl, rfl, rfl⟩ := hrel
      go_wp2
      go_ret
      exact ⟨by simp, 0, rfl⟩
end Go.Proofs.Ytahcfjpplkemdaa
