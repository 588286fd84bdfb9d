/- Slices of clues, and puzzles: as they came in, copied, held against each other. -/
import Derived.Test.YtahcfjpplkemdaaDoorR1
import Derived.OwnWalk
import Derived.Deep.Slices
import Derived.Deep.Strs
import Derived.Deep.RegionHeld3
import Derived.Lib.SmallJoins
namespace Go.Proofs.YtahcfjpplkemdaaDoor
open Go.RowKit
set_option linter.unusedVariables false
set_option linter.unusedSimpArgs false
/-- 'v' is a slice of n structs whose numbers, one behind the other, are f 0, f 1, .. -/
def PClu (w : World) (v : Value) (n : Nat) (f : Nat → Int) : Prop :=
  (n = 0 ∧ ∃ a c, v = .slice a 0 c) ∨ (0 < n ∧ ∃ b off cap, v = .slice (some ⟨b, off, none⟩) n cap ∧ n ≤ maxLen ∧ b < w.heap.size ∧ ∀ i, i < n * 3 → w.cell? ⟨b, off + i, none⟩ = some (.int .i64 (f i)))
theorem PClu.keep {w w' : World} {v : Value} {n : Nat} {f : Nat → Int} (h : PClu w v n f) (k : Below w.heap.size w w') : PClu w' v n f := by
  rcases h with h | ⟨h0, b, off, cap, hv, hn, hb, hc⟩
  · exact .inl h
  · exact .inr ⟨h0, b, off, cap, hv, hn, Nat.lt_of_lt_of_le hb k.size, fun i hi => by rw [(bcell k).1 _ _ hb]; exact hc i hi⟩
theorem PClu.drewN {w : World} {v : Value} {n : Nat} {f : Nat → Int} (h : PClu w v n f) (m : Nat) : PClu (w.drewN m) v n f := h
theorem PClu.some_ {w : World} {v : Value} {n : Nat} {f : Nat → Int} (h : PClu w v n f) (h0 : 0 < n) : ∃ b off cap, v = .slice (some ⟨b, off, none⟩) n cap ∧ b < w.heap.size ∧ ∀ i, i < n → w.cell? ⟨b, off + i * 3, none⟩ = some (.int .i64 (f (i * 3))) ∧ w.cell? ⟨b, off + i * 3 + 1, none⟩ = some (.int .i64 (f (i * 3 + 1))) ∧ w.cell? ⟨b, off + i * 3 + 2, none⟩ = some (.int .i64 (f (i * 3 + 2))) := by
  rcases h with ⟨h1, _⟩ | ⟨_, b, off, cap, hv, hn, hb, hc⟩
  · omega
  · exact ⟨b, off, cap, hv, hb, fun i hi => ⟨hc (i * 3) (by omega), hc (i * 3 + 1) (by omega), hc (i * 3 + 2) (by omega)⟩⟩
theorem PClu.zero {w : World} {v : Value} {f : Nat → Int} (h : PClu w v 0 f) : ∃ a c, v = .slice a 0 c := by
  rcases h with ⟨_, h1⟩ | ⟨h0, _⟩
  · exact h1
  · omega
theorem PClu.len_le {w : World} {v : Value} {n : Nat} {f : Nat → Int} (h : PClu w v n f) : n ≤ 9223372036854775807 := by
  rcases h with ⟨h1, _⟩ | ⟨_, b, off, cap, _, hn, _⟩
  · omega
  · unfold maxLen at hn; omega
theorem PClu.shape {w : World} {v : Value} {n : Nat} {f : Nat → Int} (h : PClu w v n f) : ∃ a c, v = .slice a n c := by
  rcases h with ⟨rfl, a, c, h1⟩ | ⟨_, b, off, cap, h1, _⟩
  · exact ⟨a, c, h1⟩
  · exact ⟨_, cap, h1⟩
/-- .. in a block of a call's own, from B on -/
def OClu (w : World) (B : Nat) (v : Value) (n : Nat) (f : Nat → Int) : Prop := w.ownsRow B 44 3 v n ((List.range (n * 3)).map fun i => Value.int .i64 (f i))
theorem OClu.keep {w w' : World} {B : Nat} {v : Value} {n : Nat} {f : Nat → Int} (h : OClu w B v n f) (k : Below w.heap.size w w') : OClu w' B v n f :=
  World.ownsRow.kept h (only_of_below k none) (by cases hv : v.ownBlock <;> simp)
theorem OClu.open_ {w : World} {B : Nat} {v : Value} {n : Nat} {f : Nat → Int} (h : OClu w B v n f) :
    (v = .slice none 0 0 ∧ n = 0) ∨ ∃ g cap, v = .slice (some ⟨g, 0, none⟩) n cap ∧ B ≤ g ∧ g < w.heap.size ∧ n ≤ cap ∧ cap ≤ maxLen ∧
      (∀ i, i < n * 3 → w.cell? ⟨g, i, none⟩ = some (.int .i64 (f i))) ∧ ∀ i, w.frozen? ⟨g, i, none⟩ = false := by
  have h' := h
  obtain ⟨_, ⟨rfl, hn⟩ | ⟨g, cap, cur, rfl, hB, hg, hn, hm, hs, ht⟩⟩ := h
  · exact .inl ⟨rfl, hn⟩
  · refine .inr ⟨g, cap, rfl, hB, (Array.getElem?_eq_some_iff.1 hg).1, hn, hm, fun i hi => ?_, fun i => World.ownsRow.frozenAt h' i⟩
    rw [World.ownsRow.cellAt h' i hi]
    simp [hi]
theorem OClu.toP {w : World} {B : Nat} {v : Value} {n : Nat} {f : Nat → Int} (h : OClu w B v n f) : PClu w v n f := by
  rcases h.open_ with ⟨rfl, rfl⟩ | ⟨g, cap, rfl, _, hg, hn, hm, hc, _⟩
  · exact .inl ⟨rfl, _, _, rfl⟩
  · by_cases h0 : 0 < n
    · exact .inr ⟨h0, g, 0, cap, rfl, by omega, hg, fun i hi => by rw [Nat.zero_add]; exact hc i hi⟩
    · obtain rfl : n = 0 := by omega
      exact .inl ⟨rfl, _, _, rfl⟩
theorem OClu.congr {w : World} {B : Nat} {v : Value} {n : Nat} {f g : Nat → Int} (h : OClu w B v n f) (e : ∀ i, i < n * 3 → f i = g i) : OClu w B v n g := by
  unfold OClu at *
  rwa [List.map_congr_left (fun i hi => by rw [e i (List.mem_range.1 hi)])] at h
theorem OClu.stored {w : World} {B g n cap : Nat} {f : Nat → Int} (h : OClu w B (.slice (some ⟨g, 0, none⟩) n cap) n f) (j : Nat) (x : Int) :
    OClu (w.setCell ⟨g, j, none⟩ (.int .i64 x)) B (.slice (some ⟨g, 0, none⟩) n cap) n (fun i => if i = j then x else f i) ∧ w.grownBy (w.setCell ⟨g, j, none⟩ (.int .i64 x)) (some g) := by
  obtain ⟨a, b⟩ := World.ownsRow.stored h j (.int .i64 x)
  refine ⟨?_, b⟩
  unfold OClu
  have e : ((List.range (n * 3)).map fun i => Value.int .i64 (f i)).set j (.int .i64 x) = (List.range (n * 3)).map fun i => Value.int .i64 (if i = j then x else f i) := by
    apply List.ext_getElem?
    intro i
    rw [List.getElem?_set]
    by_cases hi : j = i
    · subst hi
      by_cases hj : j < n * 3 <;> simp [hj]
    · by_cases hj : i < n * 3 <;> simp [hi, hj, Ne.symm hi]
  rw [← e]
  exact a
theorem OClu.nil (w : World) (C : Nat) (f : Nat → Int) : OClu w C (.slice none 0 0) 0 f := World.ownsRow_nil w C _ 3
set_option maxHeartbeats 400000 in
theorem eqClue_one (a0 a1 a2 : Int) (w : World) :
    Calls Tryd.prog 38 #[.agg #[.int .i64 a0, .int .i64 a1, .int .i64 a2], .agg #[.int .i64 a0, .int .i64 a1, .int .i64 a2]] w fun e w' => e = .returned (.bool true) ∧ Below w.heap.size w w' := by
  go_enter Tryd.func38, Tryd.ntmps38
  go_wp2
  go_ret
  exact ⟨rfl, (by repeat (first | exact Below.refl _ _ | refine bl_alloc ?_ _ | refine bl_drewN ?_ _ | refine bl_trans (by assumption) ?_ | refine bl_set ?_ (by first | omega | (simp; done) | (simp; omega)) _))⟩
theorem OCluEQ_after {u v w : World} {b1 b2 p10 p11 p12 p20 p21 p22 : Nat} {x10 x11 x12 x20 x21 x22 : Value} (hb : Below u.heap.size u v)
    (h : u.cell? ⟨b1, p10, none⟩ = some x10 ∧ u.cell? ⟨b1, p11, none⟩ = some x11 ∧ u.cell? ⟨b1, p12, none⟩ = some x12 ∧ u.cell? ⟨b2, p20, none⟩ = some x20 ∧ u.cell? ⟨b2, p21, none⟩ = some x21 ∧ u.cell? ⟨b2, p22, none⟩ = some x22 ∧ b1 < u.heap.size ∧ b2 < u.heap.size ∧ Below w.heap.size w u) :
    v.cell? ⟨b1, p10, none⟩ = some x10 ∧ v.cell? ⟨b1, p11, none⟩ = some x11 ∧ v.cell? ⟨b1, p12, none⟩ = some x12 ∧ v.cell? ⟨b2, p20, none⟩ = some x20 ∧ v.cell? ⟨b2, p21, none⟩ = some x21 ∧ v.cell? ⟨b2, p22, none⟩ = some x22 ∧ b1 < v.heap.size ∧ b2 < v.heap.size ∧ Below w.heap.size w v := by
  obtain ⟨g0, g1, g2, g3, g4, g5, h5, h6, h7⟩ := h
  refine ⟨?_, ?_, ?_, ?_, ?_, ?_, Nat.lt_of_lt_of_le h5 hb.size, Nat.lt_of_lt_of_le h6 hb.size, bl_trans hb h7⟩
  all_goals (first | rw [(bcell hb).1 _ _ h5] | rw [(bcell hb).1 _ _ h6]) <;> assumption
set_option maxHeartbeats 800000 in
theorem eqClueS_any (v u : Value) (n : Nat) (f : Nat → Int) (w : World) (h1 : PClu w v n f) (h2 : PClu w u n f) :
    Calls Tryd.prog 21 #[v, u] w fun e w' => e = .returned (.bool true) ∧ Below w.heap.size w w' := by
  have hl := h1.len_le
  by_cases h0 : 0 < n
  · have H1 := Lib.hid h1
    have H2 := Lib.hid h2
    obtain ⟨b1, o1, c1, hv1, _⟩ := h1.some_ h0
    obtain ⟨b2, o2, c2, hv2, _⟩ := h2.some_ h0
    clear h1 h2
    subst hv1
    subst hv2
    go_enter Tryd.func21, Tryd.ntmps21
    go_wp2
    go_loopw [5] (fun i wr => ∃ j : Nat, j ≤ n ∧ i = .int .i64 (j : Int) ∧ Below w.heap.size w wr) (fun i _ => n - (intOf i).toNat)
    case atStart => exact ⟨0, Nat.zero_le _, rfl, Below.refl _ _⟩
    case round =>
      obtain ⟨j, hj, rfl, hW⟩ := hrel
      by_cases hlt : j < n
      · obtain ⟨b1', o1', c1', hv1, hb1, g1⟩ := (H1.out.keep hW).some_ h0
        obtain ⟨b2', o2', c2', hv2, hb2, g2⟩ := (H2.out.keep hW).some_ h0
        simp only [Value.slice.injEq, Option.some.injEq, Addr.mk.injEq, and_true, true_and] at hv1 hv2
        obtain ⟨⟨rfl, rfl⟩, rfl⟩ := hv1
        obtain ⟨⟨rfl, rfl⟩, rfl⟩ := hv2
        obtain ⟨p0, p1, p2⟩ := g1 j hlt
        obtain ⟨q0, q1, q2⟩ := g2 j hlt
        have hS := (And.intro p0 (And.intro p1 (And.intro p2 (And.intro q0 (And.intro q1 (And.intro q2 (And.intro hb1 (And.intro hb2 hW))))))))
        have hlt' : (j : Int) < (n : Int) := by omega
        clear g1 g2 hW
        go_wp2_with fail
        go_region_held3 (fun w' => w'.cell? ⟨b1, o1 + j * 3, none⟩ = some (.int .i64 (f (j * 3))) ∧ w'.cell? ⟨b1, o1 + j * 3 + 1, none⟩ = some (.int .i64 (f (j * 3 + 1))) ∧ w'.cell? ⟨b1, o1 + j * 3 + 2, none⟩ = some (.int .i64 (f (j * 3 + 2))) ∧ w'.cell? ⟨b2, o2 + j * 3, none⟩ = some (.int .i64 (f (j * 3))) ∧ w'.cell? ⟨b2, o2 + j * 3 + 1, none⟩ = some (.int .i64 (f (j * 3 + 1))) ∧ w'.cell? ⟨b2, o2 + j * 3 + 2, none⟩ = some (.int .i64 (f (j * 3 + 2))) ∧ b1 < w'.heap.size ∧ b2 < w'.heap.size ∧ Below w.heap.size w w') (first | exact OCluEQ_after hb3 (by assumption) | exact OCluEQ_after (below_drewN (Below.refl _ _) _) (by assumption) | exact OCluEQ_after (Below.drew (Below.refl _ _)) (by assumption) | assumption) (first | (go_at_call 38; refine (eqClue_one _ _ _ _).mono ?_; rintro e w3 ⟨rfl, hb3⟩) | fail)
        go_wp2
        go_roundw
        case rel => rename_i hh; exact ⟨j + 1, by omega, by go_num, hh.2.2.2.2.2.2.2.2⟩
        case measure => simp only [intOf]; omega
      · obtain rfl : j = n := by omega
        go_wp2
        go_ret
        exact ⟨rfl, hW⟩
  · obtain rfl : n = 0 := by omega
    obtain ⟨a, c, rfl⟩ := h1.zero
    obtain ⟨a', c', rfl⟩ := h2.zero
    clear h1 h2
    go_enter Tryd.func21, Tryd.ntmps21
    go_wp2
    go_loopw [5] (fun i wr => i = .int .i64 0 ∧ wr = w) (fun i _ => 0)
    case atStart => exact ⟨rfl, rfl⟩
    case round =>
      obtain ⟨rfl, rfl⟩ := hrel
      go_wp2
      go_ret
      exact ⟨rfl, Below.refl _ _⟩
def OClumix (k : Int) (f : Nat → Int) (j : Nat) : Nat → Int := fun i => if i < j then k + (i : Int) else f i
set_option maxHeartbeats 800000 in
theorem markClueS_any (v : Value) (k : Int) (n : Nat) (f : Nat → Int) (B : Nat) (w : World) (h : OClu w B v n f) (k0 : 0 ≤ k) (k1 : k + n * 3 ≤ 4611686018427387904) :
    Calls Tryd.prog 26 #[v, .int .i64 k] w fun e w' => e = .returned (.int .i64 (k + (n : Int) * 3)) ∧ OClu w' B v n (fun i => k + (i : Int)) ∧ w.grownBy w' v.ownBlock ∧ w'.heap.size = w.heap.size := by
  have hl := h.toP.len_le
  rcases h.open_ with ⟨rfl, rfl⟩ | ⟨g, cap, rfl, hB, hg, hnc, hm, hc, hf⟩
  · have HH := Lib.hid h
    clear h
    go_enter Tryd.func26, Tryd.ntmps26
    go_wp2
    go_loopw [1, 5] (fun c i wr => c = .int .i64 k ∧ i = .int .i64 0 ∧ wr = w) (fun _ _ _ => 0)
    case atStart => exact ⟨rfl, rfl, rfl⟩
    case round =>
      obtain ⟨rfl, rfl, rfl⟩ := hrel
      go_wp2
      go_ret
      exact ⟨by simp, HH.out.congr (fun i hi => absurd hi (by omega)), ⟨rfl, rfl, rfl, Nat.le_refl _, fun _ _ _ => rfl⟩, rfl⟩
  · have HH := Lib.hid h
    clear h hc hf
    go_enter Tryd.func26, Tryd.ntmps26
    go_wp2
    go_loopw [1, 5] (fun c i wr => ∃ j : Nat, j ≤ n ∧ c = .int .i64 (k + (j : Int) * 3) ∧ i = .int .i64 j ∧ OClu wr B (.slice (some ⟨g, 0, none⟩) n cap) n (OClumix k f (j * 3)) ∧ w.grownBy wr (some g) ∧ wr.heap.size = w.heap.size) (fun _ i _ => n - (intOf i).toNat)
    case atStart => exact ⟨0, Nat.zero_le _, by simp, rfl, HH.out.congr (fun i _ => by simp [OClumix]), ⟨rfl, rfl, rfl, Nat.le_refl _, fun _ _ _ => rfl⟩, rfl⟩
    case round =>
      obtain ⟨j, hj, rfl, rfl, hO, hG, hS⟩ := hrel
      by_cases hlt : j < n
      · rcases hO.open_ with ⟨he, _⟩ | ⟨g', cap', he, _, hg', _, _, hcc, hff⟩
        · cases he
        simp only [Value.slice.injEq, Option.some.injEq, Addr.mk.injEq, and_true, true_and] at he
        obtain ⟨rfl, rfl⟩ := he
        have d0 := hcc (j * 3) (by omega)
        have f0 := hff (j * 3)
        have d1 := hcc (j * 3 + 1) (by omega)
        have f1 := hff (j * 3 + 1)
        have d2 := hcc (j * 3 + 2) (by omega)
        have f2 := hff (j * 3 + 2)
        have s0 := hO.stored (j * 3) (k + (j : Int) * 3)
        have s1 := s0.1.stored (j * 3 + 1) (k + (j : Int) * 3 + 1)
        have s2 := s1.1.stored (j * 3 + 2) (k + (j : Int) * 3 + 1 + 1)
        have S1 := Lib.hid s2.1
        have S2 := Lib.hid (grown_trans' hG (grown_trans' s0.2 (grown_trans' s1.2 s2.2)))
        have HS := Lib.hid hS
        have hlt' : (j : Int) < (n : Int) := by omega
        clear hcc hff hO hG hS s0 s1 s2
        go_wp2
        go_roundw
        case rel =>
          refine ⟨j + 1, by omega, by go_num, by go_num, S1.out.congr (fun i hi => ?_), S2.out, by simp [World.setCell, HS.out]⟩
          unfold OClumix
          by_cases e2 : i = j * 3 + 2
          · rw [if_pos e2, if_pos (show i < (j + 1) * 3 by omega), e2]; push_cast; omega
          · by_cases e1 : i = j * 3 + 1
            · rw [if_neg e2, if_pos e1, if_pos (show i < (j + 1) * 3 by omega), e1]; push_cast; omega
            · by_cases e0 : i = j * 3
              · rw [if_neg e2, if_neg e1, if_pos e0, if_pos (show i < (j + 1) * 3 by omega), e0]; push_cast; omega
              · by_cases e9 : i < j * 3
                · rw [if_neg e2, if_neg e1, if_neg e0, if_pos e9, if_pos (show i < (j + 1) * 3 by omega)]
                · rw [if_neg e2, if_neg e1, if_neg e0, if_neg e9, if_neg (show ¬ i < (j + 1) * 3 by omega)]
        case measure => simp only [intOf]; omega
      · obtain rfl : j = n := by omega
        have HO := Lib.hid hO
        have HG := Lib.hid hG
        have HS := Lib.hid hS
        clear hO hG hS
        go_wp2
        go_ret
        exact ⟨rfl, HO.out.congr (fun i hi => by simp [OClumix, hi]), HG.out, HS.out⟩
set_option maxHeartbeats 800000 in
theorem heldClueS_any (v : Value) (k : Int) (n : Nat) (w : World) (h : PClu w v n (fun i => k + (i : Int))) (k0 : 0 ≤ k) (k1 : k + n * 3 ≤ 4611686018427387904) :
    Calls Tryd.prog 27 #[v, .int .i64 k] w fun e w' => e = .returned (.int .i64 (k + (n : Int) * 3)) ∧ ∃ m, w' = w.drewN m := by
  have hl := h.len_le
  by_cases h0 : 0 < n
  · obtain ⟨b, off, cap, rfl, hb, hc⟩ := h.some_ h0
    have HC := Lib.hid hc
    clear h hc
    go_enter Tryd.func27, Tryd.ntmps27
    go_wp2
    go_loopw [1, 5] (fun c i wr => ∃ j m : Nat, j ≤ n ∧ c = .int .i64 (k + (j : Int) * 3) ∧ i = .int .i64 j ∧ wr = w.drewN m) (fun _ i _ => n - (intOf i).toNat)
    case atStart => exact ⟨0, 0, Nat.zero_le _, by simp, rfl, rfl⟩
    case round =>
      obtain ⟨j, m, hj, rfl, rfl, rfl⟩ := hrel
      by_cases hlt : j < n
      · obtain ⟨d0, d1, d2⟩ := HC.out j hlt
        have d0 : w.cell? ⟨b, off + j * 3, none⟩ = some (.int .i64 (k + (j : Int) * 3)) := by rw [d0]; push_cast; first | rfl | (congr 2; omega)
        have d1 : w.cell? ⟨b, off + j * 3 + 1, none⟩ = some (.int .i64 (k + (j : Int) * 3 + 1)) := by rw [d1]; push_cast; first | rfl | (congr 2; omega)
        have d2 : w.cell? ⟨b, off + j * 3 + 2, none⟩ = some (.int .i64 (k + (j : Int) * 3 + 1 + 1)) := by rw [d2]; push_cast; first | rfl | (congr 2; omega)
        have hlt' : (j : Int) < (n : Int) := by omega
        go_wp2
        go_roundw
        case rel => exact ⟨j + 1, m, by omega, by go_num, by go_num, rfl⟩
        case measure => simp only [intOf]; omega
      · obtain rfl : j = n := by omega
        go_wp2
        go_ret
        exact ⟨rfl, m, rfl⟩
  · obtain rfl : n = 0 := by omega
    obtain ⟨a, c, rfl⟩ := h.zero
    clear h
    go_enter Tryd.func27, Tryd.ntmps27
    go_wp2
    go_loopw [1, 5] (fun c i wr => c = .int .i64 k ∧ i = .int .i64 0 ∧ wr = w) (fun _ _ _ => 0)
    case atStart => exact ⟨rfl, rfl, rfl⟩
    case round =>
      obtain ⟨rfl, rfl, rfl⟩ := hrel
      go_wp2
      go_ret
      exact ⟨by simp, 0, rfl⟩
/-- a call's own slice of structs, told by all their numbers -/
def LClu (w : World) (C : Nat) (v : Value) (n : Nat) (xs : List Int) : Prop := xs.length = n * 3 ∧ OClu w C v n (fun i => xs.getD i 0)
theorem LClu.keep {w w' : World} {C n : Nat} {v : Value} {xs : List Int} (h : LClu w C v n xs) (k : Below w.heap.size w w') : LClu w' C v n xs := ⟨h.1, OClu.keep h.2 k⟩
theorem LClu.nil (w : World) (C : Nat) : LClu w C (.slice none 0 0) 0 [] := ⟨rfl, OClu.nil _ _ _⟩
theorem LClucells {n : Nat} {xs : List Int} (h : xs.length = n * 3) : (List.range (n * 3)).map (fun i => Value.int .i64 (xs.getD i 0)) = xs.map (Value.int .i64) := by
  apply List.ext_getElem?
  intro i
  by_cases hi : i < n * 3
  · simp [hi, h, List.getD]
  · simp [hi, h]
theorem LClu.owns {w : World} {C n : Nat} {v : Value} {xs : List Int} (h : LClu w C v n xs) : w.ownsRow C 44 3 v n (xs.map (Value.int .i64)) := by
  have := h.2
  unfold OClu at this
  rwa [LClucells h.1] at this
theorem LClu.push {W w1 : World} {C n : Nat} {v v' : Value} {xs : List Int} {x0 x1 x2 : Int} {o : Obj} (hC : C ≤ W.heap.size) (h : LClu W C v n xs)
    (hO : w1.ownsRow C 44 3 v' (n + 1) (xs.map (Value.int .i64) ++ [.int .i64 x0, .int .i64 x1, .int .i64 x2])) (hg : (W.alloc o).grownBy w1 v.ownBlock) : LClu w1 C v' (n + 1) (xs ++ [x0, x1, x2]) ∧ Below C W w1 := by
  have e : (xs ++ [x0, x1, x2]).length = (n + 1) * 3 := by rw [List.length_append, h.1]; simp; omega
  refine ⟨⟨e, ?_⟩, ((Below.refl C W).alloc hC o).grown hg (by simp; omega) fun g e => (World.ownsRow.lt h.2 g e).1⟩
  unfold OClu
  rw [LClucells e]
  simpa using hO

section
open Go.ChangeShapes Go.WideShapes Go.Deep
variable {H : Type} {enc : TypeId × Value → H} {w : World} {base : Nat} {spare : Nat → Bool} {held : Bool}
set_option maxRecDepth 100000 in
theorem open_clues {fuel : Nat} {v : Value} {y : DataW H × List MemPlace} (h : DataW.trod enc Tryd.prog w base spare held fuel 22 [v] = some y) : ∃ n f, PClu w v n f := by
  have ce : Tryd.prog.cellsOf 58 = 3 := by kernel_rfl
  rcases open_slice Tryd.underlying22 h with ⟨hc, _⟩ | ⟨a, len, cap, m, k, D, Pl, hc, _, hl, hm, hmm, _, hall⟩
  · simp only [List.cons.injEq, and_true] at hc
    exact ⟨0, fun _ => 0, .inl ⟨rfl, _, _, hc⟩⟩
  · simp only [List.cons.injEq, and_true] at hc
    subst hc
    have hlm : len ≤ m := by rw [hmm]; split <;> omega
    by_cases h0 : 0 < len
    · have each : ∀ i, i < m → ∃ x y z : Int, w.cell? (a.add (i * 3)) = some (.int .i64 x) ∧ w.cell? (a.add (i * 3 + 1)) = some (.int .i64 y) ∧ w.cell? (a.add (i * 3 + 2)) = some (.int .i64 z) := fun i hi => by
        obtain ⟨cs', h1, h2⟩ := hall i hi
        rw [ce] at h1
        obtain ⟨_, hlen, hcell⟩ := World.cells?_some h1
        obtain ⟨y0, y1, y2, n', _, _, t0, t1, t2⟩ := trod_struct3 Tryd.underlying58 h2
        match cs', hlen with
        | [v0, v1, v2], _ =>
          have g0 := DataW.trod_int Tryd.underlying3 (show DataW.trod enc Tryd.prog w base spare held n' 3 [v0] = some y0 from t0)
          have g1 := DataW.trod_int Tryd.underlying3 (show DataW.trod enc Tryd.prog w base spare held n' 3 [v1] = some y1 from t1)
          have g2 := DataW.trod_int Tryd.underlying3 (show DataW.trod enc Tryd.prog w base spare held n' 3 [v2] = some y2 from t2)
          obtain ⟨x, hx, _⟩ := g0
          obtain ⟨y, hy, _⟩ := g1
          obtain ⟨z, hz, _⟩ := g2
          simp at hx hy hz
          have e0 := hcell 0 (by omega)
          have e1 := hcell 1 (by omega)
          have e2 := hcell 2 (by omega)
          rw [add_add] at e0 e1 e2
          exact ⟨x, y, z, by simpa [hx] using e0, by simpa [hy] using e1, by simpa [hz] using e2⟩
      obtain ⟨_, _, _, e0, _⟩ := each 0 (by omega)
      obtain ⟨b, off, spot⟩ := a
      have hs : spot = none := by
        simp only [Addr.add, Nat.zero_mul] at e0
        simp only [World.cell?] at e0
        cases spot with
        | none => rfl
        | some x => exfalso; split at e0 <;> simp at e0
      subst hs
      have hb : b < w.heap.size := World.block_lt_of_cell? w _ (by simpa [Addr.add] using e0)
      have pick : ∀ i, i < m * 3 → ∃ x : Int, w.cell? ⟨b, off + i, none⟩ = some (.int .i64 x) := fun i hi => by
        obtain ⟨x, y, z, c0, c1, c2⟩ := each (i / 3) (by omega)
        rw [add_plain] at c0 c1 c2
        have : i % 3 = 0 ∨ i % 3 = 1 ∨ i % 3 = 2 := by omega
        rcases this with he | he | he
        · exact ⟨x, by rw [show i = i / 3 * 3 by omega]; exact c0⟩
        · exact ⟨y, by rw [show i = i / 3 * 3 + 1 by omega]; exact c1⟩
        · exact ⟨z, by rw [show i = i / 3 * 3 + 2 by omega]; exact c2⟩
      refine ⟨len, fun i => match w.cell? ⟨b, off + i, none⟩ with | some (.int .i64 x) => x | _ => 0, .inr ⟨h0, b, off, cap, rfl, by omega, hb, fun i hi => ?_⟩⟩
      obtain ⟨x, hx⟩ := pick i (by omega)
      simp [hx]
    · obtain rfl : len = 0 := by omega
      exact ⟨0, fun _ => 0, .inl ⟨rfl, _, _, rfl⟩⟩
end

theorem OClu.made {w : World} {B : Nat} {v : Value} {n : Nat} (h : w.ownsRow B 44 3 v n (madeCells (Value.agg #[.int .i64 0, .int .i64 0, .int .i64 0]).cells (n * 3)).toList) : OClu w B v n (fun _ => 0) := by
  unfold OClu
  have e : (madeCells (Value.agg #[.int .i64 0, .int .i64 0, .int .i64 0]).cells (n * 3)).toList = (List.range (n * 3)).map fun _ => Value.int .i64 0 := by
    apply List.ext_getElem?
    intro i
    by_cases hi : i < n * 3
    · have : i % 3 = 0 ∨ i % 3 = 1 ∨ i % 3 = 2 := by omega
      rcases this with e | e | e <;> simp [madeCells, hi, Value.cells, e]
    · simp [madeCells, hi]
  rw [← e]
  exact h
theorem infoClu : (Tryd.prog.info? 44).map (fun i => (i.zero, i.size, i.bytes)) = some (some (.agg #[.int .i64 0, .int .i64 0, .int .i64 0]), 3, 24) := by kernel_rfl

set_option maxHeartbeats 400000 in
theorem toClue_any (a b c : Int) (w : World) :
    Calls Tryd.prog 31 #[.agg #[.int .i64 a, .int .i64 b, .int .i64 c]] w fun e w' => e = .returned (.agg #[.int .i64 a, .int .i64 b, .int .i64 c]) ∧ Below w.heap.size w w' := by
  go_enter Tryd.func31, Tryd.ntmps31
  go_wp2
  exact bodyPost_ret (v := .agg #[.int .i64 a, .int .i64 b, .int .i64 c]) (by simp [results, Tryd.results31, go_sem]) rfl ⟨rfl, (by repeat (first | exact Below.refl _ _ | refine bl_alloc ?_ _ | refine bl_drewN ?_ _ | refine bl_trans (by assumption) ?_ | refine bl_set ?_ (by first | omega | (simp; done) | (simp; omega)) _))⟩
set_option maxHeartbeats 400000 in
theorem szClueS_any (v : Value) (n : Nat) (f : Nat → Int) (w : World) (h : PClu w v n f) :
    Calls Tryd.prog 14 #[v, .int .i64 1048576] w fun e w' => e = .returned (.int .i64 (if n ≤ 1048576 then 1048576 - (n : Int) else -1)) ∧ w = w' := by
  have hl := h.len_le
  obtain ⟨a, c, rfl⟩ := h.shape
  by_cases hn : n ≤ 1048576
  · go_enter Tryd.func14, Tryd.ntmps14
    go_wp2
    go_ret
    exact ⟨rfl, rfl⟩
  · go_enter Tryd.func14, Tryd.ntmps14
    go_wp2
    go_ret
    exact ⟨rfl, rfl⟩
set_option maxHeartbeats 800000 in
theorem toClueS_any (v : Value) (n : Nat) (f : Nat → Int) (w : World) (h : PClu w v n f) (hn : n ≤ 1048576) :
    Calls Tryd.prog 17 #[v] w fun e w' => ∃ u, e = .returned u ∧ OClu w' w.heap.size u n f ∧ Below w.heap.size w w' := by
  obtain ⟨i0, hi, hz0, hz1, hz2⟩ := info_parts infoClu
  have hsh := h.shape
  obtain ⟨a, c, hv⟩ := hsh
  obtain ⟨B, hB⟩ : ∃ B, w.heap.size = B := ⟨_, rfl⟩
  have HH := Lib.hid h
  clear h
  subst hv
  rw [hB]
  go_enter Tryd.func17, Tryd.ntmps17
  go_wp2_with (at_make; refine wpList_make_full _ rfl _ _ 28 rfl w.heap.size 44 i0 _ 3 Tryd.underlying28 hi hz0 hz1 .i64 .i64 _ _ n rfl rfl rfl rfl (by rw [hz2]; omega) (by unfold maxLen; omega) (Nat.le_refl _) ?_; intro w1 hown hgrow; have hO := Lib.hid (OClu.made hown); clear hown; have hG := Lib.hid hgrow; clear hgrow)
  have hW : Below B w w1 := by
    exact ⟨hG.out.os, hG.out.tape, hG.out.output, hG.out.size, fun i hi => hG.out.block i (by omega) (by simp)⟩
  (try rw [hB] at hO)
  (try rw [hB])
  have hHB : B ≤ w.heap.size := by omega
  go_loopw [4] (fun i wr => ∃ j : Nat, j ≤ n ∧ i = .int .i64 (j : Int) ∧ OClu wr B (.slice (some ⟨B, 0, none⟩) n n) n (fun i => if i < j * 3 then f i else 0) ∧ Below B w wr) (fun i _ => n - (intOf i).toNat)
  case atStart => exact ⟨0, Nat.zero_le _, rfl, hO.out.congr (fun i _ => by simp), hW⟩
  case round =>
    obtain ⟨j, hj, rfl, hR, hW'⟩ := hrel
    by_cases hlt : j < n
    · have hP : PClu wr (.slice a n c) n f := HH.out.keep (by rw [hB]; exact hW')
      obtain ⟨b, off, cap, hv, hb, hc⟩ := hP.some_ (by omega)
      obtain ⟨c1, c2, c3⟩ := hc j hlt
      have HR := Lib.hid hR
      have HW := Lib.hid hW'
      simp only [Value.slice.injEq, true_and] at hv
      obtain ⟨rfl, rfl⟩ := hv
      have hlt' : (j : Int) < (n : Int) := by omega
      clear hR hW' hc hP
      go_wp2_with fail
      refine (toClue_any _ _ _ _).mono ?_
      rintro e w2 ⟨rfl, hb2⟩
      have HR2 := Lib.hid (HR.out.keep hb2)
      have HW2 := Lib.hid (HW.out.trans (hb2.mono (Nat.le_trans hHB HW.out.size)))
      rcases HR2.out.open_ with ⟨he, _⟩ | ⟨g, cap, he, hBg, hg, _, _, hcc, hff⟩
      · cases he
      simp only [Value.slice.injEq, Option.some.injEq, Addr.mk.injEq, and_true, true_and] at he
      obtain ⟨rfl, rfl⟩ := he
      have d1 := hcc (j * 3) (by omega)
      have d2 := hcc (j * 3 + 1) (by omega)
      have d3 := hcc (j * 3 + 2) (by omega)
      have f1 := hff (j * 3)
      have f2 := hff (j * 3 + 1)
      have f3 := hff (j * 3 + 2)
      clear hcc hff
      go_wp2
      have s1 := HR2.out.stored (j * 3) (f (j * 3))
      have s2 := s1.1.stored (j * 3 + 1) (f (j * 3 + 1))
      have s3 := s2.1.stored (j * 3 + 2) (f (j * 3 + 2))
      refine ⟨⟨j + 1, by omega, by go_num, s3.1.congr (fun i hi => ?_), ((HW2.out.setCell (p := ⟨B, j * 3, none⟩) (Nat.le_refl _) _).setCell (p := ⟨B, j * 3 + 1, none⟩) (Nat.le_refl _) _).setCell (p := ⟨B, j * 3 + 2, none⟩) (Nat.le_refl _) _⟩, by simp only [intOf]; omega⟩
      by_cases e1 : i = j * 3 + 2
      · rw [if_pos e1, if_pos (show i < (j + 1) * 3 by omega), e1]
      · by_cases e2 : i = j * 3 + 1
        · rw [if_neg e1, if_pos e2, if_pos (show i < (j + 1) * 3 by omega), e2]
        · by_cases e3 : i = j * 3
          · rw [if_neg e1, if_neg e2, if_pos e3, if_pos (show i < (j + 1) * 3 by omega), e3]
          · by_cases e4 : i < j * 3
            · rw [if_neg e1, if_neg e2, if_neg e3, if_pos e4, if_pos (show i < (j + 1) * 3 by omega)]
            · rw [if_neg e1, if_neg e2, if_neg e3, if_neg e4, if_neg (show ¬ i < (j + 1) * 3 by omega)]
    · obtain rfl : j = n := by omega
      have HR := Lib.hid (hR.congr (g := f) (fun i hi => by simp [hi]))
      have HW := Lib.hid hW'
      clear hR hW'
      go_wp2
      go_ret
      exact ⟨_, rfl, HR.out, HW.out⟩
end Go.Proofs.YtahcfjpplkemdaaDoor
