/- Slices of ladders that a call made. -/
import Derived.Test.YtgghceckpdfogaaR1
import Derived.OwnWalk
import Derived.Deep.RegionHeld3
namespace Go.Proofs.Ytgghceckpdfogaa
open Go.RowKit
set_option linter.unusedVariables false
set_option linter.unusedSimpArgs false
/-- 'v' is a slice of n structs whose numbers, one behind the other, are f 0, f 1, .. -/
def PLad (w : World) (v : Value) (n : Nat) (f : Nat → Int) : Prop :=
  (n = 0 ∧ ∃ a c, v = .slice a 0 c) ∨ (0 < n ∧ ∃ b off cap, v = .slice (some ⟨b, off, none⟩) n cap ∧ n ≤ maxLen ∧ b < w.heap.size ∧ ∀ i, i < n * 3 → w.cell? ⟨b, off + i, none⟩ = some (.int .i64 (f i)))
theorem PLad.keep {w w' : World} {v : Value} {n : Nat} {f : Nat → Int} (h : PLad w v n f) (k : Below w.heap.size w w') : PLad w' v n f := by
  rcases h with h | ⟨h0, b, off, cap, hv, hn, hb, hc⟩
  · exact .inl h
  · exact .inr ⟨h0, b, off, cap, hv, hn, Nat.lt_of_lt_of_le hb k.size, fun i hi => by rw [(bcell k).1 _ _ hb]; exact hc i hi⟩
theorem PLad.drewN {w : World} {v : Value} {n : Nat} {f : Nat → Int} (h : PLad w v n f) (m : Nat) : PLad (w.drewN m) v n f := h
theorem PLad.some_ {w : World} {v : Value} {n : Nat} {f : Nat → Int} (h : PLad w v n f) (h0 : 0 < n) : ∃ b off cap, v = .slice (some ⟨b, off, none⟩) n cap ∧ b < w.heap.size ∧ ∀ i, i < n → w.cell? ⟨b, off + i * 3, none⟩ = some (.int .i64 (f (i * 3))) ∧ w.cell? ⟨b, off + i * 3 + 1, none⟩ = some (.int .i64 (f (i * 3 + 1))) ∧ w.cell? ⟨b, off + i * 3 + 2, none⟩ = some (.int .i64 (f (i * 3 + 2))) := by
  rcases h with ⟨h1, _⟩ | ⟨_, b, off, cap, hv, hn, hb, hc⟩
  · omega
  · exact ⟨b, off, cap, hv, hb, fun i hi => ⟨hc (i * 3) (by omega), hc (i * 3 + 1) (by omega), hc (i * 3 + 2) (by omega)⟩⟩
theorem PLad.zero {w : World} {v : Value} {f : Nat → Int} (h : PLad w v 0 f) : ∃ a c, v = .slice a 0 c := by
  rcases h with ⟨_, h1⟩ | ⟨h0, _⟩
  · exact h1
  · omega
theorem PLad.len_le {w : World} {v : Value} {n : Nat} {f : Nat → Int} (h : PLad w v n f) : n ≤ 9223372036854775807 := by
  rcases h with ⟨h1, _⟩ | ⟨_, b, off, cap, _, hn, _⟩
  · omega
  · unfold maxLen at hn; omega
theorem PLad.shape {w : World} {v : Value} {n : Nat} {f : Nat → Int} (h : PLad w v n f) : ∃ a c, v = .slice a n c := by
  rcases h with ⟨rfl, a, c, h1⟩ | ⟨_, b, off, cap, h1, _⟩
  · exact ⟨a, c, h1⟩
  · exact ⟨_, cap, h1⟩
/-- .. in a block of a call's own, from B on -/
def OLad (w : World) (B : Nat) (v : Value) (n : Nat) (f : Nat → Int) : Prop := w.ownsRow B 43 3 v n ((List.range (n * 3)).map fun i => Value.int .i64 (f i))
theorem OLad.keep {w w' : World} {B : Nat} {v : Value} {n : Nat} {f : Nat → Int} (h : OLad w B v n f) (k : Below w.heap.size w w') : OLad w' B v n f :=
  World.ownsRow.kept h (only_of_below k none) (by cases hv : v.ownBlock <;> simp)
theorem OLad.open_ {w : World} {B : Nat} {v : Value} {n : Nat} {f : Nat → Int} (h : OLad w B v n f) :
    (v = .slice none 0 0 ∧ n = 0) ∨ ∃ g cap, v = .slice (some ⟨g, 0, none⟩) n cap ∧ B ≤ g ∧ g < w.heap.size ∧ n ≤ cap ∧ cap ≤ maxLen ∧
      (∀ i, i < n * 3 → w.cell? ⟨g, i, none⟩ = some (.int .i64 (f i))) ∧ ∀ i, w.frozen? ⟨g, i, none⟩ = false := by
  have h' := h
  obtain ⟨_, ⟨rfl, hn⟩ | ⟨g, cap, cur, rfl, hB, hg, hn, hm, hs, ht⟩⟩ := h
  · exact .inl ⟨rfl, hn⟩
  · refine .inr ⟨g, cap, rfl, hB, (Array.getElem?_eq_some_iff.1 hg).1, hn, hm, fun i hi => ?_, fun i => World.ownsRow.frozenAt h' i⟩
    rw [World.ownsRow.cellAt h' i hi]
    simp [hi]
theorem OLad.toP {w : World} {B : Nat} {v : Value} {n : Nat} {f : Nat → Int} (h : OLad w B v n f) : PLad w v n f := by
  rcases h.open_ with ⟨rfl, rfl⟩ | ⟨g, cap, rfl, _, hg, hn, hm, hc, _⟩
  · exact .inl ⟨rfl, _, _, rfl⟩
  · by_cases h0 : 0 < n
    · exact .inr ⟨h0, g, 0, cap, rfl, by omega, hg, fun i hi => by rw [Nat.zero_add]; exact hc i hi⟩
    · obtain rfl : n = 0 := by omega
      exact .inl ⟨rfl, _, _, rfl⟩
theorem OLad.congr {w : World} {B : Nat} {v : Value} {n : Nat} {f g : Nat → Int} (h : OLad w B v n f) (e : ∀ i, i < n * 3 → f i = g i) : OLad w B v n g := by
  unfold OLad at *
  rwa [List.map_congr_left (fun i hi => by rw [e i (List.mem_range.1 hi)])] at h
theorem OLad.stored {w : World} {B g n cap : Nat} {f : Nat → Int} (h : OLad w B (.slice (some ⟨g, 0, none⟩) n cap) n f) (j : Nat) (x : Int) :
    OLad (w.setCell ⟨g, j, none⟩ (.int .i64 x)) B (.slice (some ⟨g, 0, none⟩) n cap) n (fun i => if i = j then x else f i) ∧ w.grownBy (w.setCell ⟨g, j, none⟩ (.int .i64 x)) (some g) := by
  obtain ⟨a, b⟩ := World.ownsRow.stored h j (.int .i64 x)
  refine ⟨?_, b⟩
  unfold OLad
  have e : ((List.range (n * 3)).map fun i => Value.int .i64 (f i)).set j (.int .i64 x) = (List.range (n * 3)).map fun i => Value.int .i64 (if i = j then x else f i) := by
    apply List.ext_getElem?
    intro i
    rw [List.getElem?_set]
    by_cases hi : j = i
    · subst hi
      by_cases hj : j < n * 3 <;> simp [hj]
    · by_cases hj : i < n * 3 <;> simp [hi, hj, Ne.symm hi]
  rw [← e]
  exact a
theorem OLad.nil (w : World) (C : Nat) (f : Nat → Int) : OLad w C (.slice none 0 0) 0 f := World.ownsRow_nil w C _ 3
set_option maxHeartbeats 400000 in
theorem eqLadders_one (a0 a1 a2 : Int) (w : World) :
    Calls Try.prog 39 #[.agg #[.int .i64 a0, .int .i64 a1, .int .i64 a2], .agg #[.int .i64 a0, .int .i64 a1, .int .i64 a2]] w fun e w' => e = .returned (.bool true) ∧ Below w.heap.size w w' := by
  go_enter Try.func39, Try.ntmps39
  go_wp2
  go_ret
  exact ⟨rfl, (by repeat (first | exact Below.refl _ _ | refine bl_alloc ?_ _ | refine bl_drewN ?_ _ | refine bl_trans (by assumption) ?_ | refine bl_set ?_ (by first | omega | (simp; done) | (simp; omega)) _))⟩
theorem OLadEQ_after {u v w : World} {b1 b2 p10 p11 p12 p20 p21 p22 : Nat} {x10 x11 x12 x20 x21 x22 : Value} (hb : Below u.heap.size u v)
    (h : u.cell? ⟨b1, p10, none⟩ = some x10 ∧ u.cell? ⟨b1, p11, none⟩ = some x11 ∧ u.cell? ⟨b1, p12, none⟩ = some x12 ∧ u.cell? ⟨b2, p20, none⟩ = some x20 ∧ u.cell? ⟨b2, p21, none⟩ = some x21 ∧ u.cell? ⟨b2, p22, none⟩ = some x22 ∧ b1 < u.heap.size ∧ b2 < u.heap.size ∧ Below w.heap.size w u) :
    v.cell? ⟨b1, p10, none⟩ = some x10 ∧ v.cell? ⟨b1, p11, none⟩ = some x11 ∧ v.cell? ⟨b1, p12, none⟩ = some x12 ∧ v.cell? ⟨b2, p20, none⟩ = some x20 ∧ v.cell? ⟨b2, p21, none⟩ = some x21 ∧ v.cell? ⟨b2, p22, none⟩ = some x22 ∧ b1 < v.heap.size ∧ b2 < v.heap.size ∧ Below w.heap.size w v := by
  obtain ⟨g0, g1, g2, g3, g4, g5, h5, h6, h7⟩ := h
  refine ⟨?_, ?_, ?_, ?_, ?_, ?_, Nat.lt_of_lt_of_le h5 hb.size, Nat.lt_of_lt_of_le h6 hb.size, bl_trans hb h7⟩
  all_goals (first | rw [(bcell hb).1 _ _ h5] | rw [(bcell hb).1 _ _ h6]) <;> assumption
set_option maxHeartbeats 800000 in
theorem eqLaddersS_any (v u : Value) (n : Nat) (f : Nat → Int) (w : World) (h1 : PLad w v n f) (h2 : PLad w u n f) :
    Calls Try.prog 31 #[v, u] w fun e w' => e = .returned (.bool true) ∧ Below w.heap.size w w' := by
  have hl := h1.len_le
  by_cases h0 : 0 < n
  · have H1 := Lib.hid h1
    have H2 := Lib.hid h2
    obtain ⟨b1, o1, c1, hv1, _⟩ := h1.some_ h0
    obtain ⟨b2, o2, c2, hv2, _⟩ := h2.some_ h0
    clear h1 h2
    subst hv1
    subst hv2
    go_enter Try.func31, Try.ntmps31
    go_wp2
    go_loopw [5] (fun i wr => ∃ j : Nat, j ≤ n ∧ i = .int .i64 (j : Int) ∧ Below w.heap.size w wr) (fun i _ => n - (intOf i).toNat)
    case atStart => exact ⟨0, Nat.zero_le _, rfl, Below.refl _ _⟩
    case round =>
      obtain ⟨j, hj, rfl, hW⟩ := hrel
      by_cases hlt : j < n
      · obtain ⟨b1', o1', c1', hv1, hb1, g1⟩ := (H1.out.keep hW).some_ h0
        obtain ⟨b2', o2', c2', hv2, hb2, g2⟩ := (H2.out.keep hW).some_ h0
        simp only [Value.slice.injEq, Option.some.injEq, Addr.mk.injEq, and_true, true_and] at hv1 hv2
        obtain ⟨⟨rfl, rfl⟩, rfl⟩ := hv1
        obtain ⟨⟨rfl, rfl⟩, rfl⟩ := hv2
        obtain ⟨p0, p1, p2⟩ := g1 j hlt
        obtain ⟨q0, q1, q2⟩ := g2 j hlt
        have hS := (And.intro p0 (And.intro p1 (And.intro p2 (And.intro q0 (And.intro q1 (And.intro q2 (And.intro hb1 (And.intro hb2 hW))))))))
        have hlt' : (j : Int) < (n : Int) := by omega
        clear g1 g2 hW
        go_wp2_with fail
        go_region_held3 (fun w' => w'.cell? ⟨b1, o1 + j * 3, none⟩ = some (.int .i64 (f (j * 3))) ∧ w'.cell? ⟨b1, o1 + j * 3 + 1, none⟩ = some (.int .i64 (f (j * 3 + 1))) ∧ w'.cell? ⟨b1, o1 + j * 3 + 2, none⟩ = some (.int .i64 (f (j * 3 + 2))) ∧ w'.cell? ⟨b2, o2 + j * 3, none⟩ = some (.int .i64 (f (j * 3))) ∧ w'.cell? ⟨b2, o2 + j * 3 + 1, none⟩ = some (.int .i64 (f (j * 3 + 1))) ∧ w'.cell? ⟨b2, o2 + j * 3 + 2, none⟩ = some (.int .i64 (f (j * 3 + 2))) ∧ b1 < w'.heap.size ∧ b2 < w'.heap.size ∧ Below w.heap.size w w') (first | exact OLadEQ_after hb3 (by assumption) | exact OLadEQ_after (below_drewN (Below.refl _ _) _) (by assumption) | exact OLadEQ_after (Below.drew (Below.refl _ _)) (by assumption) | assumption) (first | (go_at_call 39; refine (eqLadders_one _ _ _ _).mono ?_; rintro e w3 ⟨rfl, hb3⟩) | fail)
        go_wp2
        go_roundw
        case rel => rename_i hh; exact ⟨j + 1, by omega, by go_num, hh.2.2.2.2.2.2.2.2⟩
        case measure => simp only [intOf]; omega
      · obtain rfl : j = n := by omega
        go_wp2
        go_ret
        exact ⟨rfl, hW⟩
  · obtain rfl : n = 0 := by omega
    obtain ⟨a, c, rfl⟩ := h1.zero
    obtain ⟨a', c', rfl⟩ := h2.zero
    clear h1 h2
    go_enter Try.func31, Try.ntmps31
    go_wp2
    go_loopw [5] (fun i wr => i = .int .i64 0 ∧ wr = w) (fun i _ => 0)
    case atStart => exact ⟨rfl, rfl⟩
    case round =>
      obtain ⟨rfl, rfl⟩ := hrel
      go_wp2
      go_ret
      exact ⟨rfl, Below.refl _ _⟩
def OLadmix (k : Int) (f : Nat → Int) (j : Nat) : Nat → Int := fun i => if i < j then k + (i : Int) else f i
set_option maxHeartbeats 800000 in
theorem markLaddersS_any (v : Value) (k : Int) (n : Nat) (f : Nat → Int) (B : Nat) (w : World) (h : OLad w B v n f) (k0 : 0 ≤ k) (k1 : k + n * 3 ≤ 4611686018427387904) :
    Calls Try.prog 33 #[v, .int .i64 k] w fun e w' => e = .returned (.int .i64 (k + (n : Int) * 3)) ∧ OLad w' B v n (fun i => k + (i : Int)) ∧ w.grownBy w' v.ownBlock ∧ w'.heap.size = w.heap.size := by
  have hl := h.toP.len_le
  rcases h.open_ with ⟨rfl, rfl⟩ | ⟨g, cap, rfl, hB, hg, hnc, hm, hc, hf⟩
  · have HH := Lib.hid h
    clear h
    go_enter Try.func33, Try.ntmps33
    go_wp2
    go_loopw [1, 5] (fun c i wr => c = .int .i64 k ∧ i = .int .i64 0 ∧ wr = w) (fun _ _ _ => 0)
    case atStart => exact ⟨rfl, rfl, rfl⟩
    case round =>
      obtain ⟨rfl, rfl, rfl⟩ := hrel
      go_wp2
      go_ret
      exact ⟨by simp, HH.out.congr (fun i hi => absurd hi (by omega)), ⟨rfl, rfl, rfl, Nat.le_refl _, fun _ _ _ => rfl⟩, rfl⟩
  · have HH := Lib.hid h
    clear h hc hf
    go_enter Try.func33, Try.ntmps33
    go_wp2
    go_loopw [1, 5] (fun c i wr => ∃ j : Nat, j ≤ n ∧ c = .int .i64 (k + (j : Int) * 3) ∧ i = .int .i64 j ∧ OLad wr B (.slice (some ⟨g, 0, none⟩) n cap) n (OLadmix k f (j * 3)) ∧ w.grownBy wr (some g) ∧ wr.heap.size = w.heap.size) (fun _ i _ => n - (intOf i).toNat)
    case atStart => exact ⟨0, Nat.zero_le _, by simp, rfl, HH.out.congr (fun i _ => by simp [OLadmix]), ⟨rfl, rfl, rfl, Nat.le_refl _, fun _ _ _ => rfl⟩, rfl⟩
    case round =>
      obtain ⟨j, hj, rfl, rfl, hO, hG, hS⟩ := hrel
      by_cases hlt : j < n
      · rcases hO.open_ with ⟨he, _⟩ | ⟨g', cap', he, _, hg', _, _, hcc, hff⟩
        · cases he
        simp only [Value.slice.injEq, Option.some.injEq, Addr.mk.injEq, and_true, true_and] at he
        obtain ⟨rfl, rfl⟩ := he
        have d0 := hcc (j * 3) (by omega)
        have f0 := hff (j * 3)
        have d1 := hcc (j * 3 + 1) (by omega)
        have f1 := hff (j * 3 + 1)
        have d2 := hcc (j * 3 + 2) (by omega)
        have f2 := hff (j * 3 + 2)
        have s0 := hO.stored (j * 3) (k + (j : Int) * 3)
        have s1 := s0.1.stored (j * 3 + 1) (k + (j : Int) * 3 + 1)
        have s2 := s1.1.stored (j * 3 + 2) (k + (j : Int) * 3 + 1 + 1)
        have S1 := Lib.hid s2.1
        have S2 := Lib.hid (grown_trans' hG (grown_trans' s0.2 (grown_trans' s1.2 s2.2)))
        have HS := Lib.hid hS
        have hlt' : (j : Int) < (n : Int) := by omega
        clear hcc hff hO hG hS s0 s1 s2
        go_wp2
        go_roundw
        case rel =>
          refine ⟨j + 1, by omega, by go_num, by go_num, S1.out.congr (fun i hi => ?_), S2.out, by simp [World.setCell, HS.out]⟩
          unfold OLadmix
          by_cases e2 : i = j * 3 + 2
          · rw [if_pos e2, if_pos (show i < (j + 1) * 3 by omega), e2]; push_cast; omega
          · by_cases e1 : i = j * 3 + 1
            · rw [if_neg e2, if_pos e1, if_pos (show i < (j + 1) * 3 by omega), e1]; push_cast; omega
            · by_cases e0 : i = j * 3
              · rw [if_neg e2, if_neg e1, if_pos e0, if_pos (show i < (j + 1) * 3 by omega), e0]; push_cast; omega
              · by_cases e9 : i < j * 3
                · rw [if_neg e2, if_neg e1, if_neg e0, if_pos e9, if_pos (show i < (j + 1) * 3 by omega)]
                · rw [if_neg e2, if_neg e1, if_neg e0, if_neg e9, if_neg (show ¬ i < (j + 1) * 3 by omega)]
        case measure => simp only [intOf]; omega
      · obtain rfl : j = n := by omega
        have HO := Lib.hid hO
        have HG := Lib.hid hG
        have HS := Lib.hid hS
        clear hO hG hS
        go_wp2
        go_ret
        exact ⟨rfl, HO.out.congr (fun i hi => by simp [OLadmix, hi]), HG.out, HS.out⟩
set_option maxHeartbeats 800000 in
theorem heldLaddersS_any (v : Value) (k : Int) (n : Nat) (w : World) (h : PLad w v n (fun i => k + (i : Int))) (k0 : 0 ≤ k) (k1 : k + n * 3 ≤ 4611686018427387904) :
    Calls Try.prog 34 #[v, .int .i64 k] w fun e w' => e = .returned (.int .i64 (k + (n : Int) * 3)) ∧ ∃ m, w' = w.drewN m := by
  have hl := h.len_le
  by_cases h0 : 0 < n
  · obtain ⟨b, off, cap, rfl, hb, hc⟩ := h.some_ h0
    have HC := Lib.hid hc
    clear h hc
    go_enter Try.func34, Try.ntmps34
    go_wp2
    go_loopw [1, 5] (fun c i wr => ∃ j m : Nat, j ≤ n ∧ c = .int .i64 (k + (j : Int) * 3) ∧ i = .int .i64 j ∧ wr = w.drewN m) (fun _ i _ => n - (intOf i).toNat)
    case atStart => exact ⟨0, 0, Nat.zero_le _, by simp, rfl, rfl⟩
    case round =>
      obtain ⟨j, m, hj, rfl, rfl, rfl⟩ := hrel
      by_cases hlt : j < n
      · obtain ⟨d0, d1, d2⟩ := HC.out j hlt
        have d0 : w.cell? ⟨b, off + j * 3, none⟩ = some (.int .i64 (k + (j : Int) * 3)) := by rw [d0]; push_cast; first | rfl | (congr 2; omega)
        have d1 : w.cell? ⟨b, off + j * 3 + 1, none⟩ = some (.int .i64 (k + (j : Int) * 3 + 1)) := by rw [d1]; push_cast; first | rfl | (congr 2; omega)
        have d2 : w.cell? ⟨b, off + j * 3 + 2, none⟩ = some (.int .i64 (k + (j : Int) * 3 + 1 + 1)) := by rw [d2]; push_cast; first | rfl | (congr 2; omega)
        have hlt' : (j : Int) < (n : Int) := by omega
        go_wp2
        go_roundw
        case rel => exact ⟨j + 1, m, by omega, by go_num, by go_num, rfl⟩
        case measure => simp only [intOf]; omega
      · obtain rfl : j = n := by omega
        go_wp2
        go_ret
        exact ⟨rfl, m, rfl⟩
  · obtain rfl : n = 0 := by omega
    obtain ⟨a, c, rfl⟩ := h.zero
    clear h
    go_enter Try.func34, Try.ntmps34
    go_wp2
    go_loopw [1, 5] (fun c i wr => c = .int .i64 k ∧ i = .int .i64 0 ∧ wr = w) (fun _ _ _ => 0)
    case atStart => exact ⟨rfl, rfl, rfl⟩
    case round =>
      obtain ⟨rfl, rfl, rfl⟩ := hrel
      go_wp2
      go_ret
      exact ⟨by simp, 0, rfl⟩
/-- a call's own slice of structs, told by all their numbers -/
def LLad (w : World) (C : Nat) (v : Value) (n : Nat) (xs : List Int) : Prop := xs.length = n * 3 ∧ OLad w C v n (fun i => xs.getD i 0)
theorem LLad.keep {w w' : World} {C n : Nat} {v : Value} {xs : List Int} (h : LLad w C v n xs) (k : Below w.heap.size w w') : LLad w' C v n xs := ⟨h.1, OLad.keep h.2 k⟩
theorem LLad.nil (w : World) (C : Nat) : LLad w C (.slice none 0 0) 0 [] := ⟨rfl, OLad.nil _ _ _⟩
theorem LLadcells {n : Nat} {xs : List Int} (h : xs.length = n * 3) : (List.range (n * 3)).map (fun i => Value.int .i64 (xs.getD i 0)) = xs.map (Value.int .i64) := by
  apply List.ext_getElem?
  intro i
  by_cases hi : i < n * 3
  · simp [hi, h, List.getD]
  · simp [hi, h]
theorem LLad.owns {w : World} {C n : Nat} {v : Value} {xs : List Int} (h : LLad w C v n xs) : w.ownsRow C 43 3 v n (xs.map (Value.int .i64)) := by
  have := h.2
  unfold OLad at this
  rwa [LLadcells h.1] at this
theorem LLad.push {W w1 : World} {C n : Nat} {v v' : Value} {xs : List Int} {x0 x1 x2 : Int} {o : Obj} (hC : C ≤ W.heap.size) (h : LLad W C v n xs)
    (hO : w1.ownsRow C 43 3 v' (n + 1) (xs.map (Value.int .i64) ++ [.int .i64 x0, .int .i64 x1, .int .i64 x2])) (hg : (W.alloc o).grownBy w1 v.ownBlock) : LLad w1 C v' (n + 1) (xs ++ [x0, x1, x2]) ∧ Below C W w1 := by
  have e : (xs ++ [x0, x1, x2]).length = (n + 1) * 3 := by rw [List.length_append, h.1]; simp; omega
  refine ⟨⟨e, ?_⟩, ((Below.refl C W).alloc hC o).grown hg (by simp; omega) fun g e => (World.ownsRow.lt h.2 g e).1⟩
  unfold OLad
  rw [LLadcells e]
  simpa using hO
end Go.Proofs.Ytgghceckpdfogaa
