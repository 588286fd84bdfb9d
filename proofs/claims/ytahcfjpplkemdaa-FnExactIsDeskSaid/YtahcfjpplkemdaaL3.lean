/- Slices of ladders that a call made. -/
import Derived.Test.YtahcfjpplkemdaaR1
import Derived.OwnWalk
import Derived.Deep.RegionHeld3
namespace Go.Proofs.Ytahcfjpplkemdaa
open Go.RowKit
set_option linter.unusedVariables false
set_option linter.unusedSimpArgs false
/-- 'v' is a slice of n structs whose numbers, one behind the other, are f 0, f 1, .. -/
def PLad (w : World) (v : Value) (n : Nat) (f : Nat → Int) : Prop :=
  (n = 0 ∧ ∃ a c, v = .slice a 0 c) ∨ (0 < n ∧ ∃ b off cap, v = .slice (some ⟨b, off, none⟩) n cap ∧ n ≤ maxLen ∧ b < w.heap.size ∧ ∀ i, i < n * 3 → w.cell? ⟨b, off + i, none⟩ = some (.int .i64 (f i)))
theorem PLad.keep {w w' : World} {v : Value} {n : Nat} {f : Nat → Int} (h : PLad w v n f) (k : Below w.heap.size w w') : PLad w' v n f := by
  rcases h with h | ⟨h0, b, off, cap, hv, hn, hb, hc⟩
  · exact .inl h
  · exact .inr ⟨h0, b, off, cap, hv, hn, Nat.lt_of_lt_of_le hb k.size, fun i hi => by rw [(bcell k).1 _ _ hb]; exact hc i hi⟩
theorem PLad.drewN {w : World} {v : Value} {n : Nat} {f : Nat → Int} (h : PLad w v n f) (m : Nat) : PLad (w.drewN m) v n f := h
theorem PLad.some_ {w : World} {v : Value} {n : Nat} {f : Nat → Int} (h : PLad w v n f) (h0 : 0 < n) : ∃ b off cap, v = .slice (some ⟨b, off, none⟩) n cap ∧ b < w.heap.size ∧ ∀ i, i < n → w.cell? ⟨b, off + i * 3, none⟩ = some (.int .i64 (f (i * 3))) ∧ w.cell? ⟨b, off + i * 3 + 1, none⟩ = some (.int .i64 (f (i * 3 + 1))) ∧ w.cell? ⟨b, off + i * 3 + 2, none⟩ = some (.int .i64 (f (i * 3 + 2))) := by
  rcases h with ⟨h1, _⟩ | ⟨_, b, off, cap, hv, hn, hb, hc⟩
  · omega
  · exact ⟨b, off, cap, hv, hb, fun i hi => ⟨hc (i * 3) (by omega), hc (i * 3 + 1) (by omega), hc (i * 3 + 2) (by omega)⟩⟩
theorem PLad.zero {w : World} {v : Value} {f : Nat → Int} (h : PLad w v 0 f) : ∃ a c, v = .slice a 0 c := by
  rcases h with ⟨_, h1⟩ | ⟨h0, _⟩
  · exact h1
  · omega
theorem PLad.len_le {w : World} {v : Value} {n : Nat} {f : Nat → Int} (h : PLad w v n f) : n ≤ 9223372036854775807 := by
  rcases h with ⟨h1, _⟩ | ⟨_, b, off, cap, _, hn, _⟩
  · omega
  · unfold maxLen at hn; omega
theorem PLad.shape {w : World} {v : Value} {n : Nat} {f : Nat → Int} (h : PLad w v n f) : ∃ a c, v = .slice a n c := by
  rcases h with ⟨rfl, a, c, h1⟩ | ⟨_, b, off, cap, h1, _⟩
  · exact ⟨a, c, h1⟩
  · exact ⟨_, cap, h1⟩
/-- .. in a block of a call's own, from B on -/
def OLad (w : World) (B : Nat) (v : Value) (n : Nat) (f : Nat → Int) : Prop := w.ownsRow B 23 3 v n ((List.range (n * 3)).map fun i => Value.int .i64 (f i))
theorem OLad.keep {w w' : World} {B : Nat} {v : Value} {n : Nat} {f : Nat → Int} (h : OLad w B v n f) (k : Below w.heap.size w w') : OLad w' B v n f :=
  World.ownsRow.kept h (only_of_below k none) (by cases hv : v.ownBlock <;> simp)
theorem OLad.open_ {w : World} {B : Nat} {v : Value} {n : Nat} {f : Nat → Int} (h : OLad w B v n f) :
    (v = .slice none 0 0 ∧ n = 0) ∨ ∃ g cap, v = .slice (some ⟨g, 0, none⟩) n cap ∧ B ≤ g ∧ g < w.heap.size ∧ n ≤ cap ∧ cap ≤ maxLen ∧
      (∀ i, i < n * 3 → w.cell? ⟨g, i, none⟩ = some (.int .i64 (f i))) ∧ ∀ i, w.frozen? ⟨g, i, none⟩ = false := by
  have h' := h
  obtain ⟨_, ⟨rfl, hn⟩ | ⟨g, cap, cur, rfl, hB, hg, hn, hm, hs, ht⟩⟩ := h
  · exact .inl ⟨rfl, hn⟩
  · refine .inr ⟨g, cap, rfl, hB, (Array.getElem?_eq_some_iff.1 hg).1, hn, hm, fun i hi => ?_, fun i => World.ownsRow.frozenAt h' i⟩
    rw [World.ownsRow.cellAt h' i hi]
    simp [hi]
theorem OLad.toP {w : World} {B : Nat} {v : Value} {n : Nat} {f : Nat → Int} (h : OLad w B v n f) : PLad w v n f := by
  rcases h.open_ with ⟨rfl, rfl⟩ | ⟨g, cap, rfl, _, hg, hn, hm, hc, _⟩
  · exact .inl ⟨rfl, _, _, rfl⟩
  · by_cases h0 : 0 < n
    · exact .inr ⟨h0, g, 0, cap, rfl, by omega, hg, fun i hi => by rw [Nat.zero_add]; exact hc i hi⟩
    · obtain rfl : n = 0 := by omega
      exact .inl ⟨rfl, _, _, rfl⟩
theorem OLad.congr {w : World} {B : Nat} {v : Value} {n : Nat} {f g : Nat → Int} (h : OLad w B v n f) (e : ∀ i, i < n * 3 → f i = g i) : OLad w B v n g := by
  unfold OLad at *
  rwa [List.map_congr_left (fun i hi => by rw [e i (List.mem_range.1 hi)])] at h
theorem OLad.stored {w : World} {B g n cap : Nat} {f : Nat → Int} (h : OLad w B (.slice (some ⟨g, 0, none⟩) n cap) n f) (j : Nat) (x : Int) :
    OLad (w.setCell ⟨g, j, none⟩ (.int .i64 x)) B (.slice (some ⟨g, 0, none⟩) n cap) n (fun i => if i = j then x else f i) ∧ w.grownBy (w.setCell ⟨g, j, none⟩ (.int .i64 x)) (some g) := by
  obtain ⟨a, b⟩ := World.ownsRow.stored h j (.int .i64 x)
  refine ⟨?_, b⟩
  unfold OLad
  have e : ((List.range (n * 3)).map fun i => Value.int .i64 (f i)).set j (.int .i64 x) = (List.range (n * 3)).map fun i => Value.int .i64 (if i = j then x else f i) := by
    apply List.ext_getElem?
    intro i
    rw [List.getElem?_set]
    by_cases hi : j = i
    · subst hi
      by_cases hj : j < n * 3 <;> simp [hj]
    · by_cases hj : i < n * 3 <;> simp [hi, hj, Ne.symm hi]
  rw [← e]
  exact a
theorem OLad.nil (w : World) (C : Nat) (f : Nat → Int) : OLad w C (.slice none 0 0) 0 f := World.ownsRow_nil w C _ 3
set_option maxHeartbeats 400000 in
theorem eqLadders_one (a0 a1 a2 : Int) (w : World) :
    Calls Try.prog 27 #[.agg #[.int .i64 a0, .int .i64 a1, .int .i64 a2], .agg #[.int .i64 a0, .int .i64 a1, .int .i64 a2]] w fun e w' => e = .returned (.bool true) ∧ Below w.heap.size w w' := by
  go_enter Try.func27, Try.ntmps27
  go_wp2
  go_ret
  exact ⟨rfl, (by repeat (first | exact Below.refl _ _ | refine bl_alloc ?_ _ | refine bl_drewN ?_ _ | refine bl_trans (by assumption) ?_ | refine bl_set ?_ (by first | omega | (simp; done) | (simp; omega)) _))⟩
theorem OLadEQ_after {u v w : World} {b1 b2 p10 p11 p12 p20 p21 p22 : Nat} {x10 x11 x12 x20 x21 x22 : Value} (hb : Below u.heap.size u v)
    (h : u.cell? ⟨b1, p10, none⟩ = some x10 ∧ u.cell? ⟨b1, p11, none⟩ = some x11 ∧ u.cell? ⟨b1, p12, none⟩ = some x12 ∧ u.cell? ⟨b2, p20, none⟩ = some x20 ∧ u.cell? ⟨b2, p21, none⟩ = some x21 ∧ u.cell? ⟨b2, p22, none⟩ = some x22 ∧ b1 < u.heap.size ∧ b2 < u.heap.size ∧ Below w.heap.size w u) :
    v.cell? ⟨b1, p10, none⟩ = some x10 ∧ v.cell? ⟨b1, p11, none⟩ = some x11 ∧ v.cell? ⟨b1, p12, none⟩ = some x12 ∧ v.cell? ⟨b2, p20, none⟩ = some x20 ∧ v.cell? ⟨b2, p21, none⟩ = some x21 ∧ v.cell? ⟨b2, p22, none⟩ = some x22 ∧ b1 < v.heap.size ∧ b2 < v.heap.size ∧ Below w.heap.size w v := by
  obtain ⟨g0, g1, g2, g3, g4, g5, h5, h6, h7⟩ := h
  refine ⟨?_, ?_, ?_, ?_, ?_, ?_, Nat.lt_of_lt_of_le h5 hb.size, Nat.lt_of_lt_of_le h6 hb.size, bl_trans hb h7⟩
  all_goals (first | rw [(bcell hb).1 _ _ h5] | rw [(bcell hb).1 _ _ h6]) <;> assumption
/-- a call's own slice of structs, told by all their numbers -/
def LLad (w : World) (C : Nat) (v : Value) (n : Nat) (xs : List Int) : Prop := xs.length = n * 3 ∧ OLad w C v n (fun i => xs.getD i 0)
theorem LLad.keep {w w' : World} {C n : Nat} {v : Value} {xs : List Int} (h : LLad w C v n xs) (k : Below w.heap.size w w') : LLad w' C v n xs := ⟨h.1, OLad.keep h.2 k⟩
theorem LLad.nil (w : World) (C : Nat) : LLad w C (.slice none 0 0) 0 [] := ⟨rfl, OLad.nil _ _ _⟩
theorem LLadcells {n : Nat} {xs : List Int} (h : xs.length = n * 3) : (List.range (n * 3)).map (fun i => Value.int .i64 (xs.getD i 0)) = xs.map (Value.int .i64) := by
  apply List.ext_getElem?
  intro i
  by_cases hi : i < n * 3
  · simp [hi, h, List.getD]
  · simp [hi, h]
theorem LLad.owns {w : World} {C n : Nat} {v : Value} {xs : List Int} (h : LLad w C v n xs) : w.ownsRow C 23 3 v n (xs.map (Value.int .i64)) := by
  have := h.2
  unfold OLad at this
  rwa [LLadcells h.1] at this
theorem LLad.push {W w1 : World} {C n : Nat} {v v' : Value} {xs : List Int} {x0 x1 x2 : Int} {o : Obj} (hC : C ≤ W.heap.size) (h : LLad W C v n xs)
    (hO : w1.ownsRow C 23 3 v' (n + 1) (xs.map (Value.int .i64) ++ [.int .i64 x0, .int .i64 x1, .int .i64 x2])) (hg : (W.alloc o).grownBy w1 v.ownBlock) : LLad w1 C v' (n + 1) (xs ++ [x0, x1, x2]) ∧ Below C W w1 := by
  have e : (xs ++ [x0, x1, x2]).length = (n + 1) * 3 := by rw [List.length_append, h.1]; simp; omega
  refine ⟨⟨e, ?_⟩, ((Below.refl C W).alloc hC o).grown hg (by simp; omega) fun g e => (World.ownsRow.lt h.2 g e).1⟩
  unfold OLad
  rw [LLadcells e]
  simpa using hO
end Go.Proofs.Ytahcfjpplkemdaa
