/- Slices of poles: as they are read, copied and held against each other. -/
import Derived.Test.YtlingdlhdkkfpaaDoorS1
import Derived.Test.YtlingdlhdkkfpaaDoorR1
import Derived.OwnWalk
import Derived.Deep.SlicePairs
import Derived.Deep.RegionHeld3
namespace Go.Proofs.YtlingdlhdkkfpaaDoor
open Go.RowKit

/-- 'v' is a slice of n poles whose numbers, one behind the other, are f 0, f 1, .. -/
def PRow (w : World) (v : Value) (n : Nat) (f : Nat → Int) : Prop :=
  (n = 0 ∧ ∃ a c, v = .slice a 0 c) ∨ (0 < n ∧ ∃ b off cap, v = .slice (some ⟨b, off, none⟩) n cap ∧ n ≤ maxLen ∧ b < w.heap.size ∧ ∀ i, i < n * 2 → w.cell? ⟨b, off + i, none⟩ = some (.int .i64 (f i)))
theorem PRow.keep {w w' : World} {v : Value} {n : Nat} {f : Nat → Int} (h : PRow w v n f) (k : Below w.heap.size w w') : PRow w' v n f := by
  rcases h with h | ⟨h0, b, off, cap, hv, hn, hb, hc⟩
  · exact .inl h
  · exact .inr ⟨h0, b, off, cap, hv, hn, Nat.lt_of_lt_of_le hb k.size, fun i hi => by rw [(bcell k).1 _ _ hb]; exact hc i hi⟩
theorem PRow.drewN {w : World} {v : Value} {n : Nat} {f : Nat → Int} (h : PRow w v n f) (m : Nat) : PRow (w.drewN m) v n f := h
theorem PRow.some_ {w : World} {v : Value} {n : Nat} {f : Nat → Int} (h : PRow w v n f) (h0 : 0 < n) : ∃ b off cap, v = .slice (some ⟨b, off, none⟩) n cap ∧ b < w.heap.size ∧ ∀ i, i < n → w.cell? ⟨b, off + i * 2, none⟩ = some (.int .i64 (f (i * 2))) ∧ w.cell? ⟨b, off + i * 2 + 1, none⟩ = some (.int .i64 (f (i * 2 + 1))) := by
  rcases h with ⟨h1, _⟩ | ⟨_, b, off, cap, hv, hn, hb, hc⟩
  · omega
  · exact ⟨b, off, cap, hv, hb, fun i hi => ⟨hc (i * 2) (by omega), hc (i * 2 + 1) (by omega)⟩⟩
theorem PRow.zero {w : World} {v : Value} {f : Nat → Int} (h : PRow w v 0 f) : ∃ a c, v = .slice a 0 c := by
  rcases h with ⟨_, h1⟩ | ⟨h0, _⟩
  · exact h1
  · omega
theorem PRow.len_le {w : World} {v : Value} {n : Nat} {f : Nat → Int} (h : PRow w v n f) : n ≤ 9223372036854775807 := by
  rcases h with ⟨h1, _⟩ | ⟨_, b, off, cap, _, hn, _⟩
  · omega
  · unfold maxLen at hn; omega
theorem PRow.shape {w : World} {v : Value} {n : Nat} {f : Nat → Int} (h : PRow w v n f) : ∃ a c, v = .slice a n c := by
  rcases h with ⟨rfl, a, c, h1⟩ | ⟨_, b, off, cap, h1, _⟩
  · exact ⟨a, c, h1⟩
  · exact ⟨_, cap, h1⟩

/-- .. in a block of a call's own, from B on -/
def ORow (w : World) (B : Nat) (v : Value) (n : Nat) (f : Nat → Int) : Prop := w.ownsRow B 46 2 v n ((List.range (n * 2)).map fun i => Value.int .i64 (f i))
theorem ORow.keep {w w' : World} {B : Nat} {v : Value} {n : Nat} {f : Nat → Int} (h : ORow w B v n f) (k : Below w.heap.size w w') : ORow w' B v n f :=
  World.ownsRow.kept h (only_of_below k none) (by cases hv : v.ownBlock <;> simp)
theorem ORow.open_ {w : World} {B : Nat} {v : Value} {n : Nat} {f : Nat → Int} (h : ORow w B v n f) :
    (v = .slice none 0 0 ∧ n = 0) ∨ ∃ g cap, v = .slice (some ⟨g, 0, none⟩) n cap ∧ B ≤ g ∧ g < w.heap.size ∧ n ≤ cap ∧ cap ≤ maxLen ∧
      (∀ i, i < n * 2 → w.cell? ⟨g, i, none⟩ = some (.int .i64 (f i))) ∧ ∀ i, w.frozen? ⟨g, i, none⟩ = false := by
  have h' := h
  obtain ⟨_, ⟨rfl, hn⟩ | ⟨g, cap, cur, rfl, hB, hg, hn, hm, hs, ht⟩⟩ := h
  · exact .inl ⟨rfl, hn⟩
  · refine .inr ⟨g, cap, rfl, hB, (Array.getElem?_eq_some_iff.1 hg).1, hn, hm, fun i hi => ?_, fun i => World.ownsRow.frozenAt h' i⟩
    rw [World.ownsRow.cellAt h' i hi]
    simp [hi]
theorem ORow.toP {w : World} {B : Nat} {v : Value} {n : Nat} {f : Nat → Int} (h : ORow w B v n f) : PRow w v n f := by
  rcases h.open_ with ⟨rfl, rfl⟩ | ⟨g, cap, rfl, _, hg, hn, hm, hc, _⟩
  · exact .inl ⟨rfl, _, _, rfl⟩
  · by_cases h0 : 0 < n
    · exact .inr ⟨h0, g, 0, cap, rfl, by omega, hg, fun i hi => by rw [Nat.zero_add]; exact hc i hi⟩
    · obtain rfl : n = 0 := by omega
      exact .inl ⟨rfl, _, _, rfl⟩
theorem ORow.congr {w : World} {B : Nat} {v : Value} {n : Nat} {f g : Nat → Int} (h : ORow w B v n f) (e : ∀ i, i < n * 2 → f i = g i) : ORow w B v n g := by
  unfold ORow at *
  rwa [List.map_congr_left (fun i hi => by rw [e i (List.mem_range.1 hi)])] at h
theorem ORow.stored {w : World} {B g n cap : Nat} {f : Nat → Int} (h : ORow w B (.slice (some ⟨g, 0, none⟩) n cap) n f) (j : Nat) (x : Int) :
    ORow (w.setCell ⟨g, j, none⟩ (.int .i64 x)) B (.slice (some ⟨g, 0, none⟩) n cap) n (fun i => if i = j then x else f i) ∧ w.grownBy (w.setCell ⟨g, j, none⟩ (.int .i64 x)) (some g) := by
  obtain ⟨a, b⟩ := World.ownsRow.stored h j (.int .i64 x)
  refine ⟨?_, b⟩
  unfold ORow
  have e : ((List.range (n * 2)).map fun i => Value.int .i64 (f i)).set j (.int .i64 x) = (List.range (n * 2)).map fun i => Value.int .i64 (if i = j then x else f i) := by
    apply List.ext_getElem?
    intro i
    rw [List.getElem?_set]
    by_cases hi : j = i
    · subst hi
      by_cases hj : j < n * 2 <;> simp [hj]
    · by_cases hj : i < n * 2 <;> simp [hi, hj, Ne.symm hi]
  rw [← e]
  exact a
theorem ORow.made {w : World} {B : Nat} {v : Value} {n : Nat} (h : w.ownsRow B 46 2 v n (madeCells (Value.agg #[.int .i64 0, .int .i64 0]).cells (n * 2)).toList) : ORow w B v n (fun _ => 0) := by
  unfold ORow
  have e : (madeCells (Value.agg #[.int .i64 0, .int .i64 0]).cells (n * 2)).toList = (List.range (n * 2)).map fun _ => Value.int .i64 0 := by
    apply List.ext_getElem?
    intro i
    by_cases hi : i < n * 2
    · have : i % 2 = 0 ∨ i % 2 = 1 := by omega
      rcases this with e | e <;> simp [madeCells, hi, Value.cells, e]
    · simp [madeCells, hi]
  rw [← e]
  exact h


theorem infoP : (Tryd.prog.info? 46).map (fun i => (i.zero, i.size, i.bytes)) = some (some (.agg #[.int .i64 0, .int .i64 0]), 2, 16) := by kernel_rfl


set_option maxHeartbeats 400000 in
theorem eqPole_any (a b : Int) (w : World) :
    Calls Tryd.prog 24 #[.agg #[.int .i64 a, .int .i64 b], .agg #[.int .i64 a, .int .i64 b]] w fun e w' => e = .returned (.bool true) ∧ Below w.heap.size w w' := by
  go_enter Tryd.func24, Tryd.ntmps24
  go_wp2
  go_ret
  exact ⟨rfl, (by repeat (first | exact Below.refl _ _ | refine bl_alloc ?_ _ | refine bl_drewN ?_ _ | refine bl_trans (by assumption) ?_ | refine bl_set ?_ (by first | omega | (simp; done) | (simp; omega)) _))⟩

theorem EQ_after {u v w : World} {b1 b2 o1 o2 o3 o4 : Nat} {x1 x2 x3 x4 : Value} (hb : Below u.heap.size u v)
    (h : u.cell? ⟨b1, o1, none⟩ = some x1 ∧ u.cell? ⟨b1, o2, none⟩ = some x2 ∧ u.cell? ⟨b2, o3, none⟩ = some x3 ∧ u.cell? ⟨b2, o4, none⟩ = some x4 ∧ b1 < u.heap.size ∧ b2 < u.heap.size ∧ Below w.heap.size w u) :
    v.cell? ⟨b1, o1, none⟩ = some x1 ∧ v.cell? ⟨b1, o2, none⟩ = some x2 ∧ v.cell? ⟨b2, o3, none⟩ = some x3 ∧ v.cell? ⟨b2, o4, none⟩ = some x4 ∧ b1 < v.heap.size ∧ b2 < v.heap.size ∧ Below w.heap.size w v := by
  obtain ⟨h1, h2, h3, h4, h5, h6, h7⟩ := h
  refine ⟨?_, ?_, ?_, ?_, Nat.lt_of_lt_of_le h5 hb.size, Nat.lt_of_lt_of_le h6 hb.size, bl_trans hb h7⟩
  all_goals (first | rw [(bcell hb).1 _ _ h5] | rw [(bcell hb).1 _ _ h6]) <;> assumption

set_option maxHeartbeats 800000 in
theorem eqPoleS_any (v u : Value) (n : Nat) (f : Nat → Int) (w : World) (h1 : PRow w v n f) (h2 : PRow w u n f) :
    Calls Tryd.prog 11 #[v, u] w fun e w' => e = .returned (.bool true) ∧ Below w.heap.size w w' := by
  have hl := h1.len_le
  by_cases h0 : 0 < n
  · have H1 := Lib.hid h1
    have H2 := Lib.hid h2
    obtain ⟨b1, o1, c1, hv1, _⟩ := h1.some_ h0
    obtain ⟨b2, o2, c2, hv2, _⟩ := h2.some_ h0
    clear h1 h2
    subst hv1
    subst hv2
    go_enter Tryd.func11, Tryd.ntmps11
    go_wp2
    go_loopw [5] (fun i wr => ∃ j : Nat, j ≤ n ∧ i = .int .i64 (j : Int) ∧ Below w.heap.size w wr) (fun i _ => n - (intOf i).toNat)
    case atStart => exact ⟨0, Nat.zero_le _, rfl, Below.refl _ _⟩
    case round =>
      obtain ⟨j, hj, rfl, hW⟩ := hrel
      by_cases hlt : j < n
      · obtain ⟨b1', o1', c1', hv1, hb1, g1⟩ := (H1.out.keep hW).some_ h0
        obtain ⟨b2', o2', c2', hv2, hb2, g2⟩ := (H2.out.keep hW).some_ h0
        simp only [Value.slice.injEq, Option.some.injEq, Addr.mk.injEq, and_true, true_and] at hv1 hv2
        obtain ⟨⟨rfl, rfl⟩, rfl⟩ := hv1
        obtain ⟨⟨rfl, rfl⟩, rfl⟩ := hv2
        obtain ⟨p1, p2⟩ := g1 j hlt
        obtain ⟨q1, q2⟩ := g2 j hlt
        have hS := And.intro p1 (And.intro p2 (And.intro q1 (And.intro q2 (And.intro hb1 (And.intro hb2 hW)))))
        have hlt' : (j : Int) < (n : Int) := by omega
        clear g1 g2 hW
        go_wp2_with fail
        go_region_held3 (fun w' => w'.cell? ⟨b1, o1 + j * 2, none⟩ = some (.int .i64 (f (j * 2))) ∧ w'.cell? ⟨b1, o1 + j * 2 + 1, none⟩ = some (.int .i64 (f (j * 2 + 1))) ∧ w'.cell? ⟨b2, o2 + j * 2, none⟩ = some (.int .i64 (f (j * 2))) ∧ w'.cell? ⟨b2, o2 + j * 2 + 1, none⟩ = some (.int .i64 (f (j * 2 + 1))) ∧ b1 < w'.heap.size ∧ b2 < w'.heap.size ∧ Below w.heap.size w w') (first | exact EQ_after hb3 (by assumption) | exact EQ_after (below_drewN (Below.refl _ _) _) (by assumption) | exact EQ_after (Below.drew (Below.refl _ _)) (by assumption) | assumption) (first | (go_at_call 24; refine (eqPole_any _ _ _).mono ?_; rintro e w3 ⟨rfl, hb3⟩) | fail)
        go_wp2
        go_roundw
        case rel => rename_i hh; exact ⟨j + 1, by omega, by go_num, hh.2.2.2.2.2.2⟩
        case measure => simp only [intOf]; omega
      · obtain rfl : j = n := by omega
        go_wp2
        go_ret
        exact ⟨rfl, hW⟩
  · obtain rfl : n = 0 := by omega
    obtain ⟨a, c, rfl⟩ := h1.zero
    obtain ⟨a', c', rfl⟩ := h2.zero
    clear h1 h2
    go_enter Tryd.func11, Tryd.ntmps11
    go_wp2
    go_loopw [5] (fun i wr => i = .int .i64 0 ∧ wr = w) (fun i _ => 0)
    case atStart => exact ⟨rfl, rfl⟩
    case round =>
      obtain ⟨rfl, rfl⟩ := hrel
      go_wp2
      go_ret
      exact ⟨rfl, Below.refl _ _⟩
end Go.Proofs.YtlingdlhdkkfpaaDoor
