/- Slices of poles: as they are read, copied and held against each other. -/
import Derived.Test.YtahcfjpplkemdaaS1
import Derived.Test.YtahcfjpplkemdaaR1
import Derived.OwnWalk
import Derived.Deep.SlicePairs
import Derived.Deep.RegionHeld3
namespace Go.Proofs.Ytahcfjpplkemdaa
open Go.RowKit

/-- 'v' is a slice of n poles whose numbers, one behind the other, are f 0, f 1, .. -/
def PRow (w : World) (v : Value) (n : Nat) (f : Nat → Int) : Prop :=
  (n = 0 ∧ ∃ a c, v = .slice a 0 c) ∨ (0 < n ∧ ∃ b off cap, v = .slice (some ⟨b, off, none⟩) n cap ∧ n ≤ maxLen ∧ b < w.heap.size ∧ ∀ i, i < n * 2 → w.cell? ⟨b, off + i, none⟩ = some (.int .i64 (f i)))
theorem PRow.keep {w w' : World} {v : Value} {n : Nat} {f : Nat → Int} (h : PRow w v n f) (k : Below w.heap.size w w') : PRow w' v n f := by
  rcases h with h | ⟨h0, b, off, cap, hv, hn, hb, hc⟩
  · exact .inl h
  · exact .inr ⟨h0, b, off, cap, hv, hn, Nat.lt_of_lt_of_le hb k.size, fun i hi => by rw [(bcell k).1 _ _ hb]; exact hc i hi⟩
theorem PRow.drewN {w : World} {v : Value} {n : Nat} {f : Nat → Int} (h : PRow w v n f) (m : Nat) : PRow (w.drewN m) v n f := h
theorem PRow.some_ {w : World} {v : Value} {n : Nat} {f : Nat → Int} (h : PRow w v n f) (h0 : 0 < n) : ∃ b off cap, v = .slice (some ⟨b, off, none⟩) n cap ∧ b < w.heap.size ∧ ∀ i, i < n → w.cell? ⟨b, off + i * 2, none⟩ = some (.int .i64 (f (i * 2))) ∧ w.cell? ⟨b, off + i * 2 + 1, none⟩ = some (.int .i64 (f (i * 2 + 1))) := by
  rcases h with ⟨h1, _⟩ | ⟨_, b, off, cap, hv, hn, hb, hc⟩
  · omega
  · exact ⟨b, off, cap, hv, hb, fun i hi => ⟨hc (i * 2) (by omega), hc (i * 2 + 1) (by omega)⟩⟩
theorem PRow.zero {w : World} {v : Value} {f : Nat → Int} (h : PRow w v 0 f) : ∃ a c, v = .slice a 0 c := by
  rcases h with ⟨_, h1⟩ | ⟨h0, _⟩
  · exact h1
  · omega
theorem PRow.len_le {w : World} {v : Value} {n : Nat} {f : Nat → Int} (h : PRow w v n f) : n ≤ 9223372036854775807 := by
  rcases h with ⟨h1, _⟩ | ⟨_, b, off, cap, _, hn, _⟩
  · omega
  · unfold maxLen at hn; omega
theorem PRow.shape {w : World} {v : Value} {n : Nat} {f : Nat → Int} (h : PRow w v n f) : ∃ a c, v = .slice a n c := by
  rcases h with ⟨rfl, a, c, h1⟩ | ⟨_, b, off, cap, h1, _⟩
  · exact ⟨a, c, h1⟩
  · exact ⟨_, cap, h1⟩
section
open Go.ChangeShapes Go.WideShapes Go.Deep
variable {H : Type} {enc : TypeId × Value → H} {w : World} {base : Nat} {spare : Nat → Bool} {held : Bool}
set_option maxRecDepth 100000 in
theorem open_poles {r : Reach} {b0 : Nat} {v : Value} {d : DataW H} {ps : List MemPlace} (hv : Value.okWide Try.prog w r b0 36 v) (h : DataW.Trod enc Try.prog w base spare held 36 v d ps) : ∃ n f, PRow w v n f := by
  obtain ⟨a0, len, cap, rfl⟩ := okWide_slice Try.underlying36 hv
  obtain ⟨fuel, hf⟩ := h
  rcases open_slice_pairs Try.underlying36 Try.underlying95 (by kernel_rfl) rfl rfl (by kernel_rfl) (by kernel_rfl) hf with ⟨hc, _⟩ | ⟨a, l, c, m, k, V0, V1, D0, D1, P0, P1, hc, _, hl, hm, hmm, _, hall⟩
  · simp [Value.cells] at hc
    obtain ⟨rfl, rfl, rfl⟩ := hc
    exact ⟨0, fun _ => 0, .inl ⟨rfl, _, _, rfl⟩⟩
  · simp [Value.cells] at hc
    obtain ⟨rfl, rfl, rfl⟩ := hc
    have hlm : len ≤ m := by rw [hmm]; split <;> omega
    by_cases h0 : 0 < len
    · have hint : ∀ i, i < m → ∃ x y : Int, V0 i = .int .i64 x ∧ V1 i = .int .i64 y := fun i hi => by
        obtain ⟨_, _, t0, t1⟩ := hall i hi
        obtain ⟨x, hx, _⟩ := DataW.trod_int Try.underlying3 t0
        obtain ⟨y, hy, _⟩ := DataW.trod_int Try.underlying3 t1
        simp at hx hy
        exact ⟨x, y, hx, hy⟩
      have e0 := (hall 0 (by omega)).1
      obtain ⟨b, off, spot⟩ := a
      have hs : spot = none := by
        simp only [Addr.add, Nat.zero_mul] at e0
        simp only [World.cell?] at e0
        cases spot with
        | none => rfl
        | some x => exfalso; split at e0 <;> simp at e0
      subst hs
      have hb : b < w.heap.size := World.block_lt_of_cell? w _ (by simpa [Addr.add] using e0)
      have pick : ∀ i, i < m * 2 → ∃ x : Int, w.cell? ⟨b, off + i, none⟩ = some (.int .i64 x) := fun i hi => by
        have hq : i / 2 < m := by omega
        obtain ⟨c0, c1, _, _⟩ := hall (i / 2) hq
        obtain ⟨x, y, hx, hy⟩ := hint (i / 2) hq
        have ad : ∀ k : Nat, (⟨b, off, none⟩ : Addr).add k = ⟨b, off + k, none⟩ := fun k => by
          unfold Addr.add
          split
          · rename_i hk; subst hk; rfl
          · rfl
        rw [ad, hx] at c0
        rw [ad, hy] at c1
        by_cases he : i % 2 = 0
        · exact ⟨x, by rw [show i = i / 2 * 2 by omega]; exact c0⟩
        · exact ⟨y, by rw [show i = i / 2 * 2 + 1 by omega]; exact c1⟩
      refine ⟨len, fun i => match w.cell? ⟨b, off + i, none⟩ with | some (.int .i64 x) => x | _ => 0, .inr ⟨h0, b, off, cap, rfl, by omega, hb, fun i hi => ?_⟩⟩
      obtain ⟨x, hx⟩ := pick i (by omega)
      simp [hx]
    · obtain rfl : len = 0 := by omega
      exact ⟨0, fun _ => 0, .inl ⟨rfl, _, _, rfl⟩⟩
end

/-- .. in a block of a call's own, from B on -/
def ORow (w : World) (B : Nat) (v : Value) (n : Nat) (f : Nat → Int) : Prop := w.ownsRow B 66 2 v n ((List.range (n * 2)).map fun i => Value.int .i64 (f i))
theorem ORow.keep {w w' : World} {B : Nat} {v : Value} {n : Nat} {f : Nat → Int} (h : ORow w B v n f) (k : Below w.heap.size w w') : ORow w' B v n f :=
  World.ownsRow.kept h (only_of_below k none) (by cases hv : v.ownBlock <;> simp)
theorem ORow.open_ {w : World} {B : Nat} {v : Value} {n : Nat} {f : Nat → Int} (h : ORow w B v n f) :
    (v = .slice none 0 0 ∧ n = 0) ∨ ∃ g cap, v = .slice (some ⟨g, 0, none⟩) n cap ∧ B ≤ g ∧ g < w.heap.size ∧ n ≤ cap ∧ cap ≤ maxLen ∧
      (∀ i, i < n * 2 → w.cell? ⟨g, i, none⟩ = some (.int .i64 (f i))) ∧ ∀ i, w.frozen? ⟨g, i, none⟩ = false := by
  have h' := h
  obtain ⟨_, ⟨rfl, hn⟩ | ⟨g, cap, cur, rfl, hB, hg, hn, hm, hs, ht⟩⟩ := h
  · exact .inl ⟨rfl, hn⟩
  · refine .inr ⟨g, cap, rfl, hB, (Array.getElem?_eq_some_iff.1 hg).1, hn, hm, fun i hi => ?_, fun i => World.ownsRow.frozenAt h' i⟩
    rw [World.ownsRow.cellAt h' i hi]
    simp [hi]
theorem ORow.toP {w : World} {B : Nat} {v : Value} {n : Nat} {f : Nat → Int} (h : ORow w B v n f) : PRow w v n f := by
  rcases h.open_ with ⟨rfl, rfl⟩ | ⟨g, cap, rfl, _, hg, hn, hm, hc, _⟩
  · exact .inl ⟨rfl, _, _, rfl⟩
  · by_cases h0 : 0 < n
    · exact .inr ⟨h0, g, 0, cap, rfl, by omega, hg, fun i hi => by rw [Nat.zero_add]; exact hc i hi⟩
    · obtain rfl : n = 0 := by omega
      exact .inl ⟨rfl, _, _, rfl⟩
theorem ORow.congr {w : World} {B : Nat} {v : Value} {n : Nat} {f g : Nat → Int} (h : ORow w B v n f) (e : ∀ i, i < n * 2 → f i = g i) : ORow w B v n g := by
  unfold ORow at *
  rwa [List.map_congr_left (fun i hi => by rw [e i (List.mem_range.1 hi)])] at h
theorem ORow.stored {w : World} {B g n cap : Nat} {f : Nat → Int} (h : ORow w B (.slice (some ⟨g, 0, none⟩) n cap) n f) (j : Nat) (x : Int) :
    ORow (w.setCell ⟨g, j, none⟩ (.int .i64 x)) B (.slice (some ⟨g, 0, none⟩) n cap) n (fun i => if i = j then x else f i) ∧ w.grownBy (w.setCell ⟨g, j, none⟩ (.int .i64 x)) (some g) := by
  obtain ⟨a, b⟩ := World.ownsRow.stored h j (.int .i64 x)
  refine ⟨?_, b⟩
  unfold ORow
  have e : ((List.range (n * 2)).map fun i => Value.int .i64 (f i)).set j (.int .i64 x) = (List.range (n * 2)).map fun i => Value.int .i64 (if i = j then x else f i) := by
    apply List.ext_getElem?
    intro i
    rw [List.getElem?_set]
    by_cases hi : j = i
    · subst hi
      by_cases hj : j < n * 2 <;> simp [hj]
    · by_cases hj : i < n * 2 <;> simp [hi, hj, Ne.symm hi]
  rw [← e]
  exact a
theorem ORow.made {w : World} {B : Nat} {v : Value} {n : Nat} (h : w.ownsRow B 66 2 v n (madeCells (Value.agg #[.int .i64 0, .int .i64 0]).cells (n * 2)).toList) : ORow w B v n (fun _ => 0) := by
  unfold ORow
  have e : (madeCells (Value.agg #[.int .i64 0, .int .i64 0]).cells (n * 2)).toList = (List.range (n * 2)).map fun _ => Value.int .i64 0 := by
    apply List.ext_getElem?
    intro i
    by_cases hi : i < n * 2
    · have : i % 2 = 0 ∨ i % 2 = 1 := by omega
      rcases this with e | e <;> simp [madeCells, hi, Value.cells, e]
    · simp [madeCells, hi]
  rw [← e]
  exact h

set_option maxHeartbeats 400000 in
theorem szPoleS_any (v : Value) (n : Nat) (f : Nat → Int) (w : World) (h : PRow w v n f) :
    Calls Try.prog 33 #[v, .int .i64 1048576] w fun e w' => e = .returned (.int .i64 (if n ≤ 1048576 then 1048576 - (n : Int) else -1)) ∧ w = w' := by
  have hl := h.len_le
  obtain ⟨a, c, rfl⟩ := h.shape
  by_cases hn : n ≤ 1048576
  · go_enter Try.func33, Try.ntmps33
    go_wp2
    go_ret
    exact ⟨rfl, rfl⟩
  · go_enter Try.func33, Try.ntmps33
    go_wp2
    go_ret
    exact ⟨rfl, rfl⟩

theorem infoP : (Try.prog.info? 66).map (fun i => (i.zero, i.size, i.bytes)) = some (some (.agg #[.int .i64 0, .int .i64 0]), 2, 16) := by kernel_rfl

set_option maxHeartbeats 800000 in
theorem toPoleS_any (v : Value) (n : Nat) (f : Nat → Int) (w : World) (h : PRow w v n f) (hn : n ≤ 1048576) :
    Calls Try.prog 35 #[v] w fun e w' => ∃ u, e = .returned u ∧ ORow w' w.heap.size u n f ∧ Below w.heap.size w w' := by
  obtain ⟨i0, hi, hz0, hz1, hz2⟩ := info_parts infoP
  have hsh := h.shape
  obtain ⟨a, c, hv⟩ := hsh
  obtain ⟨B, hB⟩ : ∃ B, w.heap.size = B := ⟨_, rfl⟩
  have HH := Lib.hid h
  clear h
  subst hv
  rw [hB]
  go_enter Try.func35, Try.ntmps35
  go_wp2_with (at_make; refine wpList_make_full _ rfl _ _ 24 rfl w.heap.size 66 i0 _ 2 Try.underlying24 hi hz0 hz1 .i64 .i64 _ _ n rfl rfl rfl rfl (by rw [hz2]; omega) (by unfold maxLen; omega) (Nat.le_refl _) ?_; intro w1 hown hgrow; have hO := Lib.hid (ORow.made hown); clear hown; have hG := Lib.hid hgrow; clear hgrow)
  have hW : Below B w w1 := by
    exact ⟨hG.out.os, hG.out.tape, hG.out.output, hG.out.size, fun i hi => hG.out.block i (by omega) (by simp)⟩
  (try rw [hB] at hO)
  (try rw [hB])
  have hHB : B ≤ w.heap.size := by omega
  go_loopw [4] (fun i wr => ∃ j : Nat, j ≤ n ∧ i = .int .i64 (j : Int) ∧ ORow wr B (.slice (some ⟨B, 0, none⟩) n n) n (fun i => if i < j * 2 then f i else 0) ∧ Below B w wr) (fun i _ => n - (intOf i).toNat)
  case atStart => exact ⟨0, Nat.zero_le _, rfl, hO.out.congr (fun i _ => by simp), hW⟩
  case round =>
    obtain ⟨j, hj, rfl, hR, hW'⟩ := hrel
    by_cases hlt : j < n
    · have hP : PRow wr (.slice a n c) n f := HH.out.keep (by rw [hB]; exact hW')
      obtain ⟨b, off, cap, hv, hb, hc⟩ := hP.some_ (by omega)
      obtain ⟨c1, c2⟩ := hc j hlt
      have HR := Lib.hid hR
      have HW := Lib.hid hW'
      simp only [Value.slice.injEq, true_and] at hv
      obtain ⟨rfl, rfl⟩ := hv
      have hlt' : (j : Int) < (n : Int) := by omega
      clear hR hW' hc hP
      go_wp2_with fail
      refine (toPole_any _ _ _).mono ?_
      rintro e w2 ⟨rfl, hb2⟩
      have HR2 := Lib.hid (HR.out.keep hb2)
      have HW2 := Lib.hid (HW.out.trans (hb2.mono (Nat.le_trans hHB HW.out.size)))
      rcases HR2.out.open_ with ⟨he, _⟩ | ⟨g, cap, he, hBg, hg, _, _, hcc, hff⟩
      · cases he
      simp only [Value.slice.injEq, Option.some.injEq, Addr.mk.injEq, and_true, true_and] at he
      obtain ⟨rfl, rfl⟩ := he
      have d1 := hcc (j * 2) (by omega)
      have d2 := hcc (j * 2 + 1) (by omega)
      have f1 := hff (j * 2)
      have f2 := hff (j * 2 + 1)
      clear hcc hff
      go_wp2
      have s1 := HR2.out.stored (j * 2) (f (j * 2))
      have s2 := s1.1.stored (j * 2 + 1) (f (j * 2 + 1))
      refine ⟨⟨j + 1, by omega, by go_num, s2.1.congr (fun i hi => ?_), (HW2.out.setCell (p := ⟨B, j * 2, none⟩) (Nat.le_refl _) _).setCell (p := ⟨B, j * 2 + 1, none⟩) (Nat.le_refl _) _⟩, by simp only [intOf]; omega⟩
      by_cases e1 : i = j * 2 + 1
      · rw [if_pos e1, if_pos (show i < (j + 1) * 2 by omega), e1]
      · by_cases e2 : i = j * 2
        · rw [if_neg e1, if_pos e2, if_pos (show i < (j + 1) * 2 by omega), e2]
        · by_cases e3 : i < j * 2
          · rw [if_neg e1, if_neg e2, if_pos e3, if_pos (show i < (j + 1) * 2 by omega)]
          · rw [if_neg e1, if_neg e2, if_neg e3, if_neg (show ¬ i < (j + 1) * 2 by omega)]
    · obtain rfl : j = n := by omega
      have HR := Lib.hid (hR.congr (g := f) (fun i hi => by simp [hi]))
      have HW := Lib.hid hW'
      clear hR hW'
      go_wp2
      go_ret
      exact ⟨_, rfl, HR.out, HW.out⟩

set_option maxHeartbeats 400000 in
theorem eqPole_any (a b : Int) (w : World) :
    Calls Try.prog 61 #[.agg #[.int .i64 a, .int .i64 b], .agg #[.int .i64 a, .int .i64 b]] w fun e w' => e = .returned (.bool true) ∧ Below w.heap.size w w' := by
  go_enter Try.func61, Try.ntmps61
  go_wp2
  go_ret
  exact ⟨rfl, (by repeat (first | exact Below.refl _ _ | refine bl_alloc ?_ _ | refine bl_drewN ?_ _ | refine bl_trans (by assumption) ?_ | refine bl_set ?_ (by first | omega | (simp; done) | (simp; omega)) _))⟩

theorem EQ_after {u v w : World} {b1 b2 o1 o2 o3 o4 : Nat} {x1 x2 x3 x4 : Value} (hb : Below u.heap.size u v)
    (h : u.cell? ⟨b1, o1, none⟩ = some x1 ∧ u.cell? ⟨b1, o2, none⟩ = some x2 ∧ u.cell? ⟨b2, o3, none⟩ = some x3 ∧ u.cell? ⟨b2, o4, none⟩ = some x4 ∧ b1 < u.heap.size ∧ b2 < u.heap.size ∧ Below w.heap.size w u) :
    v.cell? ⟨b1, o1, none⟩ = some x1 ∧ v.cell? ⟨b1, o2, none⟩ = some x2 ∧ v.cell? ⟨b2, o3, none⟩ = some x3 ∧ v.cell? ⟨b2, o4, none⟩ = some x4 ∧ b1 < v.heap.size ∧ b2 < v.heap.size ∧ Below w.heap.size w v := by
  obtain ⟨h1, h2, h3, h4, h5, h6, h7⟩ := h
  refine ⟨?_, ?_, ?_, ?_, Nat.lt_of_lt_of_le h5 hb.size, Nat.lt_of_lt_of_le h6 hb.size, bl_trans hb h7⟩
  all_goals (first | rw [(bcell hb).1 _ _ h5] | rw [(bcell hb).1 _ _ h6]) <;> assumption

set_option maxHeartbeats 800000 in
theorem eqPoleS_any (v u : Value) (n : Nat) (f : Nat → Int) (w : World) (h1 : PRow w v n f) (h2 : PRow w u n f) :
    Calls Try.prog 28 #[v, u] w fun e w' => e = .returned (.bool true) ∧ Below w.heap.size w w' := by
  have hl := h1.len_le
  by_cases h0 : 0 < n
  · have H1 := Lib.hid h1
    have H2 := Lib.hid h2
    obtain ⟨b1, o1, c1, hv1, _⟩ := h1.some_ h0
    obtain ⟨b2, o2, c2, hv2, _⟩ := h2.some_ h0
    clear h1 h2
    subst hv1
    subst hv2
    go_enter Try.func28, Try.ntmps28
    go_wp2
    go_loopw [5] (fun i wr => ∃ j : Nat, j ≤ n ∧ i = .int .i64 (j : Int) ∧ Below w.heap.size w wr) (fun i _ => n - (intOf i).toNat)
    case atStart => exact ⟨0, Nat.zero_le _, rfl, Below.refl _ _⟩
    case round =>
      obtain ⟨j, hj, rfl, hW⟩ := hrel
      by_cases hlt : j < n
      · obtain ⟨b1', o1', c1', hv1, hb1, g1⟩ := (H1.out.keep hW).some_ h0
        obtain ⟨b2', o2', c2', hv2, hb2, g2⟩ := (H2.out.keep hW).some_ h0
        simp only [Value.slice.injEq, Option.some.injEq, Addr.mk.injEq, and_true, true_and] at hv1 hv2
        obtain ⟨⟨rfl, rfl⟩, rfl⟩ := hv1
        obtain ⟨⟨rfl, rfl⟩, rfl⟩ := hv2
        obtain ⟨p1, p2⟩ := g1 j hlt
        obtain ⟨q1, q2⟩ := g2 j hlt
        have hS := And.intro p1 (And.intro p2 (And.intro q1 (And.intro q2 (And.intro hb1 (And.intro hb2 hW)))))
        have hlt' : (j : Int) < (n : Int) := by omega
        clear g1 g2 hW
        go_wp2_with fail
        go_region_held3 (fun w' => w'.cell? ⟨b1, o1 + j * 2, none⟩ = some (.int .i64 (f (j * 2))) ∧ w'.cell? ⟨b1, o1 + j * 2 + 1, none⟩ = some (.int .i64 (f (j * 2 + 1))) ∧ w'.cell? ⟨b2, o2 + j * 2, none⟩ = some (.int .i64 (f (j * 2))) ∧ w'.cell? ⟨b2, o2 + j * 2 + 1, none⟩ = some (.int .i64 (f (j * 2 + 1))) ∧ b1 < w'.heap.size ∧ b2 < w'.heap.size ∧ Below w.heap.size w w') (first | exact EQ_after hb3 (by assumption) | exact EQ_after (below_drewN (Below.refl _ _) _) (by assumption) | exact EQ_after (Below.drew (Below.refl _ _)) (by assumption) | assumption) (first | (go_at_call 61; refine (eqPole_any _ _ _).mono ?_; rintro e w3 ⟨rfl, hb3⟩) | fail)
        go_wp2
        go_roundw
        case rel => rename_i hh; exact ⟨j + 1, by omega, by go_num, hh.2.2.2.2.2.2⟩
        case measure => simp only [intOf]; omega
      · obtain rfl : j = n := by omega
        go_wp2
        go_ret
        exact ⟨rfl, hW⟩
  · obtain rfl : n = 0 := by omega
    obtain ⟨a, c, rfl⟩ := h1.zero
    obtain ⟨a', c', rfl⟩ := h2.zero
    clear h1 h2
    go_enter Try.func28, Try.ntmps28
    go_wp2
    go_loopw [5] (fun i wr => i = .int .i64 0 ∧ wr = w) (fun i _ => 0)
    case atStart => exact ⟨rfl, rfl⟩
    case round =>
      obtain ⟨rfl, rfl⟩ := hrel
      go_wp2
      go_ret
      exact ⟨rfl, Below.refl _ _⟩
end Go.Proofs.Ytahcfjpplkemdaa
