/- TablesFor; slices of tables. -/
import Derived.Test.YtnhjiipkekblfaaB1
import Derived.Test.YtnhjiipkekblfaaR1
import Derived.OwnWalk
import Derived.Deep.RegionHeld3
namespace Go.Proofs.Ytnhjiipkekblfaa
open Go.RowKit
set_option linter.unusedVariables false
set_option linter.unusedSimpArgs false
theorem bl_drewN_any {B : Nat} {w u : World} (h : Below B w u) (n : Nat) : Below B w (u.drewN n) := below_drewN h n
/-- 'v' is a slice of n tables whose numbers, one behind the other, are f 0, f 1, .. -/
def PRow (w : World) (v : Value) (n : Nat) (f : Nat → Int) : Prop :=
  (n = 0 ∧ ∃ a c, v = .slice a 0 c) ∨ (0 < n ∧ ∃ b off cap, v = .slice (some ⟨b, off, none⟩) n cap ∧ n ≤ maxLen ∧ b < w.heap.size ∧ ∀ i, i < n * 2 → w.cell? ⟨b, off + i, none⟩ = some (.int .i64 (f i)))
theorem PRow.keep {w w' : World} {v : Value} {n : Nat} {f : Nat → Int} (h : PRow w v n f) (k : Below w.heap.size w w') : PRow w' v n f := by
  rcases h with h | ⟨h0, b, off, cap, hv, hn, hb, hc⟩
  · exact .inl h
  · exact .inr ⟨h0, b, off, cap, hv, hn, Nat.lt_of_lt_of_le hb k.size, fun i hi => by rw [(bcell k).1 _ _ hb]; exact hc i hi⟩
theorem PRow.drewN {w : World} {v : Value} {n : Nat} {f : Nat → Int} (h : PRow w v n f) (m : Nat) : PRow (w.drewN m) v n f := h
theorem PRow.some_ {w : World} {v : Value} {n : Nat} {f : Nat → Int} (h : PRow w v n f) (h0 : 0 < n) : ∃ b off cap, v = .slice (some ⟨b, off, none⟩) n cap ∧ b < w.heap.size ∧ ∀ i, i < n → w.cell? ⟨b, off + i * 2, none⟩ = some (.int .i64 (f (i * 2))) ∧ w.cell? ⟨b, off + i * 2 + 1, none⟩ = some (.int .i64 (f (i * 2 + 1))) := by
  rcases h with ⟨h1, _⟩ | ⟨_, b, off, cap, hv, hn, hb, hc⟩
  · omega
  · exact ⟨b, off, cap, hv, hb, fun i hi => ⟨hc (i * 2) (by omega), hc (i * 2 + 1) (by omega)⟩⟩
theorem PRow.zero {w : World} {v : Value} {f : Nat → Int} (h : PRow w v 0 f) : ∃ a c, v = .slice a 0 c := by
  rcases h with ⟨_, h1⟩ | ⟨h0, _⟩
  · exact h1
  · omega
theorem PRow.len_le {w : World} {v : Value} {n : Nat} {f : Nat → Int} (h : PRow w v n f) : n ≤ 9223372036854775807 := by
  rcases h with ⟨h1, _⟩ | ⟨_, b, off, cap, _, hn, _⟩
  · omega
  · unfold maxLen at hn; omega
theorem PRow.shape {w : World} {v : Value} {n : Nat} {f : Nat → Int} (h : PRow w v n f) : ∃ a c, v = .slice a n c := by
  rcases h with ⟨rfl, a, c, h1⟩ | ⟨_, b, off, cap, h1, _⟩
  · exact ⟨a, c, h1⟩
  · exact ⟨_, cap, h1⟩
/-- .. in a block of a call's own, from B on -/
def ORow (w : World) (B : Nat) (v : Value) (n : Nat) (f : Nat → Int) : Prop := w.ownsRow B 25 2 v n ((List.range (n * 2)).map fun i => Value.int .i64 (f i))
theorem ORow.keep {w w' : World} {B : Nat} {v : Value} {n : Nat} {f : Nat → Int} (h : ORow w B v n f) (k : Below w.heap.size w w') : ORow w' B v n f :=
  World.ownsRow.kept h (only_of_below k none) (by cases hv : v.ownBlock <;> simp)
theorem ORow.open_ {w : World} {B : Nat} {v : Value} {n : Nat} {f : Nat → Int} (h : ORow w B v n f) :
    (v = .slice none 0 0 ∧ n = 0) ∨ ∃ g cap, v = .slice (some ⟨g, 0, none⟩) n cap ∧ B ≤ g ∧ g < w.heap.size ∧ n ≤ cap ∧ cap ≤ maxLen ∧
      (∀ i, i < n * 2 → w.cell? ⟨g, i, none⟩ = some (.int .i64 (f i))) ∧ ∀ i, w.frozen? ⟨g, i, none⟩ = false := by
  have h' := h
  obtain ⟨_, ⟨rfl, hn⟩ | ⟨g, cap, cur, rfl, hB, hg, hn, hm, hs, ht⟩⟩ := h
  · exact .inl ⟨rfl, hn⟩
  · refine .inr ⟨g, cap, rfl, hB, (Array.getElem?_eq_some_iff.1 hg).1, hn, hm, fun i hi => ?_, fun i => World.ownsRow.frozenAt h' i⟩
    rw [World.ownsRow.cellAt h' i hi]
    simp [hi]
theorem ORow.toP {w : World} {B : Nat} {v : Value} {n : Nat} {f : Nat → Int} (h : ORow w B v n f) : PRow w v n f := by
  rcases h.open_ with ⟨rfl, rfl⟩ | ⟨g, cap, rfl, _, hg, hn, hm, hc, _⟩
  · exact .inl ⟨rfl, _, _, rfl⟩
  · by_cases h0 : 0 < n
    · exact .inr ⟨h0, g, 0, cap, rfl, by omega, hg, fun i hi => by rw [Nat.zero_add]; exact hc i hi⟩
    · obtain rfl : n = 0 := by omega
      exact .inl ⟨rfl, _, _, rfl⟩
theorem ORow.congr {w : World} {B : Nat} {v : Value} {n : Nat} {f g : Nat → Int} (h : ORow w B v n f) (e : ∀ i, i < n * 2 → f i = g i) : ORow w B v n g := by
  unfold ORow at *
  rwa [List.map_congr_left (fun i hi => by rw [e i (List.mem_range.1 hi)])] at h
theorem ORow.stored {w : World} {B g n cap : Nat} {f : Nat → Int} (h : ORow w B (.slice (some ⟨g, 0, none⟩) n cap) n f) (j : Nat) (x : Int) :
    ORow (w.setCell ⟨g, j, none⟩ (.int .i64 x)) B (.slice (some ⟨g, 0, none⟩) n cap) n (fun i => if i = j then x else f i) ∧ w.grownBy (w.setCell ⟨g, j, none⟩ (.int .i64 x)) (some g) := by
  obtain ⟨a, b⟩ := World.ownsRow.stored h j (.int .i64 x)
  refine ⟨?_, b⟩
  unfold ORow
  have e : ((List.range (n * 2)).map fun i => Value.int .i64 (f i)).set j (.int .i64 x) = (List.range (n * 2)).map fun i => Value.int .i64 (if i = j then x else f i) := by
    apply List.ext_getElem?
    intro i
    rw [List.getElem?_set]
    by_cases hi : j = i
    · subst hi
      by_cases hj : j < n * 2 <;> simp [hj]
    · by_cases hj : i < n * 2 <;> simp [hi, hj, Ne.symm hi]
  rw [← e]
  exact a
theorem EQ_after {u v w : World} {b1 b2 o1 o2 o3 o4 : Nat} {x1 x2 x3 x4 : Value} (hb : Below u.heap.size u v)
    (h : u.cell? ⟨b1, o1, none⟩ = some x1 ∧ u.cell? ⟨b1, o2, none⟩ = some x2 ∧ u.cell? ⟨b2, o3, none⟩ = some x3 ∧ u.cell? ⟨b2, o4, none⟩ = some x4 ∧ b1 < u.heap.size ∧ b2 < u.heap.size ∧ Below w.heap.size w u) :
    v.cell? ⟨b1, o1, none⟩ = some x1 ∧ v.cell? ⟨b1, o2, none⟩ = some x2 ∧ v.cell? ⟨b2, o3, none⟩ = some x3 ∧ v.cell? ⟨b2, o4, none⟩ = some x4 ∧ b1 < v.heap.size ∧ b2 < v.heap.size ∧ Below w.heap.size w v := by
  obtain ⟨h1, h2, h3, h4, h5, h6, h7⟩ := h
  refine ⟨?_, ?_, ?_, ?_, Nat.lt_of_lt_of_le h5 hb.size, Nat.lt_of_lt_of_le h6 hb.size, bl_trans hb h7⟩
  all_goals (first | rw [(bcell hb).1 _ _ h5] | rw [(bcell hb).1 _ _ h6]) <;> assumption

set_option maxHeartbeats 800000 in
theorem eqTableS_any (v u : Value) (n : Nat) (f : Nat → Int) (w : World) (h1 : PRow w v n f) (h2 : PRow w u n f) :
    Calls Try.prog 59 #[v, u] w fun e w' => e = .returned (.bool true) ∧ Below w.heap.size w w' := by
  have hl := h1.len_le
  by_cases h0 : 0 < n
  · have H1 := Lib.hid h1
    have H2 := Lib.hid h2
    obtain ⟨b1, o1, c1, hv1, _⟩ := h1.some_ h0
    obtain ⟨b2, o2, c2, hv2, _⟩ := h2.some_ h0
    clear h1 h2
    subst hv1
    subst hv2
    go_enter Try.func59, Try.ntmps59
    go_wp2
    go_loopw [5] (fun i wr => ∃ j : Nat, j ≤ n ∧ i = .int .i64 (j : Int) ∧ Below w.heap.size w wr) (fun i _ => n - (intOf i).toNat)
    case atStart => exact ⟨0, Nat.zero_le _, rfl, Below.refl _ _⟩
    case round =>
      obtain ⟨j, hj, rfl, hW⟩ := hrel
      by_cases hlt : j < n
      · obtain ⟨b1', o1', c1', hv1, hb1, g1⟩ := (H1.out.keep hW).some_ h0
        obtain ⟨b2', o2', c2', hv2, hb2, g2⟩ := (H2.out.keep hW).some_ h0
        simp only [Value.slice.injEq, Option.some.injEq, Addr.mk.injEq, and_true, true_and] at hv1 hv2
        obtain ⟨⟨rfl, rfl⟩, rfl⟩ := hv1
        obtain ⟨⟨rfl, rfl⟩, rfl⟩ := hv2
        obtain ⟨p1, p2⟩ := g1 j hlt
        obtain ⟨q1, q2⟩ := g2 j hlt
        have hS := And.intro p1 (And.intro p2 (And.intro q1 (And.intro q2 (And.intro hb1 (And.intro hb2 hW)))))
        have hlt' : (j : Int) < (n : Int) := by omega
        clear g1 g2 hW
        go_wp2_with fail
        go_region_held3 (fun w' => w'.cell? ⟨b1, o1 + j * 2, none⟩ = some (.int .i64 (f (j * 2))) ∧ w'.cell? ⟨b1, o1 + j * 2 + 1, none⟩ = some (.int .i64 (f (j * 2 + 1))) ∧ w'.cell? ⟨b2, o2 + j * 2, none⟩ = some (.int .i64 (f (j * 2))) ∧ w'.cell? ⟨b2, o2 + j * 2 + 1, none⟩ = some (.int .i64 (f (j * 2 + 1))) ∧ b1 < w'.heap.size ∧ b2 < w'.heap.size ∧ Below w.heap.size w w') (first | exact EQ_after hb3 (by assumption) | exact EQ_after (below_drewN (Below.refl _ _) _) (by assumption) | exact EQ_after (Below.drew (Below.refl _ _)) (by assumption) | assumption) (first | (go_at_call 95; refine (eqTable_any _ _ _).mono ?_; rintro e w3 ⟨rfl, hb3⟩) | fail)
        go_wp2
        go_roundw
        case rel => rename_i hh; exact ⟨j + 1, by omega, by go_num, hh.2.2.2.2.2.2⟩
        case measure => simp only [intOf]; omega
      · obtain rfl : j = n := by omega
        go_wp2
        go_ret
        exact ⟨rfl, hW⟩
  · obtain rfl : n = 0 := by omega
    obtain ⟨a, c, rfl⟩ := h1.zero
    obtain ⟨a', c', rfl⟩ := h2.zero
    clear h1 h2
    go_enter Try.func59, Try.ntmps59
    go_wp2
    go_loopw [5] (fun i wr => i = .int .i64 0 ∧ wr = w) (fun i _ => 0)
    case atStart => exact ⟨rfl, rfl⟩
    case round =>
      obtain ⟨rfl, rfl⟩ := hrel
      go_wp2
      go_ret
      exact ⟨rfl, Below.refl _ _⟩
def mixP (k : Int) (f : Nat → Int) (j : Nat) : Nat → Int := fun i => if i < j then k + (i : Int) else f i
set_option maxHeartbeats 800000 in
theorem markTableS_any (v : Value) (k : Int) (n : Nat) (f : Nat → Int) (B : Nat) (w : World) (h : ORow w B v n f) (k0 : 0 ≤ k) (k1 : k + n * 2 ≤ 4611686018427387904) :
    Calls Try.prog 60 #[v, .int .i64 k] w fun e w' => e = .returned (.int .i64 (k + (n : Int) * 2)) ∧ ORow w' B v n (fun i => k + (i : Int)) ∧ w.grownBy w' v.ownBlock ∧ w'.heap.size = w.heap.size := by
  have hl := h.toP.len_le
  rcases h.open_ with ⟨rfl, rfl⟩ | ⟨g, cap, rfl, hB, hg, hnc, hm, hc, hf⟩
  · have HH := Lib.hid h
    clear h
    go_enter Try.func60, Try.ntmps60
    go_wp2
    go_loopw [1, 5] (fun c i wr => c = .int .i64 k ∧ i = .int .i64 0 ∧ wr = w) (fun _ _ _ => 0)
    case atStart => exact ⟨rfl, rfl, rfl⟩
    case round =>
      obtain ⟨rfl, rfl, rfl⟩ := hrel
      go_wp2
      go_ret
      exact ⟨by simp, HH.out.congr (fun i hi => absurd hi (by omega)), grown_refl' _ _, rfl⟩
  · have HH := Lib.hid h
    clear h hc hf
    go_enter Try.func60, Try.ntmps60
    go_wp2
    go_loopw [1, 5] (fun c i wr => ∃ j : Nat, j ≤ n ∧ c = .int .i64 (k + (j : Int) * 2) ∧ i = .int .i64 j ∧ ORow wr B (.slice (some ⟨g, 0, none⟩) n cap) n (mixP k f (j * 2)) ∧ w.grownBy wr (some g) ∧ wr.heap.size = w.heap.size) (fun _ i _ => n - (intOf i).toNat)
    case atStart => exact ⟨0, Nat.zero_le _, by simp, rfl, HH.out.congr (fun i _ => by simp [mixP]), grown_refl' _ _, rfl⟩
    case round =>
      obtain ⟨j, hj, rfl, rfl, hO, hG, hS⟩ := hrel
      by_cases hlt : j < n
      · rcases hO.open_ with ⟨he, _⟩ | ⟨g', cap', he, _, hg', _, _, hcc, hff⟩
        · cases he
        simp only [Value.slice.injEq, Option.some.injEq, Addr.mk.injEq, and_true, true_and] at he
        obtain ⟨rfl, rfl⟩ := he
        have d1 := hcc (j * 2) (by omega)
        have d2 := hcc (j * 2 + 1) (by omega)
        have f1 := hff (j * 2)
        have f2 := hff (j * 2 + 1)
        have s1 := hO.stored (j * 2) (k + (j : Int) * 2)
        have s2 := s1.1.stored (j * 2 + 1) (k + (j : Int) * 2 + 1)
        have S1 := Lib.hid s2.1
        have S2 := Lib.hid (grown_trans' hG (grown_trans' s1.2 s2.2))
        have HS := Lib.hid hS
        have hlt' : (j : Int) < (n : Int) := by omega
        clear hcc hff hO hG hS s1 s2
        go_wp2
        go_roundw
        case rel =>
          refine ⟨j + 1, by omega, by go_num, by go_num, S1.out.congr (fun i hi => ?_), S2.out, by simp [World.setCell, HS.out]⟩
          unfold mixP
          by_cases e1 : i = j * 2 + 1
          · rw [if_pos e1, if_pos (show i < (j + 1) * 2 by omega), e1]; push_cast; omega
          · by_cases e2 : i = j * 2
            · rw [if_neg e1, if_pos e2, if_pos (show i < (j + 1) * 2 by omega), e2]; push_cast; omega
            · by_cases e3 : i < j * 2
              · rw [if_neg e1, if_neg e2, if_pos e3, if_pos (show i < (j + 1) * 2 by omega)]
              · rw [if_neg e1, if_neg e2, if_neg e3, if_neg (show ¬ i < (j + 1) * 2 by omega)]
        case measure => simp only [intOf]; omega
      · obtain rfl : j = n := by omega
        have HO := Lib.hid hO
        have HG := Lib.hid hG
        have HS := Lib.hid hS
        clear hO hG hS
        go_wp2
        go_ret
        exact ⟨rfl, HO.out.congr (fun i hi => by simp [mixP, hi]), HG.out, HS.out⟩

set_option maxHeartbeats 800000 in
theorem heldTableS_any (v : Value) (k : Int) (n : Nat) (w : World) (h : PRow w v n (fun i => k + (i : Int))) (k0 : 0 ≤ k) (k1 : k + n * 2 ≤ 4611686018427387904) :
    Calls Try.prog 61 #[v, .int .i64 k] w fun e w' => e = .returned (.int .i64 (k + (n : Int) * 2)) ∧ ∃ m, w' = w.drewN m := by
  have hl := h.len_le
  by_cases h0 : 0 < n
  · obtain ⟨b, off, cap, rfl, hb, hc⟩ := h.some_ h0
    have HC := Lib.hid hc
    clear h hc
    go_enter Try.func61, Try.ntmps61
    go_wp2
    go_loopw [1, 5] (fun c i wr => ∃ j m : Nat, j ≤ n ∧ c = .int .i64 (k + (j : Int) * 2) ∧ i = .int .i64 j ∧ wr = w.drewN m) (fun _ i _ => n - (intOf i).toNat)
    case atStart => exact ⟨0, 0, Nat.zero_le _, by simp, rfl, rfl⟩
    case round =>
      obtain ⟨j, m, hj, rfl, rfl, rfl⟩ := hrel
      by_cases hlt : j < n
      · obtain ⟨d1, d2⟩ := HC.out j hlt
        have d1 : w.cell? ⟨b, off + j * 2, none⟩ = some (.int .i64 (k + (j : Int) * 2)) := by rw [d1]; push_cast; rfl
        have d2 : w.cell? ⟨b, off + j * 2 + 1, none⟩ = some (.int .i64 (k + (j : Int) * 2 + 1)) := by rw [d2]; push_cast; rw [Int.add_assoc]
        have hlt' : (j : Int) < (n : Int) := by omega
        go_wp2
        go_roundw
        case rel => exact ⟨j + 1, m, by omega, by go_num, by go_num, rfl⟩
        case measure => simp only [intOf]; omega
      · obtain rfl : j = n := by omega
        go_wp2
        go_ret
        exact ⟨rfl, m, rfl⟩
  · obtain rfl : n = 0 := by omega
    obtain ⟨a, c, rfl⟩ := h.zero
    clear h
    go_enter Try.func61, Try.ntmps61
    go_wp2
    go_loopw [1, 5] (fun c i wr => c = .int .i64 k ∧ i = .int .i64 0 ∧ wr = w) (fun _ _ _ => 0)
    case atStart => exact ⟨rfl, rfl, rfl⟩
    case round =>
      obtain ⟨rfl, rfl, rfl⟩ := hrel
      go_wp2
      go_ret
      exact ⟨by simp, 0, rfl⟩

def flatP (ps : List (Int × Int)) (i : Nat) : Int := if i % 2 = 0 then (ps.getD (i / 2) (0, 0)).1 else (ps.getD (i / 2) (0, 0)).2
/-- a call's own slice of tables -/
def TRow (w : World) (C : Nat) (v : Value) (ps : List (Int × Int)) : Prop := ORow w C v ps.length (flatP ps)
theorem TRow.keep {w w' : World} {C : Nat} {v : Value} {ps : List (Int × Int)} (h : TRow w C v ps) (k : Below w.heap.size w w') : TRow w' C v ps := ORow.keep h k
theorem TRow.nil (w : World) (C : Nat) : TRow w C (.slice none 0 0) [] := World.ownsRow_nil w C _ 2
theorem TRow.push {W w1 : World} {C : Nat} {v v' : Value} {ps : List (Int × Int)} {x y : Int} {o : Obj} (hC : C ≤ W.heap.size) (h : TRow W C v ps)
    (hO : w1.ownsRow C 25 2 v' (ps.length + 1) ((List.range (ps.length * 2)).map (fun i => Value.int .i64 (flatP ps i)) ++ [.int .i64 x, .int .i64 y])) (hg : (W.alloc o).grownBy w1 v.ownBlock) : TRow w1 C v' (ps ++ [(x, y)]) ∧ Below C W w1 := by
  refine ⟨?_, ((Below.refl C W).alloc hC o).grown hg (by simp; omega) fun g e => (World.ownsRow.lt h g e).1⟩
  unfold TRow ORow
  have e : (List.range ((ps ++ [(x, y)]).length * 2)).map (fun i => Value.int .i64 (flatP (ps ++ [(x, y)]) i)) = (List.range (ps.length * 2)).map (fun i => Value.int .i64 (flatP ps i)) ++ [.int .i64 x, .int .i64 y] := by
    rw [List.length_append, List.length_singleton, show (ps.length + 1) * 2 = ps.length * 2 + 1 + 1 by omega, List.range_succ, List.range_succ, List.map_append, List.map_append]
    simp only [List.map_cons, List.map_nil, List.append_assoc, List.cons_append, List.nil_append]
    congr 1
    · apply List.map_congr_left
      intro i hi
      have hi := List.mem_range.1 hi
      have hd : i / 2 < ps.length := by omega
      unfold flatP
      simp [List.getD, List.getElem?_append_left hd]
    · have e1 : flatP (ps ++ [(x, y)]) (ps.length * 2) = x := by
        unfold flatP
        rw [if_pos (by omega), show ps.length * 2 / 2 = ps.length by omega]
        simp [List.getD]
      have e2 : flatP (ps ++ [(x, y)]) (ps.length * 2 + 1) = y := by
        unfold flatP
        rw [if_neg (by omega), show (ps.length * 2 + 1) / 2 = ps.length by omega]
        simp [List.getD]
      rw [e1, e2]
  rw [e]
  simpa using hO
def good (b w : Nat) : Bool := decide (Nat.gcd w (b + 2 - w) = 1) && decide (b + 2 - w ≤ 60)
def tbs (b : Nat) : Nat → List (Int × Int)
  | 0 => []
  | k + 1 => tbs b k ++ (if good b (k + 1) then [((k : Int) + 1, (b : Int) + 2 - ((k : Int) + 1))] else [])
theorem tbs_len (b k : Nat) : (tbs b k).length ≤ k := by
  induction k with
  | zero => simp [tbs]
  | succ k ih => simp only [tbs]; split <;> simp <;> omega
theorem tbs_yes {b k : Nat} (h : good b (k + 1) = true) : tbs b (k + 1) = tbs b k ++ [((k : Int) + 1, (b : Int) + 2 - ((k : Int) + 1))] := by simp [tbs, h]
theorem tbs_no {b k : Nat} (h : good b (k + 1) = false) : tbs b (k + 1) = tbs b k := by simp [tbs, h]
def tfZ (n : Int) : List (Int × Int) := if within n 0 100 then tbs n.toNat ((n.toNat + 2) / 2) else []
theorem tfZ_len (n : Int) : (tfZ n).length ≤ 51 := by
  unfold tfZ
  cases h : within n 0 100
  · simp
  · obtain ⟨h1, h2⟩ := within_true h
    have := tbs_len n.toNat ((n.toNat + 2) / 2)
    simp only [if_true]; omega
theorem infoT : (Try.prog.info? 25).map (fun i => (i.zero, i.size, i.bytes)) = some (some (.agg #[.int .i64 0, .int .i64 0]), 2, 16) := by kernel_rfl
theorem cells2 (w : World) (x y : Value) (T n : Nat) (hn : n = w.heap.size) : ∀ j q, [x, y][j]? = some q → (w.alloc (.cells #[x, y] T)).cell? ((⟨n, 0, none⟩ : Addr).add j) = some q := by
  intro j q hj
  subst hn
  match j, hj with
  | 0, hj => simp at hj; subst hj; simp [Addr.add]
  | 1, hj => simp at hj; subst hj; simp [Addr.add]
theorem gcd_nat (k b : Nat) (hk : 2 * (k + 1) ≤ b + 2) (hb : b ≤ 100) (w : World) :
    Calls Try.prog 92 #[.int .i64 ((k : Int) + 1), .int .i64 ((b : Int) + 2 - ((k : Int) + 1))] w fun e w' => e = .returned (.int .i64 ((Nat.gcd (k + 1) (b + 2 - (k + 1)) : Nat) : Int)) ∧ ∃ n, w' = w.drewN n := by
  have h := gd_nat (k + 1) (b + 2 - (k + 1)) (by omega) (by omega) w
  rw [show ((k + 1 : Nat) : Int) = (k : Int) + 1 by omega, show ((b + 2 - (k + 1) : Nat) : Int) = (b : Int) + 2 - ((k : Int) + 1) by omega] at h
  exact h
theorem low_nat (k b : Nat) (hk : 2 * (k + 1) ≤ b + 2) (hb : b ≤ 100) (w : World) :
    Calls Try.prog 94 #[.int .i64 ((k : Int) + 1), .int .i64 ((b : Int) + 2 - ((k : Int) + 1))] w fun e w' => e = .returned (.tuple #[.int .i64 (((k + 1) / Nat.gcd (k + 1) (b + 2 - (k + 1)) : Nat) : Int), .int .i64 (((b + 2 - (k + 1)) / Nat.gcd (k + 1) (b + 2 - (k + 1)) : Nat) : Int)]) ∧ ∃ n, w' = w.drewN n := by
  have h := clLow_any ((k + 1 : Nat) : Int) ((b + 2 - (k + 1) : Nat) : Int) (by omega) (by omega) (by omega) (by omega) w
  rw [ln_nat, ld_nat, show ((k + 1 : Nat) : Int) = (k : Int) + 1 by omega, show ((b + 2 - (k + 1) : Nat) : Int) = (b : Int) + 2 - ((k : Int) + 1) by omega] at h
  exact h
theorem div_one {w g : Nat} (hw : 1 ≤ w) (hg : 1 ≤ g) (hd : g ∣ w) : (((w / g : Nat) : Int) == (w : Int)) = decide (g = 1) := by
  rw [Bool.eq_iff_iff]
  simp only [beq_iff_eq, decide_eq_true_eq]
  constructor
  · intro h
    have h' : w / g = w := by omega
    have := Nat.div_mul_cancel hd
    rw [h'] at this
    by_cases c : g = 1
    · exact c
    · have : w * 2 ≤ w * g := Nat.mul_le_mul_left _ (by omega)
      omega
  · rintro rfl; simp
set_option maxHeartbeats 2000000 in
theorem spec_TablesFor (n : Int) (w : World) :
    Calls Try.prog 57 #[.int .i64 n] w fun e w' => ∃ v, e = .returned (.tuple #[v, .bool (within n 0 100)]) ∧ TRow w' w.heap.size v (tfZ n) ∧ Below w.heap.size w w' := by
  cases h : within n 0 100
  · go_enter Try.func57, Try.ntmps57
    go_wp2_with (go_at_call 93; refine (l1In_any _ _ _ _).mono ?_; rintro e w' ⟨rfl, rfl⟩)
    go_ret2
    exact ⟨_, rfl, by simp only [tfZ, h]; exact TRow.nil _ _, Below.refl _ _⟩
  obtain ⟨h1, h2⟩ := within_true h
  obtain ⟨b, rfl⟩ := Int.eq_ofNat_of_zero_le h1
  have HP := Lib.hid (show tfZ (b : Int) = tbs b ((b + 2) / 2) by simp [tfZ, h])
  go_enter Try.func57, Try.ntmps57
  go_wp2_with (go_at_call 93; refine (l1In_any _ _ _ _).mono ?_; rintro e w' ⟨rfl, rfl⟩)
  go_loopw [4, 5] (fun v kk wr => ∃ k : Nat, k ≤ (b + 2) / 2 ∧ kk = .int .i64 ((k : Int) + 1) ∧ TRow wr w.heap.size v (tbs b k) ∧ Below w.heap.size w wr) (fun _ kk _ => (b + 3 - (intOf kk)).toNat)
  case atStart => exact ⟨0, Nat.zero_le _, rfl, TRow.nil _ _, Below.refl _ _⟩
  case round =>
    obtain ⟨k, hk, rfl, hT, hb⟩ := hrel
    by_cases hlt : 2 * (k + 1) ≤ b + 2
    · have hlt' : 2 * ((k : Int) + 1) ≤ (b : Int) + 2 := by omega
      have R0 := Lib.hid hT
      have B0 := Lib.hid hb
      have hd := div_one (w := k + 1) (g := Nat.gcd (k + 1) (b + 2 - (k + 1))) (by omega) (Nat.gcd_pos_of_pos_left _ (by omega)) (Nat.gcd_dvd_left _ _)
      rw [show ((k + 1 : Nat) : Int) = (k : Int) + 1 by omega] at hd
      have HD := Lib.hid hd
      clear hT hb hd
      go_wp2_with fail
      refine (low_nat k b hlt (by omega) _).mono ?_
      rintro e w' ⟨rfl, nn, rfl⟩
      have RT := Lib.hid (R0.out.keep (below_drewN (Below.refl _ _) nn))
      have BW := Lib.hid (bl_drewN B0.out nn)
      clear R0 B0
      have HGD := Lib.hid (show good b (k + 1) = (decide (Nat.gcd (k + 1) (b + 2 - (k + 1)) = 1) && decide (b + 2 - (k + 1) ≤ 60)) from rfl)
      generalize (((k + 1) / Nat.gcd (k + 1) (b + 2 - (k + 1)) : Nat) : Int) = q1' at *
      generalize (((b + 2 - (k + 1)) / Nat.gcd (k + 1) (b + 2 - (k + 1)) : Nat) : Int) = q2' at *
      generalize wr.drewN nn = wz at *
      have HCA : w.heap.size ≤ wz.heap.size := BW.out.size
      cases hg : decide (Nat.gcd (k + 1) (b + 2 - (k + 1)) = 1)
      · have hd := HD.out
        rw [hg] at hd
        have HSN := Lib.hid (tbs_no (b := b) (k := k) (by rw [HGD.out, hg]; rfl))
        clear hg HD
        go_wp2
        go_roundw
        case rel => exact ⟨k + 1, by omega, by go_num, by rw [HSN.out]; exact RT.out, BW.out⟩
        case measure => simp only [intOf]; omega
      · have hd := HD.out
        rw [hg] at hd
        by_cases h60 : b + 2 - (k + 1) ≤ 60
        · have h60' : (b : Int) + 2 - ((k : Int) + 1) ≤ 60 := by omega
          have HSN := Lib.hid (tbs_yes (b := b) (k := k) (by rw [HGD.out, hg]; simpa using h60))
          clear hg HD
          obtain ⟨i0, ji, iz0, iz1, iz2⟩ := info_parts infoT
          have hO2 := Lib.hid (show wz.ownsRow w.heap.size 25 2 _ (tbs b k).length ((List.range ((tbs b k).length * 2)).map (fun i => Value.int .i64 (flatP (tbs b k) i))) from RT.out)
          have hlk := tbs_len b k
          generalize hL : (tbs b k).length = L at *
          have HLn := Lib.hid hL
          clear hL
          go_wp2_with (at_builtin; refine wpList_append_own _ rfl _ _ 54 rfl w.heap.size 25 i0 (.agg #[.int .i64 0, .int .i64 0]) 2 16 Try.underlying54 ji iz0 iz1 iz2 rfl (by decide) _ _ _ rfl (hO2.out.alloc _) ⟨wz.heap.size, 0, none⟩ 1 1 [.int .i64 ((k : Int) + 1), .int .i64 ((b : Int) + 2 - ((k : Int) + 1))] rfl rfl (cells2 _ _ _ _ _ (by simp)) (by simp [Value.oneCell']) (by unfold maxLen; omega) (by omega) (by first | omega | (simp; omega)) ?_; intro v' wn hown hgrow _)
          rw [← HLn.out] at hown
          obtain ⟨q1, q2⟩ := TRow.push HCA RT.out hown hgrow
          rw [← HSN.out] at q1
          have Q1 := Lib.hid q1
          have Q2 := Lib.hid q2
          clear q1 q2 hown hgrow
          go_wp2
          go_roundw
          case rel => exact ⟨k + 1, by omega, by go_num, Q1.out, BW.out.trans Q2.out⟩
          case measure => simp only [intOf]; omega
        · have h60' : ¬ (b : Int) + 2 - ((k : Int) + 1) ≤ 60 := by omega
          have HSN := Lib.hid (tbs_no (b := b) (k := k) (by rw [HGD.out, hg]; simpa using h60))
          clear hg HD
          go_wp2
          go_roundw
          case rel => exact ⟨k + 1, by omega, by go_num, by rw [HSN.out]; exact RT.out, BW.out⟩
          case measure => simp only [intOf]; omega
    · have hk' : k = (b + 2) / 2 := by omega
      have HK := Lib.hid hk'
      have hlt' : ¬ 2 * ((k : Int) + 1) ≤ (b : Int) + 2 := by omega
      clear hk'
      have HT := Lib.hid hT
      have HB := Lib.hid hb
      clear hT hb
      go_wp2
      go_ret2
      exact ⟨_, rfl, by rw [HP.out, ← HK.out]; exact HT.out, HB.out⟩
set_option maxHeartbeats 2000000 in
theorem impl_TablesFor (n : Int) (w : World) :
    Calls Try.prog 58 #[.int .i64 n] w fun e w' => ∃ v, e = .returned (.tuple #[v, .bool (within n 0 100)]) ∧ TRow w' w.heap.size v (tfZ n) ∧ Below w.heap.size w w' := by
  cases h : within n 0 100
  · go_enter Try.func58, Try.ntmps58
    go_wp2_with (go_at_call 67; refine (isWithin_any _ _ _ _).mono ?_; rintro e w' ⟨rfl, rfl⟩)
    go_ret2
    exact ⟨_, rfl, by simp only [tfZ, h]; exact TRow.nil _ _, Below.refl _ _⟩
  obtain ⟨h1, h2⟩ := within_true h
  obtain ⟨b, rfl⟩ := Int.eq_ofNat_of_zero_le h1
  have HP := Lib.hid (show tfZ (b : Int) = tbs b ((b + 2) / 2) by simp [tfZ, h])
  go_enter Try.func58, Try.ntmps58
  go_wp2_with (go_at_call 67; refine (isWithin_any _ _ _ _).mono ?_; rintro e w' ⟨rfl, rfl⟩)
  go_loopw [4, 6] (fun v kk wr => ∃ k : Nat, k ≤ (b + 2) / 2 ∧ kk = .int .i64 ((k : Int) + 1) ∧ TRow wr w.heap.size v (tbs b k) ∧ Below w.heap.size w wr) (fun _ kk _ => (b + 3 - (intOf kk)).toNat)
  case atStart => exact ⟨0, Nat.zero_le _, rfl, TRow.nil _ _, Below.refl _ _⟩
  case round =>
    obtain ⟨k, hk, rfl, hT, hb⟩ := hrel
    by_cases hlt : 2 * (k + 1) ≤ b + 2
    · have hlt' : (k : Int) + 1 ≤ (b : Int) + 2 - ((k : Int) + 1) := by omega
      have R0 := Lib.hid hT
      have B0 := Lib.hid hb
      have HOT : okT ((k : Int) + 1) ((b : Int) + 2 - ((k : Int) + 1)) = decide (b + 2 - (k + 1) ≤ 60) := by
        unfold okT within
        rw [Bool.eq_iff_iff]; simp; omega
      have HO := Lib.hid HOT
      have HGD := Lib.hid (show good b (k + 1) = (decide (Nat.gcd (k + 1) (b + 2 - (k + 1)) = 1) && decide (b + 2 - (k + 1) ≤ 60)) from rfl)
      have HG := fun W => Lib.hid (gcd_nat k b hlt (by omega) W)
      clear hT hb HOT
      go_wp2_with fail
      refine (impl_IsTable _ _ _).mono ?_
      rintro e w1 ⟨rfl, hb1⟩
      rw [HO.out]
      have c0 : w1.cell? ⟨wr.heap.size, 0, none⟩ = some (.int .i64 ((k : Int) + 1)) := by rw [(bcell hb1).1 _ _ (by simp)]; simp [go_sem]
      have c1 : w1.cell? ⟨wr.heap.size, 1, none⟩ = some (.int .i64 ((b : Int) + 2 - ((k : Int) + 1))) := by rw [(bcell hb1).1 _ _ (by simp)]; simp [go_sem]
      have hbB : Below wr.heap.size wr w1 := bl_trans hb1 (bl_alloc (Below.refl _ _) _)
      have R1 := Lib.hid (R0.out.keep hbB)
      have B1 := Lib.hid (bl_trans hbB B0.out)
      clear hb1 hbB R0 B0
      by_cases h60 : b + 2 - (k + 1) ≤ 60
      · have D60 := Lib.hid (show decide (b + 2 - (k + 1) ≤ 60) = true by simpa using h60)
        rw [D60.out]
        go_wp2_with fail
        refine ((HG _).out).mono ?_
        rintro e w' ⟨rfl, nn, rfl⟩
        have RT := Lib.hid (R1.out.keep (below_drewN (Below.refl _ _) nn))
        have BW := Lib.hid (bl_drewN B1.out nn)
        have c0 : (w1.drewN nn).cell? ⟨wr.heap.size, 0, none⟩ = some (.int .i64 ((k : Int) + 1)) := c0
        have c1 : (w1.drewN nn).cell? ⟨wr.heap.size, 1, none⟩ = some (.int .i64 ((b : Int) + 2 - ((k : Int) + 1))) := c1
        clear R1 B1
        generalize w1.drewN nn = wz at *
        have HCA : w.heap.size ≤ wz.heap.size := BW.out.size
        cases hg : decide (Nat.gcd (k + 1) (b + 2 - (k + 1)) = 1)
        · have hd : (((Nat.gcd (k + 1) (b + 2 - (k + 1)) : Nat) : Int) == 1) = false := by simp at hg ⊢; omega
          have HSN := Lib.hid (tbs_no (b := b) (k := k) (by rw [HGD.out, hg]; rfl))
          clear hg
          generalize ((Nat.gcd (k + 1) (b + 2 - (k + 1)) : Nat) : Int) = gg at *
          go_wp2
          go_roundw
          case rel => exact ⟨k + 1, by omega, by go_num, by rw [HSN.out]; exact RT.out, BW.out⟩
          case measure => simp only [intOf]; omega
        · have hd : (((Nat.gcd (k + 1) (b + 2 - (k + 1)) : Nat) : Int) == 1) = true := by simp at hg ⊢; omega
          have HSN := Lib.hid (tbs_yes (b := b) (k := k) (by rw [HGD.out, hg, D60.out]; rfl))
          clear hg
          generalize ((Nat.gcd (k + 1) (b + 2 - (k + 1)) : Nat) : Int) = gg at *
          obtain ⟨i0, ji, iz0, iz1, iz2⟩ := info_parts infoT
          have hO2 := Lib.hid (show wz.ownsRow w.heap.size 25 2 _ (tbs b k).length ((List.range ((tbs b k).length * 2)).map (fun i => Value.int .i64 (flatP (tbs b k) i))) from RT.out)
          have hlk := tbs_len b k
          generalize hL : (tbs b k).length = L at *
          have HLn := Lib.hid hL
          clear hL
          go_wp2_with (at_builtin; refine wpList_append_own _ rfl _ _ 54 rfl w.heap.size 25 i0 (.agg #[.int .i64 0, .int .i64 0]) 2 16 Try.underlying54 ji iz0 iz1 iz2 rfl (by decide) _ _ _ rfl (hO2.out.alloc _) ⟨wz.heap.size, 0, none⟩ 1 1 [.int .i64 ((k : Int) + 1), .int .i64 ((b : Int) + 2 - ((k : Int) + 1))] rfl rfl (cells2 _ _ _ _ _ (by simp)) (by simp [Value.oneCell']) (by unfold maxLen; omega) (by omega) (by first | omega | (simp; omega)) ?_; intro v' wn hown hgrow _)
          rw [← HLn.out] at hown
          obtain ⟨q1, q2⟩ := TRow.push HCA RT.out hown hgrow
          rw [← HSN.out] at q1
          have Q1 := Lib.hid q1
          have Q2 := Lib.hid q2
          clear q1 q2 hown hgrow
          go_wp2
          go_roundw
          case rel => exact ⟨k + 1, by omega, by go_num, Q1.out, BW.out.trans Q2.out⟩
          case measure => simp only [intOf]; omega
      · have D60 := Lib.hid (show decide (b + 2 - (k + 1) ≤ 60) = false by simpa using h60)
        rw [D60.out]
        have HSN := Lib.hid (tbs_no (b := b) (k := k) (by rw [HGD.out, D60.out, Bool.and_false]))
        have RT := R1
        have BW := B1
        go_wp2
        go_roundw
        case rel => exact ⟨k + 1, by omega, by go_num, by rw [HSN.out]; exact RT.out, BW.out⟩
        case measure => simp only [intOf]; omega
    · have hk' : k = (b + 2) / 2 := by omega
      have HK := Lib.hid hk'
      have hlt' : ¬ (k : Int) + 1 ≤ (b : Int) + 2 - ((k : Int) + 1) := by omega
      clear hk'
      have HT := Lib.hid hT
      have HB := Lib.hid hb
      clear hT hb
      go_wp2
      go_ret2
      exact ⟨_, rfl, by rw [HP.out, ← HK.out]; exact HT.out, HB.out⟩
end Go.Proofs.Ytnhjiipkekblfaa
