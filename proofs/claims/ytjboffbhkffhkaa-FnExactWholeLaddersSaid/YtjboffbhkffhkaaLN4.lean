/- Leans from a foot; all leans over a box. -/
import Derived.Test.YtjboffbhkffhkaaLN2
import Derived.Test.YtjboffbhkffhkaaR2
import Derived.OwnWalk
import Derived.ChangeKeysEq
import Derived.Deep.AppendLies
import Derived.Deep.RegionLaw
import Derived.Deep.RegionHeldLaw
namespace Go.Proofs.Ytjboffbhkffhkaa
open Go.RowKit
set_option linter.unusedVariables false
set_option linter.unusedSimpArgs false
theorem own_mono {w : World} {B C : Nat} {T size : Nat} {v : Value} {n : Nat} {xs : List Value} (h : w.ownsRow C T size v n xs) (hb : B ≤ C) : w.ownsRow B T size v n xs := by
  obtain ⟨h1, h2⟩ := h
  refine ⟨h1, ?_⟩
  rcases h2 with h2 | ⟨g, cap, cur, e, hB, rest⟩
  · exact .inl h2
  · exact .inr ⟨g, cap, cur, e, Nat.le_trans hb hB, rest⟩
theorem RRow.mono {w : World} {B C : Nat} {v : Value} {rs : List (List Int)} (h : RRow w C v rs) (hb : B ≤ C) : RRow w B v rs := by
  obtain ⟨vs, h1, h3, h4⟩ := h
  exact ⟨vs, own_mono h1 hb, fun i hi => own_mono (h3 i hi) hb, h4⟩
theorem RRow.keep {w w' : World} {B : Nat} {v : Value} {rs : List (List Int)} (h : RRow w B v rs) (k : Below w.heap.size w w') : RRow w' B v rs := RRowF.keep h k
/-- 'v' is a slice of n leans whose numbers, one behind the other, are f 0, f 1, .. -/
def PRow (w : World) (v : Value) (n : Nat) (f : Nat → Int) : Prop :=
  (n = 0 ∧ ∃ a c, v = .slice a 0 c) ∨ (0 < n ∧ ∃ b off cap, v = .slice (some ⟨b, off, none⟩) n cap ∧ n ≤ maxLen ∧ b < w.heap.size ∧ ∀ i, i < n * 2 → w.cell? ⟨b, off + i, none⟩ = some (.int .i64 (f i)))
theorem PRow.keep {w w' : World} {v : Value} {n : Nat} {f : Nat → Int} (h : PRow w v n f) (k : Below w.heap.size w w') : PRow w' v n f := by
  rcases h with h | ⟨h0, b, off, cap, hv, hn, hb, hc⟩
  · exact .inl h
  · exact .inr ⟨h0, b, off, cap, hv, hn, Nat.lt_of_lt_of_le hb k.size, fun i hi => by rw [(bcell k).1 _ _ hb]; exact hc i hi⟩
theorem PRow.drewN {w : World} {v : Value} {n : Nat} {f : Nat → Int} (h : PRow w v n f) (m : Nat) : PRow (w.drewN m) v n f := h
theorem PRow.some_ {w : World} {v : Value} {n : Nat} {f : Nat → Int} (h : PRow w v n f) (h0 : 0 < n) : ∃ b off cap, v = .slice (some ⟨b, off, none⟩) n cap ∧ b < w.heap.size ∧ ∀ i, i < n → w.cell? ⟨b, off + i * 2, none⟩ = some (.int .i64 (f (i * 2))) ∧ w.cell? ⟨b, off + i * 2 + 1, none⟩ = some (.int .i64 (f (i * 2 + 1))) := by
  rcases h with ⟨h1, _⟩ | ⟨_, b, off, cap, hv, hn, hb, hc⟩
  · omega
  · exact ⟨b, off, cap, hv, hb, fun i hi => ⟨hc (i * 2) (by omega), hc (i * 2 + 1) (by omega)⟩⟩
theorem PRow.zero {w : World} {v : Value} {f : Nat → Int} (h : PRow w v 0 f) : ∃ a c, v = .slice a 0 c := by
  rcases h with ⟨_, h1⟩ | ⟨h0, _⟩
  · exact h1
  · omega
theorem PRow.len_le {w : World} {v : Value} {n : Nat} {f : Nat → Int} (h : PRow w v n f) : n ≤ 9223372036854775807 := by
  rcases h with ⟨h1, _⟩ | ⟨_, b, off, cap, _, hn, _⟩
  · omega
  · unfold maxLen at hn; omega
theorem PRow.shape {w : World} {v : Value} {n : Nat} {f : Nat → Int} (h : PRow w v n f) : ∃ a c, v = .slice a n c := by
  rcases h with ⟨rfl, a, c, h1⟩ | ⟨_, b, off, cap, h1, _⟩
  · exact ⟨a, c, h1⟩
  · exact ⟨_, cap, h1⟩
/-- .. in a block of a call's own, from B on -/
def ORow (w : World) (B : Nat) (v : Value) (n : Nat) (f : Nat → Int) : Prop := w.ownsRow B 65 2 v n ((List.range (n * 2)).map fun i => Value.int .i64 (f i))
theorem ORow.keep {w w' : World} {B : Nat} {v : Value} {n : Nat} {f : Nat → Int} (h : ORow w B v n f) (k : Below w.heap.size w w') : ORow w' B v n f :=
  World.ownsRow.kept h (only_of_below k none) (by cases hv : v.ownBlock <;> simp)
theorem ORow.open_ {w : World} {B : Nat} {v : Value} {n : Nat} {f : Nat → Int} (h : ORow w B v n f) :
    (v = .slice none 0 0 ∧ n = 0) ∨ ∃ g cap, v = .slice (some ⟨g, 0, none⟩) n cap ∧ B ≤ g ∧ g < w.heap.size ∧ n ≤ cap ∧ cap ≤ maxLen ∧
      (∀ i, i < n * 2 → w.cell? ⟨g, i, none⟩ = some (.int .i64 (f i))) ∧ ∀ i, w.frozen? ⟨g, i, none⟩ = false := by
  have h' := h
  obtain ⟨_, ⟨rfl, hn⟩ | ⟨g, cap, cur, rfl, hB, hg, hn, hm, hs, ht⟩⟩ := h
  · exact .inl ⟨rfl, hn⟩
  · refine .inr ⟨g, cap, rfl, hB, (Array.getElem?_eq_some_iff.1 hg).1, hn, hm, fun i hi => ?_, fun i => World.ownsRow.frozenAt h' i⟩
    rw [World.ownsRow.cellAt h' i hi]
    simp [hi]
theorem ORow.toP {w : World} {B : Nat} {v : Value} {n : Nat} {f : Nat → Int} (h : ORow w B v n f) : PRow w v n f := by
  rcases h.open_ with ⟨rfl, rfl⟩ | ⟨g, cap, rfl, _, hg, hn, hm, hc, _⟩
  · exact .inl ⟨rfl, _, _, rfl⟩
  · by_cases h0 : 0 < n
    · exact .inr ⟨h0, g, 0, cap, rfl, by omega, hg, fun i hi => by rw [Nat.zero_add]; exact hc i hi⟩
    · obtain rfl : n = 0 := by omega
      exact .inl ⟨rfl, _, _, rfl⟩
theorem ORow.congr {w : World} {B : Nat} {v : Value} {n : Nat} {f g : Nat → Int} (h : ORow w B v n f) (e : ∀ i, i < n * 2 → f i = g i) : ORow w B v n g := by
  unfold ORow at *
  rwa [List.map_congr_left (fun i hi => by rw [e i (List.mem_range.1 hi)])] at h
theorem ORow.stored {w : World} {B g n cap : Nat} {f : Nat → Int} (h : ORow w B (.slice (some ⟨g, 0, none⟩) n cap) n f) (j : Nat) (x : Int) :
    ORow (w.setCell ⟨g, j, none⟩ (.int .i64 x)) B (.slice (some ⟨g, 0, none⟩) n cap) n (fun i => if i = j then x else f i) ∧ w.grownBy (w.setCell ⟨g, j, none⟩ (.int .i64 x)) (some g) := by
  obtain ⟨a, b⟩ := World.ownsRow.stored h j (.int .i64 x)
  refine ⟨?_, b⟩
  unfold ORow
  have e : ((List.range (n * 2)).map fun i => Value.int .i64 (f i)).set j (.int .i64 x) = (List.range (n * 2)).map fun i => Value.int .i64 (if i = j then x else f i) := by
    apply List.ext_getElem?
    intro i
    rw [List.getElem?_set]
    by_cases hi : j = i
    · subst hi
      by_cases hj : j < n * 2 <;> simp [hj]
    · by_cases hj : i < n * 2 <;> simp [hi, hj, Ne.symm hi]
  rw [← e]
  exact a
def flatP (ps : List (Int × Int)) (i : Nat) : Int := if i % 2 = 0 then (ps.getD (i / 2) (0, 0)).1 else (ps.getD (i / 2) (0, 0)).2
/-- a call's own slice of leans -/
def TRow (w : World) (C : Nat) (v : Value) (ps : List (Int × Int)) : Prop := ORow w C v ps.length (flatP ps)
theorem TRow.keep {w w' : World} {C : Nat} {v : Value} {ps : List (Int × Int)} (h : TRow w C v ps) (k : Below w.heap.size w w') : TRow w' C v ps := ORow.keep h k
theorem TRow.nil (w : World) (C : Nat) : TRow w C (.slice none 0 0) [] := World.ownsRow_nil w C _ 2
theorem TRow.push {W w1 : World} {C : Nat} {v v' : Value} {ps : List (Int × Int)} {x y : Int} {o : Obj} (hC : C ≤ W.heap.size) (h : TRow W C v ps)
    (hO : w1.ownsRow C 65 2 v' (ps.length + 1) ((List.range (ps.length * 2)).map (fun i => Value.int .i64 (flatP ps i)) ++ [.int .i64 x, .int .i64 y])) (hg : (W.alloc o).grownBy w1 v.ownBlock) : TRow w1 C v' (ps ++ [(x, y)]) ∧ Below C W w1 := by
  refine ⟨?_, ((Below.refl C W).alloc hC o).grown hg (by simp; omega) fun g e => (World.ownsRow.lt h g e).1⟩
  unfold TRow ORow
  have e : (List.range ((ps ++ [(x, y)]).length * 2)).map (fun i => Value.int .i64 (flatP (ps ++ [(x, y)]) i)) = (List.range (ps.length * 2)).map (fun i => Value.int .i64 (flatP ps i)) ++ [.int .i64 x, .int .i64 y] := by
    rw [List.length_append, List.length_singleton, show (ps.length + 1) * 2 = ps.length * 2 + 1 + 1 by omega, List.range_succ, List.range_succ, List.map_append, List.map_append]
    simp only [List.map_cons, List.map_nil, List.append_assoc, List.cons_append, List.nil_append]
    congr 1
    · apply List.map_congr_left
      intro i hi
      have hi := List.mem_range.1 hi
      have hd : i / 2 < ps.length := by omega
      unfold flatP
      simp [List.getD, List.getElem?_append_left hd]
    · have e1 : flatP (ps ++ [(x, y)]) (ps.length * 2) = x := by
        unfold flatP
        rw [if_pos (by omega), show ps.length * 2 / 2 = ps.length by omega]
        simp [List.getD]
      have e2 : flatP (ps ++ [(x, y)]) (ps.length * 2 + 1) = y := by
        unfold flatP
        rw [if_neg (by omega), show (ps.length * 2 + 1) / 2 = ps.length by omega]
        simp [List.getD]
      rw [e1, e2]
  rw [e]
  simpa using hO
theorem cells2 (w : World) (x y : Value) (T n : Nat) (hn : n = w.heap.size) : ∀ j q, [x, y][j]? = some q → (w.alloc (.cells #[x, y] T)).cell? ((⟨n, 0, none⟩ : Addr).add j) = some q := by
  intro j q hj
  subst hn
  match j, hj with
  | 0, hj => simp at hj; subst hj; simp [Addr.add]
  | 1, hj => simp at hj; subst hj; simp [Addr.add]

theorem infoL : (Try.prog.info? 65).map (fun i => (i.zero, i.size, i.bytes)) = some (some (.agg #[.int .i64 0, .int .i64 0]), 2, 16) := by kernel_rfl
set_option maxRecDepth 100000 in
set_option maxHeartbeats 1000000 in
theorem leanFrom_any (a b f : Int) (a1 : 1 ≤ a) (a2 : a ≤ 60) (b1 : 1 ≤ b) (b2 : b ≤ 60) (f1 : 0 ≤ f) (f2 : f ≤ 10000) (w : World) :
    Calls Try.prog 76 #[.agg #[.int .i64 a, .int .i64 b], .int .i64 f] w fun e w' => e = .returned (.tuple #[lnA a b f, .bool (lnW a b f)]) ∧ Below w.heap.size w w' := by
  obtain ⟨m0, m1⟩ := mul_bd2 (a := b) (b := f) (m := 60) (k := 10000) (by omega) (by omega) (by omega) (by omega)
  by_cases h1 : 1 ≤ f - a
  case neg =>
    have HW := Lib.hid (show lnW a b f = false by unfold lnW; rw [decide_eq_false h1]; rfl)
    have HV := Lib.hid (show lnA a b f = .agg #[.int .i64 0, .int .i64 0] by unfold lnA; rw [HW.out]; rfl)
    have h1' : f - a < 1 := by omega
    go_enter Try.func76, Try.ntmps76
    go_wp2
    refine bodyPost_ret (v := .tuple #[.agg #[.int .i64 0, .int .i64 0], .bool false]) (by simp [results, Try.results76, go_sem, *]) rfl ⟨by rw [HW.out, HV.out], (by repeat (first | exact Below.refl _ _ | refine bl_alloc ?_ _ | refine bl_drewN ?_ _ | refine bl_trans (by assumption) ?_ | refine bl_set ?_ (by first | omega | (simp; done) | (simp; omega)) _))⟩
  have h1' : ¬ f - a < 1 := by omega
  by_cases h2 : b * f % (f - a) = 0
  case neg =>
    have HW := Lib.hid (show lnW a b f = false by unfold lnW; rw [beq_eq_false_iff_ne.2 h2, Bool.and_false])
    have HV := Lib.hid (show lnA a b f = .agg #[.int .i64 0, .int .i64 0] by unfold lnA; rw [HW.out]; rfl)
    have h2' : (b * f % (f - a) == 0) = false := beq_eq_false_iff_ne.2 h2
    go_enter Try.func76, Try.ntmps76
    go_wp2
    refine bodyPost_ret (v := .tuple #[.agg #[.int .i64 0, .int .i64 0], .bool false]) (by simp [results, Try.results76, go_sem, *]) rfl ⟨by rw [HW.out, HV.out], (by repeat (first | exact Below.refl _ _ | refine bl_alloc ?_ _ | refine bl_drewN ?_ _ | refine bl_trans (by assumption) ?_ | refine bl_set ?_ (by first | omega | (simp; done) | (simp; omega)) _))⟩
  have HW := Lib.hid (show lnW a b f = true by unfold lnW; rw [decide_eq_true h1, h2]; rfl)
  have HV := Lib.hid (show lnA a b f = .agg #[.int .i64 f, .int .i64 (b * f / (f - a))] by unfold lnA; rw [HW.out]; rfl)
  have h2' : (b * f % (f - a) == 0) = true := by rw [h2]; rfl
  have q0 : 0 ≤ b * f / (f - a) := Int.ediv_nonneg m0 (by omega)
  have q1 : b * f / (f - a) ≤ b * f := Int.ediv_le_self _ m0
  go_enter Try.func76, Try.ntmps76
  go_wp2
  refine bodyPost_ret (v := .tuple #[.agg #[.int .i64 f, .int .i64 (b * f / (f - a))], .bool true]) (by simp [results, Try.results76, go_sem, *]) rfl ⟨by rw [HW.out, HV.out], (by repeat (first | exact Below.refl _ _ | refine bl_alloc ?_ _ | refine bl_drewN ?_ _ | refine bl_trans (by assumption) ?_ | refine bl_set ?_ (by first | omega | (simp; done) | (simp; omega)) _))⟩
theorem eq_int7 (d : Nat) (p q : Int) (W : World) : (Op.equalIn (d + 1) 3 (.int .i64 p) (.int .i64 q)).run Try.prog W = .ok (decide (p = q)) W := by
  simp [Op.equalIn, run_underlying Try.underlying3]
  try rfl
theorem eq_lean (w : World) (x y u v : Int) : (Op.equalIn 10000 65 (.agg #[.int .i64 x, .int .i64 y]) (.agg #[.int .i64 u, .int .i64 v])).run Try.prog w = .ok (decide (x = u) && decide (y = v)) w := by
  obtain ⟨i, hi⟩ := info_of_underlying Try.underlying3
  have hp : Try.prog.plainKey 3 = true := by kernel_rfl
  have hc : Try.prog.cellsOf 3 = 1 := by kernel_rfl
  have hq := eq_int7 9998
  have p0 : ∀ (a b : Int) (W : World), (part 3 #[.int .i64 a, .int .i64 b] (0 * 1)).run Try.prog W = .ok (.int .i64 a) W := fun a b W => run_part_plain W hp rfl
  have p1 : ∀ (a b : Int) (W : World), (part 3 #[.int .i64 a, .int .i64 b] (1 * 1)).run Try.prog W = .ok (.int .i64 b) W := fun a b W => run_part_plain W hp rfl
  rw [run_equalIn_array w 9999 _ _ Try.underlying65 hi, hc, show List.range 2 = [0, 1] from rfl]
  simp only [Op.eqItems, Sem.run_bind, p0, p1, Result.andThen_ok, hq]
  by_cases h1 : x = u <;> by_cases h2 : y = v <;> simp [h1, h2, p0, p1, hq, Sem.run_bind]
  all_goals (simp only [Nat.mul_one] at p1; simp [p1, hq])
set_option maxRecDepth 100000 in
set_option maxHeartbeats 1000000 in
theorem impl_JustTouches (a b f h : Int) (w : World) :
    Calls Try.prog 30 #[.agg #[.int .i64 a, .int .i64 b], .int .i64 f, .int .i64 h] w fun e w' => e = .returned (.tuple #[.bool (okC a b f h && decide (ab a b f h = 0)), .bool (okC a b f h)]) ∧ Below w.heap.size w w' := by
  cases h1 : okBx a b
  · have HO := Lib.hid (show okC a b f h = false by simp [okC, h1])
    go_enter Try.func30, Try.ntmps30
    go_wp2_with fail
    refine (impl_IsBox _ _ _).mono ?_
    rintro e w1 ⟨rfl, hbw1⟩
    obtain ⟨hcw1, hfw1⟩ := bcell hbw1
    have hzw1 := bsize hbw1
    (try simp only [World.size_alloc, World.size_setCell] at hzw1)
    have kw1_0_0 : w1.cell? ⟨w.heap.size, 0, none⟩ = some (.int .i64 a) := by rw [hcw1 _ _ (by first | (simp; done) | omega | (simp; omega))]; first | assumption | (simp [go_sem]; done) | (simp [go_sem]; done) | (simp [go_sem, *]; done)
    have kw1_0_1 : w1.cell? ⟨w.heap.size, 1, none⟩ = some (.int .i64 b) := by rw [hcw1 _ _ (by first | (simp; done) | omega | (simp; omega))]; first | assumption | (simp [go_sem]; done) | (simp [go_sem]; done) | (simp [go_sem, *]; done)
    have sw1_0 : w.heap.size < w1.heap.size := by first | omega | (simp at *; omega)
    have hBw1 : Below w.heap.size w w1 := (by repeat (first | exact Below.refl _ _ | refine bl_alloc ?_ _ | refine bl_drewN ?_ _ | refine bl_trans (by assumption) ?_ | refine bl_set ?_ (by first | omega | (simp; done) | (simp; omega)) _))
    have HBw1 := Lib.hid hBw1
    clear hBw1 hcw1 hfw1 hbw1
    rw [h1]
    go_wp2
    go_ret2
    exact ⟨by simp [HO.out], (by repeat (first | exact HBw1.out | exact Below.refl _ _ | refine bl_alloc ?_ _ | refine bl_drewN ?_ _ | refine bl_trans (by assumption) ?_ | refine bl_set ?_ (by first | omega | (simp; done) | (simp; omega)) _))⟩
  cases h2 : okL7 f
  · have HO := Lib.hid (show okC a b f h = false by simp [okC, h1, h2])
    go_enter Try.func30, Try.ntmps30
    go_wp2_with fail
    refine (impl_IsBox _ _ _).mono ?_
    rintro e w1 ⟨rfl, hbw1⟩
    obtain ⟨hcw1, hfw1⟩ := bcell hbw1
    have hzw1 := bsize hbw1
    (try simp only [World.size_alloc, World.size_setCell] at hzw1)
    have kw1_0_0 : w1.cell? ⟨w.heap.size, 0, none⟩ = some (.int .i64 a) := by rw [hcw1 _ _ (by first | (simp; done) | omega | (simp; omega))]; first | assumption | (simp [go_sem]; done) | (simp [go_sem]; done) | (simp [go_sem, *]; done)
    have kw1_0_1 : w1.cell? ⟨w.heap.size, 1, none⟩ = some (.int .i64 b) := by rw [hcw1 _ _ (by first | (simp; done) | omega | (simp; omega))]; first | assumption | (simp [go_sem]; done) | (simp [go_sem]; done) | (simp [go_sem, *]; done)
    have sw1_0 : w.heap.size < w1.heap.size := by first | omega | (simp at *; omega)
    have hBw1 : Below w.heap.size w w1 := (by repeat (first | exact Below.refl _ _ | refine bl_alloc ?_ _ | refine bl_drewN ?_ _ | refine bl_trans (by assumption) ?_ | refine bl_set ?_ (by first | omega | (simp; done) | (simp; omega)) _))
    have HBw1 := Lib.hid hBw1
    clear hBw1 hcw1 hfw1 hbw1
    rw [h1]
    go_wp2_with fail
    refine (isOfLadder_any _ _).mono ?_
    rintro e w' ⟨rfl, rfl⟩
    rw [h2]
    go_wp2
    go_ret2
    exact ⟨by simp [HO.out], (by repeat (first | exact HBw1.out | exact Below.refl _ _ | refine bl_alloc ?_ _ | refine bl_drewN ?_ _ | refine bl_trans (by assumption) ?_ | refine bl_set ?_ (by first | omega | (simp; done) | (simp; omega)) _))⟩
  cases h3 : okL7 h
  · have HO := Lib.hid (show okC a b f h = false by simp [okC, h1, h2, h3])
    go_enter Try.func30, Try.ntmps30
    go_wp2_with fail
    refine (impl_IsBox _ _ _).mono ?_
    rintro e w1 ⟨rfl, hbw1⟩
    obtain ⟨hcw1, hfw1⟩ := bcell hbw1
    have hzw1 := bsize hbw1
    (try simp only [World.size_alloc, World.size_setCell] at hzw1)
    have kw1_0_0 : w1.cell? ⟨w.heap.size, 0, none⟩ = some (.int .i64 a) := by rw [hcw1 _ _ (by first | (simp; done) | omega | (simp; omega))]; first | assumption | (simp [go_sem]; done) | (simp [go_sem]; done) | (simp [go_sem, *]; done)
    have kw1_0_1 : w1.cell? ⟨w.heap.size, 1, none⟩ = some (.int .i64 b) := by rw [hcw1 _ _ (by first | (simp; done) | omega | (simp; omega))]; first | assumption | (simp [go_sem]; done) | (simp [go_sem]; done) | (simp [go_sem, *]; done)
    have sw1_0 : w.heap.size < w1.heap.size := by first | omega | (simp at *; omega)
    have hBw1 : Below w.heap.size w w1 := (by repeat (first | exact Below.refl _ _ | refine bl_alloc ?_ _ | refine bl_drewN ?_ _ | refine bl_trans (by assumption) ?_ | refine bl_set ?_ (by first | omega | (simp; done) | (simp; omega)) _))
    have HBw1 := Lib.hid hBw1
    clear hBw1 hcw1 hfw1 hbw1
    rw [h1]
    go_wp2_with fail
    refine (isOfLadder_any _ _).mono ?_
    rintro e w' ⟨rfl, rfl⟩
    rw [h2]
    go_wp2_with fail
    refine (isOfLadder_any _ _).mono ?_
    rintro e w' ⟨rfl, rfl⟩
    rw [h3]
    go_wp2
    go_ret2
    exact ⟨by simp [HO.out], (by repeat (first | exact HBw1.out | exact Below.refl _ _ | refine bl_alloc ?_ _ | refine bl_drewN ?_ _ | refine bl_trans (by assumption) ?_ | refine bl_set ?_ (by first | omega | (simp; done) | (simp; omega)) _))⟩
  have HO := Lib.hid (show okC a b f h = true by simp [okC, h1, h2, h3])
  obtain ⟨⟨a1, a2⟩, b1, b2⟩ := okBx_true h1
  obtain ⟨f1, f2⟩ := okL7_true h2
  obtain ⟨g1, g2⟩ := okL7_true h3
  obtain ⟨⟨m0, m1⟩, m2, m3⟩ := ab_bd a1 a2 b1 b2 f1 f2 g1 g2
  have HT := Lib.hid (touch_lean (a := a) (b := b) (f := f) (h := h) b1 f1 g1)
  have HL := fun W => Lib.hid (leanFrom_any a b f a1 a2 b1 b2 (by omega) (by omega) W)
  cases hw : lnW a b f
  · have HD := Lib.hid (show decide (ab a b f h = 0) = false from decide_eq_false fun e => by rw [(HT.out.1 e).1] at hw; cases hw)
    have HV := Lib.hid (show lnA a b f = .agg #[.int .i64 0, .int .i64 0] by unfold lnA; rw [hw]; rfl)
    rw [hw, HV.out] at HL
    clear m0 m1 m2 m3
    go_enter Try.func30, Try.ntmps30
    go_wp2_with fail
    refine (impl_IsBox _ _ _).mono ?_
    rintro e w1 ⟨rfl, hbw1⟩
    obtain ⟨hcw1, hfw1⟩ := bcell hbw1
    have hzw1 := bsize hbw1
    (try simp only [World.size_alloc, World.size_setCell] at hzw1)
    have kw1_0_0 : w1.cell? ⟨w.heap.size, 0, none⟩ = some (.int .i64 a) := by rw [hcw1 _ _ (by first | (simp; done) | omega | (simp; omega))]; first | assumption | (simp [go_sem]; done) | (simp [go_sem]; done) | (simp [go_sem, *]; done)
    have kw1_0_1 : w1.cell? ⟨w.heap.size, 1, none⟩ = some (.int .i64 b) := by rw [hcw1 _ _ (by first | (simp; done) | omega | (simp; omega))]; first | assumption | (simp [go_sem]; done) | (simp [go_sem]; done) | (simp [go_sem, *]; done)
    have sw1_0 : w.heap.size < w1.heap.size := by first | omega | (simp at *; omega)
    have hBw1 : Below w.heap.size w w1 := (by repeat (first | exact Below.refl _ _ | refine bl_alloc ?_ _ | refine bl_drewN ?_ _ | refine bl_trans (by assumption) ?_ | refine bl_set ?_ (by first | omega | (simp; done) | (simp; omega)) _))
    have HBw1 := Lib.hid hBw1
    clear hBw1 hcw1 hfw1 hbw1
    rw [h1]
    go_wp2_with fail
    refine (isOfLadder_any _ _).mono ?_
    rintro e w' ⟨rfl, rfl⟩
    rw [h2]
    go_wp2_with fail
    refine (isOfLadder_any _ _).mono ?_
    rintro e w' ⟨rfl, rfl⟩
    rw [h3]
    go_wp2_with fail
    refine ((HL _).out).mono ?_
    rintro e w2 ⟨rfl, hbw2⟩
    obtain ⟨hcw2, hfw2⟩ := bcell hbw2
    have hzw2 := bsize hbw2
    (try simp only [World.size_alloc, World.size_setCell] at hzw2)
    have hkw2 : Below w1.heap.size w1 w2 := (by repeat (first | exact Below.refl _ _ | refine bl_alloc ?_ _ | refine bl_drewN ?_ _ | refine bl_trans (by assumption) ?_ | refine bl_set ?_ (by first | omega | (simp; done) | (simp; omega)) _))
    have kw2_0_0 : w2.cell? ⟨w.heap.size, 0, none⟩ = some (.int .i64 a) := cell_after hkw2 sw1_0 kw1_0_0
    have kw2_0_1 : w2.cell? ⟨w.heap.size, 1, none⟩ = some (.int .i64 b) := cell_after hkw2 sw1_0 kw1_0_1
    have sw2_0 : w.heap.size < w2.heap.size := size_after hkw2 sw1_0
    have hBw2 : Below w.heap.size w w2 := (by repeat (first | exact HBw1.out | exact Below.refl _ _ | refine bl_alloc ?_ _ | refine bl_drewN ?_ _ | refine bl_trans (by assumption) ?_ | refine bl_set ?_ (by first | omega | (simp; done) | (simp; omega)) _))
    have HBw2 := Lib.hid hBw2
    clear hBw2 hcw2 hfw2 hbw2 hkw2 kw1_0_0 kw1_0_1 sw1_0
    go_wp2
    all_goals (go_ret2; exact ⟨by rw [HO.out, HD.out]; rfl, (by repeat (first | exact HBw2.out | exact Below.refl _ _ | refine bl_alloc ?_ _ | refine bl_drewN ?_ _ | refine bl_trans (by assumption) ?_ | refine bl_set ?_ (by first | omega | (simp; done) | (simp; omega)) _))⟩)
  · have HV := Lib.hid (show lnA a b f = .agg #[.int .i64 f, .int .i64 (b * f / (f - a))] by unfold lnA; rw [hw]; rfl)
    have HD := Lib.hid (show decide (ab a b f h = 0) = decide (b * f / (f - a) = h) by congr 1; apply propext; rw [HT.out, hw]; simp)
    rw [hw, HV.out] at HL
    clear m0 m1 m2 m3
    generalize b * f / (f - a) = q at *
    have hEQ : ∀ W : World, (Op.equalIn 10000 65 (.agg #[.int .i64 f, .int .i64 q]) (.agg #[.int .i64 f, .int .i64 h])).run Try.prog W = .ok (decide (q = h)) W := fun W => by rw [eq_lean, decide_eq_true rfl, Bool.true_and]
    go_enter Try.func30, Try.ntmps30
    go_wp2_with fail
    refine (impl_IsBox _ _ _).mono ?_
    rintro e w1 ⟨rfl, hbw1⟩
    obtain ⟨hcw1, hfw1⟩ := bcell hbw1
    have hzw1 := bsize hbw1
    (try simp only [World.size_alloc, World.size_setCell] at hzw1)
    have kw1_0_0 : w1.cell? ⟨w.heap.size, 0, none⟩ = some (.int .i64 a) := by rw [hcw1 _ _ (by first | (simp; done) | omega | (simp; omega))]; first | assumption | (simp [go_sem]; done) | (simp [go_sem]; done) | (simp [go_sem, *]; done)
    have kw1_0_1 : w1.cell? ⟨w.heap.size, 1, none⟩ = some (.int .i64 b) := by rw [hcw1 _ _ (by first | (simp; done) | omega | (simp; omega))]; first | assumption | (simp [go_sem]; done) | (simp [go_sem]; done) | (simp [go_sem, *]; done)
    have sw1_0 : w.heap.size < w1.heap.size := by first | omega | (simp at *; omega)
    have hBw1 : Below w.heap.size w w1 := (by repeat (first | exact Below.refl _ _ | refine bl_alloc ?_ _ | refine bl_drewN ?_ _ | refine bl_trans (by assumption) ?_ | refine bl_set ?_ (by first | omega | (simp; done) | (simp; omega)) _))
    have HBw1 := Lib.hid hBw1
    clear hBw1 hcw1 hfw1 hbw1
    rw [h1]
    go_wp2_with fail
    refine (isOfLadder_any _ _).mono ?_
    rintro e w' ⟨rfl, rfl⟩
    rw [h2]
    go_wp2_with fail
    refine (isOfLadder_any _ _).mono ?_
    rintro e w' ⟨rfl, rfl⟩
    rw [h3]
    go_wp2_with fail
    refine ((HL _).out).mono ?_
    rintro e w2 ⟨rfl, hbw2⟩
    obtain ⟨hcw2, hfw2⟩ := bcell hbw2
    have hzw2 := bsize hbw2
    (try simp only [World.size_alloc, World.size_setCell] at hzw2)
    have hkw2 : Below w1.heap.size w1 w2 := (by repeat (first | exact Below.refl _ _ | refine bl_alloc ?_ _ | refine bl_drewN ?_ _ | refine bl_trans (by assumption) ?_ | refine bl_set ?_ (by first | omega | (simp; done) | (simp; omega)) _))
    have kw2_0_0 : w2.cell? ⟨w.heap.size, 0, none⟩ = some (.int .i64 a) := cell_after hkw2 sw1_0 kw1_0_0
    have kw2_0_1 : w2.cell? ⟨w.heap.size, 1, none⟩ = some (.int .i64 b) := cell_after hkw2 sw1_0 kw1_0_1
    have sw2_0 : w.heap.size < w2.heap.size := size_after hkw2 sw1_0
    have hBw2 : Below w.heap.size w w2 := (by repeat (first | exact HBw1.out | exact Below.refl _ _ | refine bl_alloc ?_ _ | refine bl_drewN ?_ _ | refine bl_trans (by assumption) ?_ | refine bl_set ?_ (by first | omega | (simp; done) | (simp; omega)) _))
    have HBw2 := Lib.hid hBw2
    clear hBw2 hcw2 hfw2 hbw2 hkw2 kw1_0_0 kw1_0_1 sw1_0
    go_wp2
    all_goals (go_ret2; exact ⟨by rw [HO.out, HD.out]; first | (simp; done) | (simp; rfl), (by repeat (first | exact HBw2.out | exact Below.refl _ _ | refine bl_alloc ?_ _ | refine bl_drewN ?_ _ | refine bl_trans (by assumption) ?_ | refine bl_set ?_ (by first | omega | (simp; done) | (simp; omega)) _))⟩)

/-- the leans whose foot is farther than Wide by at most k -/
def lps (a b : Int) : Nat → List (Int × Int)
  | 0 => []
  | k + 1 => lps a b k ++ (if a * b % ((k : Int) + 1) = 0 then [(a + (k : Int) + 1, b + a * b / ((k : Int) + 1))] else [])
theorem lps_len (a b : Int) (k : Nat) : (lps a b k).length ≤ k := by
  induction k with
  | zero => simp [lps]
  | succ m ih => simp only [lps]; split <;> simp <;> omega
theorem lps_yes {a b : Int} {k : Nat} (h : a * b % ((k : Int) + 1) = 0) : lps a b (k + 1) = lps a b k ++ [(a + (k : Int) + 1, b + a * b / ((k : Int) + 1))] := by rw [lps, if_pos h]
theorem lps_no {a b : Int} {k : Nat} (h : ¬ a * b % ((k : Int) + 1) = 0) : lps a b (k + 1) = lps a b k := by rw [lps, if_neg h, List.append_nil]
theorem lean_at (a b : Int) (k : Nat) : (a + (k : Int) + 1 - a = (k : Int) + 1) ∧ lnW a b (a + (k : Int) + 1) = decide (a * b % ((k : Int) + 1) = 0) ∧ b * (a + (k : Int) + 1) / (a + (k : Int) + 1 - a) = b + a * b / ((k : Int) + 1) := by
  have e1 : a + (k : Int) + 1 - a = (k : Int) + 1 := by omega
  have e2 : b * (a + (k : Int) + 1) = a * b + b * ((k : Int) + 1) := by rw [Int.add_assoc, Int.mul_add, Int.mul_comm a b]
  refine ⟨e1, ?_, ?_⟩
  · unfold lnW
    rw [e1, e2, Int.add_mul_emod_self_right, decide_eq_true (show (1 : Int) ≤ (k : Int) + 1 by omega), Bool.true_and]
    rfl
  · rw [e1, e2, Int.add_mul_ediv_right _ _ (by omega), Int.add_comm]
theorem lps_mem {a b : Int} (a1 : 1 ≤ a) (a2 : a ≤ 60) (b1 : 1 ≤ b) (b2 : b ≤ 60) : ∀ (k : Nat), k ≤ 3600 → ∀ p ∈ lps a b k, (1 ≤ p.1 ∧ p.1 ≤ 3660) ∧ 1 ≤ p.2 ∧ p.2 ≤ 3660 := by
  obtain ⟨m0, m1⟩ := mul_bd2 (a := a) (b := b) (m := 60) (k := 60) (by omega) (by omega) (by omega) (by omega)
  intro k
  induction k with
  | zero => intro _ p hp; simp [lps] at hp
  | succ m ih =>
    intro hm p hp
    simp only [lps, List.mem_append] at hp
    rcases hp with hp | hp
    · exact ih (by omega) p hp
    · split at hp
      · simp only [List.mem_singleton] at hp
        have q0 : 0 ≤ a * b / ((m : Int) + 1) := Int.ediv_nonneg m0 (by omega)
        have q1 : a * b / ((m : Int) + 1) ≤ a * b := Int.ediv_le_self _ m0
        subst hp
        refine ⟨⟨?_, ?_⟩, ?_, ?_⟩ <;> simp only <;> omega
      · simp at hp
theorem TRow.mono {w : World} {B C : Nat} {v : Value} {ps : List (Int × Int)} (h : TRow w C v ps) (hB : B ≤ C) : TRow w B v ps := by
  obtain ⟨h1, hn | ⟨g, cap, cur, rfl, hC, rest⟩⟩ := h
  · exact ⟨h1, .inl hn⟩
  · exact ⟨h1, .inr ⟨g, cap, cur, rfl, by omega, rest⟩⟩
def pr2 (p : Int × Int) : List Int := [p.1, p.2]
def nAB (a b : Int) : Nat := (a * b).toNat
def LPS (a b : Int) : List (Int × Int) := lps a b (nAB a b)
theorem nAB_bd {a b : Int} (a1 : 1 ≤ a) (a2 : a ≤ 60) (b1 : 1 ≤ b) (b2 : b ≤ 60) : a * b = (nAB a b : Int) ∧ nAB a b ≤ 3600 := by
  obtain ⟨m0, m1⟩ := mul_bd2 (a := a) (b := b) (m := 60) (k := 60) (by omega) (by omega) (by omega) (by omega)
  unfold nAB
  omega
theorem LPS_len {a b : Int} (a1 : 1 ≤ a) (a2 : a ≤ 60) (b1 : 1 ≤ b) (b2 : b ≤ 60) : (LPS a b).length ≤ 3600 := by
  have := lps_len a b (nAB a b)
  have := (nAB_bd a1 a2 b1 b2).2
  unfold LPS
  omega
theorem LPS_mem {a b : Int} (a1 : 1 ≤ a) (a2 : a ≤ 60) (b1 : 1 ≤ b) (b2 : b ≤ 60) (j : Nat) (hj : j < (LPS a b).length) : (1 ≤ ((LPS a b).getD j (0, 0)).1 ∧ ((LPS a b).getD j (0, 0)).1 ≤ 3660) ∧ 1 ≤ ((LPS a b).getD j (0, 0)).2 ∧ ((LPS a b).getD j (0, 0)).2 ≤ 3660 := by
  have e : (LPS a b).getD j (0, 0) = (LPS a b)[j] := by simp [List.getD, hj]
  rw [e]
  exact lps_mem a1 a2 b1 b2 _ (nAB_bd a1 a2 b1 b2).2 _ (List.getElem_mem hj)
set_option maxRecDepth 100000 in
set_option maxHeartbeats 4000000 in
theorem leansOver_any (a b : Int) (a1 : 1 ≤ a) (a2 : a ≤ 60) (b1 : 1 ≤ b) (b2 : b ≤ 60) (w : World) :
    Calls Try.prog 78 #[.agg #[.int .i64 a, .int .i64 b]] w fun e w' => ∃ v, e = .returned v ∧ TRow w' w.heap.size v (LPS a b) ∧ Below w.heap.size w w' := by
  obtain ⟨hn, hn2⟩ := nAB_bd a1 a2 b1 b2
  have HE := Lib.hid (show LPS a b = lps a b (nAB a b) from rfl)
  have HAB := Lib.hid hn
  generalize nAB a b = n at *
  obtain ⟨i0, hi, hz0, hz1, hz2⟩ := info_parts infoL
  have m0 : 0 ≤ a * b := by omega
  have m1 : a * b ≤ 3600 := by omega
  go_enter Try.func78, Try.ntmps78
  go_wp2_with fail
  go_loopw [3, 4] (fun r t wr => ∃ k : Nat, k ≤ n ∧ t = .int .i64 (a + (k : Int) + 1) ∧ TRow wr (w.heap.size + 1) r (lps a b k) ∧ wr.cell? ⟨w.heap.size, 0, none⟩ = some (.int .i64 a) ∧ wr.cell? ⟨w.heap.size, 1, none⟩ = some (.int .i64 b) ∧ w.heap.size < wr.heap.size ∧ Below w.heap.size w wr) (fun _ t _ => (a + a * b + 2 - intOf t).toNat)
  case atStart => exact ⟨0, by omega, by simp, TRow.nil _ _, by simp, by simp, by simp, (by repeat (first | exact Below.refl _ _ | refine bl_alloc ?_ _ | refine bl_drewN ?_ _ | refine bl_trans (by assumption) ?_ | refine bl_set ?_ (by first | omega | (simp; done) | (simp; omega)) _))⟩
  case round =>
    obtain ⟨k, hk, rfl, hI, q0, q1, hs, hB⟩ := hrel
    have HBr := Lib.hid hB
    have HI := Lib.hid hI
    clear hB hI
    by_cases hlt : k < n
    · have hkl : a + (k : Int) + 1 ≤ a + a * b := by omega
      have HG := fun W => Lib.hid (leanFrom_any a b (a + (k : Int) + 1) a1 a2 b1 b2 (by omega) (by omega) W)
      obtain ⟨_, e2, e3⟩ := lean_at a b k
      by_cases hd : a * b % ((k : Int) + 1) = 0
      · rw [decide_eq_true hd] at e2
        have HV := Lib.hid (show lnA a b (a + (k : Int) + 1) = .agg #[.int .i64 (a + (k : Int) + 1), .int .i64 (b + a * b / ((k : Int) + 1))] by unfold lnA; rw [e2, e3]; rfl)
        rw [e2, HV.out] at HG
        have HQ := Lib.hid (lps_yes hd)
        have d0 : 0 ≤ a * b / ((k : Int) + 1) := Int.ediv_nonneg m0 (by omega)
        have d1 : a * b / ((k : Int) + 1) ≤ a * b := Int.ediv_le_self _ m0
        clear e2 e3 hd HV
        generalize a * b / ((k : Int) + 1) = Q at *
        have hlen := lps_len a b k
        go_wp2_with fail
        refine ((HG _).out).mono ?_
        rintro e v1 ⟨rfl, hbv1⟩
        obtain ⟨hcv1, hfv1⟩ := bcell hbv1
        have hzv1 := bsize hbv1
        (try simp only [World.size_alloc, World.size_setCell] at hzv1)
        have hkv1 : Below wr.heap.size wr v1 := (by repeat (first | exact Below.refl _ _ | refine bl_alloc ?_ _ | refine bl_drewN ?_ _ | refine bl_trans (by assumption) ?_ | refine bl_set ?_ (by first | omega | (simp; done) | (simp; omega)) _))
        have HI1 := Lib.hid (HI.out.keep hkv1)
        have kv1_0_0 : v1.cell? ⟨w.heap.size, 0, none⟩ = some (.int .i64 a) := cell_after hkv1 hs q0
        have kv1_0_1 : v1.cell? ⟨w.heap.size, 1, none⟩ = some (.int .i64 b) := cell_after hkv1 hs q1
        have sv1_0 : w.heap.size < v1.heap.size := size_after hkv1 hs
        have hBv1 : Below w.heap.size w v1 := (by repeat (first | exact HBr.out | exact Below.refl _ _ | refine bl_alloc ?_ _ | refine bl_drewN ?_ _ | refine bl_trans (by assumption) ?_ | refine bl_set ?_ (by first | omega | (simp; done) | (simp; omega)) _))
        have HBv1 := Lib.hid hBv1
        clear hBv1 hcv1 hfv1 hbv1 hkv1 q0 q1 hs
        have hO := Lib.hid (show v1.ownsRow (w.heap.size + 1) 65 2 u3 (lps a b k).length ((List.range ((lps a b k).length * 2)).map (fun i => Value.int .i64 (flatP (lps a b k) i))) from HI1.out)
        generalize hL : (lps a b k).length = L at *
        have HL := Lib.hid hL
        clear hL HI
        go_wp2_with (at_builtin; refine wpList_append_own _ rfl _ _ 69 rfl (w.heap.size + 1) 65 i0 (.agg #[.int .i64 0, .int .i64 0]) 2 16 Try.underlying69 hi hz0 hz1 hz2 rfl (by decide) _ _ _ rfl ((hO.out.alloc _).alloc _) ⟨v1.heap.size + 1, 0, none⟩ 1 1 [.int .i64 (a + (k : Int) + 1), .int .i64 (b + Q)] rfl rfl (cells2 _ _ _ _ _ (by simp)) (by simp [Value.oneCell']) (by unfold maxLen; omega) (by omega) (by first | omega | (simp; omega)) ?_)
        intro v' w3 hown1 hgrow1 _
        have hs1 := hgrow1.size
        simp only [World.size_alloc] at hs1
        rw [← HL.out] at hown1
        obtain ⟨r1, r2⟩ := TRow.push (W := v1.alloc _) (by simp; omega) (TRow.keep HI1.out (bl_alloc (Below.refl _ _) _)) hown1 hgrow1
        rw [← HQ.out] at r1
        have r2 := ((Below.refl (w.heap.size + 1) v1).alloc (by omega) _).trans r2
        have Q1 := Lib.hid r1
        have R2 := Lib.hid r2
        have Q2 := Lib.hid (HBv1.out.trans (r2.mono (by omega)))
        have e0 := cell_under R2.out (by omega) kv1_0_0
        have e1 := cell_under R2.out (by omega) kv1_0_1
        clear r1 r2 hown1 hgrow1 kv1_0_0 kv1_0_1
        go_wp2
        go_roundw
        case rel => exact ⟨k + 1, by omega, by go_num, Q1.out, e0, e1, by omega, Q2.out⟩
        case measure => simp only [intOf]; omega
      · rw [decide_eq_false hd] at e2
        have HV := Lib.hid (show lnA a b (a + (k : Int) + 1) = .agg #[.int .i64 0, .int .i64 0] by unfold lnA; rw [e2]; rfl)
        rw [e2, HV.out] at HG
        have HQ := Lib.hid (lps_no hd)
        clear e2 e3 hd HV
        go_wp2_with fail
        refine ((HG _).out).mono ?_
        rintro e v1 ⟨rfl, hbv1⟩
        obtain ⟨hcv1, hfv1⟩ := bcell hbv1
        have hzv1 := bsize hbv1
        (try simp only [World.size_alloc, World.size_setCell] at hzv1)
        have hkv1 : Below wr.heap.size wr v1 := (by repeat (first | exact Below.refl _ _ | refine bl_alloc ?_ _ | refine bl_drewN ?_ _ | refine bl_trans (by assumption) ?_ | refine bl_set ?_ (by first | omega | (simp; done) | (simp; omega)) _))
        have HI1 := Lib.hid (HI.out.keep hkv1)
        have kv1_0_0 : v1.cell? ⟨w.heap.size, 0, none⟩ = some (.int .i64 a) := cell_after hkv1 hs q0
        have kv1_0_1 : v1.cell? ⟨w.heap.size, 1, none⟩ = some (.int .i64 b) := cell_after hkv1 hs q1
        have sv1_0 : w.heap.size < v1.heap.size := size_after hkv1 hs
        have hBv1 : Below w.heap.size w v1 := (by repeat (first | exact HBr.out | exact Below.refl _ _ | refine bl_alloc ?_ _ | refine bl_drewN ?_ _ | refine bl_trans (by assumption) ?_ | refine bl_set ?_ (by first | omega | (simp; done) | (simp; omega)) _))
        have HBv1 := Lib.hid hBv1
        clear hBv1 hcv1 hfv1 hbv1 hkv1 q0 q1 hs
        go_wp2
        go_roundw
        case rel => exact ⟨k + 1, by omega, by go_num, by rw [HQ.out]; exact TRow.keep HI1.out (by repeat (first | exact Below.refl _ _ | refine bl_alloc ?_ _ | refine bl_set ?_ (by first | omega | (simp; done) | (simp; omega)) _)), by simp [go_sem, *], by simp [go_sem, *], by simp; omega, by repeat (first | exact HBv1.out | refine bl_alloc ?_ _ | refine bl_set ?_ (by first | omega | (simp; done) | (simp; omega)) _)⟩
        case measure => simp only [intOf]; omega
    · obtain rfl : k = n := by omega
      have hkl : ¬ a + (k : Int) + 1 ≤ a + a * b := by omega
      go_wp2
      go_ret
      exact ⟨_, rfl, by rw [HE.out]; exact TRow.mono HI.out (by omega), HBr.out⟩
set_option maxRecDepth 100000 in
set_option maxHeartbeats 4000000 in
theorem lnLeans_any (a b : Int) (a1 : 1 ≤ a) (a2 : a ≤ 60) (b1 : 1 ≤ b) (b2 : b ≤ 60) (w : World) :
    Calls Try.prog 77 #[.agg #[.int .i64 a, .int .i64 b]] w fun e w' => ∃ v, e = .returned v ∧ RRow w' w.heap.size v ((LPS a b).map pr2) ∧ Below w.heap.size w w' := by
  obtain ⟨hn, hn2⟩ := nAB_bd a1 a2 b1 b2
  have HE := Lib.hid (show LPS a b = lps a b (nAB a b) from rfl)
  have HAB := Lib.hid hn
  generalize nAB a b = n at *
  obtain ⟨i0, hi, hz0, hz1, hz2⟩ := info_parts infoIS
  go_enter Try.func77, Try.ntmps77
  go_wp2_with fail
  go_loopw [3, 5] (fun r t wr => ∃ k : Nat, k ≤ n ∧ t = .int .i64 ((k : Int) + 1) ∧ RRow wr (w.heap.size + 1) r ((lps a b k).map pr2) ∧ wr.cell? ⟨w.heap.size, 0, none⟩ = some (.int .i64 a) ∧ wr.cell? ⟨w.heap.size, 1, none⟩ = some (.int .i64 b) ∧ w.heap.size < wr.heap.size ∧ Below w.heap.size w wr) (fun _ t _ => (n + 2 - intOf t).toNat)
  case atStart => exact ⟨0, by omega, by simp, RRow.nil _ _, by simp, by simp, by simp, (by repeat (first | exact Below.refl _ _ | refine bl_alloc ?_ _ | refine bl_drewN ?_ _ | refine bl_trans (by assumption) ?_ | refine bl_set ?_ (by first | omega | (simp; done) | (simp; omega)) _))⟩
  case round =>
    obtain ⟨k, hk, rfl, hI, q0, q1, hs, hB⟩ := hrel
    have HBr := Lib.hid hB
    by_cases hlt : k < n
    · have hkl : (k : Int) + 1 ≤ (n : Int) := by omega
      by_cases hd : (n : Int) % ((k : Int) + 1) = 0
      · have HQ := Lib.hid (lps_yes (a := a) (b := b) (k := k) (by rw [HAB.out]; exact hd))
        rw [HAB.out] at HQ
        have hde : ((n : Int) % ((k : Int) + 1) == 0) = true := by rw [hd]; rfl
        have d0 : 0 ≤ (n : Int) / ((k : Int) + 1) := Int.ediv_nonneg (by omega) (by omega)
        have d1 : (n : Int) / ((k : Int) + 1) ≤ (n : Int) := Int.ediv_le_self _ (by omega)
        have hk0 : ¬ (k : Int) + 1 = 0 := by omega
        generalize hq : (n : Int) / ((k : Int) + 1) = Q at *
        have hdv : IntKind.i64.wrap Q = Q := IntWalk.i64_in _ ⟨by omega, by omega⟩
        have hw1 : IntKind.i64.wrap (a + ((k : Int) + 1)) = a + (k : Int) + 1 := by rw [IntWalk.i64_in _ ⟨by omega, by omega⟩]; omega
        have hw2 : IntKind.i64.wrap (b + Q) = b + Q := IntWalk.i64_in _ ⟨by omega, by omega⟩
        obtain ⟨vs, h1, h3, h4⟩ := hI
        have hlen := lps_len a b k
        rw [List.length_map] at h1 h3 h4
        have hO := Lib.hid (show wr.drew.ownsRow (w.heap.size + 1) 39 1 u3 (lps a b k).length vs from h1)
        have H1 := Lib.hid h1
        have H3 := Lib.hid h3
        have H4 := Lib.hid h4
        have q0 : wr.drew.cell? ⟨w.heap.size, 0, none⟩ = some (.int .i64 a) := q0
        have q1 : wr.drew.cell? ⟨w.heap.size, 1, none⟩ = some (.int .i64 b) := q1
        clear h1 h3 h4 hd
        generalize hL : (lps a b k).length = L at *
        have HL := Lib.hid hL
        clear hL
        go_wp2_with fail
        go_region_law (refine step_append_lies _ rfl _ _ 34 rfl (w.heap.size + 1) 39 i0 (.slice none 0 0) 1 24 Try.underlying34 hi hz0 hz1 hz2 rfl (by decide) _ _ _ rfl (World.ownsRow.alloc (World.ownsRow.alloc (w := wr.drew) hO.out _) _) ⟨_, 0, none⟩ 1 1 [.slice (some ⟨wr.heap.size, 0, none⟩) 2 2] rfl rfl (cell_one_alloc _ _ _ _ (by simp)) (by simp [Value.oneCell']) (by decide) (by unfold maxLen; omega) (by omega) (by simp; omega) _ rfl ?_; intro g3 cp wn hown1 hgrow1 hat hlt2)
        all_goals
          have hn := IRow.made wr.drew (w.heap.size + 1) [a + (k : Int) + 1, b + Q] (by simp; omega) (by simp [maxLen])
          rw [← HL.out] at hown1 H3 H4
          obtain ⟨r1, r2⟩ := RRow.push (rs := (lps a b k).map pr2) (xs := [a + (k : Int) + 1, b + Q]) (wr := wr.drew) (by simp; omega) (by rw [List.length_map, HL.out]; exact H1.out) (by rw [List.length_map]; exact H3.out) (by rw [List.length_map]; exact H4.out) hn (by rw [List.length_map]; exact hown1) hgrow1
          have HQ2 : (lps a b (k + 1)).map pr2 = (lps a b k).map pr2 ++ [[a + (k : Int) + 1, b + Q]] := by rw [HQ.out, List.map_append]; rfl
          rw [← HQ2, HL.out] at r1
          have Q1 := Lib.hid r1
          have R2 := Lib.hid r2
          have Q2 := Lib.hid (HBr.out.trans ((show Below (w.heap.size + 1) wr wn from (Below.drew (Below.refl _ _)).trans r2).mono (by omega)))
          have e0 := cell_under R2.out (by omega) q0
          have e1 := cell_under R2.out (by omega) q1
          have es : w.heap.size < wn.heap.size := by have := R2.out.size; simp at this; omega
          clear r1 r2 hown1 hgrow1 hat hlt2 q0 q1 HQ2 hn
          go_wp2
          go_roundw
          case rel => exact ⟨k + 1, by omega, by go_num, Q1.out, e0, e1, es, Q2.out⟩
          case measure => simp only [intOf]; omega
      · have HQ := Lib.hid (lps_no (a := a) (b := b) (k := k) (by rw [HAB.out]; exact hd))
        have hde : ((n : Int) % ((k : Int) + 1) == 0) = false := beq_eq_false_iff_ne.2 hd
        have HI := Lib.hid hI
        clear hI hd hB
        go_wp2
        go_roundw
        case rel => exact ⟨k + 1, by omega, by go_num, by rw [HQ.out]; exact HI.out, q0, q1, hs, HBr.out⟩
        case measure => simp only [intOf]; omega
    · obtain rfl : k = n := by omega
      have hkl : ¬ (k : Int) + 1 ≤ (k : Int) := by omega
      have HI := Lib.hid hI
      clear hI hB
      go_wp2
      go_ret
      exact ⟨_, rfl, by rw [HE.out]; exact HI.out.mono (by omega), HBr.out⟩
end Go.Proofs.Ytjboffbhkffhkaa
