/- The whole way of a beam as the program keeps it. -/
import Derived.Test.YtgpfnbajjephpaaB2
import Derived.Test.YtgpfnbajjephpaaR1
import Derived.OwnWalk
import Derived.ScopeJumps
import Derived.WalkMore
import Derived.Deep.AppendLies
import Derived.Deep.Heap
namespace Go.Proofs.Ytgpfnbajjephpaa
open Go.RowKit Beam Go.Deep
set_option linter.unusedVariables false
set_option linter.unusedSimpArgs false
theorem endI_nat (W x : Nat) : endI W x = ends W x := by
  unfold endI ends
  rw [Bool.eq_iff_iff]; simp; omega
theorem corI (t : BWay) (k : Nat) : (endI t.W (t.x k) && endI t.H (t.y k)) = t.cor k := by
  unfold BWay.cor; rw [endI_nat, endI_nat]
theorem turnI_nat (W x : Nat) (r : Bool) : turnI W x r = turn W x r := by
  unfold turnI turn endI
  by_cases e : x = 0
  · subst e; simp
  · by_cases e2 : x = W
    · subst e2; simp [e]
    · have e3 : ¬ (x : Int) = (W : Int) := by omega
      have e4 : ¬ (x : Int) = 0 := by omega
      simp [e, e2, e3, e4]
theorem moveX {t : BWay} (h : t.ok) (k : Nat) : un true (t.x k) 1 (t.r k) = (t.x (k + 1) : Nat) := by
  cases g : t.r k
  · obtain ⟨a, b⟩ := tri_down t.W (t.px + k) h.1 g
    simp only [un, if_true, BWay.x] at *
    rw [← Nat.add_assoc, a]; simp; omega
  · obtain ⟨a, b⟩ := tri_up t.W (t.px + k) h.1 g
    simp only [un, if_true, BWay.x] at *
    rw [← Nat.add_assoc, a]; simp
theorem moveY {t : BWay} (h : t.ok) (k : Nat) : un true (t.y k) 1 (t.u k) = (t.y (k + 1) : Nat) := by
  cases g : t.u k
  · obtain ⟨a, b⟩ := tri_down t.H (t.py + k) h.2.1 g
    simp only [un, if_true, BWay.y] at *
    rw [← Nat.add_assoc, a]; simp; omega
  · obtain ⟨a, b⟩ := tri_up t.H (t.py + k) h.2.1 g
    simp only [un, if_true, BWay.y] at *
    rw [← Nat.add_assoc, a]; simp
theorem turnX {t : BWay} (h : t.ok) (k : Nat) : turnI t.W (t.x (k + 1)) (t.r k) = t.r (k + 1) := by
  rw [turnI_nat]; exact (gup_step t.W (t.px + k) h.1).symm
theorem turnY {t : BWay} (h : t.ok) (k : Nat) : turnI t.H (t.y (k + 1)) (t.u k) = t.u (k + 1) := by
  rw [turnI_nat]; exact (gup_step t.H (t.py + k) h.2.1).symm
theorem x_le {t : BWay} (h : t.ok) (k : Nat) : t.x k ≤ 60 := Nat.le_trans (tri_le _ _ h.1) h.2.2.1
theorem y_le {t : BWay} (h : t.ok) (k : Nat) : t.y k ≤ 60 := Nat.le_trans (tri_le _ _ h.2.1) h.2.2.2
def wayAt (W H x y : Nat) (r u : Bool) : BWay := ⟨W, H, phase W x r, phase H y u⟩
theorem wayAt_ok {a b x y : Int} (h : okB a b x y = true) (r u : Bool) : (wayAt a.toNat b.toNat x.toNat y.toNat r u).ok := by
  obtain ⟨⟨⟨t1, t2⟩, t3, t4⟩, ⟨t5, t6⟩, t7, t8⟩ := okB_true h
  unfold BWay.ok wayAt
  refine ⟨?_, ?_, ?_, ?_⟩ <;> simp only [] <;> omega
theorem wayAt_0 {W H x y : Nat} (r u : Bool) (hW : 1 ≤ W) (hH : 1 ≤ H) (hx : x ≤ W) (hy : y ≤ H) : (wayAt W H x y r u).x 0 = x ∧ (wayAt W H x y r u).y 0 = y ∧ turnI W x r = (wayAt W H x y r u).r 0 ∧ turnI H y u = (wayAt W H x y r u).u 0 := by
  obtain ⟨a, b, _⟩ := tri_phase W x r hW hx
  obtain ⟨c, d, _⟩ := tri_phase H y u hH hy
  rw [turnI_nat, turnI_nat]
  exact ⟨a, c, b.symm, d.symm⟩
/-- the cells of the beam behind k steps, as it is kept -/
def bm (t : BWay) (k : Nat) : List Value := [.int .i64 (t.x k : Nat), .int .i64 (t.y k : Nat), .bool (t.kr k), .bool (t.ku k)]
def bms (t : BWay) : Nat → List Value
  | 0 => []
  | k + 1 => bms t k ++ bm t k
theorem bms_len (t : BWay) (n : Nat) : (bms t n).length = n * 4 := by
  induction n with
  | zero => rfl
  | succ n ih => simp [bms, bm, ih]; omega
theorem bms_get (t : BWay) (n i j : Nat) (hi : i < n) (hj : j < 4) : (bms t n)[i * 4 + j]? = (bm t i)[j]? := by
  induction n with
  | zero => omega
  | succ n ih =>
    have hl := bms_len t n
    rw [bms]
    by_cases e : i = n
    · subst e
      rw [List.getElem?_append_right (by omega), hl]
      congr 1; omega
    · rw [List.getElem?_append_left (by omega)]
      exact ih (by omega)
theorem bm_go {t : BWay} {k : Nat} (h : k = 0 ∨ t.cor k = false) : bm t k = [.int .i64 (t.x k : Nat), .int .i64 (t.y k : Nat), .bool (t.r k), .bool (t.u k)] := by
  have : ¬ (k ≠ 0 ∧ t.cor k = true) := by
    rcases h with h | h
    · simp [h]
    · simp [h]
  unfold bm BWay.kr BWay.ku
  rw [if_neg this, if_neg this]
theorem bm_end {t : BWay} {k : Nat} (h : t.cor (k + 1) = true) : bm t (k + 1) = [.int .i64 (t.x (k + 1) : Nat), .int .i64 (t.y (k + 1) : Nat), .bool (t.r k), .bool (t.u k)] := by
  unfold bm BWay.kr BWay.ku
  rw [if_pos ⟨by omega, h⟩, if_pos ⟨by omega, h⟩, Nat.add_sub_cancel]
theorem infoB : (Try.prog.info? 30).map (fun i => (i.zero, i.size, i.bytes)) = some (some (.agg #[.int .i64 0, .int .i64 0, .bool false, .bool false]), 4, 24) := by kernel_rfl
/-- the first n beams of a way, in a block of a call's own -/
def BRow (w : World) (B : Nat) (v : Value) (n : Nat) (t : BWay) : Prop := w.ownsRow B 30 4 v n (bms t n)
theorem BRow.keep {w w' : World} {B : Nat} {v : Value} {n : Nat} {t : BWay} (h : BRow w B v n t) (k : Below w.heap.size w w') : BRow w' B v n t :=
  World.ownsRow.kept h (only_of_below k none) (by cases hv : v.ownBlock <;> simp)
theorem BRow.mono {w : World} {B B' : Nat} {v : Value} {n : Nat} {t : BWay} (h : BRow w B v n t) (hb : B' ≤ B) : BRow w B' v n t := by
  obtain ⟨h1, h2⟩ := h
  refine ⟨h1, ?_⟩
  rcases h2 with h2 | ⟨g, cap, cur, e, hB, rest⟩
  · exact .inl h2
  · exact .inr ⟨g, cap, cur, e, Nat.le_trans hb hB, rest⟩
/-- .. that lies behind a boundary, kept through stores ahead of it -/
theorem BRow.far {w w' : World} {B : Nat} {v : Value} {n : Nat} {t : BWay} (h : BRow w B v n t) (k : ∀ g, B ≤ g → g < w.heap.size → w'.heap[g]? = w.heap[g]?) : BRow w' B v n t := by
  obtain ⟨h1, h2⟩ := h
  refine ⟨h1, ?_⟩
  rcases h2 with h2 | ⟨g, cap, cur, e, hB, hg, rest⟩
  · exact .inl h2
  · refine .inr ⟨g, cap, cur, e, hB, ?_, rest⟩
    rw [k g hB (Array.getElem?_eq_some_iff.1 hg).1]; exact hg
theorem BRow.open_ {w : World} {B : Nat} {v : Value} {n : Nat} {t : BWay} (h : BRow w B v n t) (h0 : 0 < n) :
    ∃ g cap, v = .slice (some ⟨g, 0, none⟩) n cap ∧ B ≤ g ∧ g < w.heap.size ∧ n ≤ cap ∧ cap ≤ maxLen ∧
      (∀ i, i < n → w.cell? ⟨g, i * 4, none⟩ = (bm t i)[0]? ∧ w.cell? ⟨g, i * 4 + 1, none⟩ = (bm t i)[1]? ∧ w.cell? ⟨g, i * 4 + 2, none⟩ = (bm t i)[2]? ∧ w.cell? ⟨g, i * 4 + 3, none⟩ = (bm t i)[3]?) := by
  have h' := h
  obtain ⟨_, ⟨rfl, hn⟩ | ⟨g, cap, cur, rfl, hB, hg, hn, hm, hs, ht⟩⟩ := h
  · omega
  · refine ⟨g, cap, rfl, hB, (Array.getElem?_eq_some_iff.1 hg).1, hn, hm, fun i hi => ?_⟩
    have q : ∀ j, j < 4 → w.cell? ⟨g, i * 4 + j, none⟩ = (bm t i)[j]? := fun j hj => by
      rw [World.ownsRow.cellAt h' (i * 4 + j) (by omega), bms_get t n i j hi hj]
    exact ⟨q 0 (by omega), q 1 (by omega), q 2 (by omega), q 3 (by omega)⟩
theorem BRow.nil (w : World) (B : Nat) (t : BWay) : BRow w B (.slice none 0 0) 0 t := World.ownsRow_nil w B _ 4
theorem cells4 (w : World) (x y r u : Value) (T n : Nat) (hn : n = w.heap.size) : ∀ j q, [x, y, r, u][j]? = some q → (w.alloc (.cells #[x, y, r, u] T)).cell? ((⟨n, 0, none⟩ : Addr).add j) = some q := by
  intro j q hj
  subst hn
  match j, hj with
  | 0, hj => simp at hj; subst hj; simp [Addr.add]
  | 1, hj => simp at hj; subst hj; simp [Addr.add]
  | 2, hj => simp at hj; subst hj; simp [Addr.add]
  | 3, hj => simp at hj; subst hj; simp [Addr.add]
theorem BRow.push {W w1 : World} {B : Nat} {v v' : Value} {n : Nat} {t : BWay} {o : Obj} (hB : B ≤ W.heap.size) (h : BRow W B v n t)
    (hO : w1.ownsRow B 30 4 v' (n + 1) (bms t n ++ bm t n)) (hg : (W.alloc o).grownBy w1 v.ownBlock) : BRow w1 B v' (n + 1) t ∧ Below B W w1 :=
  ⟨hO, ((Below.refl B W).alloc hB o).grown hg (by simp; omega) fun g e => (World.ownsRow.lt h g e).1⟩
/-- what lies in the boxes of the walk: the table, the beam at first, the beam now (X, Y, R, U), the result -/
structure WC (t : BWay) (B F : Nat) (X Y : Nat) (R U : Bool) (w : World) : Prop where
  a0 : w.cell? ⟨B, 0, none⟩ = some (.int .i64 (t.W : Nat))
  a1 : w.cell? ⟨B, 1, none⟩ = some (.int .i64 (t.H : Nat))
  f0 : w.cell? ⟨F, 0, none⟩ = some (.int .i64 (t.x 0 : Nat))
  f1 : w.cell? ⟨F, 1, none⟩ = some (.int .i64 (t.y 0 : Nat))
  f2 : w.cell? ⟨F, 2, none⟩ = some (.bool (t.r 0))
  f3 : w.cell? ⟨F, 3, none⟩ = some (.bool (t.u 0))
  o0 : w.cell? ⟨F + 1, 0, none⟩ = some (.int .i64 (X : Nat))
  o1 : w.cell? ⟨F + 1, 1, none⟩ = some (.int .i64 (Y : Nat))
  o2 : w.cell? ⟨F + 1, 2, none⟩ = some (.bool R)
  o3 : w.cell? ⟨F + 1, 3, none⟩ = some (.bool U)
  z0 : w.frozen? ⟨F + 1, 0, none⟩ = false
  z1 : w.frozen? ⟨F + 1, 1, none⟩ = false
  z2 : w.frozen? ⟨F + 1, 2, none⟩ = false
  z3 : w.frozen? ⟨F + 1, 3, none⟩ = false
  r0 : w.cell? ⟨B + 1 + 1, 0, none⟩ = some (.slice none 0 0)
  r1 : w.cell? ⟨B + 1 + 1, 1, none⟩ = some (.bool false)
  y0 : w.frozen? ⟨B + 1 + 1, 0, none⟩ = false
  y1 : w.frozen? ⟨B + 1 + 1, 1, none⟩ = false
  hB : B + 1 + 1 < F
  hF : F + 1 < w.heap.size
theorem WC.of {t : BWay} {B F X Y : Nat} {R U : Bool} {w v : World} (h : WC t B F X Y R U w) (hc : ∀ b o, b < F + 1 + 1 → v.cell? ⟨b, o, none⟩ = w.cell? ⟨b, o, none⟩) (hf : ∀ b o, b < F + 1 + 1 → v.frozen? ⟨b, o, none⟩ = w.frozen? ⟨b, o, none⟩) (hs : w.heap.size ≤ v.heap.size) : WC t B F X Y R U v := by
  obtain ⟨a0, a1, f0, f1, f2, f3, o0, o1, o2, o3, z0, z1, z2, z3, r0, r1, y0, y1, hB, hF⟩ := h
  refine ⟨?_, ?_, ?_, ?_, ?_, ?_, ?_, ?_, ?_, ?_, ?_, ?_, ?_, ?_, ?_, ?_, ?_, ?_, hB, by omega⟩
  all_goals (first | rw [hc _ _ (by omega)] | rw [hf _ _ (by omega)]) <;> assumption
theorem WC.far {t : BWay} {B F X Y : Nat} {R U : Bool} {w v : World} (h : WC t B F X Y R U w) (k : Below (F + 1 + 1) w v) : WC t B F X Y R U v :=
  h.of (fun b o hb => k.cell (p := ⟨b, o, none⟩) hb) (fun b o hb => k.frozen (p := ⟨b, o, none⟩) hb) k.size
theorem WC.keep {t : BWay} {B F X Y : Nat} {R U : Bool} {w v : World} (h : WC t B F X Y R U w) (k : Below w.heap.size w v) : WC t B F X Y R U v :=
  h.far (k.mono (by have := h.hF; omega))
/-- the box of the beam now, stored anew -/
def put4 (w : World) (F : Nat) (X Y : Nat) (R U : Bool) : World := (((w.setCell ⟨F + 1, 0, none⟩ (.int .i64 (X : Nat))).setCell ⟨F + 1, 1, none⟩ (.int .i64 (Y : Nat))).setCell ⟨F + 1, 2, none⟩ (.bool R)).setCell ⟨F + 1, 3, none⟩ (.bool U)
theorem WC.put {t : BWay} {B F X Y : Nat} {R U : Bool} {w : World} (h : WC t B F X Y R U w) (X' Y' : Nat) (R' U' : Bool) : WC t B F X' Y' R' U' (put4 w F X' Y' R' U') := by
  obtain ⟨a0, a1, f0, f1, f2, f3, o0, o1, o2, o3, z0, z1, z2, z3, r0, r1, y0, y1, hB, hF⟩ := h
  have n1 : ¬ B = F + 1 := by omega
  have n2 : ¬ B + 1 + 1 = F + 1 := by omega
  have n3 : ¬ F = F + 1 := by omega
  have n4 : ¬ F + 1 = B := by omega
  have n5 : ¬ F + 1 = B + 1 + 1 := by omega
  have n6 : ¬ F + 1 = F := by omega
  unfold put4
  constructor <;> simp [go_sem, *]
theorem put_heap (w : World) (F X Y : Nat) (R U : Bool) (g : Nat) (hg : g ≠ F + 1) : (put4 w F X Y R U).heap[g]? = w.heap[g]? := by
  unfold put4
  rw [blk_setCell_other _ _ _ _ hg, blk_setCell_other _ _ _ _ hg, blk_setCell_other _ _ _ _ hg, blk_setCell_other _ _ _ _ hg]
theorem BRow.put {w : World} {F : Nat} {v : Value} {n : Nat} {t : BWay} (h : BRow w (F + 1 + 1) v n t) (X Y : Nat) (R U : Bool) : BRow (put4 w F X Y R U) (F + 1 + 1) v n t :=
  h.far fun g hB _ => put_heap w F X Y R U g (by omega)
theorem put_size (w : World) (F X Y : Nat) (R U : Bool) : (put4 w F X Y R U).heap.size = w.heap.size := by unfold put4; simp
theorem put_below {B : Nat} {a w : World} (h : Below B a w) (F X Y : Nat) (R U : Bool) (hF : B ≤ F + 1) : Below B a (put4 w F X Y R U) := by
  unfold put4
  exact (((h.setCell (p := ⟨F + 1, 0, none⟩) hF _).setCell (p := ⟨F + 1, 1, none⟩) hF _).setCell (p := ⟨F + 1, 2, none⟩) hF _).setCell (p := ⟨F + 1, 3, none⟩) hF _
theorem res_row {w : World} {B F : Nat} {v u u' : Value} {n : Nat} {t : BWay} (h : BRow w (F + 1 + 1) v n t) (hB : B + 1 + 1 < F) : BRow ((w.setCell ⟨B + 1 + 1, 0, none⟩ u).setCell ⟨B + 1 + 1, 1, none⟩ u') B v n t :=
  BRow.mono (BRow.far h fun g hg _ => by rw [blk_setCell_other _ _ _ _ (by simp only []; omega), blk_setCell_other _ _ _ _ (by simp only []; omega)]) (by omega)
theorem res_below {a w : World} (h : Below a.heap.size a w) (u u' : Value) : Below a.heap.size a ((w.setCell ⟨a.heap.size + 1 + 1, 0, none⟩ u).setCell ⟨a.heap.size + 1 + 1, 1, none⟩ u') :=
  (h.setCell (p := ⟨a.heap.size + 1 + 1, 0, none⟩) (by simp only []; omega) _).setCell (p := ⟨a.heap.size + 1 + 1, 1, none⟩) (by simp only []; omega) _
theorem back_row {w : World} {B F : Nat} {v a b c d u u' : Value} {n : Nat} {t : BWay} (h : BRow w (F + 1 + 1) v n t) (hB : B + 1 + 1 < F) : BRow ((((((w.setCell ⟨F + 1, 0, none⟩ a).setCell ⟨F + 1, 1, none⟩ b).setCell ⟨F + 1, 2, none⟩ c).setCell ⟨F + 1, 3, none⟩ d).setCell ⟨B + 1 + 1, 0, none⟩ u).setCell ⟨B + 1 + 1, 1, none⟩ u') B v n t :=
  res_row (BRow.far h fun g hg _ => by rw [blk_setCell_other _ _ _ _ (by simp only []; omega), blk_setCell_other _ _ _ _ (by simp only []; omega), blk_setCell_other _ _ _ _ (by simp only []; omega), blk_setCell_other _ _ _ _ (by simp only []; omega)]) hB
theorem back_below {a' w : World} {F : Nat} (h : Below a'.heap.size a' w) (hB : a'.heap.size + 1 + 1 < F) (a b c d u u' : Value) : Below a'.heap.size a' ((((((w.setCell ⟨F + 1, 0, none⟩ a).setCell ⟨F + 1, 1, none⟩ b).setCell ⟨F + 1, 2, none⟩ c).setCell ⟨F + 1, 3, none⟩ d).setCell ⟨a'.heap.size + 1 + 1, 0, none⟩ u).setCell ⟨a'.heap.size + 1 + 1, 1, none⟩ u') :=
  res_below ((((h.setCell (p := ⟨F + 1, 0, none⟩) (by simp only []; omega) _).setCell (p := ⟨F + 1, 1, none⟩) (by simp only []; omega) _).setCell (p := ⟨F + 1, 2, none⟩) (by simp only []; omega) _).setCell (p := ⟨F + 1, 3, none⟩) (by simp only []; omega) _) _ _
theorem same_of_eq {t : BWay} {k : Nat} (h1 : ((t.x k : Nat) : Int) = ((t.x 0 : Nat) : Int)) (h2 : ((t.y k : Nat) : Int) = ((t.y 0 : Nat) : Int)) (h3 : t.r k = t.r 0) (h4 : t.u k = t.u 0) : t.same k = true := by
  have a : t.x k = t.x 0 := by omega
  have b : t.y k = t.y 0 := by omega
  simp [BWay.same, a, b, h3, h4]
theorem eqs_of_same {t : BWay} {k : Nat} (h : t.same k = true) : ((t.x k : Nat) : Int) = ((t.x 0 : Nat) : Int) ∧ ((t.y k : Nat) : Int) = ((t.y 0 : Nat) : Int) ∧ t.r k = t.r 0 ∧ t.u k = t.u 0 := by
  simp only [BWay.same, Bool.and_eq_true, decide_eq_true_eq, beq_iff_eq] at h
  obtain ⟨⟨a, b⟩, c, d⟩ := h
  exact ⟨by omega, by omega, c, d⟩
theorem stop_of {t : BWay} {k : Nat} (h1 : t.cor k = false) (h2 : t.same k = false) : t.stop k = false := by simp [BWay.stop, h1, h2]
def lenOf : Value → Nat
  | .slice _ n _ => n
  | _ => 0
theorem BRow.len {w : World} {B : Nat} {v : Value} {n : Nat} {t : BWay} (h : BRow w B v n t) : lenOf v = n := by
  obtain ⟨_, ⟨rfl, hn⟩ | ⟨g, cap, cur, rfl, _⟩⟩ := h
  · simp [lenOf, hn]
  · rfl
theorem M_le {t : BWay} (h : t.ok) : t.M ≤ 7200 := by
  have := (t.M_spec h).2.1
  have h1 : 2 * t.W * t.H ≤ 2 * 60 * 60 := Nat.mul_le_mul (Nat.mul_le_mul (Nat.le_refl 2) h.2.2.1) h.2.2.2
  omega
theorem atM {t : BWay} (h : t.ok) {k : Nat} (hk : k < t.M) (hs : t.stop (k + 1) = true) : t.M = k + 1 := by
  have := (t.M_spec h).2.2.1 (k + 1) (by omega)
  by_cases c : k + 1 < t.M
  · rw [this c] at hs; cases hs
  · omega
theorem beforeM {t : BWay} (h : t.ok) {k : Nat} (hk : k < t.M) (hs : t.stop (k + 1) = false) : k + 1 < t.M := by
  by_cases c : k + 1 < t.M
  · exact c
  · have e : t.M = k + 1 := by omega
    have := (t.M_spec h).2.2.2
    rw [e, hs] at this; cases this
theorem go_at {t : BWay} (h : t.ok) {k : Nat} (hk : k < t.M) : k = 0 ∨ t.cor k = false := by
  by_cases c : k = 0
  · exact .inl c
  · exact .inr (BWay.cor_before h (by omega) hk)
def wayJ (t : BWay) (w : World) (r u : Bool) (a' : Act) (w' : World) : Prop := ∃ (F k : Nat) (v : Value) (u8 u9 u10 u11 u12 u13 u14 u15 u16 u17 u18 u19 u20 u21 u22 u23 u24 u25 u26 u27 u28 u29 u30 u31 u32 u33 : Value), a' = { tmps := #[.agg #[.int .i64 (t.W : Nat), .int .i64 (t.H : Nat)], .agg #[.int .i64 (t.x 0 : Nat), .int .i64 (t.y 0 : Nat), .bool r, .bool u], .pointer (some ⟨w.heap.size, 0, none⟩), .pointer (some ⟨w.heap.size + 1, 0, none⟩), .pointer (some ⟨w.heap.size + 1 + 1, 0, none⟩), .pointer (some ⟨F, 0, none⟩), .pointer (some ⟨F + 1, 0, none⟩), v, u8, u9, u10, u11, u12, u13, u14, u15, u16, u17, u18, u19, u20, u21, u22, u23, u24, u25, u26, u27, u28, u29, u30, u31, u32, u33], defers := [] } ∧ 1 ≤ k ∧ k < t.M ∧ WC t w.heap.size F (t.x k) (t.y k) (t.r k) (t.u k) w' ∧ BRow w' (F + 1 + 1) v k t ∧ Below w.heap.size w w'

set_option maxRecDepth 100000 in
set_option maxHeartbeats 2000000 in
theorem wayOf_any (t : BWay) (h : t.ok) (r u : Bool) (hr : turnI t.W (t.x 0) r = t.r 0) (hu : turnI t.H (t.y 0) u = t.u 0) (w : World) :
    Calls Try.prog 20 #[.agg #[.int .i64 (t.W : Nat), .int .i64 (t.H : Nat)], .agg #[.int .i64 (t.x 0 : Nat), .int .i64 (t.y 0 : Nat), .bool r, .bool u]] w fun e w' => ∃ v, e = .returned (.agg #[v, .bool t.e]) ∧ BRow w' w.heap.size v (if t.e then t.M + 1 else t.M) t ∧ Below w.heap.size w w' := by
  obtain ⟨i0, hi, hz0, hz1, hz2⟩ := info_parts infoB
  have HR := Lib.hid hr
  have HU := Lib.hid hu
  have OK := Lib.hid h
  have MS := Lib.hid (t.M_spec h)
  clear hr hu h
  go_enter Try.func20, Try.ntmps20
  go_wp2
  refine wp_scope_jumps 0 (wayJ t w r u) (fun a' _ => t.M - lenOf (a'.tmps.getD 7 undef)) rfl ?_ ?_
  · go_wp2_with fail
    refine (turnedInside_any _ _ _ _ _ _ _).mono ?_
    rintro e w1 ⟨rfl, hb1⟩
    obtain ⟨hc, hf⟩ := bcell hb1
    have hz := bsize hb1
    (try simp only [World.size_alloc] at hz)
    have h0 : w.heap.size < w1.heap.size := by omega
    have h1 : w.heap.size + 1 < w1.heap.size := by omega
    have h2 : w.heap.size + 1 + 1 < w1.heap.size := by omega
    rw [HR.out, HU.out]
    go_wp2_with fail
    have hC : WC t w.heap.size w1.heap.size (t.x 0) (t.y 0) (t.r 0) (t.u 0) ((w1.alloc (.cells #[.int .i64 (t.x 0 : Nat), .int .i64 (t.y 0 : Nat), .bool (t.r 0), .bool (t.u 0)] 30)).alloc (.cells #[.int .i64 (t.x 0 : Nat), .int .i64 (t.y 0 : Nat), .bool (t.r 0), .bool (t.u 0)] 30)) := by
      constructor <;> simp [go_sem, *]
    have hR := BRow.nil ((w1.alloc (.cells #[.int .i64 (t.x 0 : Nat), .int .i64 (t.y 0 : Nat), .bool (t.r 0), .bool (t.u 0)] 30)).alloc (.cells #[.int .i64 (t.x 0 : Nat), .int .i64 (t.y 0 : Nat), .bool (t.r 0), .bool (t.u 0)] 30)) (w1.heap.size + 1 + 1) t
    have hW : Below w.heap.size w ((w1.alloc (.cells #[.int .i64 (t.x 0 : Nat), .int .i64 (t.y 0 : Nat), .bool (t.r 0), .bool (t.u 0)] 30)).alloc (.cells #[.int .i64 (t.x 0 : Nat), .int .i64 (t.y 0 : Nat), .bool (t.r 0), .bool (t.u 0)] 30)) := (by repeat (first | exact Below.refl _ _ | refine bl_alloc ?_ _ | refine bl_drewN ?_ _ | refine bl_trans (by assumption) ?_))
    have hk : 0 < t.M := MS.out.1
    clear hc hf hz h0 h1 h2 HR HU
    clear hb1
    go_step3
    generalize w1.heap.size = F at *
    generalize ((w1.alloc (.cells #[.int .i64 (t.x 0 : Nat), .int .i64 (t.y 0 : Nat), .bool (t.r 0), .bool (t.u 0)] 30)).alloc (.cells #[.int .i64 (t.x 0 : Nat), .int .i64 (t.y 0 : Nat), .bool (t.r 0), .bool (t.u 0)] 30)) = wr at *
    obtain ⟨k, hk0⟩ : ∃ k : Nat, k = 0 := ⟨0, rfl⟩
    have hk : k < t.M := by omega
    have hC : WC t w.heap.size F (t.x k) (t.y k) (t.r k) (t.u k) wr := by rw [hk0]; exact hC
    have hR : BRow wr (F + 1 + 1) (.slice none 0 0) k t := by rw [hk0]; exact hR
    clear hk0
    have HC := Lib.hid hC
    obtain ⟨a0, a1, f0, f1, f2, f3, o0, o1, o2, o3, z0, z1, z2, z3, r0, r1, y0, y1, hB, hF⟩ := hC
    have HR := Lib.hid hR
    have HW := Lib.hid hW
    have hm7 := M_le OK.out
    have HG := Lib.hid (bm_go (go_at OK.out hk))
    have HMX := Lib.hid (moveX OK.out k)
    have HMY := Lib.hid (moveY OK.out k)
    have HTX := Lib.hid (turnX OK.out k)
    have HTY := Lib.hid (turnY OK.out k)
    have HCI := Lib.hid (corI t (k + 1))
    have bx := x_le OK.out k
    have by_ := y_le OK.out k
    have ne1 : ¬ w.heap.size = F + 1 := by omega
    have ne2 : ¬ w.heap.size + 1 + 1 = F + 1 := by omega
    have hFs : F + 1 + 1 ≤ wr.heap.size := by omega
    have HL := Lib.hid hR.len
    clear hR hW
    have hO2 := Lib.hid (show wr.ownsRow (F + 1 + 1) 30 4 _ k (bms t k) from HR.out)
    go_wp2_with (at_builtin; refine wpList_append_own _ rfl _ _ 34 rfl (F + 1 + 1) 30 i0 (.agg #[.int .i64 0, .int .i64 0, .bool false, .bool false]) 4 24 Try.underlying34 hi hz0 hz1 hz2 rfl (by decide) _ _ _ rfl (hO2.out.alloc _) ⟨wr.heap.size, 0, none⟩ 1 1 [.int .i64 (t.x k : Nat), .int .i64 (t.y k : Nat), .bool (t.r k), .bool (t.u k)] rfl rfl ?c1x ?c2x ?c3x ?c4x ?c5x ?_)
    all_goals (try exact cells4 _ _ _ _ _ _ _ (by simp))
    case c2x => simp [Value.oneCell']
    case c3x => unfold maxLen; omega
    case c4x => omega
    case c5x => first | omega | (simp; omega)
    intro v' w2 hown2 hgrow2 _
    obtain ⟨q2, p2⟩ := BRow.push (n := k) hFs HR.out (by rw [HG.out]; exact hown2) hgrow2
    have Q2 := Lib.hid q2
    have P2 := Lib.hid p2
    clear q2 p2 hown2 hgrow2
    have C2 := Lib.hid (HC.out.far P2.out)
    have W2 := Lib.hid (HW.out.trans (P2.out.mono (by omega)))
    have hz2s : wr.heap.size ≤ w2.heap.size := P2.out.size
    clear a0 a1 f0 f1 f2 f3 o0 o1 o2 o3 z0 z1 z2 z3 r0 r1 y0 y1
    obtain ⟨a0, a1, f0, f1, f2, f3, o0, o1, o2, o3, z0, z1, z2, z3, r0, r1, y0, y1, hB, hF⟩ := C2.out
    go_wp2_with fail
    refine (straightOn_any _ _ _ _ _ (by omega) (by omega) (by omega) (by omega) (by omega) (by omega) _).mono ?_
    rintro e w3 ⟨rfl, hb3⟩
    rw [HMX.out, HMY.out]
    have C3 := Lib.hid (C2.out.keep hb3)
    have R3 := Lib.hid (Q2.out.keep hb3)
    have W3 := Lib.hid (bl_trans hb3 W2.out)
    have hz3s : w2.heap.size ≤ w3.heap.size := hb3.size
    clear a0 a1 f0 f1 f2 f3 o0 o1 o2 o3 z0 z1 z2 z3 r0 r1 y0 y1
    clear hB hF hb3
    obtain ⟨a0, a1, f0, f1, f2, f3, o0, o1, o2, o3, z0, z1, z2, z3, r0, r1, y0, y1, hB, hF⟩ := C3.out
    go_wp2_with fail
    refine (isAtCorner_any _ _ _ _ _ _ _).mono ?_
    rintro e w4 ⟨rfl, hb4⟩
    rw [HCI.out]
    have hb4 : Below (put4 w3 F (t.x (k + 1)) (t.y (k + 1)) (t.r k) (t.u k)).heap.size (put4 w3 F (t.x (k + 1)) (t.y (k + 1)) (t.r k) (t.u k)) w4 := hb4
    have C4 := Lib.hid ((C3.out.put (t.x (k + 1)) (t.y (k + 1)) (t.r k) (t.u k)).keep hb4)
    have R4 := Lib.hid ((R3.out.put (t.x (k + 1)) (t.y (k + 1)) (t.r k) (t.u k)).keep hb4)
    have W4 := Lib.hid (bl_trans hb4 (put_below W3.out F (t.x (k + 1)) (t.y (k + 1)) (t.r k) (t.u k) (by omega)))
    have hz4s : w3.heap.size ≤ w4.heap.size := by have := hb4.size; rw [put_size] at this; exact this
    clear a0 a1 f0 f1 f2 f3 o0 o1 o2 o3 z0 z1 z2 z3 r0 r1 y0 y1
    clear hB hF hb4
    obtain ⟨a0, a1, f0, f1, f2, f3, o0, o1, o2, o3, z0, z1, z2, z3, r0, r1, y0, y1, hB, hF⟩ := C4.out
    have hFs4 : F + 1 + 1 ≤ w4.heap.size := by omega
    cases hcor : t.cor (k + 1)
    case true =>
      have HE := Lib.hid (bm_end hcor)
      have EM := Lib.hid (atM OK.out hk (show t.stop (k + 1) = true by simp [BWay.stop, hcor]))
      have EE := Lib.hid (show t.e = true by unfold BWay.e; rw [EM.out]; exact hcor)
      clear hcor
      have hO5 := Lib.hid (show w4.ownsRow (F + 1 + 1) 30 4 _ (k + 1) (bms t (k + 1)) from R4.out)
      go_wp2_with (at_builtin; refine wpList_append_own _ rfl _ _ 34 rfl (F + 1 + 1) 30 i0 (.agg #[.int .i64 0, .int .i64 0, .bool false, .bool false]) 4 24 Try.underlying34 hi hz0 hz1 hz2 rfl (by decide) _ _ _ rfl (hO5.out.alloc _) ⟨w4.heap.size, 0, none⟩ 1 1 [.int .i64 (t.x (k + 1) : Nat), .int .i64 (t.y (k + 1) : Nat), .bool (t.r k), .bool (t.u k)] rfl rfl ?c1xx ?c2xx ?c3xx ?c4xx ?c5xx ?_)
      all_goals (try exact cells4 _ _ _ _ _ _ _ (by simp))
      case c2xx => simp [Value.oneCell']
      case c3xx => unfold maxLen; omega
      case c4xx => omega
      case c5xx => first | omega | (simp; omega)
      intro v'' w5 hown5 hgrow5 _
      obtain ⟨q5, p5⟩ := BRow.push (n := (k + 1)) hFs4 R4.out (by rw [HE.out]; exact hown5) hgrow5
      have Q5 := Lib.hid q5
      have P5 := Lib.hid p5
      clear q5 p5 hown5 hgrow5
      have C5 := Lib.hid (C4.out.far P5.out)
      have W5 := Lib.hid (W4.out.trans (P5.out.mono (by omega)))
      clear a0 a1 f0 f1 f2 f3 o0 o1 o2 o3 z0 z1 z2 z3 r0 r1 y0 y1
      clear hB hF
      obtain ⟨a0, a1, f0, f1, f2, f3, o0, o1, o2, o3, z0, z1, z2, z3, r0, r1, y0, y1, hB, hF⟩ := C5.out
      have hBF := hB
      obtain ⟨g5, cap5, rfl, -⟩ := Q5.out.open_ (by omega)
      go_wp2
      simp only [Exit.jump]
      refine bodyPost_ret (v := .agg #[.slice (some ⟨g5, 0, none⟩) (k + 1 + 1) cap5, .bool true]) (by simp [results, Try.results20, go_sem, *]) rfl ⟨_, by rw [EE.out], ?_, res_below W5.out _ _⟩
      rw [EE.out, EM.out]
      exact res_row Q5.out hBF
    case false =>
      have HK := Lib.hid hk
      have HCR := Lib.hid hcor
      clear hk hcor
      have hBF := hB
      go_wp2_with fail
      refine (turnedInside_any _ _ _ _ _ _ _).mono ?_
      rintro e w6 ⟨rfl, hb6⟩
      rw [HTX.out, HTY.out]
      have C6 := Lib.hid (C4.out.keep hb6)
      have R6 := Lib.hid (R4.out.keep hb6)
      have W6 := Lib.hid (bl_trans hb6 W4.out)
      have hz6s : w4.heap.size ≤ w6.heap.size := hb6.size
      clear a0 a1 f0 f1 f2 f3 o0 o1 o2 o3 z0 z1 z2 z3 r0 r1 y0 y1
      clear hB hF hb6
      obtain ⟨a0, a1, f0, f1, f2, f3, o0, o1, o2, o3, z0, z1, z2, z3, r0, r1, y0, y1, hB, hF⟩ := C6.out
      obtain ⟨g2, cap2, rfl, -⟩ := R6.out.open_ (by omega)
      go_wp2_with fail
      case _ =>
        have hs := same_of_eq (t := t) (k := k + 1) (by assumption) (by assumption) (by assumption) (by assumption)
        have EM := Lib.hid (atM OK.out HK.out (show t.stop (k + 1) = true by simp [BWay.stop, hs]))
        have EE := Lib.hid (show t.e = false by unfold BWay.e; rw [EM.out]; exact HCR.out)
        simp only [Exit.jump]
        refine bodyPost_ret (v := .agg #[.slice (some ⟨g2, 0, none⟩) (k + 1) cap2, .bool false]) (by simp [results, Try.results20, go_sem, r0, r1, y0, y1, hB, hF, ne1, ne2]) rfl ⟨_, by rw [EE.out], ?_, back_below W6.out hBF _ _ _ _ _ _⟩
        rw [EE.out, EM.out]
        exact back_row R6.out hBF
      all_goals
        have hs : t.same (k + 1) = false := by
          by_cases c : t.same (k + 1) = true
          · exfalso
            obtain ⟨c1, c2, c3, c4⟩ := eqs_of_same c
            first | exact absurd c1 (by assumption) | exact absurd c2 (by assumption) | exact absurd c3 (by assumption) | exact absurd c4 (by assumption)
          · simpa using c
        have hkM := beforeM OK.out HK.out (stop_of HCR.out hs)
        have key := C6.out.put (t.x (k + 1)) (t.y (k + 1)) (t.r (k + 1)) (t.u (k + 1))
        have keyR := R6.out.put (t.x (k + 1)) (t.y (k + 1)) (t.r (k + 1)) (t.u (k + 1))
        have keyW := put_below W6.out F (t.x (k + 1)) (t.y (k + 1)) (t.r (k + 1)) (t.u (k + 1)) (by omega)
        clear a0 a1 f0 f1 f2 f3 o0 o1 o2 o3 z0 z1 z2 z3 r0 r1 y0 y1
        first
        | (have e0 : ((t.x (k + 1) : Nat) : Int) = ((t.x 0 : Nat) : Int) := by assumption
           have e1 : ((t.y (k + 1) : Nat) : Int) = ((t.y 0 : Nat) : Int) := by assumption
           have e2 : t.r (k + 1) = t.r 0 := by assumption
           have hw : put4 w6 F (t.x (k + 1)) (t.y (k + 1)) (t.r (k + 1)) (t.u (k + 1)) = (((w6.setCell ⟨F + 1, 0, none⟩ (.int .i64 (t.x 0 : Nat))).setCell ⟨F + 1, 1, none⟩ (.int .i64 (t.y 0 : Nat))).setCell ⟨F + 1, 2, none⟩ (.bool (t.r 0))).setCell ⟨F + 1, 3, none⟩ (.bool (t.u (k + 1))) := by
             unfold put4
             rw [e0, e1, e2]
           rw [hw] at key keyR keyW)
        | (have e0 : ((t.x (k + 1) : Nat) : Int) = ((t.x 0 : Nat) : Int) := by assumption
           have e1 : ((t.y (k + 1) : Nat) : Int) = ((t.y 0 : Nat) : Int) := by assumption
           have hw : put4 w6 F (t.x (k + 1)) (t.y (k + 1)) (t.r (k + 1)) (t.u (k + 1)) = (((w6.setCell ⟨F + 1, 0, none⟩ (.int .i64 (t.x 0 : Nat))).setCell ⟨F + 1, 1, none⟩ (.int .i64 (t.y 0 : Nat))).setCell ⟨F + 1, 2, none⟩ (.bool (t.r (k + 1)))).setCell ⟨F + 1, 3, none⟩ (.bool (t.u (k + 1))) := by
             unfold put4
             rw [e0, e1]
           rw [hw] at key keyR keyW)
        | (have e0 : ((t.x (k + 1) : Nat) : Int) = ((t.x 0 : Nat) : Int) := by assumption
           have hw : put4 w6 F (t.x (k + 1)) (t.y (k + 1)) (t.r (k + 1)) (t.u (k + 1)) = (((w6.setCell ⟨F + 1, 0, none⟩ (.int .i64 (t.x 0 : Nat))).setCell ⟨F + 1, 1, none⟩ (.int .i64 (t.y (k + 1) : Nat))).setCell ⟨F + 1, 2, none⟩ (.bool (t.r (k + 1)))).setCell ⟨F + 1, 3, none⟩ (.bool (t.u (k + 1))) := by
             unfold put4
             rw [e0]
           rw [hw] at key keyR keyW)
        | (have hw : put4 w6 F (t.x (k + 1)) (t.y (k + 1)) (t.r (k + 1)) (t.u (k + 1)) = (((w6.setCell ⟨F + 1, 0, none⟩ (.int .i64 (t.x (k + 1) : Nat))).setCell ⟨F + 1, 1, none⟩ (.int .i64 (t.y (k + 1) : Nat))).setCell ⟨F + 1, 2, none⟩ (.bool (t.r (k + 1)))).setCell ⟨F + 1, 3, none⟩ (.bool (t.u (k + 1))) := by
             unfold put4
             rfl
           rw [hw] at key keyR keyW)
        go_step3
        refine ⟨rfl, ⟨F, k + 1, _, _, _, _, _, _, _, _, _, _, _, _, _, _, _, _, _, _, _, _, _, _, _, _, _, _, _, rfl, by omega, hkM, ?_, ?_, ?_⟩⟩
        case _ => exact key
        case _ => exact keyR
        case _ => exact keyW
  · rintro a' wr ⟨F, k, v, u8, u9, u10, u11, u12, u13, u14, u15, u16, u17, u18, u19, u20, u21, u22, u23, u24, u25, u26, u27, u28, u29, u30, u31, u32, u33, rfl, hk1, hk, hC, hR, hW⟩
    clear HR HU
    have HC := Lib.hid hC
    obtain ⟨a0, a1, f0, f1, f2, f3, o0, o1, o2, o3, z0, z1, z2, z3, r0, r1, y0, y1, hB, hF⟩ := hC
    have HR := Lib.hid hR
    have HW := Lib.hid hW
    have hm7 := M_le OK.out
    have HG := Lib.hid (bm_go (go_at OK.out hk))
    have HMX := Lib.hid (moveX OK.out k)
    have HMY := Lib.hid (moveY OK.out k)
    have HTX := Lib.hid (turnX OK.out k)
    have HTY := Lib.hid (turnY OK.out k)
    have HCI := Lib.hid (corI t (k + 1))
    have bx := x_le OK.out k
    have by_ := y_le OK.out k
    have ne1 : ¬ w.heap.size = F + 1 := by omega
    have ne2 : ¬ w.heap.size + 1 + 1 = F + 1 := by omega
    have hFs : F + 1 + 1 ≤ wr.heap.size := by omega
    have HL := Lib.hid hR.len
    clear hR hW
    have hO2 := Lib.hid (show wr.ownsRow (F + 1 + 1) 30 4 _ k (bms t k) from HR.out)
    go_wp2_with (at_builtin; refine wpList_append_own _ rfl _ _ 34 rfl (F + 1 + 1) 30 i0 (.agg #[.int .i64 0, .int .i64 0, .bool false, .bool false]) 4 24 Try.underlying34 hi hz0 hz1 hz2 rfl (by decide) _ _ _ rfl (hO2.out.alloc _) ⟨wr.heap.size, 0, none⟩ 1 1 [.int .i64 (t.x k : Nat), .int .i64 (t.y k : Nat), .bool (t.r k), .bool (t.u k)] rfl rfl ?c1xxx ?c2xxx ?c3xxx ?c4xxx ?c5xxx ?_)
    all_goals (try exact cells4 _ _ _ _ _ _ _ (by simp))
    case c2xxx => simp [Value.oneCell']
    case c3xxx => unfold maxLen; omega
    case c4xxx => omega
    case c5xxx => first | omega | (simp; omega)
    intro v' w2 hown2 hgrow2 _
    obtain ⟨q2, p2⟩ := BRow.push (n := k) hFs HR.out (by rw [HG.out]; exact hown2) hgrow2
    have Q2 := Lib.hid q2
    have P2 := Lib.hid p2
    clear q2 p2 hown2 hgrow2
    have C2 := Lib.hid (HC.out.far P2.out)
    have W2 := Lib.hid (HW.out.trans (P2.out.mono (by omega)))
    have hz2s : wr.heap.size ≤ w2.heap.size := P2.out.size
    clear a0 a1 f0 f1 f2 f3 o0 o1 o2 o3 z0 z1 z2 z3 r0 r1 y0 y1
    obtain ⟨a0, a1, f0, f1, f2, f3, o0, o1, o2, o3, z0, z1, z2, z3, r0, r1, y0, y1, hB, hF⟩ := C2.out
    go_wp2_with fail
    refine (straightOn_any _ _ _ _ _ (by omega) (by omega) (by omega) (by omega) (by omega) (by omega) _).mono ?_
    rintro e w3 ⟨rfl, hb3⟩
    rw [HMX.out, HMY.out]
    have C3 := Lib.hid (C2.out.keep hb3)
    have R3 := Lib.hid (Q2.out.keep hb3)
    have W3 := Lib.hid (bl_trans hb3 W2.out)
    have hz3s : w2.heap.size ≤ w3.heap.size := hb3.size
    clear a0 a1 f0 f1 f2 f3 o0 o1 o2 o3 z0 z1 z2 z3 r0 r1 y0 y1
    clear hB hF hb3
    obtain ⟨a0, a1, f0, f1, f2, f3, o0, o1, o2, o3, z0, z1, z2, z3, r0, r1, y0, y1, hB, hF⟩ := C3.out
    go_wp2_with fail
    refine (isAtCorner_any _ _ _ _ _ _ _).mono ?_
    rintro e w4 ⟨rfl, hb4⟩
    rw [HCI.out]
    have hb4 : Below (put4 w3 F (t.x (k + 1)) (t.y (k + 1)) (t.r k) (t.u k)).heap.size (put4 w3 F (t.x (k + 1)) (t.y (k + 1)) (t.r k) (t.u k)) w4 := hb4
    have C4 := Lib.hid ((C3.out.put (t.x (k + 1)) (t.y (k + 1)) (t.r k) (t.u k)).keep hb4)
    have R4 := Lib.hid ((R3.out.put (t.x (k + 1)) (t.y (k + 1)) (t.r k) (t.u k)).keep hb4)
    have W4 := Lib.hid (bl_trans hb4 (put_below W3.out F (t.x (k + 1)) (t.y (k + 1)) (t.r k) (t.u k) (by omega)))
    have hz4s : w3.heap.size ≤ w4.heap.size := by have := hb4.size; rw [put_size] at this; exact this
    clear a0 a1 f0 f1 f2 f3 o0 o1 o2 o3 z0 z1 z2 z3 r0 r1 y0 y1
    clear hB hF hb4
    obtain ⟨a0, a1, f0, f1, f2, f3, o0, o1, o2, o3, z0, z1, z2, z3, r0, r1, y0, y1, hB, hF⟩ := C4.out
    have hFs4 : F + 1 + 1 ≤ w4.heap.size := by omega
    cases hcor : t.cor (k + 1)
    case true =>
      have HE := Lib.hid (bm_end hcor)
      have EM := Lib.hid (atM OK.out hk (show t.stop (k + 1) = true by simp [BWay.stop, hcor]))
      have EE := Lib.hid (show t.e = true by unfold BWay.e; rw [EM.out]; exact hcor)
      clear hcor
      have hO5 := Lib.hid (show w4.ownsRow (F + 1 + 1) 30 4 _ (k + 1) (bms t (k + 1)) from R4.out)
      go_wp2_with (at_builtin; refine wpList_append_own _ rfl _ _ 34 rfl (F + 1 + 1) 30 i0 (.agg #[.int .i64 0, .int .i64 0, .bool false, .bool false]) 4 24 Try.underlying34 hi hz0 hz1 hz2 rfl (by decide) _ _ _ rfl (hO5.out.alloc _) ⟨w4.heap.size, 0, none⟩ 1 1 [.int .i64 (t.x (k + 1) : Nat), .int .i64 (t.y (k + 1) : Nat), .bool (t.r k), .bool (t.u k)] rfl rfl ?c1xxxx ?c2xxxx ?c3xxxx ?c4xxxx ?c5xxxx ?_)
      all_goals (try exact cells4 _ _ _ _ _ _ _ (by simp))
      case c2xxxx => simp [Value.oneCell']
      case c3xxxx => unfold maxLen; omega
      case c4xxxx => omega
      case c5xxxx => first | omega | (simp; omega)
      intro v'' w5 hown5 hgrow5 _
      obtain ⟨q5, p5⟩ := BRow.push (n := (k + 1)) hFs4 R4.out (by rw [HE.out]; exact hown5) hgrow5
      have Q5 := Lib.hid q5
      have P5 := Lib.hid p5
      clear q5 p5 hown5 hgrow5
      have C5 := Lib.hid (C4.out.far P5.out)
      have W5 := Lib.hid (W4.out.trans (P5.out.mono (by omega)))
      clear a0 a1 f0 f1 f2 f3 o0 o1 o2 o3 z0 z1 z2 z3 r0 r1 y0 y1
      clear hB hF
      obtain ⟨a0, a1, f0, f1, f2, f3, o0, o1, o2, o3, z0, z1, z2, z3, r0, r1, y0, y1, hB, hF⟩ := C5.out
      have hBF := hB
      obtain ⟨g5, cap5, rfl, -⟩ := Q5.out.open_ (by omega)
      go_wp2
      simp only [Exit.jump]
      refine bodyPost_ret (v := .agg #[.slice (some ⟨g5, 0, none⟩) (k + 1 + 1) cap5, .bool true]) (by simp [results, Try.results20, go_sem, *]) rfl ⟨_, by rw [EE.out], ?_, res_below W5.out _ _⟩
      rw [EE.out, EM.out]
      exact res_row Q5.out hBF
    case false =>
      have HK := Lib.hid hk
      have HCR := Lib.hid hcor
      clear hk hcor
      have hBF := hB
      go_wp2_with fail
      refine (turnedInside_any _ _ _ _ _ _ _).mono ?_
      rintro e w6 ⟨rfl, hb6⟩
      rw [HTX.out, HTY.out]
      have C6 := Lib.hid (C4.out.keep hb6)
      have R6 := Lib.hid (R4.out.keep hb6)
      have W6 := Lib.hid (bl_trans hb6 W4.out)
      have hz6s : w4.heap.size ≤ w6.heap.size := hb6.size
      clear a0 a1 f0 f1 f2 f3 o0 o1 o2 o3 z0 z1 z2 z3 r0 r1 y0 y1
      clear hB hF hb6
      obtain ⟨a0, a1, f0, f1, f2, f3, o0, o1, o2, o3, z0, z1, z2, z3, r0, r1, y0, y1, hB, hF⟩ := C6.out
      obtain ⟨g2, cap2, rfl, -⟩ := R6.out.open_ (by omega)
      go_wp2_with fail
      case _ =>
        have hs := same_of_eq (t := t) (k := k + 1) (by assumption) (by assumption) (by assumption) (by assumption)
        have EM := Lib.hid (atM OK.out HK.out (show t.stop (k + 1) = true by simp [BWay.stop, hs]))
        have EE := Lib.hid (show t.e = false by unfold BWay.e; rw [EM.out]; exact HCR.out)
        simp only [Exit.jump]
        refine bodyPost_ret (v := .agg #[.slice (some ⟨g2, 0, none⟩) (k + 1) cap2, .bool false]) (by simp [results, Try.results20, go_sem, r0, r1, y0, y1, hB, hF, ne1, ne2]) rfl ⟨_, by rw [EE.out], ?_, back_below W6.out hBF _ _ _ _ _ _⟩
        rw [EE.out, EM.out]
        exact back_row R6.out hBF
      all_goals
        have hs : t.same (k + 1) = false := by
          by_cases c : t.same (k + 1) = true
          · exfalso
            obtain ⟨c1, c2, c3, c4⟩ := eqs_of_same c
            first | exact absurd c1 (by assumption) | exact absurd c2 (by assumption) | exact absurd c3 (by assumption) | exact absurd c4 (by assumption)
          · simpa using c
        have hkM := beforeM OK.out HK.out (stop_of HCR.out hs)
        have key := C6.out.put (t.x (k + 1)) (t.y (k + 1)) (t.r (k + 1)) (t.u (k + 1))
        have keyR := R6.out.put (t.x (k + 1)) (t.y (k + 1)) (t.r (k + 1)) (t.u (k + 1))
        have keyW := put_below W6.out F (t.x (k + 1)) (t.y (k + 1)) (t.r (k + 1)) (t.u (k + 1)) (by omega)
        clear a0 a1 f0 f1 f2 f3 o0 o1 o2 o3 z0 z1 z2 z3 r0 r1 y0 y1
        first
        | (have e0 : ((t.x (k + 1) : Nat) : Int) = ((t.x 0 : Nat) : Int) := by assumption
           have e1 : ((t.y (k + 1) : Nat) : Int) = ((t.y 0 : Nat) : Int) := by assumption
           have e2 : t.r (k + 1) = t.r 0 := by assumption
           have hw : put4 w6 F (t.x (k + 1)) (t.y (k + 1)) (t.r (k + 1)) (t.u (k + 1)) = (((w6.setCell ⟨F + 1, 0, none⟩ (.int .i64 (t.x 0 : Nat))).setCell ⟨F + 1, 1, none⟩ (.int .i64 (t.y 0 : Nat))).setCell ⟨F + 1, 2, none⟩ (.bool (t.r 0))).setCell ⟨F + 1, 3, none⟩ (.bool (t.u (k + 1))) := by
             unfold put4
             rw [e0, e1, e2]
           rw [hw] at key keyR keyW)
        | (have e0 : ((t.x (k + 1) : Nat) : Int) = ((t.x 0 : Nat) : Int) := by assumption
           have e1 : ((t.y (k + 1) : Nat) : Int) = ((t.y 0 : Nat) : Int) := by assumption
           have hw : put4 w6 F (t.x (k + 1)) (t.y (k + 1)) (t.r (k + 1)) (t.u (k + 1)) = (((w6.setCell ⟨F + 1, 0, none⟩ (.int .i64 (t.x 0 : Nat))).setCell ⟨F + 1, 1, none⟩ (.int .i64 (t.y 0 : Nat))).setCell ⟨F + 1, 2, none⟩ (.bool (t.r (k + 1)))).setCell ⟨F + 1, 3, none⟩ (.bool (t.u (k + 1))) := by
             unfold put4
             rw [e0, e1]
           rw [hw] at key keyR keyW)
        | (have e0 : ((t.x (k + 1) : Nat) : Int) = ((t.x 0 : Nat) : Int) := by assumption
           have hw : put4 w6 F (t.x (k + 1)) (t.y (k + 1)) (t.r (k + 1)) (t.u (k + 1)) = (((w6.setCell ⟨F + 1, 0, none⟩ (.int .i64 (t.x 0 : Nat))).setCell ⟨F + 1, 1, none⟩ (.int .i64 (t.y (k + 1) : Nat))).setCell ⟨F + 1, 2, none⟩ (.bool (t.r (k + 1)))).setCell ⟨F + 1, 3, none⟩ (.bool (t.u (k + 1))) := by
             unfold put4
             rw [e0]
           rw [hw] at key keyR keyW)
        | (have hw : put4 w6 F (t.x (k + 1)) (t.y (k + 1)) (t.r (k + 1)) (t.u (k + 1)) = (((w6.setCell ⟨F + 1, 0, none⟩ (.int .i64 (t.x (k + 1) : Nat))).setCell ⟨F + 1, 1, none⟩ (.int .i64 (t.y (k + 1) : Nat))).setCell ⟨F + 1, 2, none⟩ (.bool (t.r (k + 1)))).setCell ⟨F + 1, 3, none⟩ (.bool (t.u (k + 1))) := by
             unfold put4
             rfl
           rw [hw] at key keyR keyW)
        go_step3
        refine ⟨rfl, ⟨F, k + 1, _, _, _, _, _, _, _, _, _, _, _, _, _, _, _, _, _, _, _, _, _, _, _, _, _, _, _, rfl, by omega, hkM, ?_, ?_, ?_⟩, ?_⟩
        case _ => exact key
        case _ => exact keyR
        case _ => exact keyW
        case _ =>
          have h1 := HL.out
          show t.M - (k + 1) < t.M - lenOf v
          omega
end Go.Proofs.Ytgpfnbajjephpaa
