/- What the walks of the laws FnLaddersCross and FnLaddersCrossOfAll share. -/
import Derived.Test.YtohlbnfncllhoaaDoorLC1
import Derived.Deep.Cut
import Derived.Deep.DeepCutAuto
import Derived.Deep.RegionHeld3
import Derived.BigQuiet
namespace Go.Proofs.YtohlbnfncllhoaaDoor
open Go.RowKit
set_option linter.unusedVariables false
set_option linter.unusedSimpArgs false
abbrev At (T : Array Value) (k : Nat) (v : Value) : Prop := T[k]? = some v
attribute [local irreducible] Array.setIfInBounds
theorem reframe {P : Program} {c : Code} {Q : Exit → Act → World → Prop} {T : Array Value} {w : World} (h : ∀ T' : Array Value, T' = T → c.wp P Q ⟨T', []⟩ w) : c.wp P Q ⟨T, []⟩ w := h T rfl
theorem wp_cond_t {P : Program} {x y : Code} {c : Operand} {Q : Exit → Act → World → Prop} {a : Act} {w : World} (h : a.eval c = .bool true) (hx : x.wp P Q a w) : (Code.cond c x y).wp P Q a w := wp_cond_split h (fun _ => hx) (fun h => by cases h)
theorem wp_cond_f {P : Program} {x y : Code} {c : Operand} {Q : Exit → Act → World → Prop} {a : Act} {w : World} (h : a.eval c = .bool false) (hy : y.wp P Q a w) : (Code.cond c x y).wp P Q a w := wp_cond_split h (fun h => by cases h) (fun _ => hy)
theorem getq {T : Array Value} {k : Nat} {v : Value} (h : At T k v) (hh : k < T.size) : T[k]'hh = v := by
  unfold At at h
  rw [Array.getElem?_eq_getElem hh] at h
  exact Option.some.inj h
theorem putq {T : Array Value} {k : Nat} {v : Value} (hk : k < T.size) (h : ∀ hh : k < T.size, T[k]'hh = v) : At T k v := by
  unfold At
  rw [Array.getElem?_eq_getElem hk, h hk]
/-- numbers lie in boxes, and nothing old has changed -/
def Lay (w : World) : List (Nat × Int × Int × Int) → World → Prop
  | [], w' => Below w.heap.size w w'
  | (g, x0, x1, x2) :: B, w' => w'.cell? ⟨g, 0, none⟩ = some (.int .i64 x0) ∧ w'.cell? ⟨g, 1, none⟩ = some (.int .i64 x1) ∧ w'.cell? ⟨g, 2, none⟩ = some (.int .i64 x2) ∧ g < w'.heap.size ∧ Lay w B w'
theorem Lay.c {w w' : World} {g : Nat} {x0 x1 x2 : Int} {B : List (Nat × Int × Int × Int)} (h0 : w'.cell? ⟨g, 0, none⟩ = some (.int .i64 x0)) (h1 : w'.cell? ⟨g, 1, none⟩ = some (.int .i64 x1)) (h2 : w'.cell? ⟨g, 2, none⟩ = some (.int .i64 x2)) (hg : g < w'.heap.size) (h : Lay w B w') : Lay w ((g, x0, x1, x2) :: B) w' := ⟨h0, h1, h2, hg, h⟩
theorem Lay.tl {w w' : World} {b : Nat × Int × Int × Int} {B : List (Nat × Int × Int × Int)} (h : Lay w (b :: B) w') : Lay w B w' := h.2.2.2.2
theorem Lay.bl {w w' : World} : ∀ {B : List (Nat × Int × Int × Int)}, Lay w B w' → Below w.heap.size w w'
  | [], h => h
  | _ :: _, h => Lay.bl (Lay.tl h)
theorem Lay.after {w u v : World} : ∀ {B : List (Nat × Int × Int × Int)}, Lay w B u → Below u.heap.size u v → Lay w B v
  | [], h, hb => bl_trans hb h
  | _ :: _, h, hb => ⟨cell_after hb h.2.2.2.1 h.1, cell_after hb h.2.2.2.1 h.2.1, cell_after hb h.2.2.2.1 h.2.2.1, size_after hb h.2.2.2.1, Lay.after (Lay.tl h) hb⟩
theorem Lay.drewN {w u : World} {B : List (Nat × Int × Int × Int)} (h : Lay w B u) (n : Nat) : Lay w B (u.drewN n) := Lay.after h (below_drewN (Below.refl _ _) n)
theorem Lay.op {w w' : World} {B : List (Nat × Int × Int × Int)} (h : Lay w B w') : Lay w B w' := h
theorem q_region {P : Program} {id : Nat} {Q : Exit → Act → World → Prop} {a : Act} {w : World} {l : List Oper} (C : World → Prop) (hm : P.follows .mixedOrders = true) (hB : Region.lexB .any l.toArray = true) (hC : C w.drew)
    (h : wpQuiet P l.toArray C (fun a' => ∀ w', C w' → Q .normal a' w') l a) : (Code.region id l.toArray true).wp P Q a w :=
  wp_region_quiet (C := C) hm hB hC (by simpa using h)
theorem q_take {P : Program} {ops : Array Oper} {C : World → Prop} {Q : Act → Prop} {T : Array Value} {o : Oper} {rest : List Oper} {d : Tmp} (v : Value) (hd : o.dst = some d) (hw : Region.wanted o (yielded ops T) = true) (hop : ∀ w, C w → (execOp (Act.eval ⟨T, []⟩) o).run P w = .ok (.value v) w)
    (h : wpQuiet P ops C Q rest ⟨T.setIfInBounds d v, []⟩) : wpQuiet P ops C Q (o :: rest) ⟨T, []⟩ := by
  refine wpQuiet_step fun K hK => ?_
  rw [if_pos hw]
  refine ⟨v, fun w hw => ?_, hK _ (by rw [hd]; exact h)⟩
  unfold Oper.quietAt
  rw [hop w hw]
  exact ⟨rfl, rfl⟩
theorem q_call {P : Program} {ops : Array Oper} {C : World → Prop} {Q : Act → Prop} {T : Array Value} {o : Oper} {rest : List Oper} {d : Tmp} {f : FuncId} {args : Array Value} (v : Value) (hd : o.dst = some d) (hw : Region.wanted o (yielded ops T) = true) (hc : ∀ w, C w → Calls P f args w (fun e w' => e = .returned v ∧ C w'))
    (hop : ∀ w, C w → (execOp (Act.eval ⟨T, []⟩) o).run P w = .ok (.enter f args) w) (h : wpQuiet P ops C Q rest ⟨T.setIfInBounds d v, []⟩) : wpQuiet P ops C Q (o :: rest) ⟨T, []⟩ := by
  refine wpQuiet_step fun K hK => ?_
  rw [if_pos hw]
  refine ⟨v, fun w hw => ?_, hK _ (by rw [hd]; exact h)⟩
  unfold Oper.quietAt
  rw [hop w hw]
  exact ⟨rfl, hc w hw⟩
theorem q_not {P : Program} {ops : Array Oper} {C : World → Prop} {Q : Act → Prop} {T : Array Value} {o : Oper} {rest : List Oper} {d : Tmp} (hd : o.dst = some d) (hw : Region.wanted o (yielded ops T) = false)
    (h : wpQuiet P ops C Q rest ⟨T.setIfInBounds d undef, []⟩) : wpQuiet P ops C Q (o :: rest) ⟨T, []⟩ := by
  refine wpQuiet_step fun K hK => ?_
  rw [if_neg (by rw [hw]; decide)]
  exact hK _ (by rw [hd]; exact h)
theorem q_free {o : Oper} (h : o.guard = none) (f : Nat → Option Bool) : Region.wanted o f = true := by
  unfold Region.wanted
  rw [h]
theorem q_gr1 {ops : Array Oper} {T : Array Value} {o : Oper} {k d : Nat} {b : Bool} (hg : o.guard = some (k, b)) (hk : (ops[k]?).bind (·.dst) = some d) (hT : T[d]? = some (.bool b)) : Region.wanted o (yielded ops T) = true := by
  unfold Region.wanted yielded
  rw [hg]
  simp only [hk, Option.bind_some, hT]
  cases b <;> rfl
theorem q_gr0 {ops : Array Oper} {T : Array Value} {o : Oper} {k d : Nat} {b : Bool} (hg : o.guard = some (k, b)) (hk : (ops[k]?).bind (·.dst) = some d) (hT : T[d]? = some (.bool (!b))) : Region.wanted o (yielded ops T) = false := by
  unfold Region.wanted yielded
  rw [hg]
  simp only [hk, Option.bind_some, hT]
  cases b <;> rfl
theorem q_grU {ops : Array Oper} {T : Array Value} {o : Oper} {k d : Nat} {b : Bool} (hg : o.guard = some (k, b)) (hk : (ops[k]?).bind (·.dst) = some d) (hT : T[d]? = some undef) : Region.wanted o (yielded ops T) = false := by
  unfold Region.wanted yielded
  rw [hg]
  simp only [hk, Option.bind_some, hT]
  rfl
theorem q_put {T : Array Value} {n d : Nat} (v : Value) (h : T.size = n) : (T.setIfInBounds d v).size = n := by
  rw [Array.size_setIfInBounds]; exact h
def listedAt (n k : Nat) : Array Bool := ((List.range n).map fun j => decide (j < k)).toArray
theorem listed_set {n k : Nat} : (listedAt n k).setIfInBounds k true = listedAt n (k + 1) := by
  apply Array.ext
  · simp [listedAt]
  · intro i h1 h2
    rw [Array.getElem_setIfInBounds]
    · by_cases e : k = i
      · rw [if_pos e]; subst e; simp [listedAt]
      · rw [if_neg e]
        simp only [listedAt, List.getElem_toArray, List.getElem_map, List.getElem_range]
        exact decide_eq_decide.2 (by omega)
    · simpa using h1
theorem listed_zero {n : Nat} : listedAt n 0 = Array.replicate n false := by
  apply Array.ext
  · simp [listedAt]
  · intro i h1 h2
    simp [listedAt]
def lexAt (md : Region.Mode) (ops : Array Oper) (n k : Nat) : Bool := (Region.ready md ops (listedAt n k)).contains k && Region.free md ops (listedAt n k) k
theorem lex_from {md : Region.Mode} {ops : Array Oper} {n : Nat} (h : ∀ k, k < n → lexAt md ops n k = true) (he : (Region.ready md ops (listedAt n n)).isEmpty = true) : ∀ f k, k + f = n → Region.lexFrom md ops f k (listedAt n k) = true
  | 0, k, e => by
    obtain rfl : k = n := by omega
    exact he
  | f + 1, k, e => by
    have h1 := h k (by omega)
    unfold lexAt at h1
    simp only [Region.lexFrom, listed_set, Bool.and_eq_true] at h1 ⊢
    exact ⟨h1, lex_from h he f (k + 1) (by omega)⟩
theorem lex_of {md : Region.Mode} {ops : Array Oper} {n : Nat} (hn : ops.size = n) (hs : Region.noSelect ops = true) (h : ∀ k, k < n → lexAt md ops n k = true) (he : (Region.ready md ops (listedAt n n)).isEmpty = true) : Region.lexB md ops = true := by
  unfold Region.lexB
  rw [hs, Bool.true_and, hn, ← listed_zero]
  exact lex_from h he n 0 (by omega)
theorem lexAt_some {md : Region.Mode} {ops : Array Oper} {n a m : Nat} (h : ((List.range m).all fun j => lexAt md ops n (a + j)) = true) (k : Nat) (h1 : a ≤ k) (h2 : k < a + m) : lexAt md ops n k = true := by
  have := List.all_eq_true.1 h (k - a) (List.mem_range.2 (by omega))
  rwa [show a + (k - a) = k by omega] at this
theorem with_world {C : World → Prop} {P : Program} {c : Code} {Q : Exit → Act → World → Prop} {a : Act} {w : World} (hC : C w) (h : ∀ w', C w' → c.wp P Q a w') : c.wp P Q a w := h w hC
/-- one step into a code -/
def kid : Nat → Code → Code
  | 0, .seq a _ => a
  | _, .seq _ b => b
  | 0, .cond _ a _ => a
  | _, .cond _ _ b => b
  | _, .block _ c => c
  | _, .scope c => c
  | _, .loop c => c
  | _, c => c
def follow : List Nat → Code → Code
  | [], c => c
  | i :: p, c => follow p (kid i c)
end Go.Proofs.YtohlbnfncllhoaaDoor
