/- Sets as maps to true: what a map reads as that holds the keys of a set. -/
import Derived.Test.YtophkahaefbkiaaC1
import Derived.Maps.OwnSet
import Derived.Maps.Views
import Derived.Maps.Range
import Derived.Maps.RangeWalk
namespace Go.Proofs.Ytophkahaefbkiaa
open Go.RowKit Go.Maps Go.WideMaps
set_option linter.unusedVariables false
/-- the map D holds the keys 'kl q' of all q with V q, each with true -/
structure SetIs {α : Type} (kl : α → Lit) (good : α → Prop) (D : DataW Unit) (V : α → Bool) : Prop where
  isMap : IsMap D
  keys : ∀ k, has D k = true → ∃ q, V q = true ∧ k = kl q
  yes : ∀ q, V q = true → ∀ z, D.atKey (kl q) z = .lit (.bool true)
  good_ : ∀ q, V q = true → good q
theorem SetIs.none {α : Type} (kl : α → Lit) (good : α → Prop) : SetIs kl good (.map []) (fun _ => false) :=
  ⟨isMap_empty, fun k h => (by simp [has] at h), fun q h => (by simp at h), fun q h => (by simp at h)⟩
theorem SetIs.congr {α : Type} {kl : α → Lit} {good : α → Prop} {D : DataW Unit} {V V' : α → Bool} (h : SetIs kl good D V) (e : ∀ q, V q = V' q) : SetIs kl good D V' := by
  have : V = V' := funext e
  exact this ▸ h
theorem SetIs.has_iff {α : Type} {kl : α → Lit} {good : α → Prop} {D : DataW Unit} {V : α → Bool} (h : SetIs kl good D V) (inj : ∀ p q, good p → good q → kl p = kl q → p = q) {q : α} (hq : good q) : has D (kl q) = V q := by
  cases hv : V q
  · cases hh : has D (kl q)
    · rfl
    · obtain ⟨p, hp, e⟩ := h.keys _ hh
      have := inj _ _ hq (h.good_ p hp) e
      subst this
      rw [hp] at hv
      cases hv
  · exact has_true_of_atKey (h.yes q hv)
theorem SetIs.no {α : Type} {kl : α → Lit} {good : α → Prop} {D : DataW Unit} {V : α → Bool} (h : SetIs kl good D V) (inj : ∀ p q, good p → good q → kl p = kl q → p = q) {q : α} (hq : good q) (hv : V q = false) (z : DataW Unit) : D.atKey (kl q) z = z :=
  atKey_of_not_has (by rw [h.has_iff inj hq, hv]) z
theorem SetIs.at_ {α : Type} {kl : α → Lit} {good : α → Prop} {D : DataW Unit} {V : α → Bool} (h : SetIs kl good D V) (inj : ∀ p q, good p → good q → kl p = kl q → p = q) {q : α} (hq : good q) : D.atKey (kl q) (.lit (.bool false)) = .lit (.bool (V q)) := by
  cases hv : V q
  · exact h.no inj hq hv _
  · exact h.yes q hv _
theorem SetIs.put {α : Type} [DecidableEq α] {kl : α → Lit} {good : α → Prop} {D : DataW Unit} {V : α → Bool} (h : SetIs kl good D V) (inj : ∀ p q, good p → good q → kl p = kl q → p = q) (ik : ∀ q, good q → WideAt.IsKeyLit (kl q)) {q : α} (hq : good q) :
    SetIs kl good (D.put (kl q) (.lit (.bool true))) (fun p => V p || decide (p = q)) := by
  refine ⟨h.isMap.put _ _, fun k hk => ?_, fun p hp z => ?_, fun p hp => ?_⟩
  · by_cases c : k = kl q
    · exact ⟨q, by simp, c⟩
    · rw [has_put_other c] at hk
      obtain ⟨p, hp, e⟩ := h.keys _ hk
      exact ⟨p, by simp [hp], e⟩
  · by_cases c : p = q
    · subst c
      exact atKey_put_same h.isMap (ik p hq) _ _
    · have hv : V p = true := by simpa [c] using hp
      rw [atKey_put_other (fun e => c (inj _ _ (h.good_ p hv) hq e))]
      exact h.yes p hv z
  · by_cases c : p = q
    · exact c ▸ hq
    · exact h.good_ p (by simpa [c] using hp)
theorem SetIs.del {α : Type} [DecidableEq α] {kl : α → Lit} {good : α → Prop} {D : DataW Unit} {V : α → Bool} (h : SetIs kl good D V) (inj : ∀ p q, good p → good q → kl p = kl q → p = q) {q : α} (hq : good q) :
    SetIs kl good (D.del (kl q)) (fun p => V p && !decide (p = q)) := by
  refine ⟨h.isMap.del _, fun k hk => ?_, fun p hp z => ?_, fun p hp => h.good_ p (by simp only [Bool.and_eq_true] at hp; exact hp.1)⟩
  · by_cases c : k = kl q
    · rw [c, has_del_same] at hk
      cases hk
    · rw [has_del_other c] at hk
      obtain ⟨p, hp, e⟩ := h.keys _ hk
      refine ⟨p, ?_, e⟩
      have : p ≠ q := fun e' => c (e' ▸ e)
      simp [hp, this]
  · simp only [Bool.and_eq_true, Bool.not_eq_true', decide_eq_false_iff_not] at hp
    rw [atKey_del_other (fun e => hp.2 (inj _ _ (h.good_ p hp.1) hq e))]
    exact h.yes p hp.1 z
theorem SetIs.empty {α : Type} {kl : α → Lit} {good : α → Prop} {D : DataW Unit} {V : α → Bool} (h : SetIs kl good D V) (h0 : size D = 0) (q : α) : V q = false := by
  cases hv : V q
  · rfl
  · have := has_true_of_atKey (h.yes q hv)
    obtain ⟨es, rfl⟩ := h.isMap
    simp only [size_eq, List.length_eq_zero_iff] at h0
    subst h0
    simp [has] at this
theorem SetIs.some_ {α : Type} {kl : α → Lit} {good : α → Prop} {D : DataW Unit} {V : α → Bool} (h : SetIs kl good D V) (he : ∃ es, D = .map es ∧ ∀ p ∈ es, WideAt.IsKeyLit p.1) (h0 : size D ≠ 0) : ∃ q, V q = true := by
  obtain ⟨es, rfl, hp⟩ := he
  match es with
  | [] => exact absurd rfl h0
  | p :: l =>
    obtain ⟨q, hq, _⟩ := h.keys p.1 (by rw [has_eq, List.any_cons, WideAt.sameKey_self (hp p (List.mem_cons_self ..)), Bool.true_or])
    exact ⟨q, hq⟩
theorem bool_inv {e : TypeId} (he : Try.prog.underlying e = some .bool) {v : Value} {b : Bool} {ps : List MemPlace} (h : plainElem (H := Unit) Try.prog e v = some (.lit (.bool b), ps)) : v = .bool b := by
  unfold plainElem at h
  rw [he] at h
  split at h
  · cases h; rfl
  · split at h
    · cases h
    · cases h
  · split at h
    · cases h
    · cases h
  · cases h
/-- block m is a map to true of the set V -/
def BSet {α : Type} (kt et : TypeId) (kl : α → Lit) (good : α → Prop) (w : World) (m n : Nat) (V : α → Bool) : Prop :=
  ∃ D, w.ownsMap Try.prog kt (plainElem (H := Unit) Try.prog et) m n D ∧ SetIs kl good D V
theorem BSet.lookup {α : Type} {kt et t : TypeId} {kl : α → Lit} {good : α → Prop} {w : World} {m n : Nat} {V : α → Bool} (h : BSet kt et kl good w m n V) (K : Keyed Try.prog kt) (ht : Try.prog.underlying t = some (.map kt et)) (he : Try.prog.underlying et = some .bool)
    (hz : (zeroValue et).run Try.prog w = .ok (.bool false) w) (inj : ∀ p q, good p → good q → kl p = kl q → p = q) {q : α} (hq : good q) {key : Value} (hkey : keyOf Try.prog kt key = some (kl q)) :
    (Instr.lookup t (.map (some m)) key false).run Try.prog w = .ok (.bool (V q)) w := by
  obtain ⟨D, ho, hs⟩ := h
  obtain ⟨v, ps, hr, hv⟩ := ho.lookup K ht hz (plainElem_bool he false) hkey
  rw [hs.at_ inj hq] at hv
  rw [bool_inv he hv] at hr
  exact hr
theorem BSet.kept {α : Type} {kt et : TypeId} {kl : α → Lit} {good : α → Prop} {w w' : World} {m n : Nat} {V : α → Bool} {row : Option Nat} (h : BSet kt et kl good w m n V) (hg : w.grownBy w' row) (hne : some m ≠ row) : BSet kt et kl good w' m n V := by
  obtain ⟨D, ho, hs⟩ := h
  exact ⟨D, ho.kept hg hne, hs⟩
theorem BSet.alloc {α : Type} {kt et : TypeId} {kl : α → Lit} {good : α → Prop} {w : World} {m n : Nat} {V : α → Bool} (h : BSet kt et kl good w m n V) (o : Obj) : BSet kt et kl good (w.alloc o) m n V := by
  obtain ⟨D, ho, hs⟩ := h
  exact ⟨D, ho.alloc o, hs⟩
theorem BSet.lt {α : Type} {kt et : TypeId} {kl : α → Lit} {good : α → Prop} {w : World} {m n : Nat} {V : α → Bool} (h : BSet kt et kl good w m n V) : m < w.heap.size := by
  obtain ⟨D, ho, hs⟩ := h
  exact ho.lt
theorem BSet.keep {α : Type} {kt et : TypeId} {kl : α → Lit} {good : α → Prop} {w w' : World} {m n : Nat} {V : α → Bool} (h : BSet kt et kl good w m n V) (hb : Below w.heap.size w w') : BSet kt et kl good w' m n V := by
  obtain ⟨D, ⟨es, clock, hb0, F, hs, hD⟩, hS⟩ := h
  have hlt : m < w.heap.size := by
    by_cases c : m < w.heap.size
    · exact c
    · rw [Array.getElem?_eq_none (by omega)] at hb0
      cases hb0
  exact ⟨D, ⟨es, clock, (hb.block _ hlt).trans hb0, F, hs, hD⟩, hS⟩
theorem BSet.made {α : Type} (kt et : TypeId) (kl : α → Lit) (good : α → Prop) (w : World) : BSet kt et kl good (w.alloc (.map #[] 0)) w.heap.size 0 (fun _ => false) :=
  ⟨_, World.ownsMap_made w _ _ _, SetIs.none kl good⟩
theorem BSet.congr {α : Type} {kt et : TypeId} {kl : α → Lit} {good : α → Prop} {w : World} {m n : Nat} {V V' : α → Bool} (h : BSet kt et kl good w m n V) (e : ∀ q, V q = V' q) : BSet kt et kl good w m n V' := by
  obtain ⟨D, ho, hs⟩ := h
  exact ⟨D, ho, hs.congr e⟩
theorem BSet.len {α : Type} {kt et : TypeId} {kl : α → Lit} {good : α → Prop} {w : World} {m n : Nat} {V : α → Bool} (h : BSet kt et kl good w m n V) (K : Keyed Try.prog kt) :
    ∃ D, w.ownsMap Try.prog kt (plainElem (H := Unit) Try.prog et) m n D ∧ (size D = 0 → ∀ q, V q = false) ∧ (size D ≠ 0 → ∃ q, V q = true) := by
  obtain ⟨D, ho, hs⟩ := h
  obtain ⟨es, e, _, hp⟩ := ho.entries K
  exact ⟨D, ho, hs.empty, hs.some_ ⟨es, e, hp⟩⟩
section
variable {α : Type} {kt et : TypeId} {kl : α → Lit} {good : α → Prop} {V : α → Bool} (w : World) {ops : Array Oper} {rest : List Oper} {o : Oper} {a : Act} {Q : Exit → Act → World → Prop}
/-- 'm[q] = true' -/
theorem wpList_set_put [DecidableEq α] {m n : Nat} (hb : BSet kt et kl good w m n V) (hg : o.guard = none) (mo x v : Operand) (t : TypeId) (hop : o.op = Op.mapUpdate t mo x v)
    (K : Keyed Try.prog kt) (ht : Try.prog.underlying t = some (.map kt et)) (he : Try.prog.underlying et = some .bool) (inj : ∀ p q, good p → good q → kl p = kl q → p = q) (ik : ∀ q, good q → WideAt.IsKeyLit (kl q))
    (hm : a.eval mo = .map (some m)) (hn : n < maxLen) {q : α} (hq : good q) {key : Value} (hx : a.eval x = key) (hv : a.eval v = .bool true) (hkey : keyOf Try.prog kt key = some (kl q))
    (hK : ∀ w', BSet kt et kl good w' m (n + 1) (fun p => V p || decide (p = q)) → w.grownBy w' (some m) → wpList Try.prog ops Q rest (a.put o.dst undef) w') : wpList Try.prog ops Q (o :: rest) a w := by
  obtain ⟨D, ho, hs⟩ := hb
  exact wpList_mapUpdate_own w hg mo x v t hop kt et K ht _ m n D hm ho hn key (.bool true) (kl q) hx hv hkey _ _ (plainElem_bool he true) fun w' h1 h2 => hK w' ⟨_, h1, hs.put inj ik hq⟩ h2
/-- 'delete(m, q)' -/
theorem wpList_set_del [DecidableEq α] {m n : Nat} (hb : BSet kt et kl good w m n V) (hg : o.guard = none) (mo x : Operand) (t : TypeId) (hop : o.op = Op.call { callee := Callee.builtin Builtin.delete, args := #[mo, x], argTypes := #[t, kt] })
    (K : Keyed Try.prog kt) (ht : Try.prog.underlying t = some (.map kt et)) (inj : ∀ p q, good p → good q → kl p = kl q → p = q)
    (hm : a.eval mo = .map (some m)) {q : α} (hq : good q) {key : Value} (hx : a.eval x = key) (hkey : keyOf Try.prog kt key = some (kl q))
    (hK : ∀ w', BSet kt et kl good w' m n (fun p => V p && !decide (p = q)) → w.grownBy w' (some m) → wpList Try.prog ops Q rest (a.put o.dst (.tuple #[])) w') : wpList Try.prog ops Q (o :: rest) a w := by
  obtain ⟨D, ho, hs⟩ := hb
  exact wpList_delete_own w hg mo x t kt hop et K ht _ m n D hm ho key (kl q) hx hkey fun w' h1 h2 => hK w' ⟨_, h1, hs.del inj hq⟩ h2.grown
/-- 'len(m)' -/
theorem wpList_set_len {m n : Nat} (hb : BSet kt et kl good w m n V) (hg : o.guard = none) (mo : Operand) (t : TypeId) (hop : o.op = Op.call { callee := Callee.builtin Builtin.len, args := #[mo], argTypes := #[t] })
    (K : Keyed Try.prog kt) (ht : Try.prog.underlying t = some (.map kt et)) (hm : a.eval mo = .map (some m))
    (hK : ∀ s : Nat, (s = 0 → ∀ q, V q = false) → (s ≠ 0 → ∃ q, V q = true) → s ≤ n → wpList Try.prog ops Q rest (a.put o.dst (.int .i64 s)) w) : wpList Try.prog ops Q (o :: rest) a w := by
  obtain ⟨D, ho, h1, h2⟩ := hb.len K
  exact wpList_len_own w hg mo t hop kt et ht _ m n D hm ho (hK _ h1 h2 ho.size_le)
/-- a range over a set under way: L are those that are still to come -/
def BRange (kt et : TypeId) (kl : α → Lit) (good : α → Prop) (w : World) (m r n : Nat) (V L : α → Bool) (cnt : Nat) : Prop :=
  ∃ D left, w.ranges Try.prog kt (plainElem (H := Unit) Try.prog et) m r n D left cnt ∧ SetIs kl good D V ∧ (∀ q, good q → left (kl q) = L q) ∧ (∀ q, L q = true → V q = true)
theorem BRange.left {m r n cnt : Nat} {L : α → Bool} {w : World} (h : BRange kt et kl good w m r n V L cnt) : w.rangeLeft m r = cnt := by
  obtain ⟨D, left, h, _⟩ := h
  exact h.left_eq
theorem BRange.owns {m r n cnt : Nat} {L : α → Bool} {w : World} (h : BRange kt et kl good w m r n V L cnt) : BSet kt et kl good w m n V := by
  obtain ⟨D, left, h, hs, _⟩ := h
  exact ⟨D, h.owns, hs⟩
theorem BRange.lt {m r n cnt : Nat} {L : α → Bool} {w : World} (h : BRange kt et kl good w m r n V L cnt) : r < w.heap.size := by
  obtain ⟨D, left, h, _⟩ := h
  exact h.lt
theorem BRange.kept {w w' : World} {m r n cnt : Nat} {L : α → Bool} {row : Option Nat} (h : BRange kt et kl good w m r n V L cnt) (hg : w.grownBy w' row) (h1 : some m ≠ row) (h2 : some r ≠ row) : BRange kt et kl good w' m r n V L cnt := by
  obtain ⟨D, left, h, hr⟩ := h
  exact ⟨D, left, h.kept hg h1 h2, hr⟩
/-- 'range m' -/
theorem wpList_set_range {m n : Nat} (hb : BSet kt et kl good w m n V) (hg : o.guard = none) (mo : Operand) (t : TypeId) (hop : o.op = Op.range t mo)
    (K : Keyed Try.prog kt) (ht : Try.prog.underlying t = some (.map kt et)) (inj : ∀ p q, good p → good q → kl p = kl q → p = q) (hm : a.eval mo = .map (some m))
    (hK : ∀ w' cnt, BRange kt et kl good w' m w.heap.size n V V cnt → w.grownBy w' none → w'.heap.size = w.heap.size + 1 → wpList Try.prog ops Q rest (a.put o.dst (.pointer (some ⟨w.heap.size, 0, none⟩))) w') : wpList Try.prog ops Q (o :: rest) a w := by
  obtain ⟨D, ho, hs⟩ := hb
  exact wpList_range_own w hg mo t hop kt et K ht _ m n D hm ho fun w' h1 h2 h3 => hK w' _ ⟨D, _, h1, hs, fun q hq => hs.has_iff inj hq, fun q h => h⟩ h2 h3
/-- the step -/
theorem wpList_set_next [DecidableEq α] {m r n cnt : Nat} {L : α → Bool} (hb : BRange kt et kl good w m r n V L cnt) (hg : o.guard = none) (it : Operand) (hop : o.op = Op.next it false)
    (K : Keyed Try.prog kt) (he : Try.prog.underlying et = some .bool) (inj : ∀ p q, good p → good q → kl p = kl q → p = q) (ik : ∀ q, good q → WideAt.IsKeyLit (kl q)) (kv : α → Value) (hkv : ∀ q, good q → keyOf Try.prog kt (kv q) = some (kl q))
    (hit : a.eval it = .pointer (some ⟨r, 0, none⟩))
    (hDone : (∀ q, L q = false) → wpList Try.prog ops Q rest (a.put o.dst (.tuple #[.bool false])) w)
    (hMore : ∀ (q : α) (w' : World) (cnt' : Nat), good q → V q = true → L q = true → BRange kt et kl good w' m r n V (fun p => L p && !decide (p = q)) cnt' → cnt' < cnt → w.grownBy w' (some r) → w'.heap.size = w.heap.size →
      (Instr.entry (.pointer (some ⟨r, 0, none⟩))).run Try.prog w' = .ok (.tuple #[kv q, .bool true]) w' → wpList Try.prog ops Q rest (a.put o.dst (.tuple #[.bool true, kv q, .bool true])) w') :
    wpList Try.prog ops Q (o :: rest) a w := by
  obtain ⟨D, left, h, hs, hl, hL⟩ := hb
  refine wpList_next_ranges w hg it hop kt K (plainElem (H := Unit) Try.prog et) (fun v : Value => v) (fun v : Value => v) (fun key kl _ => ⟨key, rfl⟩) (fun v y _ => ⟨v, rfl⟩) m r n D left cnt hit h ?_ ?_
  · intro _ h0
    refine hDone fun q => ?_
    cases hq : L q
    · rfl
    · have := hl q (hs.good_ q (hL q hq))
      rw [h0, hq] at this
      cases this
  · intro key v k' y w' cnt' hkey hlk hv hat hrg hlt hg1 hs1 hen
    obtain ⟨q, hq, rfl⟩ := hs.keys k' (has_true_of_atKey hat)
    have hgood := hs.good_ q hq
    have e1 : key = kv q := K.inj hkey (hkv q hgood)
    subst e1
    have e2 : v = .bool true := by
      have h1 := hat (.lit (.bool false))
      rw [hs.at_ inj hgood, hq] at h1
      obtain ⟨y1, y2⟩ := y
      simp only at h1
      subst h1
      exact bool_inv he hv
    subst e2
    have hLq : L q = true := by rw [← hl q hgood]; exact hlk
    refine hMore q w' cnt' hgood hq hLq ⟨D, _, hrg, hs, fun p hp => ?_, fun p hp => hL p (by simp only [Bool.and_eq_true] at hp; exact hp.1)⟩ hlt hg1 hs1 hen
    rw [hl p hp]
    congr 2
    by_cases c : p = q
    · subst c
      rw [WideAt.sameKey_self (ik p hp)]
      simp
    · rw [sameKey_ne fun e => c (inj _ _ hp hgood e)]
      simp [c]
end
end Go.Proofs.Ytophkahaefbkiaa
