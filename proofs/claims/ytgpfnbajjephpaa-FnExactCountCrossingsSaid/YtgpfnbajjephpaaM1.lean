/- A map of places to counters: what it reads as, one place more. -/
import Derived.Test.YtgpfnbajjephpaaB1
import Derived.Test.YtgpfnbajjephpaaBP
import Derived.Maps.OwnSet
import Derived.Maps.Views
import Derived.Maps.Range
import Derived.WideKeyEntry
import Derived.WideKeyPair
import Derived.DeepKeys4
namespace Go.Proofs.Ytgpfnbajjephpaa
open Go.RowKit Beam Go.WideMaps Go.WideElems Go.Maps
open Go.ChangeMaps (setBlock notKey putKey)
set_option linter.unusedVariables false
set_option linter.unusedSimpArgs false
theorem laidOutM : laidOutB Try.prog = true := by kernel_rfl
theorem arrP : ArrKey Try.prog 43 3 2 := ⟨Try.underlying43, by kernel_rfl, by kernel_rfl, by kernel_rfl⟩
theorem lawP : KeyLaw Try.prog 43 := deep_law_laid laidOutM (m := 2) (by omega) (of_decide_eq_true (by kernel_rfl)) (by kernel_rfl) (by rw [Try.underlying43])
theorem keyedP : Keyed Try.prog 43 := Keyed.of_law lawP
theorem sizeP : ∃ m, Try.prog.types.size = m + 1 := ⟨Try.prog.types.size - 1, by
  have : 0 < Try.prog.types.size := of_decide_eq_true (by kernel_rfl)
  omega⟩
def pk (p : Nat × Nat) : Value := .agg #[.int .i64 (p.1 : Nat), .int .i64 (p.2 : Nat)]
def pl (p : Nat × Nat) : Lit := .string (keyBytes [.int .i64 (p.1 : Nat), .int .i64 (p.2 : Nat)])
def small (p : Nat × Nat) : Prop := p.1 ≤ 60 ∧ p.2 ≤ 60
theorem wf_small {n : Nat} (h : n ≤ 1000000) : (Lit.int .i64 (n : Nat)).wf = true := by
  have e1 : IntKind.i64.min = -9223372036854775808 := by decide
  have e2 : IntKind.i64.max = 9223372036854775807 := by decide
  simp only [Lit.wf, e1, e2, Bool.and_eq_true, decide_eq_true_eq]
  omega
theorem keyOf_pl {p : Nat × Nat} (h : small p) : keyOf Try.prog 43 (pk p) = some (pl p) :=
  keyOf_pair arrP Try.underlying3 sizeP (wf_small (by have := h.1; omega)) (wf_small (by have := h.2; omega))
theorem pl_inj {p q : Nat × Nat} (hp : small p) (hq : small q) (h : pl p = pl q) : p = q := by
  have e := keyedP.inj (keyOf_pl hp) (h ▸ keyOf_pl hq)
  simp only [pk, Value.agg.injEq, Array.mk.injEq, List.cons.injEq, Value.int.injEq, true_and, and_true] at e
  obtain ⟨p1, p2⟩ := p
  obtain ⟨q1, q2⟩ := q
  simp only [Prod.mk.injEq]
  simp only [Int.natCast_inj] at e
  exact e
noncomputable abbrev pE := plainElem (H := Unit) Try.prog 3
def pEnt (at' : Nat → Nat × Nat) (k : Nat) (p : Nat × Nat) : Lit × DataW Unit := (pl p, .lit (.int .i64 (timesUp at' k p : Nat)))
/-- block m is the map behind k places: its keys are K -/
structure PMap (w : World) (m k : Nat) (at' : Nat → Nat × Nat) (K : List (Nat × Nat)) (es : List (Lit × DataW Unit)) : Prop where
  own : w.ownsMap Try.prog 43 pE m k (.map es)
  nd : K.Nodup
  mem : ∀ p, p ∈ K ↔ ∃ j, j < k ∧ at' j = p
  ent : es.Perm (K.map (pEnt at' k))
theorem PMap.none (w : World) (at' : Nat → Nat × Nat) : PMap (w.alloc (.map #[] 0)) w.heap.size 0 at' [] [] :=
  ⟨World.ownsMap_made w _ _ _, List.nodup_nil, by simp, List.Perm.refl _⟩
theorem isKeyL {p : Nat × Nat} (h : small p) : WideAt.IsKeyLit (pl p) := keyedP.key (keyOf_pl h)
theorem PMap.at_ {w : World} {m k : Nat} {at' : Nat → Nat × Nat} {K : List (Nat × Nat)} {es : List (Lit × DataW Unit)} (h : PMap w m k at' K es) (hs : ∀ j, small (at' j)) {q : Nat × Nat} (hq : small q) :
    (DataW.map es).atKey (pl q) (.lit (.int .i64 0)) = .lit (.int .i64 (timesUp at' k q : Nat)) := by
  by_cases c : q ∈ K
  · obtain ⟨es', e, hp, _⟩ := h.own.entries keyedP
    cases e
    exact WideAt.atKey_mem _ (isKeyL hq) hp (h.ent.mem_iff.2 (List.mem_map.2 ⟨q, c, rfl⟩))
  · have h0 : timesUp at' k q = 0 := by
      rcases Nat.eq_zero_or_pos (timesUp at' k q) with e | e
      · exact e
      · exact absurd ((h.mem q).2 ((timesUp_pos at' k q).1 e)) c
    rw [h0]
    refine WideAt.atKey_none _ fun p hp e => c ?_
    obtain ⟨a, ha, e2⟩ := List.mem_map.1 (h.ent.mem_iff.1 hp)
    obtain ⟨j, _, ej⟩ := (h.mem a).1 ha
    have : a = q := pl_inj (ej ▸ hs j) hq (by rw [← e, ← e2]; rfl)
    exact this ▸ ha
theorem timesUp_other {at' : Nat → Nat × Nat} {k : Nat} {p : Nat × Nat} (h : p ≠ at' k) : timesUp at' (k + 1) p = timesUp at' k p := by
  simp only [timesUp]; rw [if_neg (fun e => h e.symm), Nat.add_zero]
theorem timesUp_here (at' : Nat → Nat × Nat) (k : Nat) : timesUp at' (k + 1) (at' k) = timesUp at' k (at' k) + 1 := by simp [timesUp]
/-- the entries, one place more -/
theorem ent_more {at' : Nat → Nat × Nat} {k : Nat} {K : List (Nat × Nat)} {es : List (Lit × DataW Unit)} (hs : ∀ j, small (at' j)) (hnd : K.Nodup) (hm : ∀ p, p ∈ K ↔ ∃ j, j < k ∧ at' j = p)
    (he : es.Perm (K.map (pEnt at' k))) : ((at' k) :: K.filter (fun p => p ≠ at' k)).Nodup ∧ (∀ p, p ∈ ((at' k) :: K.filter (fun p => p ≠ at' k)) ↔ ∃ j, j < k + 1 ∧ at' j = p) ∧
    (putKey (pl (at' k)) (.lit (.int .i64 (timesUp at' k (at' k) + 1 : Nat))) es).Perm (((at' k) :: K.filter (fun p => p ≠ at' k)).map (pEnt at' (k + 1))) := by
  refine ⟨?_, ?_, ?_⟩
  · rw [List.nodup_cons]
    exact ⟨by simp, nodup_filter' hnd _⟩
  · intro p
    simp only [List.mem_cons, List.mem_filter, decide_eq_true_eq, hm]
    constructor
    · rintro (e | ⟨⟨j, hj, e⟩, _⟩)
      · exact ⟨k, Nat.lt_succ_self k, e.symm⟩
      · exact ⟨j, Nat.lt_succ_of_lt hj, e⟩
    · rintro ⟨j, hj, e⟩
      by_cases c : p = at' k
      · exact .inl c
      · refine .inr ⟨⟨j, ?_, e⟩, c⟩
        have : j ≠ k := fun hjk => c (by rw [← hjk, e])
        omega
  · unfold putKey
    refine (WideShapes.insert_perm _ _).trans ?_
    rw [List.map_cons]
    have e1 : pEnt at' (k + 1) (at' k) = (pl (at' k), .lit (.int .i64 (timesUp at' k (at' k) + 1 : Nat))) := by simp only [pEnt, timesUp_here]
    rw [e1]
    refine List.Perm.cons _ ?_
    refine (he.filter _).trans ?_
    rw [List.filter_map]
    have e2 : K.filter (notKey (pl (at' k)) ∘ pEnt at' k) = K.filter (fun p => p ≠ at' k) := by
      refine List.filter_congr fun p hp => ?_
      obtain ⟨j, _, ej⟩ := (hm p).1 hp
      have sp : small p := ej ▸ hs j
      by_cases c : p = at' k
      · have : notKey (pl (at' k)) (pEnt at' k p) = false := by
          have := (notKey_iff (H := Unit) (p := pEnt at' k p) (isKeyL (hs k)))
          cases hn : notKey (pl (at' k)) (pEnt at' k p)
          · rfl
          · exact absurd (by simp [pEnt, c]) (this.1 hn)
        have d : decide (p ≠ at' k) = false := by simp [c]
        rw [d]
        exact this
      · have : notKey (pl (at' k)) (pEnt at' k p) = true := (notKey_iff (isKeyL (hs k))).2 (fun e => c (pl_inj sp (hs k) e))
        simp [Function.comp, this, c]
    rw [e2]
    have e3 : (K.filter (fun p => p ≠ at' k)).map (pEnt at' (k + 1)) = (K.filter (fun p => p ≠ at' k)).map (pEnt at' k) := by
      refine List.map_congr_left fun p hp => ?_
      have : p ≠ at' k := by simpa using (List.mem_filter.1 hp).2
      simp only [pEnt, timesUp_other this]
    rw [e3]
theorem PMap.heap {w : World} {m k : Nat} {at' : Nat → Nat × Nat} {K : List (Nat × Nat)} {es : List (Lit × DataW Unit)} (h : PMap w m k at' K es) : m < w.heap.size := h.own.lt
/-- 'times[at]++': what each of its operations answers, and the map then -/
theorem PMap.round {w : World} {m k : Nat} {at' : Nat → Nat × Nat} {K : List (Nat × Nat)} {es : List (Lit × DataW Unit)} (h : PMap w m k at' K es) (hs : ∀ j, small (at' j)) (hk : k ≤ 100000) :
    ∃ v0 st w2 w3 K' es', (Instr.lookup 44 (.map (some m)) (pk (at' k)) false).run Try.prog w = .ok (.int .i64 (timesUp at' k (at' k) : Nat)) w ∧
      (Instr.mapEntry 44 (.map (some m)) (pk (at' k))).run Try.prog w = .ok (.tuple #[v0, goInt st]) w2 ∧
      (Instr.lookup 44 (.map (some m)) (pk (at' k)) false).run Try.prog w2 = .ok (.int .i64 (timesUp at' k (at' k) : Nat)) w2 ∧
      (Instr.entryStore 44 (.map (some m)) (goInt st) (.int .i64 (timesUp at' k (at' k) + 1 : Nat))).run Try.prog w2 = .ok () w3 ∧
      PMap w3 m (k + 1) at' K' es' ∧ w.grownBy w3 (some m) ∧ w.grownBy w2 (some m) := by
  have ht : Try.prog.underlying 44 = some (.map 43 3) := Try.underlying44
  have hkey := keyOf_pl (hs k)
  have hz : ∀ u : World, (zeroValue 3).run Try.prog u = .ok (.int .i64 0) u := fun u => by kernel_rfl
  have hle := timesUp_le at' k (at' k)
  obtain ⟨c, r1, r2, _⟩ := h.own.lookup_int keyedP ht Try.underlying3 (hz w) hkey
  rw [h.at_ hs (hs k)] at r2
  have ec : c = (timesUp at' k (at' k) : Nat) := by
    simp only [DataW.lit.injEq, Lit.int.injEq, true_and] at r2
    exact r2.symm
  subst ec
  obtain ⟨w3, u1, u2, u3⟩ := h.own.update keyedP ht (by unfold maxLen; omega) (val := .int .i64 (timesUp at' k (at' k) + 1 : Nat)) hkey (plainElem_int Try.underlying3 (wf_small (by omega)))
  have u2' := u2
  obtain ⟨es0, clock, hb, F, hsz, hD⟩ := h.own
  obtain ⟨v0, st, es1, clock1, m1, _, m3⟩ := entry_then_store lawP ht hz hb F hkey
  obtain ⟨es2, clock2, s1, s2⟩ := m3 (setBlock w m (.map es1 clock1)) (.int .i64 (timesUp at' k (at' k) + 1 : Nat)) (ChangeMaps.heap_setBlock_same hb _)
  have e3 : w3 = setBlock w m (.map es2 clock2) := (Result.ok.inj (u1.symm.trans s2)).2
  have ew : setBlock (setBlock w m (.map es1 clock1)) m (.map es2 clock2) = w3 := by
    rw [e3]; simp [setBlock]
  obtain ⟨n1, n2, n3⟩ := ent_more hs h.nd h.mem h.ent
  have L2 : (Instr.lookup 44 (.map (some m)) (pk (at' k)) false).run Try.prog (setBlock w m (.map es1 clock1)) = .ok (.int .i64 (timesUp at' k (at' k) : Nat)) (setBlock w m (.map es1 clock1)) := by
    rcases lawP.find w hkey es0.toList F.keys with ⟨f1, f2⟩ | ⟨j, e0, f1, f2, f3⟩
    · have hm : (Instr.mapEntry 44 (.map (some m)) (pk (at' k))).run Try.prog w = .ok (.tuple #[.int .i64 0, goInt clock]) (setBlock w m (.map (es0.push ⟨pk (at' k), .int .i64 0, clock⟩) (clock + 1))) := by
        simp [Instr.mapEntry, run_underlying ht, MapKept.run_getObj_map hb, lawP.check w false hkey, f1, hz, MapKept.run_setObj_map _ hb, Result.andThen, setBlock]
      have hu : (Instr.mapUpdate 44 (.map (some m)) (pk (at' k)) (.int .i64 0)).run Try.prog w = .ok () (setBlock w m (.map (es0.push ⟨pk (at' k), .int .i64 0, clock⟩) (clock + 1))) := by
        simp [Instr.mapUpdate, run_underlying ht, MapKept.run_getObj_map hb, lawP.check w false hkey, f1, MapKept.run_setObj_map _ hb, Result.andThen, setBlock]
      have ee := (Result.ok.inj (m1.symm.trans hm)).2
      rw [ee]
      obtain ⟨w4, y1, y2, _⟩ := h.own.update keyedP ht (by unfold maxLen; omega) (val := .int .i64 0) hkey (plainElem_int Try.underlying3 (wf_small (n := 0) (by omega)))
      have e4 := (Result.ok.inj (y1.symm.trans hu)).2
      rw [← e4]
      obtain ⟨c, q1, q2, _⟩ := y2.lookup_int keyedP ht Try.underlying3 (hz w4) hkey
      rw [atKey_put_same ⟨_, rfl⟩ (isKeyL (hs k))] at q2
      have hn : ∀ x ∈ es0.toList, x.key ≠ pk (at' k) := f2
      have h0 : timesUp at' k (at' k) = 0 := by
        have q := h.at_ hs (hs k)
        have nk : at' k ∉ K := fun hin => by
          have hin2 := h.ent.mem_iff.2 (List.mem_map.2 ⟨at' k, hin, rfl⟩)
          have hD' : es = (es0.toList.map (rg Try.prog 43 pE)).foldr DataW.insert [] := by injection hD
          rw [hD'] at hin2
          obtain ⟨x, hx, ex⟩ := List.mem_map.1 ((WideShapes.sorted_perm _).mem_iff.1 hin2)
          obtain ⟨y, hy⟩ := F.reads x hx
          have e5 := WideElems.rg_of hy
          have e6 := congrArg Prod.fst (e5.symm.trans ex)
          simp only [pEnt] at e6
          have e7 := WideElems.rd_key hy
          rw [e6] at e7
          exact hn x hx (keyedP.inj e7 hkey)
        rcases Nat.eq_zero_or_pos (timesUp at' k (at' k)) with e | e
        · exact e
        · exact absurd ((h.mem _).2 ((timesUp_pos at' k _).1 e)) nk
      have ec : c = 0 := by
        simp only [DataW.lit.injEq, Lit.int.injEq, true_and] at q2
        exact q2.symm
      rw [h0]
      subst ec
      exact q1
    · have hj : es0[j]? = some e0 := by simpa using f2
      have hsame : es0.modify j (fun e => { e with key := pk (at' k) }) = es0 := by
        apply Array.ext'
        rw [Array.toList_modify, ChangeMaps.modify_eq_set _ _ _ _ f2]
        have : ({ e0 with key := pk (at' k) } : MapEntry) = e0 := by rw [← f3]
        rw [this]
        exact set_self _ _ _ f2
      have hm : (Instr.mapEntry 44 (.map (some m)) (pk (at' k))).run Try.prog w = .ok (.tuple #[e0.val, goInt e0.born]) (setBlock w m (.map es0 clock)) := by
        simp [Instr.mapEntry, run_underlying ht, MapKept.run_getObj_map hb, lawP.check w false hkey, f1, hj, f3, lawP.stays w hkey, hsame, MapKept.run_setObj_map _ hb, Result.andThen, setBlock]
      have ee := (Result.ok.inj (m1.symm.trans hm)).2
      rw [ee]
      have o2 : (setBlock w m (.map es0 clock)).ownsMap (H := Unit) Try.prog 43 pE m k (.map es) := ⟨es0, clock, ChangeMaps.heap_setBlock_same hb _, F, hsz, hD⟩
      obtain ⟨c, q1, q2, _⟩ := o2.lookup_int keyedP ht Try.underlying3 (hz _) hkey
      rw [h.at_ hs (hs k)] at q2
      have ec : c = (timesUp at' k (at' k) : Nat) := by
        simp only [DataW.lit.injEq, Lit.int.injEq, true_and] at q2
        exact q2.symm
      subst ec
      exact q1
  refine ⟨v0, st, _, w3, _, _, r1, m1, L2, by rw [s1, ew], ⟨by rw [DataW.put_eq] at u2'; exact u2', n1, n2, n3⟩, u3, ⟨rfl, rfl, rfl, by simp [setBlock], fun i _ hi => ChangeMaps.heap_setBlock_other hb _ (fun e => hi (by rw [e]))⟩⟩
end Go.Proofs.Ytgpfnbajjephpaa
