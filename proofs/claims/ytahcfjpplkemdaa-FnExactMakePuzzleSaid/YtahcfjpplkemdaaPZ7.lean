/- Clues appended to clues: onto a slice without room, and onto a slice of the call's own. -/
import Derived.Test.YtahcfjpplkemdaaPZ6
import Derived.Deep.AppendSrc
import Derived.Deep.Upon
import Derived.Deep.RegionLaw
namespace Go.Proofs.Ytahcfjpplkemdaa
open Go.RowKit
set_option linter.unusedVariables false
set_option linter.unusedSimpArgs false
def clist (n : Nat) (f : Nat → Int) : List Value := (List.range (n * 3)).map fun i => Value.int .i64 (f i)
def catF (f : Nat → Int) (k : Nat) (g : Nat → Int) : Nat → Int := fun i => if i < k * 3 then f i else g (i - k * 3)
theorem clist_len (n : Nat) (f : Nat → Int) : (clist n f).length = n * 3 := by simp [clist]
theorem clist_cat (k m : Nat) (f g : Nat → Int) : clist k f ++ clist m g = clist (k + m) (catF f k g) := by
  apply List.ext_getElem?
  intro i
  unfold clist
  rw [List.getElem?_append]
  simp only [List.length_map, List.length_range, List.getElem?_map, List.getElem?_range']
  by_cases h : i < k * 3
  · have h2 : i < (k + m) * 3 := by omega
    simp [h, h2, catF]
  · by_cases h2 : i < (k + m) * 3
    · have h3 : i - k * 3 < m * 3 := by omega
      simp [h, h2, h3, catF]
    · have h3 : ¬ i - k * 3 < m * 3 := by omega
      simp [h, h2, h3]
theorem clist_one (n : Nat) (f : Nat → Int) : ∀ u ∈ clist n f, u.oneCell' = true := by
  intro u hu
  obtain ⟨_, _, rfl⟩ := List.mem_map.1 hu
  rfl
def Caps (v : Value) : Prop := ∀ a m c, v = .slice a m c → m ≤ c
theorem OClu.caps {w : World} {B n : Nat} {v : Value} {f : Nat → Int} (h : OClu w B v n f) : Caps v := by
  intro a m c e
  rcases h.open_ with ⟨rfl, h0⟩ | ⟨g, cap, rfl, _, _, h1, _⟩
  · cases e; exact Nat.le_refl _
  · cases e; exact h1
theorem PClu.src {w : World} {v : Value} {m : Nat} {g : Nat → Int} (h : PClu w v m g) (h0 : 0 < m) : ∃ b off cap, v = .slice (some ⟨b, off, none⟩) m cap ∧ b < w.heap.size ∧ ∀ j u, (clist m g)[j]? = some u → w.cell? ((⟨b, off, none⟩ : Addr).add j) = some u := by
  rcases h with ⟨h1, _⟩ | ⟨_, b, off, cap, hv, hn, hb, hc⟩
  · omega
  · refine ⟨b, off, cap, hv, hb, fun j u hu => ?_⟩
    have hj : j < m * 3 := by
      have := (List.getElem?_eq_some_iff.1 hu).1
      rwa [clist_len] at this
    rw [Addr.add_lit, hc j hj]
    simpa [clist, hj] using hu
theorem PClu.congr {w : World} {v : Value} {n : Nat} {f g : Nat → Int} (h : PClu w v n f) (e : ∀ i, i < n * 3 → f i = g i) : PClu w v n g := by
  rcases h with h | ⟨h0, b, off, cap, hv, hn, hb, hc⟩
  · exact .inl h
  · exact .inr ⟨h0, b, off, cap, hv, hn, hb, fun i hi => by rw [← e i hi]; exact hc i hi⟩
theorem run_app_own {w : World} {B k m : Nat} {dst src : Value} {f g : Nat → Int} (ty : TypeId) (hd : OClu w B dst k f) (hs : PClu w src m g) (hB : B ≤ w.heap.size) (hb : k + m ≤ 1000000) :
    ∃ v' w', (Builtin.append_ #[51, 51] ty #[dst, src]).run Try.prog w = .ok v' w' ∧ OClu w' B v' (k + m) (catF f k g) ∧ w.grownBy w' dst.ownBlock := by
  obtain ⟨i0, hi, hz0, hz1, hz2⟩ := info_parts infoClu
  have e := clist_cat k m f g
  by_cases h0 : 0 < m
  · obtain ⟨b, off, cap, rfl, _, hc⟩ := hs.src h0
    obtain ⟨v', w', h1, h2, h3, _⟩ := run_append_own (P := Try.prog) w B 51 ty 57 i0 (.agg #[.int .i64 0, .int .i64 0, .int .i64 0]) 3 24 Try.underlying51 hi hz0 hz1 hz2 rfl (by decide) dst k _ hd ⟨b, off, none⟩ m cap (clist m g) (clist_len m g) hc (clist_one m g) (by unfold maxLen; omega) (by omega) hB
    refine ⟨v', w', h1, ?_, h3⟩
    have h2' : w'.ownsRow B 57 3 v' (k + m) (clist k f ++ clist m g) := h2
    rw [e] at h2'
    exact h2'
  · obtain rfl : m = 0 := by omega
    obtain ⟨a, c, rfl⟩ := hs.zero
    have hsrc : Src Try.prog i0.size 51 (.slice a 0 c) 0 [] w := by
      cases a with
      | none => exact Src.ofNil w Try.underlying51 c
      | some a => exact Src.ofSlice w Try.underlying51 a 0 c [] (by simp) (fun j u hu => by simp at hu) (fun u hu => by simp at hu)
    obtain ⟨ad, c', rfl⟩ := hd.toP.shape
    have hle := hd.caps _ _ _ rfl
    refine ⟨_, w, run_append_nothing w _ _ ty 57 i0 Try.underlying51 hi ad k c' hle _ hsrc, hd.congr (fun i hi => by simp [catF]; omega), ⟨rfl, rfl, rfl, Nat.le_refl _, fun _ _ _ => rfl⟩⟩
theorem run_app_full {w : World} {k m : Nat} {a : Option Addr} {src : Value} {f g : Nat → Int} (ty : TypeId) (hd : PClu w (.slice a k k) k f) (hs : PClu w src m g) (hb : k + m ≤ 1000000) :
    ∃ v' w', (Builtin.append_ #[51, 51] ty #[.slice a k k, src]).run Try.prog w = .ok v' w' ∧ PClu w' v' (k + m) (catF f k g) ∧ Caps v' ∧ Below w.heap.size w w' ∧ (0 < m → OClu w' w.heap.size v' (k + m) (catF f k g)) ∧ (m = 0 → v' = .slice a k k) := by
  obtain ⟨i0, hi, hz0, hz1, hz2⟩ := info_parts infoClu
  by_cases h0 : 0 < m
  · obtain ⟨b, off, cap, rfl, _, hc⟩ := hs.src h0
    have hsrc : Src Try.prog i0.size 51 (.slice (some ⟨b, off, none⟩) m cap) m (clist m g) w := Src.ofSlice w Try.underlying51 _ m cap (clist m g) (by rw [clist_len, hz1]) hc (clist_one m g)
    have hold : (Builtin.firstCells i0.size k (.slice a k k)).run Try.prog w.drew = .ok (clist k f).toArray w.drew := by
      by_cases k0 : 0 < k
      · obtain ⟨b2, off2, cap2, hv, _, hc2⟩ := hd.src k0
        simp only [Value.slice.injEq, true_and] at hv
        obtain ⟨rfl, rfl⟩ := hv
        exact run_firstCells_some (P := Try.prog) w.drew i0.size k _ k k (clist k f) (by rw [clist_len, hz1]) (by simpa using hc2)
      · obtain rfl : k = 0 := by omega
        cases a with
        | none => exact run_firstCells_none w.drew i0.size 0 0 0
        | some a => exact run_firstCells_some (P := Try.prog) w.drew i0.size 0 _ 0 0 (clist 0 f) (by simp [clist]) (fun j u hu => by simp [clist] at hu)
    have hr := run_append_grow_src w 51 51 ty 57 i0 (.agg #[.int .i64 0, .int .i64 0, .int .i64 0]) Try.underlying51 hi hz0 a k k (clist k f) hold _ m (clist m g) hsrc (by omega) (by omega) (growslice_fits (by omega) (by rw [hz2]; omega))
    have hge := grownCap_ge w (k + m) k 57
    have hcm : grownCap w (k + m) k 57 ≤ maxLen := grownCap_le_maxLen w (k + m) k 57 (by unfold maxLen; omega)
    have hO : OClu (w.drew.alloc (.cells ((clist k f ++ clist m g).toArray ++ Builtin.zeroCells (Value.agg #[.int .i64 0, .int .i64 0, .int .i64 0]).cells (grownCap w (k + m) k 57 - (k + m))) 57)) w.heap.size
        (.slice (some ⟨w.heap.size, 0, none⟩) (k + m) (grownCap w (k + m) k 57)) (k + m) (catF f k g) := by
      refine ⟨by simp, .inr ⟨w.heap.size, _, _, rfl, Nat.le_refl _, heap_alloc_new w.drew _, hge, hcm, ?_, ?_⟩⟩
      · have hz : (Value.agg #[.int .i64 0, .int .i64 0, .int .i64 0]).cells.size = 3 := rfl
        simp only [Array.size_append, List.size_toArray, size_zeroCells, hz, List.length_append, clist_len]
        omega
      · have hl : (clist k f ++ clist m g).length = (k + m) * 3 := by rw [List.length_append, clist_len, clist_len]; omega
        simp only [Array.toList_append]
        have ht : List.take ((k + m) * 3) ((clist k f ++ clist m g) ++ (Builtin.zeroCells (Value.agg #[.int .i64 0, .int .i64 0, .int .i64 0]).cells (grownCap w (k + m) k 57 - (k + m))).toList) = clist k f ++ clist m g := by rw [← hl, List.take_left]
        rw [ht]
        exact clist_cat k m f g
    refine ⟨_, _, hr, hO.toP, hO.caps, (Below.drew (Below.refl _ _)).alloc (Nat.le_refl _) _, fun _ => hO, fun e => by omega⟩
  · obtain rfl : m = 0 := by omega
    obtain ⟨a2, c, rfl⟩ := hs.zero
    have hsrc : Src Try.prog i0.size 51 (.slice a2 0 c) 0 [] w := by
      cases a2 with
      | none => exact Src.ofNil w Try.underlying51 c
      | some a => exact Src.ofSlice w Try.underlying51 a 0 c [] (by simp) (fun j u hu => by simp at hu) (fun u hu => by simp at hu)
    refine ⟨_, w, run_append_nothing w _ _ ty 57 i0 Try.underlying51 hi a k k (Nat.le_refl _) _ hsrc, ?_, fun a m c e => by cases e; exact Nat.le_refl _, Below.refl _ _, fun h => by omega, fun _ => rfl⟩
    exact hd.congr (fun i hi => by simp [catF]; omega)
section
variable {o : Oper} {a : Act} {K : Act → World → Prop} {Q : Exit → Act → World → Prop} {w : World}
theorem wp_app (s x : Operand) (ho : o.op = .call { callee := .builtin .append, args := #[s, x], argTypes := #[51, 51] })
    {dst src v' : Value} {w' : World} (hs : a.eval s = dst) (hx : a.eval x = src) (hr : (Builtin.append_ #[51, 51] o.type #[dst, src]).run Try.prog w = .ok v' w') (h : K (a.put o.dst v') w') : o.wp Try.prog a w K Q := by
  unfold Oper.wp execOp
  simp only [ho, resolve, invoke, builtin, Sem.run_bind, Sem.run_pure, Result.andThen_ok, List.map_toArray, List.map_cons, List.map_nil, hs, hx, hr]
  exact h
theorem wpList_app_full {ops : Array Oper} {rest : List Oper} (hgd : o.guard = none) (s x : Operand) (ho : o.op = .call { callee := .builtin .append, args := #[s, x], argTypes := #[51, 51] })
    (A0 : Option Addr) (k : Nat) (f : Nat → Int) (hs : a.eval s = .slice A0 k k) (hd : PClu w (.slice A0 k k) k f) (src : Value) (m : Nat) (g : Nat → Int) (hx : a.eval x = src) (hsrc : PClu w src m g) (hb : k + m ≤ 1000000)
    (h : ∀ v' w', PClu w' v' (k + m) (catF f k g) → Caps v' → Below w.heap.size w w' → (0 < m → OClu w' w.heap.size v' (k + m) (catF f k g)) → (m = 0 → v' = .slice A0 k k) → wpList Try.prog ops Q rest (a.put o.dst v') w') : wpList Try.prog ops Q (o :: rest) a w :=
  wpList_plain hgd fun _ hK => by
    obtain ⟨v', w', hr, h1, h2, h3, h4, h5⟩ := run_app_full o.type hd hsrc hb
    exact wp_app s x ho hs hx hr (hK _ _ (h v' w' h1 h2 h3 h4 h5))
theorem step_app_full {ops : Array Oper} {E : Prop} (hgd : o.guard = none) (s x : Operand) (ho : o.op = .call { callee := .builtin .append, args := #[s, x], argTypes := #[51, 51] })
    (A0 : Option Addr) (k : Nat) (f : Nat → Int) (hs : a.eval s = .slice A0 k k) (hd : PClu w (.slice A0 k k) k f) (src : Value) (m : Nat) (g : Nat → Int) (hx : a.eval x = src) (hsrc : PClu w src m g) (hb : k + m ≤ 1000000)
    (h : ∀ v' w', PClu w' v' (k + m) (catF f k g) → Caps v' → Below w.heap.size w w' → (0 < m → OClu w' w.heap.size v' (k + m) (catF f k g)) → (m = 0 → v' = .slice A0 k k) → K (a.put o.dst v') w') :
    if Region.wanted o (yielded ops a.tmps) = true then Oper.wp Try.prog o a w K Q else E := by
  have hw : Region.wanted o (yielded ops a.tmps) = true := by simp [Region.wanted, hgd]
  rw [if_pos hw]
  obtain ⟨v', w', hr, h1, h2, h3, h4, h5⟩ := run_app_full o.type hd hsrc hb
  exact wp_app s x ho hs hx hr (h v' w' h1 h2 h3 h4 h5)
theorem step_app_own {ops : Array Oper} {E : Prop} (hgd : o.guard = none) (s x : Operand) (ho : o.op = .call { callee := .builtin .append, args := #[s, x], argTypes := #[51, 51] })
    (B : Nat) (dst : Value) (k : Nat) (f : Nat → Int) (hs : a.eval s = dst) (hd : OClu w B dst k f) (src : Value) (m : Nat) (g : Nat → Int) (hx : a.eval x = src) (hsrc : PClu w src m g) (hB : B ≤ w.heap.size) (hb : k + m ≤ 1000000)
    (h : ∀ v' w', OClu w' B v' (k + m) (catF f k g) → w.grownBy w' dst.ownBlock → K (a.put o.dst v') w') :
    if Region.wanted o (yielded ops a.tmps) = true then Oper.wp Try.prog o a w K Q else E := by
  have hw : Region.wanted o (yielded ops a.tmps) = true := by simp [Region.wanted, hgd]
  rw [if_pos hw]
  obtain ⟨v', w', hr, h1, h2⟩ := run_app_own o.type hd hsrc hB hb
  exact wp_app s x ho hs hx hr (h v' w' h1 h2)
theorem wpList_app_own {ops : Array Oper} {rest : List Oper} (hgd : o.guard = none) (s x : Operand) (ho : o.op = .call { callee := .builtin .append, args := #[s, x], argTypes := #[51, 51] })
    (B : Nat) (dst : Value) (k : Nat) (f : Nat → Int) (hs : a.eval s = dst) (hd : OClu w B dst k f) (src : Value) (m : Nat) (g : Nat → Int) (hx : a.eval x = src) (hsrc : PClu w src m g) (hB : B ≤ w.heap.size) (hb : k + m ≤ 1000000)
    (h : ∀ v' w', OClu w' B v' (k + m) (catF f k g) → w.grownBy w' dst.ownBlock → wpList Try.prog ops Q rest (a.put o.dst v') w') : wpList Try.prog ops Q (o :: rest) a w :=
  wpList_plain hgd fun _ hK => by
    obtain ⟨v', w', hr, h1, h2⟩ := run_app_own o.type hd hsrc hB hb
    exact wp_app s x ho hs hx hr (hK _ _ (h v' w' h1 h2))
end
theorem PClu.first {w : World} {a : Option Addr} {n c : Nat} {f : Nat → Int} (h : PClu w (.slice a n c) n f) {k : Nat} (hk : k ≤ n) (c' : Nat) : PClu w (.slice a k c') k f := by
  rcases h with ⟨rfl, _⟩ | ⟨h0, b, off, cap, hv, hn, hb, hc⟩
  · obtain rfl : k = 0 := by omega
    exact .inl ⟨rfl, _, _, rfl⟩
  · simp only [Value.slice.injEq, true_and] at hv
    obtain ⟨rfl, rfl⟩ := hv
    by_cases k0 : 0 < k
    · exact .inr ⟨k0, b, off, c', rfl, by omega, hb, fun i hi => hc i (by omega)⟩
    · obtain rfl : k = 0 := by omega
      exact .inl ⟨rfl, _, _, rfl⟩
theorem PClu.from_ {w : World} {b off n c : Nat} {f : Nat → Int} (h : PClu w (.slice (some ⟨b, off, none⟩) n c) n f) {k : Nat} (hk : k ≤ n) (c' : Nat) (m : Nat) (hm : k + m ≤ n) : PClu w (.slice (some ⟨b, off + k * 3, none⟩) m c') m (fromF f k) := by
  by_cases k0 : 0 < m
  · rcases h with ⟨h1, _⟩ | ⟨h0, b', off', cap, hv, hn, hb, hc⟩
    · omega
    · simp only [Value.slice.injEq, Option.some.injEq, Addr.mk.injEq, and_true, true_and] at hv
      obtain ⟨⟨rfl, rfl⟩, rfl⟩ := hv
      refine .inr ⟨k0, b, _, c', rfl, by omega, hb, fun i hi => ?_⟩
      rw [Nat.add_assoc]
      exact hc (k * 3 + i) (by omega)
  · obtain rfl : m = 0 := by omega
    exact .inl ⟨rfl, _, _, rfl⟩
theorem cat_drop (f : Nat → Int) (k : Nat) : ∀ i, catF f k (fromF f (k + 1)) i = dropF f k i := by
  intro i
  unfold catF fromF dropF
  by_cases h : i < k * 3
  · rw [if_pos h, if_pos h]
  · rw [if_neg h, if_neg h]; congr 1; omega
end Go.Proofs.Ytahcfjpplkemdaa
