/- Slices of slices of integers as they came in: counted and copied. -/
import Derived.Test.YtfcllmlecnffdaaQ1
import Derived.Deep.Matrix
namespace Go.Proofs.Ytfcllmlecnffdaa
open Go.RowKit
theorem infoIS : (Try.prog.info? 25).map (fun i => (i.zero, i.size, i.bytes)) = some (some (.slice none 0 0), 1, 24) := by kernel_rfl
/-- 'v' is a slice of L slices of ints, the i-th with the elements f i. -/
def QQRow (w : World) (v : Value) (L : Nat) (f : Nat → List Int) : Prop :=
  (L = 0 ∧ ∃ a c, v = .slice a 0 c) ∨ (0 < L ∧ ∃ b off cap, v = .slice (some ⟨b, off, none⟩) L cap ∧ L ≤ maxLen ∧ b < w.heap.size ∧ ∀ i, i < L → ∃ u, w.cell? ⟨b, off + i, none⟩ = some u ∧ QRow w u (f i))
theorem QQRow.keep {w w' : World} {v : Value} {L : Nat} {f : Nat → List Int} (h : QQRow w v L f) (k : Below w.heap.size w w') : QQRow w' v L f := by
  rcases h with h | ⟨h0, b, off, cap, hv, hn, hb, hc⟩
  · exact .inl h
  · refine .inr ⟨h0, b, off, cap, hv, hn, Nat.lt_of_lt_of_le hb k.size, fun i hi => ?_⟩
    obtain ⟨u, h1, h2⟩ := hc i hi
    exact ⟨u, by rw [(bcell k).1 _ _ hb]; exact h1, h2.keep k⟩
theorem QQRow.shape {w : World} {v : Value} {L : Nat} {f : Nat → List Int} (h : QQRow w v L f) : ∃ a c, v = .slice a L c := by
  rcases h with ⟨rfl, a, c, h1⟩ | ⟨_, b, off, cap, h1, _⟩
  · exact ⟨a, c, h1⟩
  · exact ⟨_, cap, h1⟩
theorem QQRow.len_le {w : World} {v : Value} {L : Nat} {f : Nat → List Int} (h : QQRow w v L f) : L ≤ 9223372036854775807 := by
  rcases h with ⟨rfl, _⟩ | ⟨_, b, off, cap, _, hn, _⟩
  · simp
  · unfold maxLen at hn; omega
theorem QQRow.some_ {w : World} {v : Value} {L : Nat} {f : Nat → List Int} (h : QQRow w v L f) (h0 : 0 < L) : ∃ b off cap, v = .slice (some ⟨b, off, none⟩) L cap ∧ b < w.heap.size ∧ ∀ i, i < L → ∃ u, w.cell? ⟨b, off + i, none⟩ = some u ∧ QRow w u (f i) := by
  rcases h with ⟨rfl, _⟩ | ⟨_, b, off, cap, hv, hn, hb, hc⟩
  · omega
  · exact ⟨b, off, cap, hv, hb, hc⟩
theorem RRowF.toQ {w : World} {B : Nat} {v : Value} {L : Nat} {f : Nat → List Int} (h : RRowF w B v L f) : QQRow w v L f := by
  by_cases h0 : 0 < L
  · obtain ⟨g, cap, rfl, _, hg, hn, hm, vs, hc, hi⟩ := h.open_ h0
    exact .inr ⟨h0, g, 0, cap, rfl, by omega, hg, fun i hl => ⟨_, by rw [Nat.zero_add]; exact hc i hl, (hi i hl).toQ⟩⟩
  · obtain rfl : L = 0 := by omega
    exact .inl ⟨rfl, h.empty⟩
section
open Go.ChangeShapes Go.WideShapes Go.Deep
variable {H : Type} {enc : TypeId × Value → H} {w : World} {base : Nat} {held : Bool}
set_option maxRecDepth 100000 in
theorem open_qq {r : Reach} {b0 : Nat} {v : Value} {d : DataW H} {ps : List MemPlace} (hv : Value.okWide Try.prog w r b0 52 v) (h : DataW.Trod enc Try.prog w base (fun _ => true) held 52 v d ps) : ∃ n f, QQRow w v n f := by
  obtain ⟨a0, len, cap, rfl⟩ := okWide_slice Try.underlying52 hv
  obtain ⟨fuel, hf⟩ := h
  rcases open_int_rows Try.underlying52 Try.underlying25 Try.underlying3 (by kernel_rfl) (by kernel_rfl) hf with ⟨hc, _⟩ | ⟨a, l, c, A, L, C, Z, hc, _, hl, hm, _, hall⟩
  · simp [Value.cells] at hc
    obtain ⟨rfl, rfl, rfl⟩ := hc
    exact ⟨0, fun _ => [], .inl ⟨rfl, _, _, rfl⟩⟩
  · simp [Value.cells] at hc
    obtain ⟨rfl, rfl, rfl⟩ := hc
    by_cases h0 : 0 < len
    · have c0 := (hall 0 (by omega)).1
      obtain ⟨b, off, spot⟩ := a
      have hs : spot = none := by
        have := (addr_spot c0).1
        simpa [Addr.add] using this
      subst hs
      have hb : b < w.heap.size := by
        have := (addr_spot c0).2
        simpa [Addr.add] using this
      refine ⟨len, fun i => (Z i).take (L i), .inr ⟨h0, b, off, cap, rfl, by omega, hb, fun i hi => ?_⟩⟩
      obtain ⟨e1, r1, r2, r3, _, r5, r6⟩ := hall i (by omega)
      rw [add_flat] at e1
      refine ⟨_, e1, ?_⟩
      have hlen : ((Z i).take (L i)).length = L i := by rw [List.length_take, r3]; omega
      by_cases hz : 0 < L i
      · cases hA : A i with
        | none => have := r5 hA; omega
        | some a' =>
          obtain ⟨_, hcc⟩ := r6 a' hA
          have k0 := hcc 0 (by omega)
          obtain ⟨b', off', spot'⟩ := a'
          have hs' : spot' = none := by
            have := (addr_spot k0).1
            simpa [Addr.add] using this
          subst hs'
          have hb' : b' < w.heap.size := by
            have := (addr_spot k0).2
            simpa [Addr.add] using this
          refine .inr ⟨by show 0 < ((Z i).take (L i)).length; omega, b', off', C i, by rw [show ((fun i => (Z i).take (L i)) i).length = L i from hlen], by show ((Z i).take (L i)).length ≤ _; omega, hb', fun c hc => ?_⟩
          have hc : c < ((Z i).take (L i)).length := hc
          rw [hlen] at hc
          have := hcc c (by omega)
          rw [add_flat] at this
          rw [this]
          simp [List.getD, hc]
      · have hz0 : L i = 0 := by omega
        refine .inl ⟨List.length_eq_zero_iff.1 (by show ((Z i).take (L i)).length = 0; omega), A i, C i, by rw [hz0]⟩
    · obtain rfl : len = 0 := by omega
      exact ⟨0, fun _ => [], .inl ⟨rfl, _, _, rfl⟩⟩
end

/-- how many numbers fit: the row and its slices within 1048576 -/
def szQ (L : Nat) (f : Nat → List Int) : Int := if L + tot f L ≤ 1048576 then 1048576 - (L : Int) - (tot f L : Nat) else -1
set_option maxHeartbeats 400000 in
theorem szIntS_any (v : Value) (xs : List Int) (k : Nat) (hk : k ≤ 1048576) (w : World) (h : QRow w v xs) :
    Calls Try.prog 110 #[v, .int .i64 k] w fun e w' => e = .returned (.int .i64 (if xs.length ≤ k then (k : Int) - xs.length else -1)) ∧ w = w' := by
  have hl := h.len_le
  obtain ⟨a, c, rfl⟩ := h.shape
  clear h
  by_cases hn : xs.length ≤ k
  · go_enter Try.func110, Try.ntmps110
    go_wp2
    go_ret
    exact ⟨by simp, rfl⟩
  · go_enter Try.func110, Try.ntmps110
    go_wp2
    go_ret
    exact ⟨by simp, rfl⟩

set_option maxHeartbeats 400000 in
theorem szIntSS_any (v : Value) (L : Nat) (f : Nat → List Int) (w : World) (h : QQRow w v L f) :
    Calls Try.prog 57 #[v, .int .i64 1048576] w fun e w' => e = .returned (.int .i64 (szQ L f)) ∧ ∃ n, w' = w.drewN n := by
  have hl := h.len_le
  by_cases hn : L ≤ 1048576
  · have HH := Lib.hid h
    obtain ⟨a, c, rfl⟩ := h.shape
    clear h
    go_enter Try.func57, Try.ntmps57
    go_wp2
    go_loopw [1, 5] (fun c i wr => ∃ j n : Nat, j ≤ L ∧ L + tot f j ≤ 1048576 ∧ c = .int .i64 (1048576 - (L : Int) - (tot f j : Nat)) ∧ i = .int .i64 (j : Int) ∧ wr = w.drewN n) (fun _ i _ => L - (intOf i).toNat)
    case atStart => exact ⟨0, 0, Nat.zero_le _, by simp [tot]; omega, by simp [tot], rfl, rfl⟩
    case round =>
      obtain ⟨j, n, hj, ht, rfl, rfl, rfl⟩ := hrel
      by_cases hlt : j < L
      · obtain ⟨b, off, cap, hv, hb, hc⟩ := HH.out.some_ (by omega)
        obtain ⟨u, c1, hu⟩ := hc j hlt
        simp only [Value.slice.injEq, true_and] at hv
        obtain ⟨rfl, rfl⟩ := hv
        have HU := Lib.hid hu
        have hlt' : (j : Int) < (L : Int) := by omega
        have hll := hu.len_le
        obtain ⟨q, hq⟩ : ∃ q : Nat, 1048576 - L - tot f j = q := ⟨_, rfl⟩
        have E0 : (1048576 - (L : Int) - (tot f j : Nat)) = (q : Int) := by omega
        rw [E0]
        have hq1 : q ≤ 1048576 := by omega
        have HQ := Lib.hid hq
        clear hc hu E0 hq
        have HM := Lib.hid (tot_mono f (show j + 1 ≤ L from hlt))
        have HT1 := Lib.hid (show tot f (j + 1) = tot f j + (f j).length from rfl)
        go_wp2_with fail
        refine (szIntS_any _ _ _ (by omega) _ (by exact HU.out)).mono ?_
        rintro e w' ⟨rfl, rfl⟩
        by_cases hfit : (f j).length ≤ q
        · rw [if_pos hfit]
          go_wp2
          go_roundw
          case rel => exact ⟨j + 1, n, by omega, by have := HQ.out; have := HT1.out; omega, congrArg (Value.int .i64) (by have := HQ.out; have := HT1.out; omega), by go_num, rfl⟩
          case measure => simp only [intOf]; omega
        · rw [if_neg hfit]
          have HZ := Lib.hid (show szQ L f = -1 from if_neg (by have := HQ.out; have := HT1.out; have := HM.out; omega))
          go_wp2
          go_ret
          exact ⟨by rw [HZ.out]; first | done | rfl, n, rfl⟩
      · obtain rfl : j = L := by omega
        have HZ := Lib.hid (show szQ j f = 1048576 - (j : Int) - (tot f j : Nat) from if_pos ht)
        go_wp2
        go_ret
        exact ⟨by rw [HZ.out]; first | done | rfl, n, rfl⟩
  · obtain ⟨a, c, rfl⟩ := h.shape
    clear h
    have hz : szQ L f = -1 := if_neg (by omega)
    rw [hz]
    go_enter Try.func57, Try.ntmps57
    go_wp2
    go_ret
    exact ⟨rfl, 0, rfl⟩

theorem IRow.nil_ (w : World) (B : Nat) : IRow w B (.slice none 0 0) [] := World.ownsRow_nil w B _ 1
theorem own_ne' {w : World} {B C : Nat} {v u : Value} {n : Nat} {vs : List Value} {xs : List Int} (h1 : w.ownsRow B 25 1 v n vs) (h2 : IRow w C u xs) : u.ownBlock = none ∨ u.ownBlock ≠ v.ownBlock := by
  rcases h2.open_ with ⟨e, _⟩ | ⟨g, cap, cur, e, _, _, _, _, hc, _⟩
  · rw [e]; simp [Value.ownBlock]
  · rw [e]
    obtain ⟨_, ⟨rfl, _⟩ | ⟨g', cap', cur', rfl, _, hc', _⟩⟩ := h1
    · simp [Value.ownBlock]
    · refine .inr fun e' => ?_
      simp only [Value.ownBlock, Option.some.injEq] at e'
      subst e'
      rw [hc] at hc'
      simp at hc'
/-- One of the slices of an own row is set. -/
theorem RRowF.put {w0 wr : World} {B L j : Nat} {vs : List Value} {u : Value} {xs : List Int} {g : Nat → List Int} (hj : j < L)
    (h1 : w0.ownsRow B 25 1 (.slice (some ⟨B, 0, none⟩) L L) L vs) (h3 : ∀ i, i < L → IRow w0 B (vs.getD i (.bool false)) (g i))
    (h4 : ∀ i j, i < j → j < L → (vs.getD i (.bool false)).ownBlock = none ∨ (vs.getD i (.bool false)).ownBlock ≠ (vs.getD j (.bool false)).ownBlock)
    (hb : Below w0.heap.size w0 wr) (hu : IRow wr w0.heap.size u xs) (hB : B ≤ w0.heap.size) :
    (wr.setCell ⟨B, j, none⟩ u).ownsRow B 25 1 (.slice (some ⟨B, 0, none⟩) L L) L (vs.set j u) ∧ (∀ i, i < L → IRow (wr.setCell ⟨B, j, none⟩ u) B ((vs.set j u).getD i (.bool false)) (if i = j then xs else g i)) ∧
    (∀ i k, i < k → k < L → ((vs.set j u).getD i (.bool false)).ownBlock = none ∨ ((vs.set j u).getD i (.bool false)).ownBlock ≠ ((vs.set j u).getD k (.bool false)).ownBlock) := by
  have hvl : vs.length = L := by simpa using h1.1
  have h1' : wr.ownsRow B 25 1 (.slice (some ⟨B, 0, none⟩) L L) L vs := World.ownsRow.kept h1 (only_of_below hb none) (by simp [Value.ownBlock])
  obtain ⟨q1, q2⟩ := World.ownsRow.stored h1' j u
  have gE : ∀ i, (vs.set j u).getD i (.bool false) = if i = j then (if i < L then u else .bool false) else vs.getD i (.bool false) := fun i => by
    simp only [List.getD, List.getElem?_set]
    by_cases e : j = i
    · subst e
      by_cases c : j < L <;> simp [hvl, c]
    · simp [e, Ne.symm e]
  have hub : ∀ k, u.ownBlock = some k → w0.heap.size ≤ k := fun k e => (World.ownsRow.lt hu k e).1
  have hu' : IRow wr B u xs := by
    obtain ⟨z1, z2⟩ := hu
    refine ⟨z1, ?_⟩
    rcases z2 with h | ⟨g, cap, cur, rfl, hBg, rest⟩
    · exact .inl h
    · exact .inr ⟨g, cap, cur, rfl, by omega, rest⟩
  refine ⟨q1, fun i hi => ?_, fun i k hik hk => ?_⟩
  · rw [gE]
    by_cases e : i = j
    · subst e
      rw [if_pos rfl, if_pos hi, if_pos rfl]
      exact World.ownsRow.kept hu' q2 (own_ne' h1' hu')
    · rw [if_neg e, if_neg e]
      have k := (h3 i hi).keep hb
      exact World.ownsRow.kept k q2 (own_ne' h1' k)
  · rw [gE, gE]
    by_cases e : i = j
    · subst e
      rw [if_pos rfl, if_pos (by omega), if_neg (by omega)]
      cases hx : u.ownBlock with
      | none => exact .inl rfl
      | some q =>
        refine .inr fun e' => ?_
        have a1 := hub q hx
        have a2 := (World.ownsRow.lt (h3 k hk) q e'.symm).2
        omega
    · rw [if_neg e]
      by_cases e2 : k = j
      · subst e2
        rw [if_pos rfl, if_pos hk]
        cases hx : (vs.getD i (.bool false)).ownBlock with
        | none => exact .inl rfl
        | some q =>
          refine .inr fun e' => ?_
          have a1 := hub q e'.symm
          have a2 := (World.ownsRow.lt (h3 i (by omega)) q hx).2
          omega
      · rw [if_neg e2]
        exact h4 i k hik hk
theorem RRowF.nils {w : World} {B : Nat} {v : Value} {L : Nat} (h : w.ownsRow B 25 1 v L (madeCells (Value.slice none 0 0).cells (L * 1)).toList) :
    w.ownsRow B 25 1 v L (List.replicate L (.slice none 0 0)) := by
  have e : (madeCells (Value.slice none 0 0).cells (L * 1)).toList = List.replicate L (.slice none 0 0) := by
    refine List.ext_getElem (by simp [madeCells]) fun i h1 h2 => ?_
    simp [madeCells, Value.cells, Nat.mod_one]
  rw [← e]
  exact h
theorem nils_getD (L i : Nat) (hi : i < L) : (List.replicate L (Value.slice none 0 0)).getD i (.bool false) = .slice none 0 0 := by
  simp [List.getD, hi]

set_option maxHeartbeats 1000000 in
theorem toIntSS_any (v : Value) (n : Nat) (f : Nat → List Int) (w : World) (h : QQRow w v n f) (hn : n + tot f n ≤ 1048576) :
    Calls Try.prog 59 #[v] w fun e w' => ∃ u, e = .returned u ∧ RRowF w' w.heap.size u n f ∧ Below w.heap.size w w' := by
  obtain ⟨i0, hi, hz0, hz1, hz2⟩ := info_parts infoIS
  have hsh := h.shape
  obtain ⟨a, c, hv⟩ := hsh
  obtain ⟨B, hB⟩ : ∃ B, w.heap.size = B := ⟨_, rfl⟩
  have HH := Lib.hid h
  clear h
  subst hv
  rw [hB]
  go_enter Try.func59, Try.ntmps59
  go_wp2_with (at_make; refine wpList_make_full _ rfl _ _ 52 rfl w.heap.size 25 i0 _ 1 Try.underlying52 hi hz0 hz1 .i64 .i64 _ _ n rfl rfl rfl rfl (by rw [hz2]; omega) (by unfold maxLen; omega) (Nat.le_refl _) ?_; intro w1 hown hgrow; have hO := Lib.hid (RRowF.nils hown); clear hown; have hG := Lib.hid hgrow; clear hgrow)
  have hW : Below B w w1 := by
    exact ⟨hG.out.os, hG.out.tape, hG.out.output, hG.out.size, fun i hi => hG.out.block i (by omega) (by simp)⟩
  (try rw [hB] at hO)
  (try rw [hB])
  have hHB : B ≤ w.heap.size := by omega
  go_loopw [4] (fun i wr => ∃ (j : Nat) (vs : List Value), j ≤ n ∧ i = .int .i64 (j : Int) ∧ wr.ownsRow B 25 1 (.slice (some ⟨B, 0, none⟩) n n) n vs ∧ (∀ i, i < n → IRow wr B (vs.getD i (.bool false)) (if i < j then f i else [])) ∧
    (∀ i j, i < j → j < n → (vs.getD i (.bool false)).ownBlock = none ∨ (vs.getD i (.bool false)).ownBlock ≠ (vs.getD j (.bool false)).ownBlock) ∧ Below B w wr) (fun i _ => n - (intOf i).toNat)
  case atStart => exact ⟨0, _, Nat.zero_le _, rfl, hO.out, fun i hi => by rw [nils_getD n i hi, if_neg (by omega)]; exact IRow.nil_ _ _, fun i j _ hj => by rw [nils_getD n i (by omega)]; exact .inl rfl, hW⟩
  case round =>
    obtain ⟨j, vs, hj, rfl, h1, h3, h4, hW'⟩ := hrel
    by_cases hlt : j < n
    · have hP : QQRow wr (.slice a n c) n f := HH.out.keep (by rw [hB]; exact hW')
      obtain ⟨b, off, cap, hv, hb, hc⟩ := hP.some_ (by omega)
      obtain ⟨u, c1, hu⟩ := hc j hlt
      have hfl : (f j).length ≤ 1048576 := by
        have := tot_mono f (show j + 1 ≤ n from hlt)
        simp only [tot] at this
        omega
      have H1 := Lib.hid h1
      have H3 := Lib.hid h3
      have H4 := Lib.hid h4
      have HU := Lib.hid hu
      have HW := Lib.hid hW'
      have hsz : B ≤ wr.heap.size := Nat.le_trans hHB hW'.size
      have hgB : B < wr.heap.size := (World.ownsRow.lt h1 B rfl).2
      simp only [Value.slice.injEq, true_and] at hv
      obtain ⟨rfl, rfl⟩ := hv
      have hlt' : (j : Int) < (n : Int) := by omega
      clear h1 h3 h4 hW' hc hP hu
      go_wp2_with fail
      refine (toIntS_any _ _ _ HU.out hfl).mono ?_
      rintro e w2 ⟨u2, rfl, hi2, hb2⟩
      obtain ⟨a2, c2, e2⟩ := hi2.toQ.shape
      generalize (f j).length = l2 at e2
      subst e2
      obtain ⟨q1, q2, q3⟩ := RRowF.put hlt H1.out H3.out H4.out hb2 hi2 hsz
      have f1 : w2.frozen? ⟨B, j, none⟩ = false := by rw [(bcell hb2).2 _ _ hgB]; exact World.ownsRow.frozenAt H1.out j
      have d1 : ∃ x, w2.cell? ⟨B, j, none⟩ = some x := by
        rw [(bcell hb2).1 _ _ hgB, World.ownsRow.cellAt H1.out j (by omega)]
        have hvl : vs.length = n := by simpa using H1.out.1
        exact ⟨_, List.getElem?_eq_getElem (by omega)⟩
      obtain ⟨x0, d1⟩ := d1
      have Q1 := Lib.hid q1
      have Q2 := Lib.hid q2
      have Q3 := Lib.hid q3
      have HW2 := Lib.hid (HW.out.trans (hb2.mono hsz))
      clear q1 q2 q3 hi2 hb2
      go_wp2
      go_roundw
      case rel =>
        refine ⟨j + 1, _, by omega, by go_num, Q1.out, fun i hi => ?_, Q3.out, HW2.out.setCell (p := ⟨B, j, none⟩) (Nat.le_refl _) _⟩
        have := Q2.out i hi
        by_cases e : i = j
        · subst e
          rw [if_pos rfl] at this
          rw [if_pos (by omega)]
          exact this
        · rw [if_neg e] at this
          by_cases e2 : i < j
          · rw [if_pos e2] at this
            rw [if_pos (by omega)]
            exact this
          · rw [if_neg e2] at this
            rw [if_neg (by omega)]
            exact this
      case measure => simp only [intOf]; omega
    · obtain rfl : j = n := by omega
      have HR := Lib.hid (show RRowF wr B (.slice (some ⟨B, 0, none⟩) j j) j f from ⟨vs, h1, fun i hi => by have := h3 i hi; rwa [if_pos hi] at this, h4⟩)
      have HW := Lib.hid hW'
      clear h1 h3 h4 hW'
      go_wp2
      go_ret
      exact ⟨_, rfl, HR.out, HW.out⟩
end Go.Proofs.Ytfcllmlecnffdaa
