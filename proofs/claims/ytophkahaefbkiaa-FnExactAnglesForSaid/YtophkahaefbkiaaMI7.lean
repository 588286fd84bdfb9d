/- The rings of reflections in a wedge: what miSteps returns is MW.fin. -/
import Derived.Test.YtophkahaefbkiaaMI1
import Derived.Test.YtophkahaefbkiaaQ1
import Derived.Test.YtophkahaefbkiaaMW
import Derived.Maps.AppendAt
namespace Go.Proofs.Ytophkahaefbkiaa
open Go.RowKit MW
theorem IRow.made (w : World) (B : Nat) (xs : List Int) (hB : B ≤ w.heap.size) (hl : xs.length ≤ maxLen) :
    IRow (w.alloc (.cells (xs.map (Value.int .i64)).toArray 3)) B (.slice (some ⟨w.heap.size, 0, none⟩) xs.length xs.length) xs := by
  have h := World.ownsRow_lit (base := B) (e := 3) (size := 1) w (xs.map (Value.int .i64)).toArray xs.length hB hl (by simp)
  simpa [IRow] using h
theorem IRow.base {w : World} {B C : Nat} {v : Value} {xs : List Int} (h : IRow w C v xs) (hB : B ≤ C) : IRow w B v xs := by
  refine ⟨h.1, ?_⟩
  rcases h.2 with hn | ⟨g, cap, cur, rfl, hb, rest⟩
  · exact .inl hn
  · exact .inr ⟨g, cap, cur, rfl, Nat.le_trans hB hb, rest⟩
theorem IRow.keepD {w w' : World} {B D : Nat} {v : Value} {xs : List Int} (h : IRow w B v xs) (k : Below D w w') (hk : ∀ q, v.ownBlock = some q → q < D) : IRow w' B v xs := by
  refine ⟨h.1, ?_⟩
  rcases h.2 with hn | ⟨g, cap, cur, rfl, hb, hgg, rest⟩
  · exact .inl hn
  · refine .inr ⟨g, cap, cur, rfl, hb, ?_, rest⟩
    rw [k.block g (hk g (by simp [Value.ownBlock]))]
    exact hgg
theorem cell_one_alloc (w : World) (x : Value) (t : TypeId) (n : Nat) (hn : n = w.heap.size) : ∀ j u, [x][j]? = some u → (w.alloc (.cells #[x] t)).cell? ((⟨n, 0, none⟩ : Addr).add j) = some u := by
  subst hn
  exact cell_one_new w x t
theorem IRow.push1 {W w1 : World} {B : Nat} {v v' : Value} {xs : List Int} {x : Int} {o : Obj} (hB : B ≤ W.heap.size) (h : IRow W B v xs)
    (hO : w1.ownsRow B 3 1 v' (xs.length + 1) (xs.map (Value.int .i64) ++ [.int .i64 x])) (hg : (W.alloc o).grownBy w1 v.ownBlock) : IRow w1 B v' (xs ++ [x]) ∧ Below B W w1 := by
  refine ⟨?_, ((Below.refl B W).alloc hB o).grown hg (by simp; omega) fun g e => (World.ownsRow.lt h g e).1⟩
  unfold IRow
  simpa using hO
theorem far_eq {u : Value} {B : Nat} (hu : ∀ q, u.ownBlock = some q → q ≠ B) : u.ownBlock = none ∨ u.ownBlock ≠ some B := by
  cases e : u.ownBlock with
  | none => exact .inl rfl
  | some q => exact .inr fun e' => hu q e (by simpa using e')
theorem bl_transB {B : Nat} {w u v : World} (h : Below B w u) (k : Below u.heap.size u v) (hB : B ≤ u.heap.size) : Below B w v := h.trans (k.mono hB)
def ints (l : List Nat) : List Int := l.map fun (n : Nat) => (n : Int)
theorem ints_len (l : List Nat) : (ints l).length = l.length := by simp [ints]
theorem ints_snoc (l : List Nat) (n : Nat) : ints (l ++ [n]) = ints l ++ [(n : Int)] := by simp [ints]
theorem ints_getD (l : List Nat) (i : Nat) (h : i < l.length) : (ints l).getD i 0 = ((l.getD i 0 : Nat) : Int) := by simp [ints, List.getD, h]
def fo {α : Type} (f : α → Nat → α) (l : List Nat) (s : α) (m : Nat) : α := (l.take m).foldl f s
theorem fo_zero {α : Type} (f : α → Nat → α) (l : List Nat) (s : α) : fo f l s 0 = s := by simp [fo]
theorem fo_succ {α : Type} (f : α → Nat → α) (l : List Nat) (s : α) (m : Nat) (h : m < l.length) : fo f l s (m + 1) = f (fo f l s m) (l.getD m 0) := by
  rw [fo, fo, List.take_add_one, List.foldl_append]
  simp [List.getD, h]
theorem fo_all {α : Type} (f : α → Nat → α) (l : List Nat) (s : α) : fo f l s l.length = l.foldl f s := by simp [fo]
/-- the state within a round, behind i of the ring's degrees -/
def stI (a p k i : Nat) : BSt := fo (visit2 a (k + 1)) (stN a p k).2 ((stN a p k).1, []) i
/-- .. and behind m of a degree's two images -/
def stM (a p k i x m : Nat) : BSt := fo (visit (k + 1)) [nb1 x, nb2 a x] (stI a p k i) m
theorem stI_all (a p k : Nat) : stI a p k (stN a p k).2.length = stN a p (k + 1) := fo_all _ _ _
theorem stI_succ (a p k i : Nat) (h : i < (stN a p k).2.length) : stI a p k (i + 1) = stM a p k i ((stN a p k).2.getD i 0) 2 := fo_succ _ _ _ _ h
theorem stI_bd (a p k i : Nat) : (stI a p k i).1.length = 360 ∧ (stI a p k i).2.length ≤ 360 := by
  obtain ⟨h1, h2⟩ := fold_seen (a := a) (k := k + 1) ((stN a p k).2.take i) (stN a p k).1 [] (stN_len a p k)
  refine ⟨h2, ?_⟩
  have h3 : MW.seen (stI a p k i).1 ≤ (stI a p k i).1.length := List.countP_le_length
  have h4 : (stI a p k i).1.length = 360 := h2
  have h5 : MW.seen (stI a p k i).1 + 0 = MW.seen (stN a p k).1 + (stI a p k i).2.length := h1
  omega
theorem visit_len (k : Nat) (st : BSt) (y : Nat) : (visit k st y).1.length = st.1.length ∧ (visit k st y).2.length ≤ st.2.length + 1 := by
  unfold visit
  split <;> simp
theorem stM_bd (a p k i x m : Nat) (hm : m ≤ 2) : (stM a p k i x m).1.length = 360 ∧ (stM a p k i x m).2.length ≤ 362 := by
  obtain ⟨h1, h2⟩ := stI_bd a p k i
  have e1 := visit_len (k + 1) (stI a p k i) (nb1 x)
  have e2 := visit_len (k + 1) (visit (k + 1) (stI a p k i) (nb1 x)) (nb2 a x)
  have : m = 0 ∨ m = 1 ∨ m = 2 := by omega
  rcases this with rfl | rfl | rfl
  · show (stI a p k i).1.length = 360 ∧ (stI a p k i).2.length ≤ 362
    omega
  · show (visit (k + 1) (stI a p k i) (nb1 x)).1.length = 360 ∧ (visit (k + 1) (stI a p k i) (nb1 x)).2.length ≤ 362
    omega
  · show (visit (k + 1) (visit (k + 1) (stI a p k i) (nb1 x)) (nb2 a x)).1.length = 360 ∧ (visit (k + 1) (visit (k + 1) (stI a p k i) (nb1 x)) (nb2 a x)).2.length ≤ 362
    omega
theorem stM_succ (a p k i x m : Nat) (hm : m < 2) : stM a p k i x (m + 1) = visit (k + 1) (stM a p k i x m) ([nb1 x, nb2 a x].getD m 0) := fo_succ _ _ _ _ hm
theorem ys_lt (a x m : Nat) (hm : m < 2) : [nb1 x, nb2 a x].getD m 0 < 360 := by
  have : m = 0 ∨ m = 1 := by omega
  rcases this with rfl | rfl
  · exact nb1_lt x
  · exact nb2_lt a x
theorem visit_yes {k y : Nat} {st : BSt} (h : st.1.getD y 0 < 0) : visit k st y = (st.1.set y (k : Int), st.2 ++ [y]) := if_pos h
theorem visit_no {k y : Nat} {st : BSt} (h : ¬ st.1.getD y 0 < 0) : visit k st y = st := if_neg h
theorem nb1_int {x : Nat} (h : x < 360) : ((nb1 x : Nat) : Int) = (360 - (x : Int)) % 360 := by unfold nb1; omega
theorem nb2_int {a x : Nat} (h : x < 360) : ((nb2 a x : Nat) : Int) = (2 * (a : Int) - (x : Int) + 360) % 360 := by unfold nb2; omega
theorem ring_lt {a p : Nat} (ok : Ok a p) (k i : Nat) (h : i < (stN a p k).2.length) : (stN a p k).2.getD i 0 < 360 := by
  have := (stN_inv ok k).pend ((stN a p k).2.getD i 0) (by simp [List.getD, h])
  exact this.1
theorem neg_set (j : Nat) (h : j < 360) : (List.replicate j (-1 : Int) ++ List.replicate (360 - j) 0).set j (-1) = List.replicate (j + 1) (-1) ++ List.replicate (360 - (j + 1)) 0 := by
  have e : 360 - j = (360 - (j + 1)) + 1 := by omega
  rw [List.set_append_right _ _ (by simp), List.length_replicate, Nat.sub_self, e, List.replicate_succ, List.set_cons_zero, List.replicate_succ']
  simp
theorem neg_len (j : Nat) (h : j ≤ 360) : (List.replicate j (-1 : Int) ++ List.replicate (360 - j) 0).length = 360 := by simp; omega
theorem ok_bd {a p : Nat} (ok : Ok a p) : 2 ≤ a ∧ a ≤ 90 ∧ 1 ≤ p ∧ p < a := by
  have := ok.ha
  have := ok.hp
  have := ok.hp'
  simp only [allAngles, List.mem_cons, List.not_mem_nil, or_false] at *
  omega

set_option maxHeartbeats 2000000 in
theorem miSteps_any (a p : Nat) (ok : Ok a p) (w : World) :
    Calls Try.prog 57 #[.int .i64 a, .int .i64 p] w fun e w' => ∃ u, e = .returned u ∧ IRow w' w.heap.size u (fin a p) ∧ Below w.heap.size w w' := by
  obtain ⟨i0, hi, hz0, hz1, hz2⟩ := info_parts infoI
  obtain ⟨B, hB⟩ : ∃ B, w.heap.size = B := ⟨_, rfl⟩
  have hHB : B ≤ w.heap.size := by omega
  obtain ⟨a1, a2, p1, p2⟩ := ok_bd ok
  have OK := Lib.hid ok
  clear ok
  rw [hB]
  go_enter Try.func57, Try.ntmps57
  go_wp2_with (at_make; refine wpList_make_full _ rfl _ _ 35 rfl w.heap.size 3 i0 _ 1 Try.underlying35 hi hz0 hz1 .i64 .i64 _ _ 360 rfl rfl rfl rfl (by rw [hz2]; omega) (by unfold maxLen; omega) (Nat.le_refl _) ?_; intro w1 hown hgrow; have hO := Lib.hid (IRow.zeros hown); clear hown; have hG := Lib.hid hgrow; clear hgrow)
  have hW : Below B w w1 := by
    exact ⟨hG.out.os, hG.out.tape, hG.out.output, hG.out.size, fun i hi => hG.out.block i (by omega) (by simp)⟩
  have HW1 := Lib.hid hW
  clear hW hG
  (try rw [hB] at hO)
  (try rw [hB])
  go_loopw [17] (fun i wr => ∃ j : Nat, j ≤ 360 ∧ i = .int .i64 (j : Int) ∧ IRow wr B (.slice (some ⟨B, 0, none⟩) 360 360) (List.replicate j (-1) ++ List.replicate (360 - j) 0) ∧ Below B w wr) (fun i _ => 360 - (intOf i).toNat)
  case atStart => exact ⟨0, Nat.zero_le _, rfl, by simpa [-List.reduceReplicate] using hO.out, HW1.out⟩
  case round =>
    obtain ⟨j, hj, rfl, hR, hW⟩ := hrel
    have HR := Lib.hid hR
    have HW := Lib.hid hW
    have HX := Lib.hid (neg_len j hj)
    rcases hR.open_ with ⟨he, _⟩ | ⟨g, cap, cur, he, hBg, hg, q1, q2, q3, q4, hcc, hff⟩
    · cases he
    simp only [Value.slice.injEq, Option.some.injEq, Addr.mk.injEq, and_true] at he
    obtain ⟨rfl, q5, rfl⟩ := he
    by_cases hlt : j < 360
    · have f1 := hff j
      obtain ⟨x0, d1⟩ : ∃ x, wr.cell? ⟨B, j, none⟩ = some x := ⟨_, hcc j (by rw [HX.out]; exact hlt)⟩
      have hlt' : (j : Int) < 360 := by omega
      have s1 := Lib.hid (HR.out.stored HX.out j (-1))
      clear hR hW hcc hff q1 q2 q3 q4 q5
      go_wp2
      go_roundw
      case rel => exact ⟨j + 1, by omega, by go_num, by rw [← neg_set j hlt]; exact s1.out, HW.out.setCell (p := ⟨B, j, none⟩) (Nat.le_refl _) _⟩
      case measure => simp only [intOf]; omega
    · obtain rfl : j = 360 := by omega
      rw [show ((360 : Nat) : Int) = 360 from rfl]
      have f1 := hff p
      obtain ⟨x0, d1⟩ : ∃ x, wr.cell? ⟨B, p, none⟩ = some x := ⟨_, hcc p (by rw [HX.out]; omega)⟩
      have s1 : IRow (wr.setCell ⟨B, p, none⟩ (.int .i64 0)) B (.slice (some ⟨B, 0, none⟩) 360 360) (stN a p 0).1 := by
        have e : (stN a p 0).1 = (List.replicate 360 (-1 : Int) ++ List.replicate (360 - 360) 0).set p 0 := by simp [stN, st0, -List.reduceReplicate]
        rw [e]
        exact HR.out.stored HX.out p 0
      have HS1 := Lib.hid s1
      have hBz : B < wr.heap.size := hg
      clear hR hW hcc hff q1 q2 q3 q4 q5 s1
      go_wp2
      rename World => wz
      go_loopw [7, 8] (fun rg st wr => ∃ k : Nat, k ≤ 360 ∧ st = .int .i64 ((k : Int) + 1) ∧ IRow wr B (.slice (some ⟨B, 0, none⟩) 360 360) (stN a p k).1 ∧ IRow wr (B + 1) rg (ints (stN a p k).2) ∧ B < wr.heap.size ∧ Below B w wr) (fun _ st _ => 400 - (intOf st).toNat)
      case atStart =>
        refine ⟨0, Nat.zero_le _, rfl, HS1.out.keep (bl_alloc (Below.refl _ _) _), ?_, by simp [World.setCell]; omega, ((HW.out.setCell (p := ⟨B, p, none⟩) (Nat.le_refl _) _)).alloc (by simp [World.setCell]; omega) _⟩
        have := IRow.made (wz.setCell ⟨B, p, none⟩ (.int .i64 0)) (B + 1) [(p : Int)] (by simp [World.setCell]; omega) (by simp [maxLen])
        show IRow _ _ _ [(p : Int)]
        simpa [World.setCell] using this
      case round =>
        obtain ⟨k, hk, rfl, hR, hG, hBs, hW⟩ := hrel
        have HR2 := Lib.hid hR
        have HG2 := Lib.hid hG
        have HW2 := Lib.hid hW
        by_cases hne : (stN a p k).2 = []
        · have hE : ints (stN a p k).2 = [] := by rw [hne]; rfl
          rw [hE] at hG
          obtain ⟨ga, gc, rfl⟩ := hG.empty
          have HF := Lib.hid (fin_of (a := a) (p := p) (by omega) hne hk)
          clear hR hG hW hne hE HS1
          go_wp2
          go_ret
          exact ⟨_, rfl, by rw [← HF.out]; exact HR2.out, HW2.out⟩
        · have hkb := stN_bound (show p < 360 by omega) hne
          have hlen : 0 < (stN a p k).2.length := List.length_pos_iff.2 hne
          obtain ⟨g, gcap, hrg, hgB, hgs, hgl, hgm, hgc, hgf⟩ := hG.some_ (by rw [ints_len]; exact hlen)
          rw [ints_len] at hrg hgl hgc
          subst hrg
          generalize hLN : (stN a p k).2.length = LN at *
          have HLN := Lib.hid hLN
          have hLm : LN ≤ 9223372036854775807 := by unfold maxLen at hgm; omega
          have hlt0 : (0 : Int) < (LN : Int) := by omega
          clear hR hG hW hne hLN hgc hgf HS1 hgl hgm
          go_wp2
          rename World => wo
          have hgs' : g < wo.heap.size := hgs
          have hBs' : B < wo.heap.size := hBs
          go_loopw [9, 36] (fun nx i wr => ∃ j : Nat, j ≤ LN ∧ i = .int .i64 (j : Int) ∧ IRow wr B (.slice (some ⟨B, 0, none⟩) 360 360) (stI a p k j).1 ∧ IRow wr wo.heap.size nx (ints (stI a p k j).2) ∧ IRow wr (B + 1) (.slice (some ⟨g, 0, none⟩) LN gcap) (ints (stN a p k).2) ∧ Below B w wr ∧ wo.heap.size ≤ wr.heap.size) (fun _ i _ => LN - (intOf i).toNat)
          case atStart =>
            have e0 : stI a p k 0 = ((stN a p k).1, []) := fo_zero _ _ _
            exact ⟨0, Nat.zero_le _, rfl, by rw [e0]; exact HR2.out, by rw [e0]; exact World.ownsRow_nil _ _ _ 1, HG2.out, HW2.out, Nat.le_refl _⟩
          case round =>
            obtain ⟨j, hj, rfl, hR, hN, hG, hW, hS⟩ := hrel
            have HR3 := Lib.hid hR
            have HN3 := Lib.hid hN
            have HG3 := Lib.hid hG
            have HW3 := Lib.hid hW
            by_cases hjl : j < LN
            · have hjl' : (j : Int) < (LN : Int) := by omega
              obtain ⟨g', gc', he, _, _, _, _, hgc, _⟩ := hG.some_ (by rw [ints_len, HLN.out]; omega)
              rw [ints_len, HLN.out] at he hgc
              simp only [Value.slice.injEq, Option.some.injEq, Addr.mk.injEq, and_true, true_and] at he
              obtain ⟨rfl, rfl⟩ := he
              have c1 := hgc j hjl
              rw [ints_getD _ _ (by rw [HLN.out]; exact hjl)] at c1
              have hx := ring_lt OK.out k j (by rw [HLN.out]; exact hjl)
              have HXI := Lib.hid (stI_succ a p k j (by rw [HLN.out]; exact hjl))
              generalize (stN a p k).2.getD j 0 = x at *
              have n1 := nb1_int hx
              have n2 := nb2_int (a := a) hx
              have hnl : nb1 x < 360 := nb1_lt x
              have hnr : nb2 a x < 360 := nb2_lt a x
              have e1 : (360 - (x : Int)) % 360 = ((nb1 x : Nat) : Int) := n1.symm
              have e2 : (2 * (a : Int) - (x : Int) + 360) % 360 = ((nb2 a x : Nat) : Int) := n2.symm
              clear hR hN hG hW hgc n1 n2
              have HSZ := Lib.hid hS
              skip
              go_wp2
              rename World => wy
              generalize (360 - (x : Int)) % 360 = q1 at *
              generalize (2 * (a : Int) - (x : Int) + 360) % 360 = q2 at *
              clear e1 e2
              go_loopw [9, 51] (fun nx i wr => ∃ m : Nat, m ≤ 2 ∧ i = .int .i64 (m : Int) ∧ IRow wr B (.slice (some ⟨B, 0, none⟩) 360 360) (stM a p k j x m).1 ∧ IRow wr wo.heap.size nx (ints (stM a p k j x m).2) ∧ IRow wr (B + 1) (.slice (some ⟨g, 0, none⟩) LN gcap) (ints (stN a p k).2) ∧
                IRow wr wy.heap.size (.slice (some ⟨wy.heap.size, 0, none⟩) 2 2) (ints [nb1 x, nb2 a x]) ∧ (nx.ownBlock = none ∨ nx.ownBlock ≠ some wy.heap.size) ∧ Below B w wr ∧ wy.heap.size < wr.heap.size) (fun _ i _ => 2 - (intOf i).toNat)
              case atStart =>
                have b0 := bl_alloc (Below.refl wy.heap.size wy) (.cells #[.int .i64 ((nb1 x : Nat) : Int), .int .i64 ((nb2 a x : Nat) : Int)] 3)
                have e0 : stM a p k j x 0 = stI a p k j := fo_zero _ _ _
                refine ⟨0, by omega, rfl, by rw [e0]; exact HR3.out.keep b0, by rw [e0]; exact HN3.out.keep b0, HG3.out.keep b0, ?_, ?_, bl_transB HW3.out b0 (by omega), by simp⟩
                · have := IRow.made wy wy.heap.size (ints [nb1 x, nb2 a x]) (Nat.le_refl _) (by simp [ints, maxLen])
                  simpa [ints] using this
                · cases e : Value.ownBlock _ with
                  | none => exact .inl rfl
                  | some q =>
                    refine .inr fun e' => ?_
                    have := (World.ownsRow.lt HN3.out q e).2
                    simp only [Option.some.injEq] at e'
                    omega
              case round =>
                obtain ⟨m, hm, rfl, hR, hN, hG, hY, hD, hW, hS⟩ := hrel
                have HR4 := Lib.hid hR
                have HN4 := Lib.hid hN
                have HG4 := Lib.hid hG
                have HY4 := Lib.hid hY
                have HD4 := Lib.hid hD
                have HW4 := Lib.hid hW
                have HS4 := Lib.hid hS
                by_cases hm2 : m < 2
                · have hm2' : (m : Int) < 2 := by omega
                  obtain ⟨b1, b2⟩ := stM_bd a p k j x m hm
                  have HB2 := Lib.hid b2
                  have hyl := ys_lt a x m hm2
                  have HMS := Lib.hid (stM_succ a p k j x m hm2)
                  obtain ⟨gy, cy, he, _, _, _, _, hyc, _⟩ := hY.some_ (by simp [ints])
                  simp only [ints, List.map_cons, List.map_nil, List.length_cons, List.length_nil, Value.slice.injEq, Option.some.injEq, Addr.mk.injEq, and_true, true_and, Nat.zero_add, Nat.reduceAdd] at he
                  obtain ⟨rfl, rfl⟩ := he
                  have c1 := hyc m (by simp [ints]; omega)
                  rw [ints_getD _ _ (by simp; omega)] at c1
                  obtain ⟨g9, c9, he, _, _, _, _, hoc, hof⟩ := hR.some_ (by omega)
                  rw [b1] at he hoc
                  simp only [Value.slice.injEq, Option.some.injEq, Addr.mk.injEq, and_true, true_and] at he
                  obtain ⟨rfl, rfl⟩ := he
                  generalize hyy : [nb1 x, nb2 a x].getD m 0 = y at *
                  have c2 := hoc y hyl
                  have f2 := hof y
                  have HB1 := Lib.hid b1
                  clear hR hN hG hY hD hW hyc hoc hof hyy b1 b2
                  by_cases hv : (stM a p k j x m).1.getD y 0 < 0
                  · have HV := Lib.hid (visit_yes (k := k + 1) hv)
                    generalize (stM a p k j x m).1.getD y 0 = z at *
                    have s1 := HR4.out.stored HB1.out y ((k : Int) + 1)
                    have g1 := HR4.out.stored_grown HB1.out y ((k : Int) + 1)
                    have n1 : IRow (wr.setCell ⟨B, y, none⟩ (.int .i64 ((k : Int) + 1))) wo.heap.size u9 (ints (stM a p k j x m).2) := World.ownsRow.kept HN4.out g1 (far_eq (fun q e => by have := (World.ownsRow.lt HN4.out q e).1; omega))
                    have r1 : IRow (wr.setCell ⟨B, y, none⟩ (.int .i64 ((k : Int) + 1))) (B + 1) (.slice (some ⟨g, 0, none⟩) LN gcap) (ints (stN a p k).2) := World.ownsRow.kept HG4.out g1 (far_eq (fun q e => by have := (World.ownsRow.lt HG4.out q e).1; omega))
                    have y1 : IRow (wr.setCell ⟨B, y, none⟩ (.int .i64 ((k : Int) + 1))) wy.heap.size (.slice (some ⟨wy.heap.size, 0, none⟩) 2 2) (ints [nb1 x, nb2 a x]) := World.ownsRow.kept HY4.out g1 (far_eq (fun q e => by have := (World.ownsRow.lt HY4.out q e).1; omega))
                    have hwo : wo.heap.size ≤ (wr.setCell ⟨B, y, none⟩ (.int .i64 ((k : Int) + 1))).heap.size := by simp [World.setCell]; omega
                    have S1 := Lib.hid s1
                    have N1 := Lib.hid n1
                    have R1 := Lib.hid r1
                    have Y1 := Lib.hid y1
                    have W1 := Lib.hid (HW4.out.setCell (p := ⟨B, y, none⟩) (Nat.le_refl _) (.int .i64 ((k : Int) + 1)))
                    have HWO := Lib.hid hwo
                    have hO := Lib.hid (show (wr.setCell ⟨B, y, none⟩ (.int .i64 ((k : Int) + 1))).ownsRow wo.heap.size 3 1 u9 (ints (stM a p k j x m).2).length ((ints (stM a p k j x m).2).map (Value.int .i64)) from n1)
                    have hll : (ints (stM a p k j x m).2).length ≤ 362 := by rw [ints_len]; exact HB2.out
                    generalize hK : (ints (stM a p k j x m).2).length = K at *
                    have HK := Lib.hid hK
                    clear s1 g1 n1 r1 y1 hwo hK HR4 HN4 HG4 HY4
                    skip
                    go_wp2_with (at_builtin; refine wpList_append_own_at _ rfl _ _ 35 rfl wo.heap.size 3 i0 (.int .i64 0) 1 8 Try.underlying35 hi hz0 hz1 hz2 rfl (by decide) _ _ _ rfl (hO.out.alloc _) ⟨wr.heap.size, 0, none⟩ 1 1 [.int .i64 (y : Int)] rfl rfl ?c1 ?c2 ?c3 ?c4 ?c5 ?_)
                    all_goals (try exact cell_one_alloc _ _ _ _ (by simp [World.setCell]))
                    case c2 => simp [Value.oneCell']
                    case c3 => unfold maxLen; omega
                    case c4 => omega
                    case c5 => have := HWO.out; simp only [World.size_alloc]; omega
                    intro v' w3 hown1 hgrow1 _ hat
                    rw [← HK.out] at hown1
                    obtain ⟨z1, z2⟩ := IRow.push1 (x := (y : Int)) (W := wr.setCell ⟨B, y, none⟩ (.int .i64 ((k : Int) + 1))) HWO.out N1.out hown1 hgrow1
                    rw [← ints_snoc] at z1
                    have hsz3 : wr.heap.size ≤ w3.heap.size := by have := z2.size; simpa [World.setCell] using this
                    have Z1 := Lib.hid z1
                    have ZO := Lib.hid (S1.out.keepD z2 (fun q e => by simp [Value.ownBlock] at e; omega))
                    have ZR := Lib.hid (R1.out.keepD z2 (fun q e => by simp [Value.ownBlock] at e; omega))
                    have ZY := Lib.hid (show IRow w3 wy.heap.size (.slice (some ⟨wy.heap.size, 0, none⟩) 2 2) (ints [nb1 x, nb2 a x]) from World.ownsRow.kept (World.ownsRow.alloc Y1.out _) hgrow1 (.inr (fun e => by
                      rcases HD4.out with h | h
                      · rw [h] at e; simp [Value.ownBlock] at e
                      · exact h (by rw [← e]; simp [Value.ownBlock]))))
                    have ZD : Hid (v'.ownBlock = none ∨ v'.ownBlock ≠ some wy.heap.size) := by
                      rcases hat with h | h
                      · rw [h]; exact HD4
                      · refine Lib.hid (.inr ?_)
                        rw [h]
                        simp
                        omega
                    have ZW := Lib.hid (show Below B w w3 from W1.out.trans (z2.mono (by omega)))
                    clear z1 z2 hown1 hgrow1 hat S1 N1 R1 Y1 W1 hO HWO
                    go_wp2
                    go_roundw
                    case rel => exact ⟨m + 1, by omega, by go_num, by rw [HMS.out, HV.out]; exact ZO.out, by rw [HMS.out, HV.out]; exact Z1.out, ZR.out, ZY.out, ZD.out, ZW.out, by omega⟩
                    case measure => simp only [intOf]; omega
                  · have HV := Lib.hid (visit_no (k := k + 1) hv)
                    have hv' : ¬ (stM a p k j x m).1.getD y 0 < 0 := hv
                    generalize (stM a p k j x m).1.getD y 0 = z at *
                    clear hv
                    go_wp2
                    go_roundw
                    case rel => exact ⟨m + 1, by omega, by go_num, by rw [HMS.out, HV.out]; exact HR4.out, by rw [HMS.out, HV.out]; exact HN4.out, HG4.out, HY4.out, HD4.out, HW4.out, HS4.out⟩
                    case measure => simp only [intOf]; omega
                · obtain rfl : m = 2 := by omega
                  clear hR hN hG hY hD hW
                  go_wp2
                  go_roundw
                  case rel => exact ⟨j + 1, by omega, by go_num, by rw [HXI.out]; exact HR4.out, by rw [HXI.out]; exact HN4.out, HG4.out, HW4.out, by omega⟩
                  case measure => simp only [intOf]; omega
            · obtain rfl : j = LN := by omega
              have HALL := Lib.hid (show stI a p k j = stN a p (k + 1) by rw [← HLN.out]; exact stI_all a p k)
              clear hR hN hG hW
              have HSZ := Lib.hid hS
              go_wp2
              go_roundw
              case rel => exact ⟨k + 1, by omega, by go_num, by rw [← HALL.out]; exact HR3.out, by rw [← HALL.out]; exact HN3.out.base (by omega), by omega, HW3.out⟩
              case measure => simp only [intOf]; omega
end Go.Proofs.Ytophkahaefbkiaa
