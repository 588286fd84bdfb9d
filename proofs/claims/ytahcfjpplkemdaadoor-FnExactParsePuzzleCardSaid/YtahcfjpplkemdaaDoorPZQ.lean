/- Puzzles read from a text, by the program. -/
import Derived.Test.YtahcfjpplkemdaaDoorPZP
import Derived.OwnWalk
import Derived.Deep.RegionHeld3
import Derived.Deep.RegionLaw
import Derived.Deep.AppendLies
namespace Go.Proofs.YtahcfjpplkemdaaDoor
open Go.RowKit
set_option linter.unusedVariables false
set_option linter.unusedSimpArgs false
def MaxL (w : World) : Prop := ∃ m, w.cell? ⟨0, 0, none⟩ = some (.int .i64 m)
theorem MaxL.below {w w' : World} (h : MaxL w) (hb : Below w.heap.size w w') : MaxL w' := by
  obtain ⟨m, hm⟩ := h
  have hlt : 0 < w.heap.size := by
    by_cases c : 0 < w.heap.size
    · exact c
    · simp [World.cell?, Array.getElem?_eq_none (Nat.le_of_not_lt c)] at hm
  exact ⟨m, by rw [(bcell hb).1 _ _ hlt]; exact hm⟩
theorem cut_max (s : ByteArray) (b : UInt8) (hs : s.size ≤ 1048576) {w0 w : World} (h : MaxL w0) (hb : Below w0.heap.size w0 w) :
    Calls Tryd.prog 23 #[.string s, .string ⟨#[b]⟩] w fun e w' => e = .returned (.tuple #[.string (cutA s b), .string (cutB s b), .bool (cutF s b)]) ∧ Below w.heap.size w w' := by
  obtain ⟨m, hm⟩ := h.below hb
  refine (Tryd.strings_Cut s ⟨#[b]⟩ m w (by omega) hm).mono ?_
  rintro e w' ⟨rfl, n, rfl⟩
  exact ⟨rfl, below_drewN (Below.refl _ _) n⟩
theorem parse_at (s : ByteArray) (hs : s.size ≤ 1048576) {w0 w : World} (T : Tab w0) (E : Errs w0) (hb : Below w0.heap.size w0 w) :
    Calls Tryd.prog 24 #[.string s] w fun e w' => e = .returned (.tuple #[.int .i64 (pnV s), .bool (pnB s)]) ∧ Below w.heap.size w w' := parseNumber_any s hs w (T.below hb) (E.below hb)
theorem splitB_size (b : UInt8) : ∀ (k : Nat) (s : ByteArray), ∀ q ∈ Lib.splitB ⟨#[b]⟩ 0 k s, q.size ≤ s.size
  | 0, s, q, h => by
    rw [Lib.splitB_zero, List.mem_singleton] at h
    rw [h]; exact Nat.le_refl _
  | k + 1, s, q, h => by
    unfold Lib.splitB at h
    split at h
    · rw [List.mem_singleton] at h
      rw [h]; exact Nat.le_refl _
    · rcases List.mem_cons.1 h with h | h
      · rw [h, ByteArray.size_extract]; omega
      · have := splitB_size b k _ q h
        rw [ByteArray.size_extract] at this
        omega
theorem cells_of (w : World) (Q : List ByteArray) (N : Nat) (T : TypeId) {j : Nat} (hj : j < Q.length) :
    (w.alloc (.cells (Lib.cellsOf Q N) T)).cell? ⟨w.heap.size, j, none⟩ = some (.string (Q.getD j ⟨#[]⟩)) := by
  have e : (Lib.cellsOf Q N)[j]? = some (.string (Q.getD j ⟨#[]⟩)) := by
    unfold Lib.cellsOf
    rw [List.getElem?_toArray, List.getElem?_append_left (by simpa using hj)]
    simp [List.getD, hj]
  have hb : (w.alloc (.cells (Lib.cellsOf Q N) T)).heap[w.heap.size]? = some (.cells (Lib.cellsOf Q N) T (0, 0)) := Array.getElem?_push_size
  exact (cell_of_row _ _ _ _ _ _ hb).trans e
theorem QQ_len (t : ByteArray) : (QQ t).length ≤ 7 ∧ (QQ t).length ≤ min 7 (t.size + 1) := by
  have hl := pcs_len 44 t.data.toList
  have hsz : t.data.toList.length = t.size := by rw [Array.length_toList]; rfl
  by_cases hk : (pcs 44 t.data.toList).length ≤ min 7 (t.size + 1) - 1 + 1
  · have := congrArg List.length (spn_all 44 _ t hk)
    simp only [spn, List.length_map] at this
    have h2 : (QQ t).length = (pcs 44 t.data.toList).length := this
    omega
  · have := spn_more 44 (min 7 (t.size + 1) - 1) t (by omega)
    simp only [spn, List.length_map] at this
    have h2 : (QQ t).length = min 7 (t.size + 1) - 1 + 1 := this
    omega
theorem clu_snoc (f : Nat → Int) (n : Nat) : (List.range ((n + 1) * 3)).map (fun i => Value.int .i64 (f i)) = (List.range (n * 3)).map (fun i => Value.int .i64 (f i)) ++ [.int .i64 (f (n * 3)), .int .i64 (f (n * 3 + 1)), .int .i64 (f (n * 3 + 2))] := by
  rw [show (n + 1) * 3 = n * 3 + 1 + 1 + 1 by omega, List.range_succ, List.range_succ, List.range_succ, List.map_append, List.map_append, List.map_append]
  simp
theorem OClu.push {W w1 : World} {C n : Nat} {v v' : Value} {f : Nat → Int} {o : Obj} (hC : C ≤ W.heap.size) (h : OClu W C v n f)
    (hO : w1.ownsRow C 44 3 v' (n + 1) ((List.range (n * 3)).map (fun i => Value.int .i64 (f i)) ++ [.int .i64 (f (n * 3)), .int .i64 (f (n * 3 + 1)), .int .i64 (f (n * 3 + 2))])) (hg : (W.alloc o).grownBy w1 v.ownBlock) : OClu w1 C v' (n + 1) f ∧ Below C W w1 := by
  refine ⟨?_, ((Below.refl C W).alloc hC o).grown hg (by simp; omega) fun g e => (World.ownsRow.lt h g e).1⟩
  unfold OClu
  rw [clu_snoc]
  exact hO
theorem cells3p (w : World) (x y z : Value) (T n : Nat) (hn : n = w.heap.size) : ∀ j q, [x, y, z][j]? = some q → (w.alloc (.cells #[x, y, z] T)).cell? ((⟨n, 0, none⟩ : Addr).add j) = some q := by
  intro j q hj
  subst hn
  match j, hj with
  | 0, hj => simp at hj; subst hj; simp [Addr.add]
  | 1, hj => simp at hj; subst hj; simp [Addr.add]
  | 2, hj => simp at hj; subst hj; simp [Addr.add]
def clB (t : ByteArray) : Bool := (QZ t).all iOK
def clN (t : ByteArray) : Nat := if clB t then (QZ t).length else 0
theorem fI_0 (Q : List ByteArray) (j : Nat) : fI Q (j * 3) = iA (Q.getD j ⟨#[]⟩) := tri_0 _ _ _ _ _ _
theorem fI_1 (Q : List ByteArray) (j : Nat) : fI Q (j * 3 + 1) = iB (Q.getD j ⟨#[]⟩) := tri_1 _ _ _ _ _ _
theorem fI_2 (Q : List ByteArray) (j : Nat) : fI Q (j * 3 + 2) = iC (Q.getD j ⟨#[]⟩) := tri_2 _ _ _ _ _ _
set_option maxRecDepth 100000 in
set_option maxHeartbeats 4000000 in
theorem parseClues_any (s : ByteArray) (hs : s.size ≤ 1048576) {w0 w : World} (T : Tab w0) (E : Errs w0) (M : MaxL w0) (hB : Below w0.heap.size w0 w) :
    Calls Tryd.prog 25 #[.string s] w fun e w' => ∃ v, e = .returned (.tuple #[v, .bool (clB s)]) ∧ OClu w' w.heap.size v (clN s) (fI (QZ s)) ∧ Below w.heap.size w w' := by
  have HT := Lib.hid T
  have HE := Lib.hid E
  have HM := Lib.hid M
  have HB := Lib.hid hB
  obtain ⟨mm, hmm⟩ := M.below hB
  have HMM := Lib.hid hmm
  clear T E M hB hmm
  by_cases h0 : s.size = 0
  · have e1 : clB s = true := by unfold clB QZ; rw [if_pos h0]; rfl
    have e2 : clN s = 0 := by unfold clN QZ; rw [if_pos h0]; simp
    rw [e1, e2]
    obtain rfl : s = ⟨#[]⟩ := by
      obtain ⟨⟨l⟩⟩ := s
      simp [ByteArray.size] at h0
      subst h0; rfl
    clear e1 e2 h0 HMM
    go_enter Tryd.func25, Tryd.ntmps25
    go_wp2
    go_ret2
    exact ⟨_, rfl, OClu.nil _ _ _, Below.refl _ _⟩
  · have hqz : QZ s = QQ s := by unfold QZ; rw [if_neg h0]
    have hne : s.toList.isEmpty = false := by
      cases h : s.toList with
      | nil =>
        exfalso
        have h1 : s.toList.length = s.size := by rw [Lib.toList_data]; exact len_data s
        rw [h] at h1
        exact h0 h1.symm
      | cons => rfl
    obtain ⟨hq7, hcapQ⟩ := QQ_len s
    have hz := Lib.hid (show ∀ q ∈ QQ s, q.size ≤ 1048576 from fun q h => Nat.le_trans (splitB_size 44 _ s q h) hs)
    have HCB := Lib.hid (show clB s = (QQ s).all iOK by unfold clB; rw [hqz])
    have HCN := Lib.hid (show clN s = if clB s then (QQ s).length else 0 by unfold clN; rw [hqz])
    rw [hqz]
    obtain ⟨i0, hi, hz0, hz1, hz2⟩ := info_parts infoClu
    clear h0 hqz
    go_enter Tryd.func25, Tryd.ntmps25
    go_wp2_with fail
    refine (Tryd.strings_SplitN s ⟨#[44]⟩ 7 mm _ (by omega) HMM.out (by decide) (by decide) (by decide)).mono ?_
    rintro e w1 ⟨rfl, hw1⟩
    have hcells : ∀ j, j < (QQ s).length → w1.cell? ⟨w.heap.size, j, none⟩ = some (.string ((QQ s).getD j ⟨#[]⟩)) := fun j hj => by
      rw [hw1]
      exact cells_of w (QQ s) _ _ hj
    have hlt1 : w.heap.size < w1.heap.size := by rw [hw1]; simp
    have hB1 : Below w.heap.size w w1 := by rw [hw1]; exact bl_alloc (Below.refl _ _) _
    have HC := Lib.hid hcells
    have HB1 := Lib.hid hB1
    rw [show Lib.splitB ⟨#[44]⟩ 0 (min 7 (s.size + 1) - 1) s = QQ s from rfl]
    clear hw1 hcells hB1 HMM
    generalize hcp : min 7 (s.size + 1) = cp at *
    generalize hn : (QQ s).length = n at *
    have Hn := Lib.hid hn
    clear hcp hn
    go_wp2
    go_loopw [4, 24] (fun u i wr => ∃ j : Nat, j ≤ n ∧ i = .int .i64 (j : Int) ∧ OClu wr w1.heap.size u j (fI (QQ s)) ∧ (∀ i, i < j → iOK ((QQ s).getD i ⟨#[]⟩) = true) ∧ Below w1.heap.size w1 wr) (fun _ i _ => n - (intOf i).toNat)
    case atStart => exact ⟨0, Nat.zero_le _, rfl, OClu.nil _ _ _, fun i h => by omega, Below.refl _ _⟩
    case round =>
      obtain ⟨j, hj, rfl, hR, hok, hW⟩ := hrel
      by_cases hlt : j < n
      · have hlt' : (j : Int) < (n : Int) := by omega
        have p1 : wr.cell? ⟨w.heap.size, j, none⟩ = some (.string ((QQ s).getD j ⟨#[]⟩)) := by rw [(bcell hW).1 _ _ hlt1]; exact HC.out j hlt
        have HR := Lib.hid hR
        have HW := Lib.hid hW
        have HOK := Lib.hid hok
        have hqs : ((QQ s).getD j ⟨#[]⟩).size ≤ 1048576 := hz.out _ (by
          have : (QQ s).getD j ⟨#[]⟩ = (QQ s)[j]'(by rw [Hn.out]; exact hlt) := by simp [List.getD, Hn.out, hlt]
          rw [this]
          exact List.getElem_mem _)
        have HA := Lib.hid (fI_0 (QQ s) j)
        have HB_ := Lib.hid (fI_1 (QQ s) j)
        have HC_ := Lib.hid (fI_2 (QQ s) j)
        have HF := Lib.hid (show iOK ((QQ s).getD j ⟨#[]⟩) = false → clB s = false from fun h => by
          rw [HCB.out, List.all_eq_false]
          refine ⟨(QQ s).getD j ⟨#[]⟩, ?_, by rw [h]; simp⟩
          have : (QQ s).getD j ⟨#[]⟩ = (QQ s)[j]'(by rw [Hn.out]; exact hlt) := by simp [List.getD, Hn.out, hlt]
          rw [this]
          exact List.getElem_mem _)
        clear hR hW hok
        generalize hq : (QQ s).getD j ⟨#[]⟩ = q at *
        have HQ := Lib.hid hq
        clear hq
        have hcs := cut_size q 46
        have hcs2 := cut_size (cutB q 46) 46
        have HWB := Lib.hid (show Below w0.heap.size w0 wr from bl_trans (bl_trans HW.out HB1.out) HB.out)
        go_wp2_with fail
        refine (cut_max q 46 hqs HM.out HWB.out).mono ?_
        rintro e w3 ⟨rfl, hb3⟩
        have HR3 := Lib.hid (HR.out.keep hb3)
        have HW3 := Lib.hid (bl_trans hb3 HW.out)
        have HWB3 := Lib.hid (bl_trans hb3 HWB.out)
        clear hb3 HR HW HWB p1
        go_wp2_with fail
        refine (cut_max (cutB q 46) 46 (by omega) HM.out HWB3.out).mono ?_
        rintro e w4 ⟨rfl, hb4⟩
        have HR4 := Lib.hid (HR3.out.keep hb4)
        have HW4 := Lib.hid (bl_trans hb4 HW3.out)
        have HWB4 := Lib.hid (bl_trans hb4 HWB3.out)
        clear hb4 HR3 HW3 HWB3
        go_wp2_with fail
        refine (parse_at (cutA q 46) (by omega) HT.out HE.out HWB4.out).mono ?_
        rintro e w5 ⟨rfl, hb5⟩
        have HR5 := Lib.hid (HR4.out.keep hb5)
        have HW5 := Lib.hid (bl_trans hb5 HW4.out)
        have HWB5 := Lib.hid (bl_trans hb5 HWB4.out)
        clear hb5 HR4 HW4 HWB4
        go_wp2_with fail
        refine (parse_at (cutA (cutB q 46) 46) (by omega) HT.out HE.out HWB5.out).mono ?_
        rintro e w6 ⟨rfl, hb6⟩
        have HR6 := Lib.hid (HR5.out.keep hb6)
        have HW6 := Lib.hid (bl_trans hb6 HW5.out)
        have HWB6 := Lib.hid (bl_trans hb6 HWB5.out)
        clear hb6 HR5 HW5 HWB5
        go_wp2_with fail
        refine (parse_at (cutB (cutB q 46) 46) (by omega) HT.out HE.out HWB6.out).mono ?_
        rintro e w7 ⟨rfl, hb7⟩
        have HR7 := Lib.hid (HR6.out.keep hb7)
        have HW7 := Lib.hid (bl_trans hb7 HW6.out)
        have HWB7 := Lib.hid (bl_trans hb7 HWB6.out)
        clear hb7 HR6 HW6 HWB6
        have hIO : iOK q = (pnB (cutA q 46) && (pnB (cutA (cutB q 46) 46) && pnB (cutB (cutB q 46) 46))) := rfl
        have HIA := Lib.hid (show iA q = pnV (cutA q 46) from rfl)
        have HIB := Lib.hid (show iB q = pnV (cutA (cutB q 46) 46) from rfl)
        have HIC := Lib.hid (show iC q = pnV (cutB (cutB q 46) 46) from rfl)
        generalize pnV (cutA q 46) = va at *
        generalize pnV (cutA (cutB q 46) 46) = vb at *
        generalize pnV (cutB (cutB q 46) 46) = vc at *
        cases t1 : pnB (cutA q 46)
        · have hK := HF.out (by rw [hIO, t1]; rfl)
          have HK := Lib.hid hK
          have HNZ := Lib.hid (show clN s = 0 by rw [HCN.out, hK]; rfl)
          have HFB := Lib.hid (show Below w.heap.size w w7 from bl_trans HW7.out HB1.out)
          clear hK hIO t1
          go_wp2
          go_ret2
          exact ⟨_, by rw [HK.out]; rfl, by rw [HNZ.out]; exact OClu.nil _ _ _, HFB.out⟩
        · cases t2 : pnB (cutA (cutB q 46) 46)
          · have hK := HF.out (by rw [hIO, t1, t2]; rfl)
            have HK := Lib.hid hK
            have HNZ := Lib.hid (show clN s = 0 by rw [HCN.out, hK]; rfl)
            have HFB := Lib.hid (show Below w.heap.size w w7 from bl_trans HW7.out HB1.out)
            clear hK hIO t1 t2
            go_wp2
            go_ret2
            exact ⟨_, by rw [HK.out]; rfl, by rw [HNZ.out]; exact OClu.nil _ _ _, HFB.out⟩
          · cases t3 : pnB (cutB (cutB q 46) 46)
            · have hK := HF.out (by rw [hIO, t1, t2, t3]; rfl)
              have HK := Lib.hid hK
              have HNZ := Lib.hid (show clN s = 0 by rw [HCN.out, hK]; rfl)
              have HFB := Lib.hid (show Below w.heap.size w w7 from bl_trans HW7.out HB1.out)
              clear hK hIO t1 t2 t3
              go_wp2
              go_ret2
              exact ⟨_, by rw [HK.out]; rfl, by rw [HNZ.out]; exact OClu.nil _ _ _, HFB.out⟩
            · have HIO := Lib.hid (show iOK q = true by rw [hIO, t1, t2, t3]; rfl)
              clear hIO t1 t2 t3
              have hO := Lib.hid (show w7.ownsRow w1.heap.size 44 3 u4 j ((List.range (j * 3)).map fun i => Value.int .i64 (fI (QQ s) i)) from HR7.out)
              have hB1 := HW7.out.size
              go_wp2_with (at_builtin; refine wpList_append_own _ rfl _ _ 28 rfl w1.heap.size 44 i0 (.agg #[.int .i64 0, .int .i64 0, .int .i64 0]) 3 24 Tryd.underlying28 hi hz0 hz1 hz2 rfl (by decide) _ _ _ rfl (hO.out.alloc _) ⟨w7.heap.size, 0, none⟩ 1 1 [.int .i64 va, .int .i64 vb, .int .i64 vc] rfl rfl (cells3p _ _ _ _ _ _ (by simp)) (by simp [Value.oneCell']) (by unfold maxLen; omega) (by omega) (by first | omega | (simp; omega)) ?_; intro v' wn hown hgrow _)
              rw [← HIA.out, ← HIB.out, ← HIC.out, ← HA.out, ← HB_.out, ← HC_.out] at hown
              obtain ⟨r1, r2⟩ := OClu.push hB1 HR7.out hown hgrow
              have Q1 := Lib.hid r1
              have Q2 := Lib.hid (HW7.out.trans r2)
              clear r1 r2 hown hgrow
              go_wp2
              go_roundw
              case rel =>
                refine ⟨j + 1, by omega, by go_num, Q1.out, fun i hi => ?_, Q2.out⟩
                by_cases e : i = j
                · rw [e, HQ.out]; exact HIO.out
                · exact HOK.out i (by omega)
              case measure => simp only [intOf]; omega
      · obtain rfl : j = n := by omega
        have HR := Lib.hid hR
        have HWB := Lib.hid (show Below w.heap.size w wr from bl_trans hW HB1.out)
        have hK : clB s = true := by
          rw [HCB.out, List.all_eq_true]
          intro q hq
          obtain ⟨i, hi, rfl⟩ := List.getElem_of_mem hq
          have h1 := hok i (by rw [Hn.out] at hi; exact hi)
          have h2 : (QQ s).getD i ⟨#[]⟩ = (QQ s)[i] := by simp [List.getD, hi]
          rwa [h2] at h1
        have HK := Lib.hid hK
        have HNZ := Lib.hid (show clN s = j by rw [HCN.out, hK]; rfl)
        clear hR hW hok hK
        go_wp2
        go_ret2
        exact ⟨_, by rw [HK.out]; rfl, by rw [HNZ.out]; exact HR.out.lower (Nat.le_of_lt hlt1), HWB.out⟩
set_option maxRecDepth 100000 in
set_option maxHeartbeats 4000000 in
theorem impl_ParsePuzzle (s : ByteArray) (hs : s.size ≤ 1048576) (w : World) (T : Tab w) (E : Errs w) (M : MaxL w) :
    Calls Tryd.prog 11 #[.string s] w fun e w' => ∃ u, e = .returned (.tuple #[.agg #[.int .i64 (zW s), u], .bool (okZI s)]) ∧ OClu w' w.heap.size u (zN s) (zF s) ∧ Below w.heap.size w w' := by
  have HT := Lib.hid T
  have HE := Lib.hid E
  have HM := Lib.hid M
  have hcs := cut_size s 119
  clear T E M
  go_enter Tryd.func11, Tryd.ntmps11
  go_wp2_with fail
  refine (cut_max s 119 hs HM.out (by repeat (first | exact Below.refl _ _ | refine bl_alloc ?_ _ | refine bl_drewN ?_ _ | refine bl_trans (by assumption) ?_ | refine bl_set ?_ (by first | omega | (simp; done) | (simp; omega)) _))).mono ?_
  rintro e w1 ⟨rfl, hbw1⟩
  obtain ⟨hcw1, hfw1⟩ := bcell hbw1
  have hzw1 := bsize hbw1
  (try simp only [World.size_alloc, World.size_setCell] at hzw1)
  have kw1_0_0 : w1.cell? ⟨w.heap.size, 0, none⟩ = some (.int .i64 0) := by rw [hcw1 _ _ (by first | (simp; done) | omega | (simp; omega))]; first | assumption | (simp [go_sem]; done) | (simp [go_sem]; done) | (simp [go_sem, *]; done)
  have fw1_0_0 : w1.frozen? ⟨w.heap.size, 0, none⟩ = false := by rw [hfw1 _ _ (by first | (simp; done) | omega | (simp; omega))]; first | assumption | (simp [go_sem]; done) | (simp [go_sem]; done) | (simp [go_sem, *]; done)
  have kw1_0_1 : w1.cell? ⟨w.heap.size, 1, none⟩ = some (.slice none 0 0) := by rw [hcw1 _ _ (by first | (simp; done) | omega | (simp; omega))]; first | assumption | (simp [go_sem]; done) | (simp [go_sem]; done) | (simp [go_sem, *]; done)
  have fw1_0_1 : w1.frozen? ⟨w.heap.size, 1, none⟩ = false := by rw [hfw1 _ _ (by first | (simp; done) | omega | (simp; omega))]; first | assumption | (simp [go_sem]; done) | (simp [go_sem]; done) | (simp [go_sem, *]; done)
  have sw1_0 : w.heap.size < w1.heap.size := by first | omega | (simp at *; omega)
  have hBw1 : Below w.heap.size w w1 := (by repeat (first | exact Below.refl _ _ | refine bl_alloc ?_ _ | refine bl_drewN ?_ _ | refine bl_trans (by assumption) ?_ | refine bl_set ?_ (by first | omega | (simp; done) | (simp; omega)) _))
  have HBw1 := Lib.hid hBw1
  clear hBw1 hcw1 hfw1 hbw1
  go_wp2_with fail
  refine (parse_at (cutA s 119) (by omega) HT.out HE.out (by repeat (first | exact HBw1.out | exact Below.refl _ _ | refine bl_alloc ?_ _ | refine bl_drewN ?_ _ | refine bl_trans (by assumption) ?_ | refine bl_set ?_ (by first | omega | (simp; done) | (simp; omega)) _))).mono ?_
  rintro e w2 ⟨rfl, hbw2⟩
  obtain ⟨hcw2, hfw2⟩ := bcell hbw2
  have hzw2 := bsize hbw2
  (try simp only [World.size_alloc, World.size_setCell] at hzw2)
  have hkw2 : Below w1.heap.size w1 w2 := (by repeat (first | exact Below.refl _ _ | refine bl_alloc ?_ _ | refine bl_drewN ?_ _ | refine bl_trans (by assumption) ?_ | refine bl_set ?_ (by first | omega | (simp; done) | (simp; omega)) _))
  have kw2_0_0 : w2.cell? ⟨w.heap.size, 0, none⟩ = some (.int .i64 0) := cell_after hkw2 sw1_0 kw1_0_0
  have fw2_0_0 : w2.frozen? ⟨w.heap.size, 0, none⟩ = false := frozen_after hkw2 sw1_0 fw1_0_0
  have kw2_0_1 : w2.cell? ⟨w.heap.size, 1, none⟩ = some (.slice none 0 0) := cell_after hkw2 sw1_0 kw1_0_1
  have fw2_0_1 : w2.frozen? ⟨w.heap.size, 1, none⟩ = false := frozen_after hkw2 sw1_0 fw1_0_1
  have sw2_0 : w.heap.size < w2.heap.size := size_after hkw2 sw1_0
  have hBw2 : Below w.heap.size w w2 := (by repeat (first | exact HBw1.out | exact Below.refl _ _ | refine bl_alloc ?_ _ | refine bl_drewN ?_ _ | refine bl_trans (by assumption) ?_ | refine bl_set ?_ (by first | omega | (simp; done) | (simp; omega)) _))
  have HBw2 := Lib.hid hBw2
  clear hBw2 hcw2 hfw2 hbw2 hkw2 kw1_0_0 kw1_0_1 fw1_0_0 fw1_0_1 sw1_0
  go_wp2_with fail
  refine (parseClues_any (cutB s 119) (by omega) HT.out HE.out HM.out (by repeat (first | exact HBw2.out | exact Below.refl _ _ | refine bl_alloc ?_ _ | refine bl_drewN ?_ _ | refine bl_trans (by assumption) ?_ | refine bl_set ?_ (by first | omega | (simp; done) | (simp; omega)) _))).mono ?_
  rintro e w3 ⟨v, rfl, hO, hbw3⟩
  obtain ⟨hcw3, hfw3⟩ := bcell hbw3
  have hzw3 := bsize hbw3
  (try simp only [World.size_alloc, World.size_setCell] at hzw3)
  have hkw3 : Below w2.heap.size w2 w3 := (by repeat (first | exact Below.refl _ _ | refine bl_alloc ?_ _ | refine bl_drewN ?_ _ | refine bl_trans (by assumption) ?_ | refine bl_set ?_ (by first | omega | (simp; done) | (simp; omega)) _))
  have hO := hO.lower (C := w.heap.size + 1) (by first | omega | (simp; omega))
  obtain ⟨a1, c1, rfl⟩ := hO.toP.shape
  have HO := Lib.hid hO
  clear hO
  have kw3_0_0 : w3.cell? ⟨w.heap.size, 0, none⟩ = some (.int .i64 0) := cell_after hkw3 sw2_0 kw2_0_0
  have fw3_0_0 : w3.frozen? ⟨w.heap.size, 0, none⟩ = false := frozen_after hkw3 sw2_0 fw2_0_0
  have kw3_0_1 : w3.cell? ⟨w.heap.size, 1, none⟩ = some (.slice none 0 0) := cell_after hkw3 sw2_0 kw2_0_1
  have fw3_0_1 : w3.frozen? ⟨w.heap.size, 1, none⟩ = false := frozen_after hkw3 sw2_0 fw2_0_1
  have sw3_0 : w.heap.size < w3.heap.size := size_after hkw3 sw2_0
  have hBw3 : Below w.heap.size w w3 := (by repeat (first | exact HBw2.out | exact Below.refl _ _ | refine bl_alloc ?_ _ | refine bl_drewN ?_ _ | refine bl_trans (by assumption) ?_ | refine bl_set ?_ (by first | omega | (simp; done) | (simp; omega)) _))
  have HBw3 := Lib.hid hBw3
  clear hBw3 hcw3 hfw3 hbw3 hkw3 kw2_0_0 kw2_0_1 fw2_0_0 fw2_0_1 sw2_0
  have hOK : okZI s = (cutF s 119 && (pnB (cutA s 119) && (clB (cutB s 119) && okP (pnV (cutA s 119)) (QZ (cutB s 119)).length (fI (QZ (cutB s 119)))))) := rfl
  have hclN : clN (cutB s 119) = if clB (cutB s 119) then (QZ (cutB s 119)).length else 0 := rfl
  have hZW : zW s = if okZI s then pnV (cutA s 119) else 0 := rfl
  have hZN : zN s = if okZI s then (QZ (cutB s 119)).length else 0 := rfl
  have hZF : zF s = fI (QZ (cutB s 119)) := rfl
  generalize pnV (cutA s 119) = va at *
  cases t0 : cutF s 119
  · have hK : okZI s = false := by rw [hOK, t0]; rfl
    have HK := Lib.hid hK
    have HZ := Lib.hid (show zW s = 0 by rw [hZW, hK]; rfl)
    have HZN := Lib.hid (show zN s = 0 by rw [hZN, hK]; rfl)
    clear hK hOK hclN hZW hZN hZF
    clear t0
    go_wp2
    exact bodyPost_ret (v := .tuple #[.agg #[.int .i64 0, .slice none 0 0], .bool false]) (by simp [results, Tryd.results11, go_sem, kw3_0_0, kw3_0_1, fw3_0_0, fw3_0_1, sw3_0, Nat.ne_of_lt sw3_0, (Nat.ne_of_lt sw3_0).symm]) rfl ⟨.slice none 0 0, by rw [HK.out, HZ.out], by rw [HZN.out]; exact OClu.nil _ _ _, (by repeat (first | refine bl_alloc ?_ _ | refine bl_set ?_ (by first | omega | (simp; done) | (simp; omega)) _ | exact HBw3.out))⟩
  · skip
    cases t1 : pnB (cutA s 119)
    · have hK : okZI s = false := by rw [hOK, t0, t1]; rfl
      have HK := Lib.hid hK
      have HZ := Lib.hid (show zW s = 0 by rw [hZW, hK]; rfl)
      have HZN := Lib.hid (show zN s = 0 by rw [hZN, hK]; rfl)
      clear hK hOK hclN hZW hZN hZF
      clear t0 t1
      go_wp2
      exact bodyPost_ret (v := .tuple #[.agg #[.int .i64 0, .slice none 0 0], .bool false]) (by simp [results, Tryd.results11, go_sem, kw3_0_0, kw3_0_1, fw3_0_0, fw3_0_1, sw3_0, Nat.ne_of_lt sw3_0, (Nat.ne_of_lt sw3_0).symm]) rfl ⟨.slice none 0 0, by rw [HK.out, HZ.out], by rw [HZN.out]; exact OClu.nil _ _ _, (by repeat (first | refine bl_alloc ?_ _ | refine bl_set ?_ (by first | omega | (simp; done) | (simp; omega)) _ | exact HBw3.out))⟩
    · skip
      cases t2 : clB (cutB s 119)
      · have hK : okZI s = false := by rw [hOK, t0, t1, t2]; rfl
        have HK := Lib.hid hK
        have HZ := Lib.hid (show zW s = 0 by rw [hZW, hK]; rfl)
        have HZN := Lib.hid (show zN s = 0 by rw [hZN, hK]; rfl)
        clear hK hOK hclN hZW hZN hZF
        clear t0 t1 t2
        go_wp2
        exact bodyPost_ret (v := .tuple #[.agg #[.int .i64 0, .slice none 0 0], .bool false]) (by simp [results, Tryd.results11, go_sem, kw3_0_0, kw3_0_1, fw3_0_0, fw3_0_1, sw3_0, Nat.ne_of_lt sw3_0, (Nat.ne_of_lt sw3_0).symm]) rfl ⟨.slice none 0 0, by rw [HK.out, HZ.out], by rw [HZN.out]; exact OClu.nil _ _ _, (by repeat (first | refine bl_alloc ?_ _ | refine bl_set ?_ (by first | omega | (simp; done) | (simp; omega)) _ | exact HBw3.out))⟩
      · skip
        rw [t2, if_pos rfl] at hclN
        have HO := Lib.hid (show OClu w3 (w.heap.size + 1) (.slice a1 (QZ (cutB s 119)).length c1) (QZ (cutB s 119)).length (fI (QZ (cutB s 119))) from by have h := HO.out; rw [hclN] at h; exact h)
        rw [hclN]
        generalize (QZ (cutB s 119)).length = n at *
        generalize fI (QZ (cutB s 119)) = f at *
        clear hclN
        go_wp2_with fail
        refine (impl_IsPuzzle va _ n f _ (HO.out.toP.keep (by repeat (first | exact Below.refl _ _ | refine bl_alloc ?_ _ | refine bl_drewN ?_ _ | refine bl_trans (by assumption) ?_ | refine bl_set ?_ (by first | omega | (simp; done) | (simp; omega)) _)))).mono ?_
        rintro e w4 ⟨rfl, hbw4⟩
        obtain ⟨hcw4, hfw4⟩ := bcell hbw4
        have hzw4 := bsize hbw4
        (try simp only [World.size_alloc, World.size_setCell] at hzw4)
        have hkw4 : Below w3.heap.size w3 w4 := (by repeat (first | exact Below.refl _ _ | refine bl_alloc ?_ _ | refine bl_drewN ?_ _ | refine bl_trans (by assumption) ?_ | refine bl_set ?_ (by first | omega | (simp; done) | (simp; omega)) _))
        have HO := Lib.hid (HO.out.keep hkw4)
        have kw4_0_0 : w4.cell? ⟨w.heap.size, 0, none⟩ = some (.int .i64 0) := cell_after hkw4 sw3_0 kw3_0_0
        have fw4_0_0 : w4.frozen? ⟨w.heap.size, 0, none⟩ = false := frozen_after hkw4 sw3_0 fw3_0_0
        have kw4_0_1 : w4.cell? ⟨w.heap.size, 1, none⟩ = some (.slice none 0 0) := cell_after hkw4 sw3_0 kw3_0_1
        have fw4_0_1 : w4.frozen? ⟨w.heap.size, 1, none⟩ = false := frozen_after hkw4 sw3_0 fw3_0_1
        have sw4_0 : w.heap.size < w4.heap.size := size_after hkw4 sw3_0
        have kw4_1_0 : w4.cell? ⟨w3.heap.size, 0, none⟩ = some (.int .i64 va) := by rw [hcw4 _ _ (by first | (simp; done) | omega | (simp; omega))]; first | assumption | (simp [go_sem]; done) | (simp [go_sem, kw3_0_0, kw3_0_1, fw3_0_0, fw3_0_1]; done) | (simp [go_sem, *]; done)
        have kw4_1_1 : w4.cell? ⟨w3.heap.size, 1, none⟩ = some (.slice a1 n c1) := by rw [hcw4 _ _ (by first | (simp; done) | omega | (simp; omega))]; first | assumption | (simp [go_sem]; done) | (simp [go_sem, kw3_0_0, kw3_0_1, fw3_0_0, fw3_0_1]; done) | (simp [go_sem, *]; done)
        have sw4_1 : w3.heap.size < w4.heap.size := by first | omega | (simp at *; omega)
        have hBw4 : Below w.heap.size w w4 := (by repeat (first | exact HBw3.out | exact Below.refl _ _ | refine bl_alloc ?_ _ | refine bl_drewN ?_ _ | refine bl_trans (by assumption) ?_ | refine bl_set ?_ (by first | omega | (simp; done) | (simp; omega)) _))
        have HBw4 := Lib.hid hBw4
        clear hBw4 hcw4 hfw4 hbw4 hkw4 kw3_0_0 kw3_0_1 fw3_0_0 fw3_0_1 sw3_0
        cases t3 : okP va n f
        · have hK : okZI s = false := by rw [hOK, t0, t1, t2, t3]; rfl
          have HK := Lib.hid hK
          have HZ := Lib.hid (show zW s = 0 by rw [hZW, hK]; rfl)
          have HZN := Lib.hid (show zN s = 0 by rw [hZN, hK]; rfl)
          clear hK hOK hZW hZN hZF t0 t1 t2 t3
          go_wp2
          exact bodyPost_ret (v := .tuple #[.agg #[.int .i64 0, .slice none 0 0], .bool false]) (by simp [results, Tryd.results11, go_sem, kw4_0_0, kw4_0_1, fw4_0_0, fw4_0_1, kw4_1_0, kw4_1_1, sw4_0, Nat.ne_of_lt sw4_0, (Nat.ne_of_lt sw4_0).symm]) rfl ⟨.slice none 0 0, by rw [HK.out, HZ.out], by rw [HZN.out]; exact OClu.nil _ _ _, (by repeat (first | refine bl_alloc ?_ _ | refine bl_set ?_ (by first | omega | (simp; done) | (simp; omega)) _ | exact HBw4.out))⟩
        · have hK : okZI s = true := by rw [hOK, t0, t1, t2, t3]; rfl
          have HK := Lib.hid hK
          have HZ := Lib.hid (show zW s = va by rw [hZW, hK]; rfl)
          have HZN := Lib.hid (show zN s = n by rw [hZN, hK]; rfl)
          have HZF := Lib.hid hZF
          clear hK hOK hZW hZN hZF t0 t1 t2 t3
          go_wp2
          exact bodyPost_ret (v := .tuple #[.agg #[.int .i64 va, .slice a1 n c1], .bool true]) (by simp [results, Tryd.results11, go_sem, kw4_0_0, kw4_0_1, fw4_0_0, fw4_0_1, kw4_1_0, kw4_1_1]) rfl ⟨.slice a1 n c1, by rw [HK.out, HZ.out], by rw [HZN.out, HZF.out]; exact ((HO.out.low (by simp) _).low (by simp) _).lower (by omega), (by repeat (first | refine bl_alloc ?_ _ | refine bl_set ?_ (by first | omega | (simp; done) | (simp; omega)) _ | exact HBw4.out))⟩
end Go.Proofs.YtahcfjpplkemdaaDoor
