/- Poles read from a text, by the program and by the model. -/
import Derived.Test.YtlingdlhdkkfpaaDoorPP1
import Derived.OwnWalk
import Derived.Deep.RegionHeld3
import Derived.Deep.RegionLaw
import Derived.Deep.AppendLies
namespace Go.Proofs.YtlingdlhdkkfpaaDoor
open Go.RowKit
set_option linter.unusedVariables false
set_option linter.unusedSimpArgs false
theorem ORow.nil (w : World) (C : Nat) (f : Nat → Int) : ORow w C (.slice none 0 0) 0 f := World.ownsRow_nil w C _ 2
theorem ORow.lower {w : World} {B B' n : Nat} {v : Value} {f : Nat → Int} (h : ORow w B v n f) (hb : B' ≤ B) : ORow w B' v n f := by
  obtain ⟨h1, h2⟩ := h
  refine ⟨h1, ?_⟩
  rcases h2 with h2 | ⟨g, cap, cur, e, hB, rest⟩
  · exact .inl h2
  · exact .inr ⟨g, cap, cur, e, Nat.le_trans hb hB, rest⟩
theorem orow_snoc (f : Nat → Int) (n : Nat) : (List.range ((n + 1) * 2)).map (fun i => Value.int .i64 (f i)) = (List.range (n * 2)).map (fun i => Value.int .i64 (f i)) ++ [.int .i64 (f (n * 2)), .int .i64 (f (n * 2 + 1))] := by
  rw [show (n + 1) * 2 = n * 2 + 1 + 1 by omega, List.range_succ, List.range_succ, List.map_append, List.map_append]
  simp
theorem ORow.push {W w1 : World} {C n : Nat} {v v' : Value} {f : Nat → Int} {o : Obj} (hC : C ≤ W.heap.size) (h : ORow W C v n f)
    (hO : w1.ownsRow C 46 2 v' (n + 1) ((List.range (n * 2)).map (fun i => Value.int .i64 (f i)) ++ [.int .i64 (f (n * 2)), .int .i64 (f (n * 2 + 1))])) (hg : (W.alloc o).grownBy w1 v.ownBlock) : ORow w1 C v' (n + 1) f ∧ Below C W w1 := by
  refine ⟨?_, ((Below.refl C W).alloc hC o).grown hg (by simp; omega) fun g e => (World.ownsRow.lt h g e).1⟩
  unfold ORow
  rw [orow_snoc]
  exact hO
theorem cells2p (w : World) (x y : Value) (T n : Nat) (hn : n = w.heap.size) : ∀ j q, [x, y][j]? = some q → (w.alloc (.cells #[x, y] T)).cell? ((⟨n, 0, none⟩ : Addr).add j) = some q := by
  intro j q hj
  subst hn
  match j, hj with
  | 0, hj => simp at hj; subst hj; simp [Addr.add]
  | 1, hj => simp at hj; subst hj; simp [Addr.add]
theorem splitB_size (b : UInt8) : ∀ (k : Nat) (s : ByteArray), ∀ q ∈ Lib.splitB ⟨#[b]⟩ 0 k s, q.size ≤ s.size
  | 0, s, q, h => by
    rw [Lib.splitB_zero, List.mem_singleton] at h
    rw [h]; exact Nat.le_refl _
  | k + 1, s, q, h => by
    unfold Lib.splitB at h
    split at h
    · rw [List.mem_singleton] at h
      rw [h]; exact Nat.le_refl _
    · rcases List.mem_cons.1 h with h | h
      · rw [h, ByteArray.size_extract]; omega
      · have := splitB_size b k _ q h
        rw [ByteArray.size_extract] at this
        omega
def rb (z : ByteArray) : Int := rdV z.data.toList
def NP (s : ByteArray) : Nat := if okRI s then (QQ s).length else 0
theorem cells_of (w : World) (Q : List ByteArray) (N : Nat) (T : TypeId) {j : Nat} (hj : j < Q.length) :
    (w.alloc (.cells (Lib.cellsOf Q N) T)).cell? ⟨w.heap.size, j, none⟩ = some (.string (Q.getD j ⟨#[]⟩)) := by
  have e : (Lib.cellsOf Q N)[j]? = some (.string (Q.getD j ⟨#[]⟩)) := by
    unfold Lib.cellsOf
    rw [List.getElem?_toArray, List.getElem?_append_left (by simpa using hj)]
    simp [List.getD, hj]
  have hb : (w.alloc (.cells (Lib.cellsOf Q N) T)).heap[w.heap.size]? = some (.cells (Lib.cellsOf Q N) T (0, 0)) := Array.getElem?_push_size
  exact (cell_of_row _ _ _ _ _ _ hb).trans e
theorem QQ_len (s : ByteArray) : (QQ s).length ≤ 7 := by
  by_cases hk : (PP s).length ≤ min 7 (s.size + 1) - 1 + 1
  · have := congrArg List.length (spn_all 44 _ s hk)
    simp only [spn, List.length_map] at this
    show (Lib.splitB ⟨#[44]⟩ 0 (min 7 (s.size + 1) - 1) s).length ≤ 7
    rw [this]
    show (PP s).length ≤ 7
    omega
  · have := spn_more 44 (min 7 (s.size + 1) - 1) s (by show _ < (PP s).length; omega)
    simp only [spn, List.length_map] at this
    show (Lib.splitB ⟨#[44]⟩ 0 (min 7 (s.size + 1) - 1) s).length ≤ 7
    omega
set_option maxRecDepth 100000 in
set_option maxHeartbeats 4000000 in
theorem impl_ParsePoles (s : ByteArray) (hs : s.size ≤ 1048576) (w : World) (T : Tab w) (E : Errs w) (M : MaxL w) :
    Calls Tryd.prog 10 #[.string s] w fun e w' => ∃ v, e = .returned (.tuple #[v, .bool (okRI s)]) ∧ ORow w' w.heap.size v (NP s) (fI (QQ s)) ∧ Below w.heap.size w w' := by
  have HT := Lib.hid T
  have HE := Lib.hid E
  have HM := Lib.hid M
  obtain ⟨mm, hmm⟩ := M
  have HMM := Lib.hid hmm
  have hq7 := QQ_len s
  have hz := Lib.hid (show ∀ q ∈ QQ s, q.size ≤ 1048576 from fun q h => Nat.le_trans (splitB_size 44 _ s q h) hs)
  have HN := Lib.hid (show min 7 (s.size + 1) = min 7 (s.size + 1) from rfl)
  clear T E hmm
  obtain ⟨i0, hi, hz0, hz1, hz2⟩ := info_parts infoP
  go_enter Tryd.func10, Tryd.ntmps10
  go_wp2_with fail
  refine (Tryd.strings_SplitN s ⟨#[44]⟩ 7 mm _ (by omega) HMM.out (by decide) (by decide) (by decide)).mono ?_
  rintro e w1 ⟨rfl, hw1⟩
  have hcells : ∀ j, j < (QQ s).length → w1.cell? ⟨w.heap.size, j, none⟩ = some (.string ((QQ s).getD j ⟨#[]⟩)) := fun j hj => by
    rw [hw1]
    exact cells_of w (QQ s) _ _ hj
  have hlt1 : w.heap.size < w1.heap.size := by rw [hw1]; simp
  have hB1 : Below w.heap.size w w1 := by rw [hw1]; exact bl_alloc (Below.refl _ _) _
  have HC := Lib.hid hcells
  have HB1 := Lib.hid hB1
  have hcapQ : (QQ s).length ≤ min 7 (s.size + 1) := by
    by_cases hk : (PP s).length ≤ min 7 (s.size + 1) - 1 + 1
    · have := congrArg List.length (spn_all 44 _ s hk)
      simp only [spn, List.length_map] at this
      show (Lib.splitB ⟨#[44]⟩ 0 (min 7 (s.size + 1) - 1) s).length ≤ _
      rw [this]
      show (PP s).length ≤ _
      omega
    · have := spn_more 44 (min 7 (s.size + 1) - 1) s (by show _ < (PP s).length; omega)
      simp only [spn, List.length_map] at this
      show (Lib.splitB ⟨#[44]⟩ 0 (min 7 (s.size + 1) - 1) s).length ≤ _
      omega
  rw [show Lib.splitB ⟨#[44]⟩ 0 (min 7 (s.size + 1) - 1) s = QQ s from rfl]
  have hall : okRI s = ((QQ s).all iOK && okRow (QQ s).length (fI (QQ s))) := rfl
  have HNP := Lib.hid (show NP s = if okRI s then (QQ s).length else 0 from rfl)
  have HALL := Lib.hid hall
  clear hw1 hcells hB1 hall HN HMM
  generalize hcp : min 7 (s.size + 1) = cp at *
  generalize hn : (QQ s).length = n at *
  have Hn := Lib.hid hn
  clear hcp hn
  go_wp2
  go_loopw [4, 17] (fun u i wr => ∃ j : Nat, j ≤ n ∧ i = .int .i64 (j : Int) ∧ ORow wr w1.heap.size u j (fI (QQ s)) ∧ (∀ i, i < j → iOK ((QQ s).getD i ⟨#[]⟩) = true) ∧ Below w1.heap.size w1 wr) (fun _ i _ => n - (intOf i).toNat)
  case atStart => exact ⟨0, Nat.zero_le _, rfl, ORow.nil _ _ _, fun i h => by omega, Below.refl _ _⟩
  case round =>
    obtain ⟨j, hj, rfl, hR, hok, hW⟩ := hrel
    by_cases hlt : j < n
    · have hlt' : (j : Int) < (n : Int) := by omega
      have p1 : wr.cell? ⟨w.heap.size, j, none⟩ = some (.string ((QQ s).getD j ⟨#[]⟩)) := by rw [(bcell hW).1 _ _ hlt1]; exact HC.out j hlt
      have HR := Lib.hid hR
      have HW := Lib.hid hW
      have HOK := Lib.hid hok
      have hqs : ((QQ s).getD j ⟨#[]⟩).size ≤ 1048576 := hz.out _ (by
        have : (QQ s).getD j ⟨#[]⟩ = (QQ s)[j]'(by rw [Hn.out]; exact hlt) := by simp [List.getD, Hn.out, hlt]
        rw [this]
        exact List.getElem_mem _)
      have HA := Lib.hid (show fI (QQ s) (j * 2) = iA ((QQ s).getD j ⟨#[]⟩) from fI_0 _ _)
      have HB := Lib.hid (show fI (QQ s) (j * 2 + 1) = iB ((QQ s).getD j ⟨#[]⟩) from fI_1 _ _)
      have HF := Lib.hid (show iOK ((QQ s).getD j ⟨#[]⟩) = false → okRI s = false from fun h => by
        rw [HALL.out]
        have : (QQ s).all iOK = false := by
          rw [List.all_eq_false]
          refine ⟨(QQ s).getD j ⟨#[]⟩, ?_, by rw [h]; simp⟩
          have : (QQ s).getD j ⟨#[]⟩ = (QQ s)[j]'(by rw [Hn.out]; exact hlt) := by simp [List.getD, Hn.out, hlt]
          rw [this]
          exact List.getElem_mem _
        rw [this, Bool.false_and])
      clear hR hW hok
      generalize hq : (QQ s).getD j ⟨#[]⟩ = q at *
      have HQ := Lib.hid hq
      clear hq
      have hcs := cut_size q 124
      have HWB := Lib.hid (show Below w.heap.size w wr from bl_trans HW.out HB1.out)
      go_wp2_with fail
      refine (cut_max q 124 hqs HM.out HWB.out).mono ?_
      rintro e w' ⟨rfl, nn, rfl⟩
      have HW2 := Lib.hid (bl_drewN HW.out nn)
      have HWB2 := Lib.hid (bl_drewN HWB.out nn)
      have HR2 := Lib.hid (show ORow (wr.drewN nn) w1.heap.size _ j (fI (QQ s)) from HR.out)
      clear HW HWB HR p1
      generalize wr.drewN nn = w2 at *
      go_wp2_with fail
      refine (parse_at (cutA q 124) (by omega) HT.out HE.out HWB2.out).mono ?_
      rintro e w3 ⟨rfl, hb3⟩
      have HR3 := Lib.hid (HR2.out.keep hb3)
      have HW3 := Lib.hid (bl_trans hb3 HW2.out)
      have HWB3 := Lib.hid (bl_trans hb3 HWB2.out)
      clear hb3 HR2 HW2 HWB2
      go_wp2_with fail
      refine (parse_at (cutB q 124) (by omega) HT.out HE.out HWB3.out).mono ?_
      rintro e w4 ⟨rfl, hb4⟩
      have HR4 := Lib.hid (HR3.out.keep hb4)
      have HW4 := Lib.hid (bl_trans hb4 HW3.out)
      have HWB4 := Lib.hid (bl_trans hb4 HWB3.out)
      clear hb4 HR3 HW3 HWB3
      have hIO : iOK q = (pnB (cutA q 124) && pnB (cutB q 124)) := rfl
      have HIA := Lib.hid (show iA q = pnV (cutA q 124) from rfl)
      have HIB := Lib.hid (show iB q = pnV (cutB q 124) from rfl)
      cases t1 : pnB (cutA q 124)
      · have hK := HF.out (by rw [hIO, t1, Bool.false_and])
        have HK := Lib.hid hK
        have HNZ := Lib.hid (show NP s = 0 by rw [HNP.out, hK]; rfl)
        clear hK hIO t1
        go_wp2
        go_ret2
        exact ⟨_, by rw [HK.out]; rfl, by rw [HNZ.out]; exact ORow.nil _ _ _, HWB4.out⟩
      · cases t2 : pnB (cutB q 124)
        · have hK := HF.out (by rw [hIO, t1, t2]; rfl)
          have HK := Lib.hid hK
          have HNZ := Lib.hid (show NP s = 0 by rw [HNP.out, hK]; rfl)
          clear hK hIO t1 t2
          go_wp2
          go_ret2
          exact ⟨_, by rw [HK.out]; rfl, by rw [HNZ.out]; exact ORow.nil _ _ _, HWB4.out⟩
        · have HIO := Lib.hid (show iOK q = true by rw [hIO, t1, t2]; rfl)
          clear hIO t1 t2
          have hO := Lib.hid (show w4.ownsRow w1.heap.size 46 2 u4 j ((List.range (j * 2)).map fun i => Value.int .i64 (fI (QQ s) i)) from HR4.out)
          have hB1 := HW4.out.size
          generalize pnV (cutA q 124) = va at *
          generalize pnV (cutB q 124) = vb at *
          go_wp2_with (at_builtin; refine wpList_append_own _ rfl _ _ 28 rfl w1.heap.size 46 i0 (.agg #[.int .i64 0, .int .i64 0]) 2 16 Tryd.underlying28 hi hz0 hz1 hz2 rfl (by decide) _ _ _ rfl (hO.out.alloc _) ⟨w4.heap.size, 0, none⟩ 1 1 [.int .i64 va, .int .i64 vb] rfl rfl (cells2p _ _ _ _ _ (by simp)) (by simp [Value.oneCell']) (by unfold maxLen; omega) (by omega) (by first | omega | (simp; omega)) ?_; intro v' wn hown hgrow _)
          rw [← HIA.out, ← HIB.out, ← HA.out, ← HB.out] at hown
          obtain ⟨r1, r2⟩ := ORow.push hB1 HR4.out hown hgrow
          have Q1 := Lib.hid r1
          have Q2 := Lib.hid (HW4.out.trans r2)
          clear r1 r2 hown hgrow
          go_wp2
          go_roundw
          case rel =>
            refine ⟨j + 1, by omega, by go_num, Q1.out, fun i hi => ?_, Q2.out⟩
            by_cases e : i = j
            · rw [e, HQ.out]; exact HIO.out
            · exact HOK.out i (by omega)
          case measure => simp only [intOf]; omega
    · obtain rfl : j = n := by omega
      have HR := Lib.hid hR
      have HWB := Lib.hid (show Below w.heap.size w wr from bl_trans hW HB1.out)
      have HALL2 := Lib.hid (show okRI s = okRow j (fI (QQ s)) by
        rw [HALL.out]
        have : (QQ s).all iOK = true := by
          rw [List.all_eq_true]
          intro q hq
          obtain ⟨i, hi, rfl⟩ := List.getElem_of_mem hq
          have h1 := hok i (by rw [Hn.out] at hi; exact hi)
          have h2 : (QQ s).getD i ⟨#[]⟩ = (QQ s)[i] := by simp [List.getD, hi]
          rwa [h2] at h1
        rw [this, Bool.true_and])
      clear hR hW hok
      go_wp2_with fail
      refine (impl_isRow _ _ _ _ HR.out.toP).mono ?_
      rintro e w2 ⟨rfl, hb2⟩
      have HR2 := Lib.hid (HR.out.keep hb2)
      have HW2 := Lib.hid (bl_trans hb2 HWB.out)
      clear hb2
      cases hk : okRow j (fI (QQ s))
      · have HK := Lib.hid (show okRI s = false by rw [HALL2.out, hk])
        have HNZ := Lib.hid (show NP s = 0 by rw [HNP.out, HK.out]; rfl)
        clear hk
        go_wp2
        go_ret2
        exact ⟨_, by rw [HK.out]; rfl, by rw [HNZ.out]; exact ORow.nil _ _ _, HW2.out⟩
      · have HK := Lib.hid (show okRI s = true by rw [HALL2.out, hk])
        have HNZ := Lib.hid (show NP s = j by rw [HNP.out, HK.out]; rfl)
        clear hk
        go_wp2
        go_ret2
        exact ⟨_, by rw [HK.out]; rfl, by rw [HNZ.out]; exact HR2.out.lower (Nat.le_of_lt hlt1), HW2.out⟩
set_option maxRecDepth 100000 in
set_option maxHeartbeats 4000000 in
theorem swParse_any (s : ByteArray) (hs : s.size ≤ 1048576) (w : World) :
    Calls Tryd.prog 21 #[.string s] w fun e w' => ∃ v, e = .returned (.tuple #[v, .bool (okRI s)]) ∧ ORow w' w.heap.size v (NP s) (fI (QQ s)) ∧ Below w.heap.size w w' := by
  obtain ⟨hsame, hrow⟩ := same_read s
  rw [hsame] at hrow
  have HROW := Lib.hid hrow
  have HNP := Lib.hid (show NP s = if okRS s then (PP s).length else 0 by
    unfold NP
    rw [hsame]
    cases hq : okRS s
    · rfl
    · simp only [if_true]; exact (hrow hq).1)
  have HALL := Lib.hid (show okRS s = (decide (s.size ≤ 50) && ((PP s).all sOK && okRow (PP s).length (fS (PP s)))) from rfl)
  rw [hsame]
  clear hsame hrow
  have hsz : s.data.toList.length = s.size := len_data s
  by_cases h50 : s.size ≤ 50
  case neg =>
    have h50' : (50 : Int) < (s.size : Int) := by omega
    have HK := Lib.hid (show okRS s = false by rw [HALL.out, decide_eq_false h50, Bool.false_and])
    have HNZ := Lib.hid (show NP s = 0 by rw [HNP.out, HK.out]; rfl)
    go_enter Tryd.func21, Tryd.ntmps21
    go_wp2
    go_ret2
    exact ⟨_, by rw [HK.out]; rfl, by rw [HNZ.out]; exact ORow.nil _ _ _, Below.refl _ _⟩
  case pos =>
  have h50' : ¬ (50 : Int) < (s.size : Int) := by omega
  have hpl := pcs_len 44 s.data.toList
  have hpn := pcs_ne 44 s.data.toList
  have HPC := Lib.hid (show (sp 44 s.data.toList s.size).1 ++ [(sp 44 s.data.toList s.size).2] = PP s by unfold PP pcs; rw [hsz])
  have hps : ∀ p ∈ PP s, p.length ≤ 50 := fun p hp => by
    have hg := pcs_glue 44 s.data.toList
    have : ∀ (P : List (List UInt8)), p ∈ P → p.length ≤ (glue 44 P).length := by
      intro P
      induction P with
      | nil => intro h; cases h
      | cons x r ih =>
        intro h
        cases r with
        | nil =>
          rw [List.mem_singleton] at h
          rw [h]; exact Nat.le_refl _
        | cons y r =>
          rw [glue, List.length_append, List.length_cons]
          rcases List.mem_cons.1 h with h | h
          · rw [h]; omega
          · have := ih h; omega
    have := this _ hp
    rw [show PP s = pcs 44 s.data.toList from rfl, hg] at this
    omega
  have HPS := Lib.hid hps
  have hn1 : 1 ≤ (PP s).length := List.length_pos_iff.2 hpn
  have hn2 : (PP s).length ≤ 51 := by
    have : (PP s).length ≤ s.data.toList.length + 1 := hpl
    omega
  obtain ⟨i0, hi, hz0, hz1, hz2⟩ := info_parts infoP
  clear hps hpl hpn hsz
  go_enter Tryd.func21, Tryd.ntmps21
  go_wp2_with fail
  refine (l1Split_any s 44 44 rfl hs _).mono ?_
  rintro e w1 ⟨v, rfl, hS, hB1⟩
  rw [HPC.out] at hS
  have HB1 := Lib.hid hB1
  have hlt1 := hB1.size
  have HS := Lib.hid hS
  obtain ⟨g, cap, rfl, hg, hg1, hcells⟩ := hS.open_ (by omega)
  have HC := Lib.hid hcells
  clear hS HS hcells hB1
  generalize hn : (PP s).length = n at *
  have Hn := Lib.hid hn
  clear hn
  go_wp2
  go_loopw [4, 14] (fun u i wr => ∃ j : Nat, j ≤ n ∧ i = .int .i64 (j : Int) ∧ ORow wr w1.heap.size u j (fS (PP s)) ∧ (∀ i, i < j → sOK ((PP s).getD i []) = true) ∧ Below w1.heap.size w1 wr) (fun _ i _ => n - (intOf i).toNat)
  case atStart => exact ⟨0, Nat.zero_le _, rfl, ORow.nil _ _ _, fun i h => by omega, Below.refl _ _⟩
  case round =>
    obtain ⟨j, hj, rfl, hR, hok, hW⟩ := hrel
    by_cases hlt : j < n
    · have hlt' : (j : Int) < (n : Int) := by omega
      have p1 : wr.cell? ⟨g, j, none⟩ = some (.string ⟨((PP s).getD j []).toArray⟩) := by rw [(bcell hW).1 _ _ hg1]; exact HC.out j hlt
      have HR := Lib.hid hR
      have HW := Lib.hid hW
      have HOK := Lib.hid hok
      have hmem : (PP s).getD j [] ∈ PP s := by
        have : (PP s).getD j [] = (PP s)[j]'(by rw [Hn.out]; exact hlt) := by simp [List.getD, Hn.out, hlt]
        rw [this]
        exact List.getElem_mem _
      have hps := HPS.out _ hmem
      have HA := Lib.hid (show fS (PP s) (j * 2) = sA ((PP s).getD j []) from fS_0 _ _)
      have HB := Lib.hid (show fS (PP s) (j * 2 + 1) = sB ((PP s).getD j []) from fS_1 _ _)
      have HF := Lib.hid (show sOK ((PP s).getD j []) = false → okRS s = false from fun h => by
        rw [HALL.out]
        have : (PP s).all sOK = false := by
          rw [List.all_eq_false]
          exact ⟨_, hmem, by rw [h]; simp⟩
        rw [this, Bool.false_and, Bool.and_false])
      clear hR hW hok hmem
      generalize hq : (PP s).getD j [] = q at *
      have HQ := Lib.hid hq
      clear hq
      have hqa : (⟨q.toArray⟩ : ByteArray).data.toList = q := by simp
      have hqz : (⟨q.toArray⟩ : ByteArray).size = q.length := by simp [ByteArray.size]
      have hpl := pcs_len 124 q
      have hpc : (sp 124 (⟨q.toArray⟩ : ByteArray).data.toList (⟨q.toArray⟩ : ByteArray).size).1 ++ [(sp 124 (⟨q.toArray⟩ : ByteArray).data.toList (⟨q.toArray⟩ : ByteArray).size).2] = pcs 124 q := by
        rw [hqa, hqz]; rfl
      have hso : sOK q = ((pcs 124 q).length == 2) := rfl
      have HSA := Lib.hid (show sA q = rdV ((pcs 124 q).getD 0 []) from rfl)
      have HSB := Lib.hid (show sB q = rdV ((pcs 124 q).getD 1 []) from rfl)
      have hne := pcs_ne 124 q
      have hpn : 1 ≤ (pcs 124 q).length := List.length_pos_iff.2 hne
      have HPC2 := Lib.hid hpc
      have hq0 : (⟨q.toArray⟩ : ByteArray).size ≤ 1048576 := by rw [hqz]; omega
      clear hqa hqz hpc hne
      generalize hqb : (⟨q.toArray⟩ : ByteArray) = qb at *
      clear hqb
      go_wp2_with fail
      refine (l1Split_any qb 124 124 rfl hq0 _).mono ?_
      rintro e w2 ⟨v2, rfl, hS2, hb2⟩
      rw [HPC2.out] at hS2
      generalize pcs 124 q = P2 at *
      obtain ⟨g2, cap2, rfl, hg2, hg2', hc2⟩ := hS2.open_ (by omega)
      have HR2 := Lib.hid (HR.out.keep hb2)
      have HW2 := Lib.hid (bl_trans hb2 HW.out)
      clear hS2 hb2 HR HW p1
      cases t : (P2.length == 2)
      · have ht : ¬ P2.length = 2 := by simpa using t
        have ht' : ¬ (P2.length : Int) = 2 := by omega
        have hK := HF.out (by rw [hso, t])
        have HK := Lib.hid hK
        have HNZ := Lib.hid (show NP s = 0 by rw [HNP.out, hK]; rfl)
        have HWW := Lib.hid (bl_trans HW2.out HB1.out)
        clear hK hso t ht hc2 hpl
        generalize P2.length = L2 at *
        go_wp2
        go_ret2
        exact ⟨_, by rw [HK.out]; rfl, by rw [HNZ.out]; exact ORow.nil _ _ _, HWW.out⟩
      · have ht : P2.length = 2 := by simpa using t
        have HIO := Lib.hid (show sOK q = true by rw [hso, t])
        have k0 := hc2 0 (by omega)
        have k1 := hc2 1 (by omega)
        rw [ht]
        clear hso t hc2 hpl
        generalize hx : P2.getD 0 [] = x at *
        generalize hy : P2.getD 1 [] = y at *
        have k0 : w2.cell? ⟨g2, 0, none⟩ = some (.string ⟨x.toArray⟩) := k0
        have k1 : w2.cell? ⟨g2, 1, none⟩ = some (.string ⟨y.toArray⟩) := k1
        have hxa : (⟨x.toArray⟩ : ByteArray).data.toList = x := by simp
        have hya : (⟨y.toArray⟩ : ByteArray).data.toList = y := by simp
        have HXV := Lib.hid (show rdV (⟨x.toArray⟩ : ByteArray).data.toList = rdV x by rw [hxa])
        have HYV := Lib.hid (show rdV (⟨y.toArray⟩ : ByteArray).data.toList = rdV y by rw [hya])
        have hO := Lib.hid (show w2.ownsRow w1.heap.size 46 2 u4 j ((List.range (j * 2)).map fun i => Value.int .i64 (fS (PP s) i)) from HR2.out)
        have hB2 := HW2.out.size
        clear hxa hya hx hy
        generalize (⟨x.toArray⟩ : ByteArray) = xb at *
        generalize (⟨y.toArray⟩ : ByteArray) = yb at *
        generalize rdV x = va at *
        generalize rdV y = vb at *
        have HRD : ∀ (z : ByteArray) (W : World), Hid (Calls Tryd.prog 28 #[.string z] W fun e w' => e = .returned (.int .i64 (rb z)) ∧ W = w') := fun z W => Lib.hid (l1Read_any z W)
        have HXV := Lib.hid (show rb xb = va from HXV.out)
        have HYV := Lib.hid (show rb yb = vb from HYV.out)
        generalize hrb : rb = rb' at *
        clear hrb
        go_wp2_with fail
        have k0 : w2.drew.cell? ⟨g2, 0, none⟩ = some (.string xb) := k0
        have k1 : w2.drew.cell? ⟨g2, 1, none⟩ = some (.string yb) := k1
        go_region_law (first
          | (refine step_append_lies _ rfl _ _ 28 rfl w1.heap.size 46 i0 (.agg #[.int .i64 0, .int .i64 0]) 2 16 Tryd.underlying28 hi hz0 hz1 hz2 rfl (by decide) _ _ _ rfl (World.ownsRow.alloc (w := w2.drew) hO.out _) ⟨_, 0, none⟩ 1 1 [.int .i64 (rb' xb), .int .i64 (rb' yb)] rfl rfl (cells2p _ _ _ _ _ rfl) (by simp [Value.oneCell']) (by decide) (by unfold maxLen; omega) (by omega) (by simp; omega) _ rfl ?_; intro g3 cp wn hown hgrow hat hlt2)
          | (go_simp; go_at_call 28; refine ((HRD _ _).out).mono ?_; rintro e w' ⟨rfl, rfl⟩))
        all_goals
          rw [HXV.out, HYV.out, ← HSA.out, ← HSB.out, ← HA.out, ← HB.out] at hown
          obtain ⟨r1, r2⟩ := ORow.push (W := w2.drew) hB2 (show ORow w2.drew w1.heap.size u4 j (fS (PP s)) from HR2.out) hown hgrow
          have Q1 := Lib.hid r1
          have Q2 := Lib.hid (HW2.out.drew.trans r2)
          clear r1 r2 hown hgrow hat hlt2 k0 k1 HRD
          go_wp2
          go_roundw
          case rel =>
            refine ⟨j + 1, by omega, by go_num, Q1.out, fun i hi => ?_, Q2.out⟩
            by_cases e : i = j
            · rw [e, HQ.out]; exact HIO.out
            · exact HOK.out i (by omega)
          case measure => simp only [intOf]; omega
    · obtain rfl : j = n := by omega
      have HR := Lib.hid hR
      have HWB := Lib.hid (show Below w.heap.size w wr from bl_trans hW HB1.out)
      have HALL2 := Lib.hid (show okRS s = okRow j (fS (PP s)) by
        rw [HALL.out, decide_eq_true h50, Bool.true_and]
        have : (PP s).all sOK = true := by
          rw [List.all_eq_true]
          intro q hq
          obtain ⟨i, hi, rfl⟩ := List.getElem_of_mem hq
          have h1 := hok i (by rw [Hn.out] at hi; exact hi)
          have h2 : (PP s).getD i [] = (PP s)[i] := by simp [List.getD, hi]
          rwa [h2] at h1
        rw [this, Bool.true_and])
      clear hR hW hok
      go_wp2_with fail
      refine (spec_isRow _ _ _ _ HR.out.toP).mono ?_
      rintro e w2 ⟨rfl, hb2⟩
      have HR2 := Lib.hid (HR.out.keep hb2)
      have HW2 := Lib.hid (bl_trans hb2 HWB.out)
      clear hb2
      cases hk : okRow j (fS (PP s))
      · have HK := Lib.hid (show okRS s = false by rw [HALL2.out, hk])
        have HNZ := Lib.hid (show NP s = 0 by rw [HNP.out, HK.out]; rfl)
        clear hk
        go_wp2
        go_ret2
        exact ⟨_, by rw [HK.out]; rfl, by rw [HNZ.out]; exact ORow.nil _ _ _, HW2.out⟩
      · have hK : okRS s = true := by rw [HALL2.out, hk]
        have HK := Lib.hid hK
        have HNZ := Lib.hid (show NP s = j by rw [HNP.out, HK.out]; rfl)
        have HV := Lib.hid (show ∀ i, i < j * 2 → fS (PP s) i = fI (QQ s) i from fun i hi => by
          obtain ⟨h1, h2⟩ := HROW.out hK
          exact (h2 i (by rw [h1]; exact hi)).symm)
        clear hk hK
        go_wp2
        go_ret2
        exact ⟨_, by rw [HK.out]; rfl, by rw [HNZ.out]; exact (HR2.out.lower hlt1).congr HV.out, HW2.out⟩
set_option maxHeartbeats 400000 in
theorem spec_ParsePoles (s : ByteArray) (hs : s.size ≤ 1048576) (w : World) :
    Calls Tryd.prog 9 #[.string s] w fun e w' => ∃ v, e = .returned (.tuple #[v, .bool (okRI s)]) ∧ ORow w' w.heap.size v (NP s) (fI (QQ s)) ∧ Below w.heap.size w w' := by
  go_enter Tryd.func9, Tryd.ntmps9
  go_wp2_with fail
  refine (swParse_any s hs _).mono ?_
  rintro e w1 ⟨v, rfl, hR, hW⟩
  have HR := Lib.hid hR
  have HW := Lib.hid hW
  clear hR hW
  go_wp2
  go_ret2
  exact ⟨_, rfl, HR.out, HW.out⟩
end Go.Proofs.YtlingdlhdkkfpaaDoor
