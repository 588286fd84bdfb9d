/- The law 'FnExactParsePoles' holds for every input. -/
import Derived.Test.YtlingdlhdkkfpaaDoorPP2
import Derived.Test.YtlingdlhdkkfpaaDoorPL6
import Derived.Test.YtlingdlhdkkfpaaDoorO
import Derived.ProofKit
import Derived.OpenShut
import Derived.ShutString
import Derived.ChangeOld
import Derived.Lib.SmallJoins
import Derived.LaidMore
import Derived.Lay
import Derived.Deep.DeepHandedRow
import Derived.Deep.DeepWitnessRowRef
import Derived.Stop.LaidErr
import Derived.Stop.Joined
import Derived.Test.YtlingdlhdkkfpaaDoorTie
import Derived.Test.YtlingdlhdkkfpaaDoorCards
import Derived.SevenTiedAt
namespace Go.Proofs.YtlingdlhdkkfpaaDoor.fnExactParsePoles
open Go
open Go.ChangeShapes Go.WideShapes Go.ChangeAt Go.RowKit Go.Joins
open Go.ChangeMaps (open_string shut_string)
set_option linter.unusedVariables false
set_option linter.unusedSimpArgs false
theorem own : ownKnob Tryd.prog.godebug = none := by kernel_rfl
theorem laidOut : laidOutB Tryd.prog = true := by kernel_rfl

set_option maxHeartbeats 1000000 in
theorem walk (a0 : ByteArray) (w0 : a0.size ≤ maxLen) (w : World) (T : Tab w) (E : Errs w) (M : MaxL w) :
    Calls Tryd.prog 4 #[.string a0] w fun e w' => e = .returned (.bool true) ∧ Below w.heap.size w w' := by
  by_cases hs : a0.size ≤ 1048576
  · have T0 := Lib.hid T
    have E0 := Lib.hid E
    have M0 := Lib.hid M
    have hs' : ¬ (1048576 : Int) < (a0.size : Int) := by omega
    clear T E M
    have hT : NP a0 ≤ 7 := by
      unfold NP
      split
      · exact QQ_len a0
      · omega
    go_enter Tryd.func4, Tryd.ntmps4
    go_wp2_with fail
    refine (spec_ParsePoles a0 hs _).mono ?_
    rintro e w1 ⟨v0, rfl, r0, hb1⟩
    have R0 := Lib.hid r0
    have B1 := Lib.hid hb1
    clear r0 hb1
    go_wp2_with fail
    refine (impl_ParsePoles a0 hs _ (T0.out.below B1.out) (E0.out.below B1.out) (M0.out.below B1.out)).mono ?_
    rintro e w2 ⟨g0, rfl, r1, hb2⟩
    have R1 := Lib.hid r1
    have R02 := Lib.hid (R0.out.keep hb2)
    have B2 := Lib.hid (bl_trans hb2 B1.out)
    have hs2 : w1.heap.size ≤ w2.heap.size := hb2.size
    clear r1 hb2
    go_wp2_with fail
    refine (eqPoleS_any _ _ _ _ _ R1.out.toP R02.out.toP).mono ?_
    rintro e w3 ⟨rfl, hb3⟩
    have R1 := Lib.hid (R1.out.keep hb3)
    have R03 := Lib.hid (R02.out.keep hb3)
    have B3 := Lib.hid (bl_trans hb3 B2.out)
    have hs3 : w2.heap.size ≤ w3.heap.size := hb3.size
    clear hb3 R02
    go_wp2_with fail
    refine (markPoleS_any _ _ _ _ w1.heap.size _ R1.out (by omega) (by omega)).mono ?_
    rintro e w4 ⟨rfl, rm, hg, hsz⟩
    have hbm : Below w1.heap.size w3 w4 := (Below.refl _ _).grown hg (by omega) fun g e => (World.ownsRow.lt R1.out g e).1
    have RM := Lib.hid rm
    have R04 := Lib.hid (show ORow w4 w.heap.size v0 (NP a0) (fI (QQ a0)) from World.ownsRow.kept R03.out hg (by
      cases hv : v0.ownBlock with
      | none => exact .inl rfl
      | some g => exact .inr (fun e => by
          have h1 := (World.ownsRow.lt R0.out g hv).2
          have h2 := (World.ownsRow.lt R1.out g e.symm).1
          omega)))
    have B4 := Lib.hid (B3.out.trans (hbm.mono (by have := B1.out.size; omega)))
    clear rm hg hbm R03 R1
    go_wp2_with fail
    refine (heldPoleS_any _ _ _ _ RM.out.toP (by omega) (by omega)).mono ?_
    rintro e w' ⟨rfl, m1, rfl⟩
    have RM5 := Lib.hid (RM.out.keep (below_drewN (Below.refl _ _) m1))
    have R05 := Lib.hid (R04.out.keep (below_drewN (Below.refl _ _) m1))
    have B5 := Lib.hid (bl_drewN B4.out m1)
    clear RM R04
    generalize w4.drewN m1 = w5 at *
    go_wp2_with fail
    refine (impl_ParsePoles a0 hs _ (T0.out.below B5.out) (E0.out.below B5.out) (M0.out.below B5.out)).mono ?_
    rintro e w6 ⟨h0, rfl, r3, hb6⟩
    have R3 := Lib.hid r3
    have RM6 := Lib.hid (RM5.out.keep hb6)
    have R06 := Lib.hid (R05.out.keep hb6)
    have B6 := Lib.hid (bl_trans hb6 B5.out)
    clear r3 hb6 RM5 R05
    go_wp2_with fail
    refine (eqPoleS_any _ _ _ _ _ R3.out.toP R06.out.toP).mono ?_
    rintro e w7 ⟨rfl, hb7⟩
    have RM7 := Lib.hid (RM6.out.keep hb7)
    have B7 := Lib.hid (bl_trans hb7 B6.out)
    clear hb7
    go_wp2_with fail
    refine (heldPoleS_any _ _ _ _ RM7.out.toP (by omega) (by omega)).mono ?_
    rintro e w' ⟨rfl, m2, rfl⟩
    go_wp2
    go_ret
    exact ⟨rfl, bl_drewN B7.out _⟩
  · have hs' : (1048576 : Int) < (a0.size : Int) := by omega
    go_enter Tryd.func4, Tryd.ntmps4
    go_wp2
    go_ret
    exact ⟨rfl, Below.refl _ _⟩

/-- The heap that the start-up code leaves meets the condition. -/
theorem door_met (os : Os) (args : Array Value) : laidMetH Tryd.prog Rows.fnExactParsePolesRow.laid ((World.laidAll Tryd.prog os Rows.fnExactParsePolesRow.laid).forCall (fun _ _ => 0) ⟨#[], args, []⟩).memory :=
  by rw [MakeChecks.laidMetH_plain _ _ _ (by kernel_rfl)]; exact laidMet_laidAll _ (by kernel_rfl) (by kernel_rfl)
theorem tab_of_laid {W : World} (h : laidMetH Tryd.prog Rows.fnExactParsePolesRow.laid W) : Tab W := by
  rw [MakeChecks.laidMetH_plain _ _ _ (by kernel_rfl)] at h
  exact Lib.tabIs_of_head (g := 5) (by kernel_rfl) (by kernel_rfl) Tryd.underlying104 Tryd.underlying82 (by kernel_rfl) (by kernel_rfl) (laidMet.tail (laidMet.tail h))
theorem star : "*" ++ "errors.errorString" = "*errors.errorString" := by decide
theorem rowErr (u : TypeId) (h : Tryd.prog.typeName? 3 u = some "*errors.errorString") : u = 100 :=
  typeName_ptr_named (nm := "errors.errorString") (by rw [star]; kernel_rfl) (by kernel_rfl) (by decide) u (by rw [star]; exact h)
theorem errs_of_laid {W : World} (h : laidMetH Tryd.prog Rows.fnExactParsePolesRow.laid W) : Errs W := by
  rw [MakeChecks.laidMetH_plain _ _ _ (by kernel_rfl)] at h
  have h3 := laidMet.tail (laidMet.tail (laidMet.tail (laidMet.tail h)))
  obtain ⟨a0, s0, hv0, -, -, -⟩ := laid_sentinel h3 (g := 2) (by kernel_rfl) (by kernel_rfl) Tryd.underlying61 rowErr Tryd.underlying100 Tryd.underlying102 rfl rfl Tryd.underlying9 (by kernel_rfl) (by kernel_rfl)
  obtain ⟨a1, s1, hv1, -, -, -⟩ := laid_sentinel (laidMet.tail h3) (g := 1) (by kernel_rfl) (by kernel_rfl) Tryd.underlying61 rowErr Tryd.underlying100 Tryd.underlying102 rfl rfl Tryd.underlying9 (by kernel_rfl) (by kernel_rfl)
  exact ⟨⟨_, _, hv1⟩, _, _, hv0⟩
theorem max_of {W : World} (h : W.ShapedOpen Tryd.prog) : MaxL W := Tryd.laysM145.s1_3 W h

set_option maxRecDepth 100000 in
theorem reads (os : Os) {H : Type} (enc : TypeId × Value → H) : ∃ places, DataW.whole enc Tryd.prog ((World.laidAll Tryd.prog os Rows.fnExactParsePolesRow.laid).forCall (fun _ _ => 0) ⟨#[], #[.string ByteArray.empty], []⟩).memory Tryd.f4.params.toList Rows.fnExactParsePolesSpec.vars false (#[.string ByteArray.empty] : Array Value).toList 8 = some ([.lit (.string [])], [], places) :=
  ⟨[], by kernel_rfl⟩
set_option maxRecDepth 100000 in
theorem lifted (os : Os) (started : os.Started) (H : Type) (enc : TypeId × Value → H) (F : Stop.Interp) :
    ReturnsInHanded {} Tryd.checked os 4 .any ((OpenSpec.ofChange Rows.fnExactParsePolesSpec).preRow enc Tryd.prog Tryd.f4 Rows.fnExactParsePolesRow.domain false Rows.fnExactParsePolesRow.laid) (((OpenSpec.ofChange Rows.fnExactParsePolesSpec).at F).post enc Tryd.prog Tryd.f4 false true false false) := by
  obtain ⟨places, hx⟩ := reads os enc
  refine returnsInHanded_of_row (C := Tryd.checked) (s := OpenSpec.ofChange Rows.fnExactParsePolesSpec) own started (by kernel_rfl) Tryd.func4
    (witness_row_atRef (enc := enc) (C := Tryd.checked) false (World.laidAll Tryd.prog os Rows.fnExactParsePolesRow.laid) #[.string ByteArray.empty] (World.laidAll_os _ _ _) (by kernel_rfl) (by kernel_rfl) (by kernel_rfl)
      (OpenSpec.preRow_of_cond 8 hx (by kernel_rfl) (fun k hk => by cases hk) (by kernel_rfl) (door_met os _))) ?_
  intro W base args ds gs before hval0 hW hcnd _ hsz hL hsh _
  have hval : ∀ (j : Nat) t v, Tryd.f4.params[j]? = some t → args[j]? = some v → Value.okWide Tryd.prog W .any base t v := hval0
  have hW' := hW
  obtain ⟨p, q, hA0, hV, rfl, hfz, hnd⟩ := hW
  have hA : DataW.TrodAll enc Tryd.prog W 0 (fun _ => true) true Tryd.f4.params.toList args.toList ds p := hA0
  rw [Tryd.params4] at hA hval
  obtain ⟨v0, vs0, d0, ds0, p0, q0, hargs, rfl, rfl, h0, r0⟩ := trodAll_cons hA
  obtain ⟨rfl, rfl, rfl⟩ := trodAll_nil r0
  obtain rfl : args = #[v0] := by cases args; simp_all
  obtain ⟨rfl, rfl⟩ := trodVars_none hV
  have k0 := h0
  have lt0 : ∀ x ∈ p0, x.block < W.heap.size := by obtain ⟨m, hm⟩ := k0; exact DataW.trod_lt m _ _ _ hm
  obtain ⟨a0, rfl, rfl, rfl, w0⟩ := open_string Tryd.underlying9 (hval 0 9 v0 rfl rfl) h0
  clear hA0 hval0
  refine (walk a0 w0 W (tab_of_laid hL) (errs_of_laid hL) (max_of hsh)).mono fun e W' ⟨he, bel⟩ => ?_
  subst he
  exact ⟨_, rfl, _, _, _, [], _, [], hW', trodAll_mk1 (shut_bool Tryd.underlying4 _), (trodAll_cons_mk (Below.trod laidOut (by kernel_rfl) (of_decide_eq_true (by kernel_rfl)) k0 bel lt0) trodAll_mk0), rfl, bel.frame _, fun h => by cases h⟩

theorem over : Rows.fnExactParsePolesRow.holds Tryd.pinned (OpenSpec.ofChange Rows.fnExactParsePolesSpec) :=
  OpenClaim.holds_of_cond 4 Tryd.f4 rfl rfl rfl rfl rfl rfl rfl ⟨rfl, rfl, rfl, rfl, rfl⟩ rfl rfl rfl rfl rfl (by kernel_rfl) Tryd.func4 (by simp only [joinedFacts, make, lifts, may, Bool.and_true]; kernel_rfl)
    (of_decide_eq_true (by kernel_rfl)) (by unfold Func.isWrapper; first | (rw [if_pos (by decide +kernel)]; kernel_rfl) | (rw [if_neg (by decide +kernel)]; exact ⟨rfl, rfl⟩))
    (fun os started H enc _ F => by rw [OpenClaim.pre_eq_preRow]; exact lifted os started H enc F)

theorem bare : Rows.FnExactParsePolesSaid := over
theorem proved : Rows.FnExactParsePolesCardSaid :=
  Claim7.holds_tied_plain_at .later [] _ _ _ _
    bare (fun _ h => by cases h) (by kernel_rfl) (fun _ h => by cases h) fnExactParsePoles_row_tie rfl ⟨rfl, rfl⟩ (by kernel_rfl) rfl
    (fun f fn hf hfn => by
      obtain rfl : f = 4 := Option.some.inj ((show Tryd.prog.funcNamed Rows.fnExactParsePolesRow.func = some 4 by kernel_rfl).symm.trans hf) |>.symm
      obtain rfl : fn = Tryd.f4 := (Option.some.inj (Tryd.func4.symm.trans hfn)).symm
      exact ⟨by kernel_rfl, fun j t ht => by
        rw [Tryd.params4] at ht
        have hm : t ∈ [9] := by simpa using Array.mem_of_getElem? ht
        have hall : ([9].all fun u => !Tryd.prog.wantsStandIn u) = true := by kernel_rfl
        exact (show Tryd.prog.wantsStandIn t = false by simpa using List.all_eq_true.1 hall t hm)⟩)
    (by kernel_rfl)
#print axioms proved
end Go.Proofs.YtlingdlhdkkfpaaDoor.fnExactParsePoles
