/- The law 'FnExactWholeCrossings' holds for every input. -/
import Derived.Test.YtophkahaefbkiaaW3
import Derived.Test.YtophkahaefbkiaaO
import Derived.ProofKit
import Derived.OpenShut
import Derived.ShutString
import Derived.ChangeOld
import Derived.Lib.SmallJoins
namespace Go.Proofs.Ytophkahaefbkiaa.fnExactWholeCrossings
open Go.ChangeShapes Go.WideShapes Go.ChangeAt Go.RowKit Go.Joins
open Go.ChangeMaps (open_string shut_string)
set_option linter.unusedVariables false
set_option linter.unusedSimpArgs false
theorem own : ownKnob Try.prog.godebug = none := by kernel_rfl
theorem laidOut : laidOutB Try.prog = true := by kernel_rfl

set_option maxHeartbeats 1000000 in
theorem walk (a0 : Int) (w0 : (Lit.int .i64 a0).wf = true) (w : World) :
    Calls Try.prog 3 #[.int .i64 a0] w fun e w' => e = .returned (.bool true) ∧ Below w.heap.size w w' := by
  have hT := Nat.le_trans (WCL_len a0) (show 20000000 ≤ 1000000000 by omega)
  go_enter Try.func3, Try.ntmps3
  go_wp2_with fail
  refine (spec_WholeCrossings _ _).mono ?_
  rintro e w1 ⟨v0, n0, rfl, r0, hb1⟩
  have R0 := Lib.hid r0
  have B1 := Lib.hid hb1
  clear r0 hb1
  go_wp2_with fail
  refine (impl_WholeCrossings _ _).mono ?_
  rintro e w2 ⟨g0, n1, rfl, r1, hb2⟩
  have en : n1 = n0 := by
    have h1 := r1.1
    have h2 := R0.out.1
    omega
  subst en
  have hn : n1 * 3 ≤ 1000000000 := by rw [← r1.1]; exact hT
  have R1 := Lib.hid r1
  have R02 := Lib.hid (R0.out.keep hb2)
  have B2 := Lib.hid (bl_trans hb2 B1.out)
  have hs2 : w1.heap.size ≤ w2.heap.size := hb2.size
  clear r1 hb2 hT
  go_wp2_with fail
  refine (eqLaddersS_any _ _ _ _ _ R1.out.2.toP R02.out.2.toP).mono ?_
  rintro e w3 ⟨rfl, hb3⟩
  have R1 := Lib.hid (R1.out.keep hb3)
  have R03 := Lib.hid (R02.out.keep hb3)
  have B3 := Lib.hid (bl_trans hb3 B2.out)
  have hs3 : w2.heap.size ≤ w3.heap.size := hb3.size
  clear hb3 R02
  go_wp2_with fail
  refine (markLaddersS_any _ _ _ _ w1.heap.size _ R1.out.2 (by omega) (by omega)).mono ?_
  rintro e w4 ⟨rfl, rm, hg, hsz⟩
  have hbm : Below w1.heap.size w3 w4 := (Below.refl _ _).grown hg (by omega) fun g e => (World.ownsRow.lt R1.out.2 g e).1
  have RM := Lib.hid rm
  have R04 := Lib.hid (show LLad w4 w.heap.size v0 n1 (WCL a0) from ⟨R03.out.1, World.ownsRow.kept R03.out.2 hg (by
    cases hv : v0.ownBlock with
    | none => exact .inl rfl
    | some g => exact .inr (fun e => by
        have h1 := (World.ownsRow.lt R0.out.2 g hv).2
        have h2 := (World.ownsRow.lt R1.out.2 g e.symm).1
        omega))⟩)
  have B4 := Lib.hid (B3.out.trans (hbm.mono (by have := B1.out.size; omega)))
  clear rm hg hbm R03 R1
  go_wp2_with fail
  refine (heldLaddersS_any _ _ _ _ RM.out.toP (by omega) (by omega)).mono ?_
  rintro e w' ⟨rfl, m1, rfl⟩
  have RM5 := Lib.hid (RM.out.keep (below_drewN (Below.refl _ _) m1))
  have R05 := Lib.hid (R04.out.keep (below_drewN (Below.refl _ _) m1))
  have B5 := Lib.hid (bl_drewN B4.out m1)
  clear RM R04
  generalize w4.drewN m1 = w5 at *
  go_wp2_with fail
  refine (impl_WholeCrossings _ _).mono ?_
  rintro e w6 ⟨h0, n2, rfl, r3, hb6⟩
  have en : n2 = n1 := by
    have h1 := r3.1
    have h2 := R05.out.1
    omega
  subst en
  have R3 := Lib.hid r3
  have RM6 := Lib.hid (RM5.out.keep hb6)
  have R06 := Lib.hid (R05.out.keep hb6)
  have B6 := Lib.hid (bl_trans hb6 B5.out)
  clear r3 hb6 RM5 R05
  go_wp2_with fail
  refine (eqLaddersS_any _ _ _ _ _ R3.out.2.toP R06.out.2.toP).mono ?_
  rintro e w7 ⟨rfl, hb7⟩
  have RM7 := Lib.hid (RM6.out.keep hb7)
  have B7 := Lib.hid (bl_trans hb7 B6.out)
  clear hb7
  go_wp2_with fail
  refine (heldLaddersS_any _ _ _ _ RM7.out.toP (by omega) (by omega)).mono ?_
  rintro e w' ⟨rfl, m2, rfl⟩
  go_wp2
  go_ret
  exact ⟨rfl, bl_drewN B7.out _⟩

set_option maxRecDepth 100000 in
theorem lifted (os : Os) (started : os.Started) (H : Type) (enc : TypeId × Value → H) :
    ReturnsInHanded {} Try.checked os 3 .any (Rows.fnExactWholeCrossingsSpec.pre6 enc Try.prog Try.f3 Rows.fnExactWholeCrossingsRow.domain false) (Rows.fnExactWholeCrossingsSpec.post enc Try.prog Try.f3 false true false false) := by
  refine returnsInHanded_of_change (C := Try.checked) own started (by kernel_rfl) Try.func3
    (ChangeSpec.witness6 (enc := enc) (C := Try.checked) false ⟨#[], #[.int .i64 0], []⟩ 8 (by kernel_rfl) (by kernel_rfl) (by kernel_rfl) (by kernel_rfl)) ?_
  intro W base args ds gs before hval0 hW hcnd _
  have hval : ∀ (j : Nat) t v, Try.f3.params[j]? = some t → args[j]? = some v → Value.okWide Try.prog W .any base t v := hval0
  have hW' := hW
  obtain ⟨p, q, hA0, hV, rfl, hfz, hnd⟩ := hW
  have hA : DataW.TrodAll enc Try.prog W 0 (fun _ => true) true Try.f3.params.toList args.toList ds p := hA0
  rw [Try.params3] at hA hval
  obtain ⟨v0, vs0, d0, ds0, p0, q0, hargs, rfl, rfl, h0, r0⟩ := trodAll_cons hA
  obtain ⟨rfl, rfl, rfl⟩ := trodAll_nil r0
  obtain rfl : args = #[v0] := by cases args; simp_all
  obtain ⟨rfl, rfl⟩ := trodVars_none hV
  have k0 := h0
  have lt0 : ∀ x ∈ p0, x.block < W.heap.size := by obtain ⟨m, hm⟩ := k0; exact DataW.trod_lt m _ _ _ hm
  obtain ⟨a0, rfl, rfl, rfl, w0⟩ := open_int Try.underlying3 (hval 0 3 v0 rfl rfl) h0
  clear hA0 hval0
  refine (walk a0 w0 W ).mono fun e W' ⟨he, bel⟩ => ?_
  subst he
  exact ⟨_, rfl, _, _, _, [], _, [], hW', trodAll_mk1 (shut_bool Try.underlying4 _), (trodAll_cons_mk (Below.trod laidOut (by kernel_rfl) (of_decide_eq_true (by kernel_rfl)) k0 bel lt0) trodAll_mk0), rfl, bel.frame _, fun h => by cases h⟩

theorem over : Rows.fnExactWholeCrossingsRow.holds Try.pinned (OpenSpec.ofChange Rows.fnExactWholeCrossingsSpec) :=
  OpenClaim.holds_of_wide 3 Try.f3 rfl rfl rfl rfl rfl rfl rfl ⟨rfl, rfl, rfl, rfl, rfl⟩ rfl rfl rfl rfl rfl (by kernel_rfl) Try.func3 (by simp only [joinedFacts, make, lifts, may, Bool.and_true]; kernel_rfl)
    (of_decide_eq_true (by kernel_rfl)) (by unfold Func.isWrapper; first | (rw [if_pos (by decide +kernel)]; kernel_rfl) | (rw [if_neg (by decide +kernel)]; exact ⟨rfl, rfl⟩))
    (fun os started H enc _ => lifted os started H enc)

theorem proved : Rows.FnExactWholeCrossingsSaid := over
#print axioms proved
end Go.Proofs.Ytophkahaefbkiaa.fnExactWholeCrossings
