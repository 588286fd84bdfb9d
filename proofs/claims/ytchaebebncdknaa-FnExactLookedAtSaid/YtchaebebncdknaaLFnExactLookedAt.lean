/- The law 'FnExactLookedAt' holds for every input. -/
import Derived.Test.YtchaebebncdknaaMI3
import Derived.Test.YtchaebebncdknaaO
import Derived.ProofKit
import Derived.OpenShut
import Derived.ShutString
import Derived.ChangeOld
import Derived.Lib.SmallJoins
namespace Go.Proofs.Ytchaebebncdknaa.fnExactLookedAt
open Go.ChangeShapes Go.WideShapes Go.ChangeAt Go.RowKit Go.Joins
open Go.ChangeMaps (open_string shut_string)
set_option linter.unusedVariables false
set_option linter.unusedSimpArgs false
theorem own : ownKnob Try.prog.godebug = none := by kernel_rfl
theorem laidOut : laidOutB Try.prog = true := by kernel_rfl

set_option maxHeartbeats 1000000 in
theorem walk (v0 : Value) (xs0 : List Int) (v1 : Value) (xs1 : List Int) (w : World) (hP0 : QRow w v0 xs0) (hP1 : QRow w v1 xs1) :
    Calls Try.prog 21 #[v0, v1] w fun e w' => e = .returned (.bool true) ∧ Below w.heap.size w w' := by
  have HH0 := Lib.hid hP0
  have HH1 := Lib.hid hP1
  have hl0 := hP0.len_le
  have hl1 := hP1.len_le
  have hsh0 := hP0.shape
  have hsh1 := hP1.shape
  obtain ⟨s0, c0, rfl⟩ := hsh0
  obtain ⟨s1, c1, rfl⟩ := hsh1
  clear hP0 hP1
  by_cases hn0 : xs0.length ≤ 1048576
  · by_cases hn1 : xs1.length ≤ 1048576
    · go_enter Try.func21, Try.ntmps21
      go_wp2_with fail
      refine (toIntS_any _ _ _ HH0.out hn0).mono ?_
      rintro e w1 ⟨uA, rfl, hA, hb1⟩
      have B0 := Lib.hid hb1
      have A := Lib.hid hA
      clear hA
      clear hb1
      go_wp2_with fail
      refine (toIntS_any _ _ _ (HH1.out.keep B0.out) hn1).mono ?_
      rintro e w2 ⟨uC, rfl, hC, hb2⟩
      replace A := Lib.hid (A.out.keep hb2)
      replace B0 := Lib.hid (bl_trans hb2 B0.out)
      have C := Lib.hid hC
      clear hC
      clear hb2
      go_wp2_with fail
      refine (spec_LookedAt _ _ _ _ _ A.out.toQ C.out.toQ).mono ?_
      rintro e w3 ⟨rfl, hb3⟩
      replace A := Lib.hid (A.out.keep hb3)
      replace C := Lib.hid (C.out.keep hb3)
      replace B0 := Lib.hid (bl_trans hb3 B0.out)
      clear hb3
      clear A
      clear C
      go_wp2_with fail
      refine (toIntS_any _ _ _ (HH0.out.keep B0.out) hn0).mono ?_
      rintro e w4 ⟨uX, rfl, hX, hb4⟩
      replace B0 := Lib.hid (bl_trans hb4 B0.out)
      have X := Lib.hid hX
      clear hX
      clear hb4
      go_wp2_with fail
      refine (toIntS_any _ _ _ (HH1.out.keep B0.out) hn1).mono ?_
      rintro e w5 ⟨uY, rfl, hY, hb5⟩
      replace X := Lib.hid (X.out.keep hb5)
      replace B0 := Lib.hid (bl_trans hb5 B0.out)
      have Y := Lib.hid hY
      clear hY
      clear hb5
      go_wp2_with fail
      refine (impl_LookedAt _ _ _ _ _ X.out.toQ Y.out.toQ).mono ?_
      rintro e w6 ⟨rfl, hb6⟩
      replace X := Lib.hid (X.out.keep hb6)
      replace Y := Lib.hid (Y.out.keep hb6)
      replace B0 := Lib.hid (bl_trans hb6 B0.out)
      clear hb6
      go_wp2_with fail
      refine (toIntS_any _ _ _ (HH0.out.keep B0.out) hn0).mono ?_
      rintro e w7 ⟨uZ, rfl, hZ, hb7⟩
      replace X := Lib.hid (X.out.keep hb7)
      replace Y := Lib.hid (Y.out.keep hb7)
      replace B0 := Lib.hid (bl_trans hb7 B0.out)
      have Z := Lib.hid hZ
      clear hZ
      clear hb7
      go_wp2_with fail
      refine (eqIntS_any _ _ _ _ _ _ X.out Z.out).mono ?_
      rintro e w' ⟨rfl, nq8, rfl⟩
      replace X := Lib.hid (X.out.keep (below_drewN (Below.refl _ _) nq8))
      replace Y := Lib.hid (Y.out.keep (below_drewN (Below.refl _ _) nq8))
      replace Z := Lib.hid (Z.out.keep (below_drewN (Below.refl _ _) nq8))
      replace B0 := Lib.hid (bl_drewN B0.out nq8)
      generalize w7.drewN nq8 = w8 at *
      clear X
      clear Z
      go_wp2_with fail
      refine (toIntS_any _ _ _ (HH1.out.keep B0.out) hn1).mono ?_
      rintro e w9 ⟨uV, rfl, hV, hb9⟩
      replace Y := Lib.hid (Y.out.keep hb9)
      replace B0 := Lib.hid (bl_trans hb9 B0.out)
      have V := Lib.hid hV
      clear hV
      clear hb9
      go_wp2_with fail
      refine (eqIntS_any _ _ _ _ _ _ Y.out V.out).mono ?_
      rintro e w' ⟨rfl, nq10, rfl⟩
      replace Y := Lib.hid (Y.out.keep (below_drewN (Below.refl _ _) nq10))
      replace V := Lib.hid (V.out.keep (below_drewN (Below.refl _ _) nq10))
      replace B0 := Lib.hid (bl_drewN B0.out nq10)
      generalize w9.drewN nq10 = w10 at *
      go_wp2
      go_ret
      exact ⟨rfl, B0.out⟩
    · go_enter Try.func21, Try.ntmps21
      go_wp2
      go_ret
      exact ⟨rfl, Below.refl _ _⟩
  · go_enter Try.func21, Try.ntmps21
    go_wp2
    go_ret
    exact ⟨rfl, Below.refl _ _⟩

set_option maxRecDepth 100000 in
theorem lifted (os : Os) (started : os.Started) (H : Type) (enc : TypeId × Value → H) :
    ReturnsInHanded {} Try.checked os 21 .any (Rows.fnExactLookedAtSpec.pre6 enc Try.prog Try.f21 Rows.fnExactLookedAtRow.domain false) (Rows.fnExactLookedAtSpec.post enc Try.prog Try.f21 false true false false) := by
  refine returnsInHanded_of_change (C := Try.checked) own started (by kernel_rfl) Try.func21
    (ChangeSpec.witness6 (enc := enc) (C := Try.checked) false ⟨#[], #[.slice none 0 0, .slice none 0 0], []⟩ 8 (by kernel_rfl) (by kernel_rfl) (by kernel_rfl) (by kernel_rfl)) ?_
  intro W base args ds gs before hval0 hW hcnd _
  have hval : ∀ (j : Nat) t v, Try.f21.params[j]? = some t → args[j]? = some v → Value.okWide Try.prog W .any base t v := hval0
  have hW' := hW
  obtain ⟨p, q, hA0, hV, rfl, hfz, hnd⟩ := hW
  have hA : DataW.TrodAll enc Try.prog W 0 (fun _ => true) true Try.f21.params.toList args.toList ds p := hA0
  rw [Try.params21] at hA hval
  obtain ⟨v0, vs0, d0, ds0, p0, q0, hargs, rfl, rfl, h0, r0⟩ := trodAll_cons hA
  obtain ⟨v1, vs1, d1, ds1, p1, q1, rfl, rfl, rfl, h1, r1⟩ := trodAll_cons r0
  obtain ⟨rfl, rfl, rfl⟩ := trodAll_nil r1
  obtain rfl : args = #[v0, v1] := by cases args; simp_all
  obtain ⟨rfl, rfl⟩ := trodVars_none hV
  have k0 := h0
  have lt0 : ∀ x ∈ p0, x.block < W.heap.size := by obtain ⟨m, hm⟩ := k0; exact DataW.trod_lt m _ _ _ hm
  have k1 := h1
  have lt1 : ∀ x ∈ p1, x.block < W.heap.size := by obtain ⟨m, hm⟩ := k1; exact DataW.trod_lt m _ _ _ hm
  obtain ⟨xs0, hP0⟩ := open_q (hval 0 56 v0 rfl rfl) h0
  obtain ⟨xs1, hP1⟩ := open_q (hval 1 56 v1 rfl rfl) h1
  clear hA0 hval0
  refine (walk v0 xs0 v1 xs1 W hP0 hP1).mono fun e W' ⟨he, bel⟩ => ?_
  subst he
  exact ⟨_, rfl, _, _, _, [], _, [], hW', trodAll_mk1 (shut_bool Try.underlying4 _), (trodAll_cons_mk (Below.trod laidOut (by kernel_rfl) (of_decide_eq_true (by kernel_rfl)) k0 bel lt0) (trodAll_cons_mk (Below.trod laidOut (by kernel_rfl) (of_decide_eq_true (by kernel_rfl)) k1 bel lt1) trodAll_mk0)), rfl, bel.frame _, fun h => by cases h⟩

theorem over : Rows.fnExactLookedAtRow.holds Try.pinned (OpenSpec.ofChange Rows.fnExactLookedAtSpec) :=
  OpenClaim.holds_of_wide 21 Try.f21 rfl rfl rfl rfl rfl rfl rfl ⟨rfl, rfl, rfl, rfl, rfl⟩ rfl rfl rfl rfl rfl (by kernel_rfl) Try.func21 (by simp only [joinedFacts, make, lifts, may, Bool.and_true]; kernel_rfl)
    (of_decide_eq_true (by kernel_rfl)) (by unfold Func.isWrapper; first | (rw [if_pos (by decide +kernel)]; kernel_rfl) | (rw [if_neg (by decide +kernel)]; exact ⟨rfl, rfl⟩))
    (fun os started H enc _ => lifted os started H enc)

theorem proved : Rows.FnExactLookedAtSaid := over
#print axioms proved
end Go.Proofs.Ytchaebebncdknaa.fnExactLookedAt
