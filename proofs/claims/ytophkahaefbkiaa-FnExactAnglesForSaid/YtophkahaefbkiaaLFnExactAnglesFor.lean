/- The law 'FnExactAnglesFor' holds for every input. -/
import Derived.Test.YtophkahaefbkiaaMI9
import Derived.Test.YtophkahaefbkiaaO
import Derived.ProofKit
import Derived.OpenShut
import Derived.ShutString
import Derived.ChangeOld
import Derived.Lib.SmallJoins
namespace Go.Proofs.Ytophkahaefbkiaa.fnExactAnglesFor
open Go.ChangeShapes Go.WideShapes Go.ChangeAt Go.RowKit Go.Joins
open Go.ChangeMaps (open_string shut_string)
set_option linter.unusedVariables false
set_option linter.unusedSimpArgs false
theorem own : ownKnob Try.prog.godebug = none := by kernel_rfl
theorem laidOut : laidOutB Try.prog = true := by kernel_rfl
theorem far_ne {u v : Value} {C : Nat} (hu : ∀ k, u.ownBlock = some k → C ≤ k) (hv : ∀ k, v.ownBlock = some k → k < C) : u.ownBlock = none ∨ u.ownBlock ≠ v.ownBlock := by
  cases e : u.ownBlock with
  | none => exact .inl rfl
  | some q =>
    refine .inr fun e' => ?_
    have a1 := hu q e
    have a2 := hv q e'.symm
    omega
theorem far_ne2 {u v : Value} {C : Nat} (hu : ∀ k, u.ownBlock = some k → k < C) (hv : ∀ k, v.ownBlock = some k → C ≤ k) : u.ownBlock = none ∨ u.ownBlock ≠ v.ownBlock := by
  cases e : u.ownBlock with
  | none => exact .inl rfl
  | some q =>
    refine .inr fun e' => ?_
    have a1 := hu q e
    have a2 := hv q e'.symm
    omega

set_option maxHeartbeats 1000000 in
theorem walk (a0 : Int) (w0 : (Lit.int .i64 a0).wf = true) (w : World) :
    Calls Try.prog 7 #[.int .i64 a0] w fun e w' => e = .returned (.bool true) ∧ Below w.heap.size w w' := by
  have hx := ANG_len a0
  go_enter Try.func7, Try.ntmps7
  go_wp2_with fail
  refine (spec_AnglesFor _ _).mono ?_
  rintro e w1 ⟨uR, rfl, hR, hb1⟩
  have B0 := Lib.hid hb1
  have Rlt := Lib.hid (fun k e => (World.ownsRow.lt hR k e).2 : ∀ k, uR.ownBlock = some k → k < w1.heap.size)
  have SW := Lib.hid (hb1.size : w.heap.size ≤ w1.heap.size)
  have R := Lib.hid hR
  clear hR
  clear hb1
  go_wp2_with fail
  refine (impl_AnglesFor _ _).mono ?_
  rintro e w2 ⟨uG, rfl, hG, hb2⟩
  replace R := Lib.hid (R.out.keep hb2)
  replace B0 := Lib.hid (bl_trans hb2 B0.out)
  have Glt := Lib.hid (fun k e => (World.ownsRow.lt hG k e).1 : ∀ k, uG.ownBlock = some k → w1.heap.size ≤ k)
  have G := Lib.hid hG
  clear hG
  clear hb2
  go_wp2_with fail
  refine (eqIntS_any _ _ _ _ _ _ G.out R.out).mono ?_
  rintro e w' ⟨rfl, nq3, rfl⟩
  replace R := Lib.hid (R.out.keep (below_drewN (Below.refl _ _) nq3))
  replace G := Lib.hid (G.out.keep (below_drewN (Below.refl _ _) nq3))
  replace B0 := Lib.hid (bl_drewN B0.out nq3)
  generalize w2.drewN nq3 = w3 at *
  go_wp2_with fail
  refine (markIntS_any _ _ _ _ _ G.out (by omega) (by omega)).mono ?_
  rintro e wp ⟨rfl, hG2, hg3, hs3⟩
  replace R := Lib.hid (show IRow wp _ _ _ from World.ownsRow.kept R.out hg3 (far_ne2 (C := w1.heap.size) Rlt.out Glt.out))
  replace B0 := Lib.hid (B0.out.grown hg3 B0.out.size (fun k e => Nat.le_trans SW.out (Glt.out k e)))
  replace G := Lib.hid hG2
  clear hG2 hg3 hs3
  go_wp2_with fail
  refine (heldIntS_any _ _ _ _ _ G.out (by omega) (by omega)).mono ?_
  rintro e w' ⟨rfl, nq4, rfl⟩
  replace R := Lib.hid (R.out.keep (below_drewN (Below.refl _ _) nq4))
  replace G := Lib.hid (G.out.keep (below_drewN (Below.refl _ _) nq4))
  replace B0 := Lib.hid (bl_drewN B0.out nq4)
  generalize wp.drewN nq4 = w4 at *
  go_wp2_with fail
  refine (impl_AnglesFor _ _).mono ?_
  rintro e w5 ⟨uH, rfl, hH, hb5⟩
  replace R := Lib.hid (R.out.keep hb5)
  replace G := Lib.hid (G.out.keep hb5)
  replace B0 := Lib.hid (bl_trans hb5 B0.out)
  have H := Lib.hid hH
  clear hH
  clear hb5
  go_wp2_with fail
  refine (eqIntS_any _ _ _ _ _ _ H.out R.out).mono ?_
  rintro e w' ⟨rfl, nq6, rfl⟩
  replace R := Lib.hid (R.out.keep (below_drewN (Below.refl _ _) nq6))
  replace G := Lib.hid (G.out.keep (below_drewN (Below.refl _ _) nq6))
  replace H := Lib.hid (H.out.keep (below_drewN (Below.refl _ _) nq6))
  replace B0 := Lib.hid (bl_drewN B0.out nq6)
  generalize w5.drewN nq6 = w6 at *
  clear H
  clear R
  go_wp2_with fail
  refine (heldIntS_any _ _ _ _ _ G.out (by omega) (by omega)).mono ?_
  rintro e w' ⟨rfl, nq7, rfl⟩
  replace G := Lib.hid (G.out.keep (below_drewN (Below.refl _ _) nq7))
  replace B0 := Lib.hid (bl_drewN B0.out nq7)
  generalize w6.drewN nq7 = w7 at *
  go_wp2
  go_ret
  exact ⟨rfl, B0.out⟩

set_option maxRecDepth 100000 in
theorem lifted (os : Os) (started : os.Started) (H : Type) (enc : TypeId × Value → H) :
    ReturnsInHanded {} Try.checked os 7 .any (Rows.fnExactAnglesForSpec.pre6 enc Try.prog Try.f7 Rows.fnExactAnglesForRow.domain false) (Rows.fnExactAnglesForSpec.post enc Try.prog Try.f7 false true false false) := by
  refine returnsInHanded_of_change (C := Try.checked) own started (by kernel_rfl) Try.func7
    (ChangeSpec.witness6 (enc := enc) (C := Try.checked) false ⟨#[], #[.int .i64 0], []⟩ 8 (by kernel_rfl) (by kernel_rfl) (by kernel_rfl) (by kernel_rfl)) ?_
  intro W base args ds gs before hval0 hW hcnd _
  have hval : ∀ (j : Nat) t v, Try.f7.params[j]? = some t → args[j]? = some v → Value.okWide Try.prog W .any base t v := hval0
  have hW' := hW
  obtain ⟨p, q, hA0, hV, rfl, hfz, hnd⟩ := hW
  have hA : DataW.TrodAll enc Try.prog W 0 (fun _ => true) true Try.f7.params.toList args.toList ds p := hA0
  rw [Try.params7] at hA hval
  obtain ⟨v0, vs0, d0, ds0, p0, q0, hargs, rfl, rfl, h0, r0⟩ := trodAll_cons hA
  obtain ⟨rfl, rfl, rfl⟩ := trodAll_nil r0
  obtain rfl : args = #[v0] := by cases args; simp_all
  obtain ⟨rfl, rfl⟩ := trodVars_none hV
  have k0 := h0
  have lt0 : ∀ x ∈ p0, x.block < W.heap.size := by obtain ⟨m, hm⟩ := k0; exact DataW.trod_lt m _ _ _ hm
  obtain ⟨a0, rfl, rfl, rfl, w0⟩ := open_int Try.underlying3 (hval 0 3 v0 rfl rfl) h0
  clear hA0 hval0
  refine (walk a0 w0 W ).mono fun e W' ⟨he, bel⟩ => ?_
  subst he
  exact ⟨_, rfl, _, _, _, [], _, [], hW', trodAll_mk1 (shut_bool Try.underlying4 _), (trodAll_cons_mk (Below.trod laidOut (by kernel_rfl) (of_decide_eq_true (by kernel_rfl)) k0 bel lt0) trodAll_mk0), rfl, bel.frame _, fun h => by cases h⟩

theorem over : Rows.fnExactAnglesForRow.holds Try.pinned (OpenSpec.ofChange Rows.fnExactAnglesForSpec) :=
  OpenClaim.holds_of_wide 7 Try.f7 rfl rfl rfl rfl rfl rfl rfl ⟨rfl, rfl, rfl, rfl, rfl⟩ rfl rfl rfl rfl rfl (by kernel_rfl) Try.func7 (by simp only [joinedFacts, make, lifts, may, Bool.and_true]; kernel_rfl)
    (of_decide_eq_true (by kernel_rfl)) (by unfold Func.isWrapper; first | (rw [if_pos (by decide +kernel)]; kernel_rfl) | (rw [if_neg (by decide +kernel)]; exact ⟨rfl, rfl⟩))
    (fun os started H enc _ => lifted os started H enc)

theorem proved : Rows.FnExactAnglesForSaid := over
#print axioms proved
end Go.Proofs.Ytophkahaefbkiaa.fnExactAnglesFor
