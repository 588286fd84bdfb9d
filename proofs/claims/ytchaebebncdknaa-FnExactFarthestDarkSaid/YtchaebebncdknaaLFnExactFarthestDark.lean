/- The law 'FnExactFarthestDark' holds for every input. -/
import Derived.Test.YtchaebebncdknaaPL3
import Derived.Test.YtchaebebncdknaaO
import Derived.ProofKit
import Derived.OpenShut
import Derived.ShutString
import Derived.ChangeOld
import Derived.Lib.SmallJoins
namespace Go.Proofs.Ytchaebebncdknaa.fnExactFarthestDark
open Go.ChangeShapes Go.WideShapes Go.ChangeAt Go.RowKit Go.Joins
open Go.ChangeMaps (open_string shut_string)
set_option linter.unusedVariables false
set_option linter.unusedSimpArgs false
theorem own : ownKnob Try.prog.godebug = none := by kernel_rfl
theorem laidOut : laidOutB Try.prog = true := by kernel_rfl

set_option maxHeartbeats 1000000 in
theorem walk (a0 : Int) (v1 : Value) (n1 : Nat) (f1 : Nat → Int) (w0 : (Lit.int .i64 a0).wf = true) (w : World) (hP1 : PRow w v1 n1 f1) :
    Calls Try.prog 19 #[.int .i64 a0, v1] w fun e w' => e = .returned (.bool true) ∧ Below w.heap.size w w' := by
  have HH := Lib.hid hP1
  clear hP1
  by_cases hn : n1 ≤ 1048576
  · go_enter Try.func19, Try.ntmps19
    go_wp2_with fail
    refine (szPoleS_any _ _ _ _ HH.out).mono ?_
    rintro e w' ⟨rfl, rfl⟩
    rw [if_pos hn]
    go_wp2_with fail
    refine (toPoleS_any _ _ _ _ HH.out hn).mono ?_
    rintro e w1 ⟨u1, rfl, hO1, hb1⟩
    have O1 := Lib.hid hO1
    have B1 := Lib.hid hb1
    clear hO1 hb1
    go_wp2_with fail
    refine (spec_FarthestDark _ _ _ _ _ O1.out.toP).mono ?_
    rintro e w2 ⟨rfl, hb2⟩
    have B2 := Lib.hid (bl_trans hb2 B1.out)
    clear hb2
    go_wp2_with fail
    refine (toPoleS_any _ _ _ _ (HH.out.keep B2.out) hn).mono ?_
    rintro e w3 ⟨u2, rfl, hO2, hb3⟩
    have O2 := Lib.hid hO2
    have B3 := Lib.hid (bl_trans hb3 B2.out)
    clear hO2 hb3
    go_wp2_with fail
    refine (impl_FarthestDark _ _ _ _ _ O2.out.toP).mono ?_
    rintro e w4 ⟨rfl, hb4⟩
    have O3 := Lib.hid (O2.out.keep hb4)
    have B4 := Lib.hid (bl_trans hb4 B3.out)
    clear hb4
    go_wp2_with fail
    refine (toPoleS_any _ _ _ _ (HH.out.keep B4.out) hn).mono ?_
    rintro e w5 ⟨u3, rfl, hO4, hb5⟩
    have O4 := Lib.hid hO4
    have O5 := Lib.hid (O3.out.keep hb5)
    have B5 := Lib.hid (bl_trans hb5 B4.out)
    clear hO4 hb5
    go_wp2_with fail
    refine (eqPoleS_any _ _ _ _ _ O5.out.toP O4.out.toP).mono ?_
    rintro e w6 ⟨rfl, hb6⟩
    go_wp2
    go_ret
    exact ⟨rfl, bl_trans hb6 B5.out⟩
  · go_enter Try.func19, Try.ntmps19
    go_wp2_with fail
    refine (szPoleS_any _ _ _ _ HH.out).mono ?_
    rintro e w' ⟨rfl, rfl⟩
    rw [if_neg hn]
    go_wp2
    go_ret
    exact ⟨rfl, Below.refl _ _⟩

set_option maxRecDepth 100000 in
theorem lifted (os : Os) (started : os.Started) (H : Type) (enc : TypeId × Value → H) :
    ReturnsInHanded {} Try.checked os 19 .any (Rows.fnExactFarthestDarkSpec.pre6 enc Try.prog Try.f19 Rows.fnExactFarthestDarkRow.domain false) (Rows.fnExactFarthestDarkSpec.post enc Try.prog Try.f19 false true false false) := by
  refine returnsInHanded_of_change (C := Try.checked) own started (by kernel_rfl) Try.func19
    (ChangeSpec.witness6 (enc := enc) (C := Try.checked) false ⟨#[], #[.int .i64 0, .slice none 0 0], []⟩ 8 (by kernel_rfl) (by kernel_rfl) (by kernel_rfl) (by kernel_rfl)) ?_
  intro W base args ds gs before hval0 hW hcnd _
  have hval : ∀ (j : Nat) t v, Try.f19.params[j]? = some t → args[j]? = some v → Value.okWide Try.prog W .any base t v := hval0
  have hW' := hW
  obtain ⟨p, q, hA0, hV, rfl, hfz, hnd⟩ := hW
  have hA : DataW.TrodAll enc Try.prog W 0 (fun _ => true) true Try.f19.params.toList args.toList ds p := hA0
  rw [Try.params19] at hA hval
  obtain ⟨v0, vs0, d0, ds0, p0, q0, hargs, rfl, rfl, h0, r0⟩ := trodAll_cons hA
  obtain ⟨v1, vs1, d1, ds1, p1, q1, rfl, rfl, rfl, h1, r1⟩ := trodAll_cons r0
  obtain ⟨rfl, rfl, rfl⟩ := trodAll_nil r1
  obtain rfl : args = #[v0, v1] := by cases args; simp_all
  obtain ⟨rfl, rfl⟩ := trodVars_none hV
  have k0 := h0
  have lt0 : ∀ x ∈ p0, x.block < W.heap.size := by obtain ⟨m, hm⟩ := k0; exact DataW.trod_lt m _ _ _ hm
  have k1 := h1
  have lt1 : ∀ x ∈ p1, x.block < W.heap.size := by obtain ⟨m, hm⟩ := k1; exact DataW.trod_lt m _ _ _ hm
  obtain ⟨a0, rfl, rfl, rfl, w0⟩ := open_int Try.underlying3 (hval 0 3 v0 rfl rfl) h0
  obtain ⟨n1, f1, hP1⟩ := open_poles (hval 1 47 v1 rfl rfl) h1
  clear hA0 hval0
  refine (walk a0 v1 n1 f1 w0 W hP1).mono fun e W' ⟨he, bel⟩ => ?_
  subst he
  exact ⟨_, rfl, _, _, _, [], _, [], hW', trodAll_mk1 (shut_bool Try.underlying4 _), (trodAll_cons_mk (Below.trod laidOut (by kernel_rfl) (of_decide_eq_true (by kernel_rfl)) k0 bel lt0) (trodAll_cons_mk (Below.trod laidOut (by kernel_rfl) (of_decide_eq_true (by kernel_rfl)) k1 bel lt1) trodAll_mk0)), rfl, bel.frame _, fun h => by cases h⟩

theorem over : Rows.fnExactFarthestDarkRow.holds Try.pinned (OpenSpec.ofChange Rows.fnExactFarthestDarkSpec) :=
  OpenClaim.holds_of_wide 19 Try.f19 rfl rfl rfl rfl rfl rfl rfl ⟨rfl, rfl, rfl, rfl, rfl⟩ rfl rfl rfl rfl rfl (by kernel_rfl) Try.func19 (by simp only [joinedFacts, make, lifts, may, Bool.and_true]; kernel_rfl)
    (of_decide_eq_true (by kernel_rfl)) (by unfold Func.isWrapper; first | (rw [if_pos (by decide +kernel)]; kernel_rfl) | (rw [if_neg (by decide +kernel)]; exact ⟨rfl, rfl⟩))
    (fun os started H enc _ => lifted os started H enc)

theorem proved : Rows.FnExactFarthestDarkSaid := over
#print axioms proved
end Go.Proofs.Ytchaebebncdknaa.fnExactFarthestDark
