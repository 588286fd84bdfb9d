/- The law 'FnExactWholeLadders' holds for every input. -/
import Derived.Test.YtjboffbhkffhkaaLN6
import Derived.Test.YtjboffbhkffhkaaO
import Derived.ProofKit
import Derived.OpenShut
import Derived.ShutString
import Derived.ChangeOld
import Derived.Lib.SmallJoins
namespace Go.Proofs.Ytjboffbhkffhkaa.fnExactWholeLadders
open Go.ChangeShapes Go.WideShapes Go.ChangeAt Go.RowKit Go.Joins
open Go.ChangeMaps (open_string shut_string)
set_option linter.unusedVariables false
set_option linter.unusedSimpArgs false
theorem own : ownKnob Try.prog.godebug = none := by kernel_rfl
theorem laidOut : laidOutB Try.prog = true := by kernel_rfl

set_option maxHeartbeats 1000000 in
theorem walk (a00 : Int) (a01 : Int) (w00 : (Lit.int .i64 a00).wf = true) (w01 : (Lit.int .i64 a01).wf = true) (w : World) :
    Calls Try.prog 8 #[.agg #[.int .i64 a00, .int .i64 a01]] w fun e w' => e = .returned (.bool true) ∧ Below w.heap.size w w' := by
  go_enter Try.func8, Try.ntmps8
  have hT := WLD_tot a00 a01
  go_wp2_with fail
  refine (toBox_any _ _ _).mono ?_
  rintro e w1 ⟨rfl, hb1⟩
  obtain ⟨hc1, hf1⟩ := bcell hb1
  have hz1 := bsize hb1
  (try simp only [World.size_alloc] at hz1)
  have z1_0 : w.heap.size < w1.heap.size := by first | omega | (simp at hz1; omega)
  go_wp2_with fail
  refine (spec_WholeLadders _ _ _).mono ?_
  rintro e w2 ⟨v0, rfl, r0, hb2⟩
  obtain ⟨hc2, hf2⟩ := bcell hb2
  have hz2 := bsize hb2
  (try simp only [World.size_alloc] at hz2)
  have z2_0 : w.heap.size < w2.heap.size := by first | omega | (simp at hz2; omega)
  have R0 := Lib.hid r0
  clear r0
  go_wp2_with fail
  refine (toBox_any _ _ _).mono ?_
  rintro e w3 ⟨rfl, hb3⟩
  obtain ⟨hc3, hf3⟩ := bcell hb3
  have hz3 := bsize hb3
  (try simp only [World.size_alloc] at hz3)
  have z3_0 : w.heap.size < w3.heap.size := by first | omega | (simp at hz3; omega)
  go_wp2_with fail
  refine (impl_WholeLadders _ _ _).mono ?_
  rintro e w4 ⟨g0, rfl, r1, hb4⟩
  obtain ⟨hc4, hf4⟩ := bcell hb4
  have hz4 := bsize hb4
  (try simp only [World.size_alloc] at hz4)
  have z4_0 : w.heap.size < w4.heap.size := by first | omega | (simp at hz4; omega)
  have R1 := Lib.hid r1
  clear r1
  have k1 : Below w2.heap.size w2 w4 := (by repeat (first | exact Below.refl _ _ | refine bl_alloc ?_ _ | refine bl_drewN ?_ _ | refine bl_trans (by assumption) ?_))
  have K1 := Lib.hid k1
  clear k1
  go_wp2_with fail
  refine (eqIntSS_any _ _ _ _ _ _ _ R1.out (R0.out.keep K1.out)).mono ?_
  rintro e w' ⟨rfl, nq1, rfl⟩
  go_wp2_with fail
  refine (markIntSS_any _ _ _ _ _ _ (R1.out.drewN _) (by simp; omega) (by omega) (by omega)).mono ?_
  rintro e wm ⟨rfl, r2, hbm⟩
  have R2 := Lib.hid r2
  clear r2
  have hzm : w4.heap.size ≤ wm.heap.size := hbm.size
  have k2 : Below w2.heap.size w2 wm := K1.out.trans ((below_drewN (Below.refl _ _) _).trans (hbm.mono (by omega)))
  have K2 := Lib.hid k2
  clear k2
  have hcm : ∀ b o, b < w3.heap.size → wm.cell? ⟨b, o, none⟩ = w4.cell? ⟨b, o, none⟩ := fun b o h => hbm.cell (p := ⟨b, o, none⟩) h
  have zm_0 : w.heap.size < wm.heap.size := by omega
  have kw : Below w.heap.size w w4 := (by repeat (first | exact Below.refl _ _ | refine bl_alloc ?_ _ | refine bl_drewN ?_ _ | refine bl_trans (by assumption) ?_ | refine bl_set ?_ (by first | omega | (simp; done) | (simp; omega)) _))
  have kwm : Below w.heap.size w wm := kw.trans ((below_drewN (Below.refl _ _) _).trans (hbm.mono (by omega)))
  have KW := Lib.hid kwm
  clear kw kwm
  have HM := Lib.hid hbm
  clear hbm
  go_wp2_with fail
  refine (heldIntSS_any _ _ _ _ _ _ R2.out (by omega) (by omega)).mono ?_
  rintro e w' ⟨rfl, nq2, rfl⟩
  go_wp2_with fail
  refine (toBox_any _ _ _).mono ?_
  rintro e w5 ⟨rfl, hb5⟩
  obtain ⟨hc5, hf5⟩ := bcell hb5
  have hz5 := bsize hb5
  (try simp only [World.size_alloc] at hz5)
  have z5_0 : w.heap.size < w5.heap.size := by first | omega | (simp at hz5; omega)
  go_wp2_with fail
  refine (impl_WholeLadders _ _ _).mono ?_
  rintro e w6 ⟨h0, rfl, r3, hb6⟩
  obtain ⟨hc6, hf6⟩ := bcell hb6
  have hz6 := bsize hb6
  (try simp only [World.size_alloc] at hz6)
  have z6_0 : w.heap.size < w6.heap.size := by first | omega | (simp at hz6; omega)
  have R3 := Lib.hid r3
  clear r3
  have k3 : Below wm.heap.size wm w6 := (by repeat (first | exact Below.refl _ _ | refine bl_alloc ?_ _ | refine bl_drewN ?_ _ | refine bl_trans (by assumption) ?_))
  have k4 : Below w2.heap.size w2 w6 := K2.out.trans (k3.mono K2.out.size)
  have k5 : Below w.heap.size w w6 := KW.out.trans (k3.mono KW.out.size)
  have K3 := Lib.hid k3
  have K4 := Lib.hid k4
  have K5 := Lib.hid k5
  clear k3 k4 k5
  go_wp2_with fail
  refine (eqIntSS_any _ _ _ _ _ _ _ R3.out (R0.out.keep K4.out)).mono ?_
  rintro e w' ⟨rfl, nq3, rfl⟩
  go_wp2_with fail
  refine (heldIntSS_any _ _ _ _ _ _ ((R2.out.keep K3.out).drewN _) (by omega) (by omega)).mono ?_
  rintro e w' ⟨rfl, nq4, rfl⟩
  go_wp2
  go_ret
  exact ⟨rfl, by repeat (first | exact K5.out | refine bl_drewN ?_ _)⟩

set_option maxRecDepth 100000 in
theorem lifted (os : Os) (started : os.Started) (H : Type) (enc : TypeId × Value → H) :
    ReturnsInHanded {} Try.checked os 8 .any (Rows.fnExactWholeLaddersSpec.pre6 enc Try.prog Try.f8 Rows.fnExactWholeLaddersRow.domain false) (Rows.fnExactWholeLaddersSpec.post enc Try.prog Try.f8 false true false false) := by
  refine returnsInHanded_of_change (C := Try.checked) own started (by kernel_rfl) Try.func8
    (ChangeSpec.witness6 (enc := enc) (C := Try.checked) false ⟨#[], #[.agg #[.int .i64 0, .int .i64 0]], []⟩ 8 (by kernel_rfl) (by kernel_rfl) (by kernel_rfl) (by kernel_rfl)) ?_
  intro W base args ds gs before hval0 hW hcnd _
  have hval : ∀ (j : Nat) t v, Try.f8.params[j]? = some t → args[j]? = some v → Value.okWide Try.prog W .any base t v := hval0
  have hW' := hW
  obtain ⟨p, q, hA0, hV, rfl, hfz, hnd⟩ := hW
  have hA : DataW.TrodAll enc Try.prog W 0 (fun _ => true) true Try.f8.params.toList args.toList ds p := hA0
  rw [Try.params8] at hA hval
  obtain ⟨v0, vs0, d0, ds0, p0, q0, hargs, rfl, rfl, h0, r0⟩ := trodAll_cons hA
  obtain ⟨rfl, rfl, rfl⟩ := trodAll_nil r0
  obtain rfl : args = #[v0] := by cases args; simp_all
  obtain ⟨rfl, rfl⟩ := trodVars_none hV
  have k0 := h0
  have lt0 : ∀ x ∈ p0, x.block < W.heap.size := by obtain ⟨m, hm⟩ := k0; exact DataW.trod_lt m _ _ _ hm
  obtain ⟨c00, c01, y00, y01, m0, rfl, rfl, rfl, hy00, hy01⟩ := open_agg2 Try.underlying23 (by kernel_rfl) (by kernel_rfl) (hval 0 23 v0 rfl rfl) h0
  obtain ⟨a00, e00, rfl, w00⟩ := DataW.trod_int Try.underlying3 hy00
  obtain ⟨a01, e01, rfl, w01⟩ := DataW.trod_int Try.underlying3 hy01
  simp at e00 e01
  subst e00 e01
  clear hA0 hval0
  refine (walk a00 a01 w00 w01 W ).mono fun e W' ⟨he, bel⟩ => ?_
  subst he
  exact ⟨_, rfl, _, _, _, [], _, [], hW', trodAll_mk1 (shut_bool Try.underlying4 _), (trodAll_cons_mk (Below.trod laidOut (by kernel_rfl) (of_decide_eq_true (by kernel_rfl)) k0 bel lt0) trodAll_mk0), rfl, bel.frame _, fun h => by cases h⟩

theorem over : Rows.fnExactWholeLaddersRow.holds Try.pinned (OpenSpec.ofChange Rows.fnExactWholeLaddersSpec) :=
  OpenClaim.holds_of_wide 8 Try.f8 rfl rfl rfl rfl rfl rfl rfl ⟨rfl, rfl, rfl, rfl, rfl⟩ rfl rfl rfl rfl rfl (by kernel_rfl) Try.func8 (by simp only [joinedFacts, make, lifts, may, Bool.and_true]; kernel_rfl)
    (of_decide_eq_true (by kernel_rfl)) (by unfold Func.isWrapper; first | (rw [if_pos (by decide +kernel)]; kernel_rfl) | (rw [if_neg (by decide +kernel)]; exact ⟨rfl, rfl⟩))
    (fun os started H enc _ => lifted os started H enc)

theorem proved : Rows.FnExactWholeLaddersSaid := over
#print axioms proved
end Go.Proofs.Ytjboffbhkffhkaa.fnExactWholeLadders
