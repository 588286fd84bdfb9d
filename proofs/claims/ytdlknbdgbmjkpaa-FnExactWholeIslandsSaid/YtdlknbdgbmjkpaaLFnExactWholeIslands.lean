/- The law 'FnExactWholeIslands' holds for every input. -/
import Derived.Test.YtdlknbdgbmjkpaaHT6
import Derived.Test.YtdlknbdgbmjkpaaO
import Derived.ProofKit
import Derived.OpenShut
import Derived.ShutString
import Derived.ChangeOld
import Derived.Lib.SmallJoins
namespace Go.Proofs.Ytdlknbdgbmjkpaa.fnExactWholeIslands
open Go.ChangeShapes Go.WideShapes Go.ChangeAt Go.RowKit Go.Joins
open Go.ChangeMaps (open_string shut_string)
set_option linter.unusedVariables false
set_option linter.unusedSimpArgs false
theorem own : ownKnob Try.prog.godebug = none := by kernel_rfl
theorem laidOut : laidOutB Try.prog = true := by kernel_rfl

set_option maxHeartbeats 1000000 in
theorem walk (a0 : Int) (a1 : Int) (w0 : (Lit.int .i64 a0).wf = true) (w1 : (Lit.int .i64 a1).wf = true) (w : World) :
    Calls Try.prog 14 #[.int .i64 a0, .int .i64 a1] w fun e w' => e = .returned (.bool true) ∧ Below w.heap.size w w' := by
  go_enter Try.func14, Try.ntmps14
  have hT := WIS_tot a0 a1
  go_wp2_with fail
  refine (spec_WholeIslands _ _ _).mono ?_
  rintro e w1 ⟨v0, rfl, r0, hb1⟩
  obtain ⟨hc1, hf1⟩ := bcell hb1
  have hz1 := bsize hb1
  (try simp only [World.size_alloc] at hz1)
  have R0 := Lib.hid r0
  clear r0
  go_wp2_with fail
  refine (impl_WholeIslands _ _ _).mono ?_
  rintro e w2 ⟨g0, rfl, r1, hb2⟩
  obtain ⟨hc2, hf2⟩ := bcell hb2
  have hz2 := bsize hb2
  (try simp only [World.size_alloc] at hz2)
  have R1 := Lib.hid r1
  clear r1
  have k1 : Below w1.heap.size w1 w2 := (by repeat (first | exact Below.refl _ _ | refine bl_alloc ?_ _ | refine bl_drewN ?_ _ | refine bl_trans (by assumption) ?_))
  have K1 := Lib.hid k1
  clear k1
  go_wp2_with fail
  refine (eqIntSS_any _ _ _ _ _ _ _ R1.out (R0.out.keep K1.out)).mono ?_
  rintro e w' ⟨rfl, nq1, rfl⟩
  go_wp2_with fail
  refine (markIntSS_any _ _ _ _ _ _ (R1.out.drewN _) (by simp; omega) (by omega) (by omega)).mono ?_
  rintro e wm ⟨rfl, r2, hbm⟩
  have R2 := Lib.hid r2
  clear r2
  have hzm : w2.heap.size ≤ wm.heap.size := hbm.size
  have k2 : Below w1.heap.size w1 wm := K1.out.trans ((below_drewN (Below.refl _ _) _).trans (hbm.mono (by omega)))
  have K2 := Lib.hid k2
  clear k2
  have hcm : ∀ b o, b < w1.heap.size → wm.cell? ⟨b, o, none⟩ = w2.cell? ⟨b, o, none⟩ := fun b o h => hbm.cell (p := ⟨b, o, none⟩) h
  have kw : Below w.heap.size w w2 := (by repeat (first | exact Below.refl _ _ | refine bl_alloc ?_ _ | refine bl_drewN ?_ _ | refine bl_trans (by assumption) ?_ | refine bl_set ?_ (by first | omega | (simp; done) | (simp; omega)) _))
  have kwm : Below w.heap.size w wm := kw.trans ((below_drewN (Below.refl _ _) _).trans (hbm.mono (by omega)))
  have KW := Lib.hid kwm
  clear kw kwm
  have HM := Lib.hid hbm
  clear hbm
  go_wp2_with fail
  refine (heldIntSS_any _ _ _ _ _ _ R2.out (by omega) (by omega)).mono ?_
  rintro e w' ⟨rfl, nq2, rfl⟩
  go_wp2_with fail
  refine (impl_WholeIslands _ _ _).mono ?_
  rintro e w3 ⟨h0, rfl, r3, hb3⟩
  obtain ⟨hc3, hf3⟩ := bcell hb3
  have hz3 := bsize hb3
  (try simp only [World.size_alloc] at hz3)
  have R3 := Lib.hid r3
  clear r3
  have k3 : Below wm.heap.size wm w3 := (by repeat (first | exact Below.refl _ _ | refine bl_alloc ?_ _ | refine bl_drewN ?_ _ | refine bl_trans (by assumption) ?_))
  have k4 : Below w1.heap.size w1 w3 := K2.out.trans (k3.mono K2.out.size)
  have k5 : Below w.heap.size w w3 := KW.out.trans (k3.mono KW.out.size)
  have K3 := Lib.hid k3
  have K4 := Lib.hid k4
  have K5 := Lib.hid k5
  clear k3 k4 k5
  go_wp2_with fail
  refine (eqIntSS_any _ _ _ _ _ _ _ R3.out (R0.out.keep K4.out)).mono ?_
  rintro e w' ⟨rfl, nq3, rfl⟩
  go_wp2_with fail
  refine (heldIntSS_any _ _ _ _ _ _ ((R2.out.keep K3.out).drewN _) (by omega) (by omega)).mono ?_
  rintro e w' ⟨rfl, nq4, rfl⟩
  go_wp2
  go_ret
  exact ⟨rfl, by repeat (first | exact K5.out | refine bl_drewN ?_ _)⟩

set_option maxRecDepth 100000 in
theorem lifted (os : Os) (started : os.Started) (H : Type) (enc : TypeId × Value → H) :
    ReturnsInHanded {} Try.checked os 14 .any (Rows.fnExactWholeIslandsSpec.pre6 enc Try.prog Try.f14 Rows.fnExactWholeIslandsRow.domain false) (Rows.fnExactWholeIslandsSpec.post enc Try.prog Try.f14 false true false false) := by
  refine returnsInHanded_of_change (C := Try.checked) own started (by kernel_rfl) Try.func14
    (ChangeSpec.witness6 (enc := enc) (C := Try.checked) false ⟨#[], #[.int .i64 0, .int .i64 0], []⟩ 8 (by kernel_rfl) (by kernel_rfl) (by kernel_rfl) (by kernel_rfl)) ?_
  intro W base args ds gs before hval0 hW hcnd _
  have hval : ∀ (j : Nat) t v, Try.f14.params[j]? = some t → args[j]? = some v → Value.okWide Try.prog W .any base t v := hval0
  have hW' := hW
  obtain ⟨p, q, hA0, hV, rfl, hfz, hnd⟩ := hW
  have hA : DataW.TrodAll enc Try.prog W 0 (fun _ => true) true Try.f14.params.toList args.toList ds p := hA0
  rw [Try.params14] at hA hval
  obtain ⟨v0, vs0, d0, ds0, p0, q0, hargs, rfl, rfl, h0, r0⟩ := trodAll_cons hA
  obtain ⟨v1, vs1, d1, ds1, p1, q1, rfl, rfl, rfl, h1, r1⟩ := trodAll_cons r0
  obtain ⟨rfl, rfl, rfl⟩ := trodAll_nil r1
  obtain rfl : args = #[v0, v1] := by cases args; simp_all
  obtain ⟨rfl, rfl⟩ := trodVars_none hV
  have k0 := h0
  have lt0 : ∀ x ∈ p0, x.block < W.heap.size := by obtain ⟨m, hm⟩ := k0; exact DataW.trod_lt m _ _ _ hm
  have k1 := h1
  have lt1 : ∀ x ∈ p1, x.block < W.heap.size := by obtain ⟨m, hm⟩ := k1; exact DataW.trod_lt m _ _ _ hm
  obtain ⟨a0, rfl, rfl, rfl, w0⟩ := open_int Try.underlying3 (hval 0 3 v0 rfl rfl) h0
  obtain ⟨a1, rfl, rfl, rfl, w1⟩ := open_int Try.underlying3 (hval 1 3 v1 rfl rfl) h1
  clear hA0 hval0
  refine (walk a0 a1 w0 w1 W ).mono fun e W' ⟨he, bel⟩ => ?_
  subst he
  exact ⟨_, rfl, _, _, _, [], _, [], hW', trodAll_mk1 (shut_bool Try.underlying4 _), (trodAll_cons_mk (Below.trod laidOut (by kernel_rfl) (of_decide_eq_true (by kernel_rfl)) k0 bel lt0) (trodAll_cons_mk (Below.trod laidOut (by kernel_rfl) (of_decide_eq_true (by kernel_rfl)) k1 bel lt1) trodAll_mk0)), rfl, bel.frame _, fun h => by cases h⟩

theorem over : Rows.fnExactWholeIslandsRow.holds Try.pinned (OpenSpec.ofChange Rows.fnExactWholeIslandsSpec) :=
  OpenClaim.holds_of_wide 14 Try.f14 rfl rfl rfl rfl rfl rfl rfl ⟨rfl, rfl, rfl, rfl, rfl⟩ rfl rfl rfl rfl rfl (by kernel_rfl) Try.func14 (by simp only [joinedFacts, make, lifts, may, Bool.and_true]; kernel_rfl)
    (of_decide_eq_true (by kernel_rfl)) (by unfold Func.isWrapper; first | (rw [if_pos (by decide +kernel)]; kernel_rfl) | (rw [if_neg (by decide +kernel)]; exact ⟨rfl, rfl⟩))
    (fun os started H enc _ => lifted os started H enc)

theorem proved : Rows.FnExactWholeIslandsSaid := over
#print axioms proved
end Go.Proofs.Ytdlknbdgbmjkpaa.fnExactWholeIslands
