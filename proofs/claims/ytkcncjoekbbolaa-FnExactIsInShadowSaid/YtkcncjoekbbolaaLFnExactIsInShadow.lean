/- The law 'FnExactIsInShadow' holds for every input. -/
import Derived.Test.YtkcncjoekbbolaaWK6
import Derived.Test.YtkcncjoekbbolaaO
import Derived.ProofKit
import Derived.OpenShut
import Derived.ShutString
import Derived.ChangeOld
import Derived.Lib.SmallJoins
namespace Go.Proofs.Ytkcncjoekbbolaa.fnExactIsInShadow
open Go.ChangeShapes Go.WideShapes Go.ChangeAt Go.RowKit Go.Joins
open Go.ChangeMaps (open_string shut_string)
set_option linter.unusedVariables false
set_option linter.unusedSimpArgs false
theorem own : ownKnob Try.prog.godebug = none := by kernel_rfl
theorem laidOut : laidOutB Try.prog = true := by kernel_rfl
theorem S6_after {w u v : World} {x1 x2 x3 x4 x5 x6 : Value} (hb : Below u.heap.size u v) (h : u.cell? ⟨w.heap.size, 0, none⟩ = some x1 ∧ u.cell? ⟨w.heap.size, 1, none⟩ = some x2 ∧ u.cell? ⟨w.heap.size, 2, none⟩ = some x3 ∧ u.cell? ⟨w.heap.size + 1, 0, none⟩ = some x4 ∧ u.cell? ⟨w.heap.size + 1, 1, none⟩ = some x5 ∧ u.cell? ⟨w.heap.size + 1, 2, none⟩ = some x6 ∧ w.heap.size + 1 < u.heap.size ∧ Below w.heap.size w u) :
    v.cell? ⟨w.heap.size, 0, none⟩ = some x1 ∧ v.cell? ⟨w.heap.size, 1, none⟩ = some x2 ∧ v.cell? ⟨w.heap.size, 2, none⟩ = some x3 ∧ v.cell? ⟨w.heap.size + 1, 0, none⟩ = some x4 ∧ v.cell? ⟨w.heap.size + 1, 1, none⟩ = some x5 ∧ v.cell? ⟨w.heap.size + 1, 2, none⟩ = some x6 ∧ w.heap.size + 1 < v.heap.size ∧ Below w.heap.size w v := by
  obtain ⟨h1, h2, h3, h4, h5, h6, h7, h8⟩ := h
  have h0 : w.heap.size < u.heap.size := by omega
  exact ⟨cell_after hb h0 h1, cell_after hb h0 h2, cell_after hb h0 h3, cell_after hb h7 h4, cell_after hb h7 h5, cell_after hb h7 h6, size_after hb h7, bl_trans hb h8⟩

set_option maxHeartbeats 8000000 in
theorem walk (a0 : Int) (a10 : Int) (a11 : Int) (a12 : Int) (a20 : Int) (a21 : Int) (a22 : Int) (a3 : Int) (w0 : (Lit.int .i64 a0).wf = true) (w10 : (Lit.int .i64 a10).wf = true) (w11 : (Lit.int .i64 a11).wf = true) (w12 : (Lit.int .i64 a12).wf = true) (w20 : (Lit.int .i64 a20).wf = true) (w21 : (Lit.int .i64 a21).wf = true) (w22 : (Lit.int .i64 a22).wf = true) (w3 : (Lit.int .i64 a3).wf = true) (w : World) :
    Calls Try.prog 14 #[.int .i64 a0, .agg #[.int .i64 a10, .int .i64 a11, .int .i64 a12], .agg #[.int .i64 a20, .int .i64 a21, .int .i64 a22], .int .i64 a3] w fun e w' => e = .returned (.bool true) ∧ Below w.heap.size w w' := by
  go_enter Try.func14, Try.ntmps14
  go_wp2_with fail
  have hS : ((w.alloc (.cells #[.int .i64 a10, .int .i64 a11, .int .i64 a12] 23)).alloc (.cells #[.int .i64 a20, .int .i64 a21, .int .i64 a22] 23)).cell? ⟨w.heap.size, 0, none⟩ = some (.int .i64 a10) ∧ ((w.alloc (.cells #[.int .i64 a10, .int .i64 a11, .int .i64 a12] 23)).alloc (.cells #[.int .i64 a20, .int .i64 a21, .int .i64 a22] 23)).cell? ⟨w.heap.size, 1, none⟩ = some (.int .i64 a11) ∧ ((w.alloc (.cells #[.int .i64 a10, .int .i64 a11, .int .i64 a12] 23)).alloc (.cells #[.int .i64 a20, .int .i64 a21, .int .i64 a22] 23)).cell? ⟨w.heap.size, 2, none⟩ = some (.int .i64 a12) ∧ ((w.alloc (.cells #[.int .i64 a10, .int .i64 a11, .int .i64 a12] 23)).alloc (.cells #[.int .i64 a20, .int .i64 a21, .int .i64 a22] 23)).cell? ⟨w.heap.size + 1, 0, none⟩ = some (.int .i64 a20) ∧ ((w.alloc (.cells #[.int .i64 a10, .int .i64 a11, .int .i64 a12] 23)).alloc (.cells #[.int .i64 a20, .int .i64 a21, .int .i64 a22] 23)).cell? ⟨w.heap.size + 1, 1, none⟩ = some (.int .i64 a21) ∧ ((w.alloc (.cells #[.int .i64 a10, .int .i64 a11, .int .i64 a12] 23)).alloc (.cells #[.int .i64 a20, .int .i64 a21, .int .i64 a22] 23)).cell? ⟨w.heap.size + 1, 2, none⟩ = some (.int .i64 a22) ∧ w.heap.size + 1 < ((w.alloc (.cells #[.int .i64 a10, .int .i64 a11, .int .i64 a12] 23)).alloc (.cells #[.int .i64 a20, .int .i64 a21, .int .i64 a22] 23)).heap.size ∧ Below w.heap.size w ((w.alloc (.cells #[.int .i64 a10, .int .i64 a11, .int .i64 a12] 23)).alloc (.cells #[.int .i64 a20, .int .i64 a21, .int .i64 a22] 23)) := ⟨by simp, by simp, by simp, by simp, by simp, by simp, by simp, (by repeat (first | exact Below.refl _ _ | refine bl_alloc ?_ _ | refine bl_drewN ?_ _ | refine bl_trans (by assumption) ?_ | refine bl_set ?_ (by first | omega | (simp; done) | (simp; omega)) _))⟩
  go_region_held3 (fun w' => w'.cell? ⟨w.heap.size, 0, none⟩ = some (.int .i64 a10) ∧ w'.cell? ⟨w.heap.size, 1, none⟩ = some (.int .i64 a11) ∧ w'.cell? ⟨w.heap.size, 2, none⟩ = some (.int .i64 a12) ∧ w'.cell? ⟨w.heap.size + 1, 0, none⟩ = some (.int .i64 a20) ∧ w'.cell? ⟨w.heap.size + 1, 1, none⟩ = some (.int .i64 a21) ∧ w'.cell? ⟨w.heap.size + 1, 2, none⟩ = some (.int .i64 a22) ∧ w.heap.size + 1 < w'.heap.size ∧ Below w.heap.size w w') (first | exact S6_after hb2 (by assumption) | exact S6_after (below_drewN (Below.refl _ _) _) (by assumption) | exact S6_after (Below.drew (Below.refl _ _)) (by assumption) | assumption) (first | (go_at_call 21; refine (toWalker_any _ _ _ _).mono ?_; rintro e w2 ⟨rfl, hb2⟩) | (go_at_call 43; refine (spec_IsInShadow _ _ _ _ _ _ _ _ _).mono ?_; rintro e w2 ⟨rfl, hb2⟩) | (go_at_call 44; refine (impl_IsInShadow _ _ _ _ _ _ _ _ _).mono ?_; rintro e w2 ⟨rfl, hb2⟩))
  go_wp2_with fail
  go_region_held3 (fun w' => w'.cell? ⟨w.heap.size, 0, none⟩ = some (.int .i64 a10) ∧ w'.cell? ⟨w.heap.size, 1, none⟩ = some (.int .i64 a11) ∧ w'.cell? ⟨w.heap.size, 2, none⟩ = some (.int .i64 a12) ∧ w'.cell? ⟨w.heap.size + 1, 0, none⟩ = some (.int .i64 a20) ∧ w'.cell? ⟨w.heap.size + 1, 1, none⟩ = some (.int .i64 a21) ∧ w'.cell? ⟨w.heap.size + 1, 2, none⟩ = some (.int .i64 a22) ∧ w.heap.size + 1 < w'.heap.size ∧ Below w.heap.size w w') (first | exact S6_after hb2 (by assumption) | exact S6_after (below_drewN (Below.refl _ _) _) (by assumption) | exact S6_after (Below.drew (Below.refl _ _)) (by assumption) | assumption) (first | (go_at_call 21; refine (toWalker_any _ _ _ _).mono ?_; rintro e w2 ⟨rfl, hb2⟩) | (go_at_call 43; refine (spec_IsInShadow _ _ _ _ _ _ _ _ _).mono ?_; rintro e w2 ⟨rfl, hb2⟩) | (go_at_call 44; refine (impl_IsInShadow _ _ _ _ _ _ _ _ _).mono ?_; rintro e w2 ⟨rfl, hb2⟩))
  go_wp2_with fail
  go_ret
  exact ⟨rfl, (by repeat (first | exact Below.refl _ _ | refine bl_alloc ?_ _ | refine bl_drewN ?_ _ | refine bl_trans (by assumption) ?_ | refine bl_set ?_ (by first | omega | (simp; done) | (simp; omega)) _))⟩

set_option maxRecDepth 100000 in
theorem lifted (os : Os) (started : os.Started) (H : Type) (enc : TypeId × Value → H) :
    ReturnsInHanded {} Try.checked os 14 .any (Rows.fnExactIsInShadowSpec.pre6 enc Try.prog Try.f14 Rows.fnExactIsInShadowRow.domain false) (Rows.fnExactIsInShadowSpec.post enc Try.prog Try.f14 false true false false) := by
  refine returnsInHanded_of_change (C := Try.checked) own started (by kernel_rfl) Try.func14
    (ChangeSpec.witness6 (enc := enc) (C := Try.checked) false ⟨#[], #[.int .i64 0, .agg #[.int .i64 0, .int .i64 0, .int .i64 0], .agg #[.int .i64 0, .int .i64 0, .int .i64 0], .int .i64 0], []⟩ 8 (by kernel_rfl) (by kernel_rfl) (by kernel_rfl) (by kernel_rfl)) ?_
  intro W base args ds gs before hval0 hW hcnd _
  have hval : ∀ (j : Nat) t v, Try.f14.params[j]? = some t → args[j]? = some v → Value.okWide Try.prog W .any base t v := hval0
  have hW' := hW
  obtain ⟨p, q, hA0, hV, rfl, hfz, hnd⟩ := hW
  have hA : DataW.TrodAll enc Try.prog W 0 (fun _ => true) true Try.f14.params.toList args.toList ds p := hA0
  rw [Try.params14] at hA hval
  obtain ⟨v0, vs0, d0, ds0, p0, q0, hargs, rfl, rfl, h0, r0⟩ := trodAll_cons hA
  obtain ⟨v1, vs1, d1, ds1, p1, q1, rfl, rfl, rfl, h1, r1⟩ := trodAll_cons r0
  obtain ⟨v2, vs2, d2, ds2, p2, q2, rfl, rfl, rfl, h2, r2⟩ := trodAll_cons r1
  obtain ⟨v3, vs3, d3, ds3, p3, q3, rfl, rfl, rfl, h3, r3⟩ := trodAll_cons r2
  obtain ⟨rfl, rfl, rfl⟩ := trodAll_nil r3
  obtain rfl : args = #[v0, v1, v2, v3] := by cases args; simp_all
  obtain ⟨rfl, rfl⟩ := trodVars_none hV
  have k0 := h0
  have lt0 : ∀ x ∈ p0, x.block < W.heap.size := by obtain ⟨m, hm⟩ := k0; exact DataW.trod_lt m _ _ _ hm
  have k1 := h1
  have lt1 : ∀ x ∈ p1, x.block < W.heap.size := by obtain ⟨m, hm⟩ := k1; exact DataW.trod_lt m _ _ _ hm
  have k2 := h2
  have lt2 : ∀ x ∈ p2, x.block < W.heap.size := by obtain ⟨m, hm⟩ := k2; exact DataW.trod_lt m _ _ _ hm
  have k3 := h3
  have lt3 : ∀ x ∈ p3, x.block < W.heap.size := by obtain ⟨m, hm⟩ := k3; exact DataW.trod_lt m _ _ _ hm
  obtain ⟨a0, rfl, rfl, rfl, w0⟩ := open_int Try.underlying3 (hval 0 3 v0 rfl rfl) h0
  obtain ⟨c10, c11, c12, y10, y11, y12, m1, rfl, rfl, rfl, hy10, hy11, hy12⟩ := open_agg3 Try.underlying23 (by kernel_rfl) (by kernel_rfl) (hval 1 23 v1 rfl rfl) h1
  obtain ⟨a10, e10, rfl, w10⟩ := DataW.trod_int Try.underlying3 hy10
  obtain ⟨a11, e11, rfl, w11⟩ := DataW.trod_int Try.underlying3 hy11
  obtain ⟨a12, e12, rfl, w12⟩ := DataW.trod_int Try.underlying3 hy12
  simp at e10 e11 e12
  subst e10 e11 e12
  obtain ⟨c20, c21, c22, y20, y21, y22, m2, rfl, rfl, rfl, hy20, hy21, hy22⟩ := open_agg3 Try.underlying23 (by kernel_rfl) (by kernel_rfl) (hval 2 23 v2 rfl rfl) h2
  obtain ⟨a20, e20, rfl, w20⟩ := DataW.trod_int Try.underlying3 hy20
  obtain ⟨a21, e21, rfl, w21⟩ := DataW.trod_int Try.underlying3 hy21
  obtain ⟨a22, e22, rfl, w22⟩ := DataW.trod_int Try.underlying3 hy22
  simp at e20 e21 e22
  subst e20 e21 e22
  obtain ⟨a3, rfl, rfl, rfl, w3⟩ := open_int Try.underlying3 (hval 3 3 v3 rfl rfl) h3
  clear hA0 hval0
  refine (walk a0 a10 a11 a12 a20 a21 a22 a3 w0 w10 w11 w12 w20 w21 w22 w3 W ).mono fun e W' ⟨he, bel⟩ => ?_
  subst he
  exact ⟨_, rfl, _, _, _, [], _, [], hW', trodAll_mk1 (shut_bool Try.underlying4 _), (trodAll_cons_mk (Below.trod laidOut (by kernel_rfl) (of_decide_eq_true (by kernel_rfl)) k0 bel lt0) (trodAll_cons_mk (Below.trod laidOut (by kernel_rfl) (of_decide_eq_true (by kernel_rfl)) k1 bel lt1) (trodAll_cons_mk (Below.trod laidOut (by kernel_rfl) (of_decide_eq_true (by kernel_rfl)) k2 bel lt2) (trodAll_cons_mk (Below.trod laidOut (by kernel_rfl) (of_decide_eq_true (by kernel_rfl)) k3 bel lt3) trodAll_mk0)))), rfl, bel.frame _, fun h => by cases h⟩

theorem over : Rows.fnExactIsInShadowRow.holds Try.pinned (OpenSpec.ofChange Rows.fnExactIsInShadowSpec) :=
  OpenClaim.holds_of_wide 14 Try.f14 rfl rfl rfl rfl rfl rfl rfl ⟨rfl, rfl, rfl, rfl, rfl⟩ rfl rfl rfl rfl rfl (by kernel_rfl) Try.func14 (by simp only [joinedFacts, make, lifts, may, Bool.and_true]; kernel_rfl)
    (of_decide_eq_true (by kernel_rfl)) (by unfold Func.isWrapper; first | (rw [if_pos (by decide +kernel)]; kernel_rfl) | (rw [if_neg (by decide +kernel)]; exact ⟨rfl, rfl⟩))
    (fun os started H enc _ => lifted os started H enc)

theorem proved : Rows.FnExactIsInShadowSaid := over
#print axioms proved
end Go.Proofs.Ytkcncjoekbbolaa.fnExactIsInShadow
