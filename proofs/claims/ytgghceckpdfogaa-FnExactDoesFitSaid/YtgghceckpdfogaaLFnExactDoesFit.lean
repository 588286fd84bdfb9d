/- The law 'FnExactDoesFit' holds for every input. -/
import Derived.Test.YtgghceckpdfogaaPZD
import Derived.Test.YtgghceckpdfogaaO
import Derived.ProofKit
import Derived.OpenShut
import Derived.ShutString
import Derived.ChangeOld
import Derived.Lib.SmallJoins
namespace Go.Proofs.Ytgghceckpdfogaa.fnExactDoesFit
open Go.ChangeShapes Go.WideShapes Go.ChangeAt Go.RowKit Go.Joins
open Go.ChangeMaps (open_string shut_string)
set_option linter.unusedVariables false
set_option linter.unusedSimpArgs false
theorem own : ownKnob Try.prog.godebug = none := by kernel_rfl
theorem laidOut : laidOutB Try.prog = true := by kernel_rfl
theorem SA3_3_after {w c u v : World} {A0 A1 : Nat} {x00 x01 x02 x10 x11 x12 : Value} (hb : Below u.heap.size u v) (h : u.cell? ⟨A0, 0, none⟩ = some x00 ∧ u.cell? ⟨A0, 1, none⟩ = some x01 ∧ u.cell? ⟨A0, 2, none⟩ = some x02 ∧ u.cell? ⟨A1, 0, none⟩ = some x10 ∧ u.cell? ⟨A1, 1, none⟩ = some x11 ∧ u.cell? ⟨A1, 2, none⟩ = some x12 ∧ A0 < u.heap.size ∧ A1 < u.heap.size ∧ Below w.heap.size w u ∧ Below c.heap.size c u) : v.cell? ⟨A0, 0, none⟩ = some x00 ∧ v.cell? ⟨A0, 1, none⟩ = some x01 ∧ v.cell? ⟨A0, 2, none⟩ = some x02 ∧ v.cell? ⟨A1, 0, none⟩ = some x10 ∧ v.cell? ⟨A1, 1, none⟩ = some x11 ∧ v.cell? ⟨A1, 2, none⟩ = some x12 ∧ A0 < v.heap.size ∧ A1 < v.heap.size ∧ Below w.heap.size w v ∧ Below c.heap.size c v := by
  obtain ⟨h0, h1, h2, h3, h4, h5, h6, h7, h8, h9⟩ := h
  exact ⟨by rw [(bcell hb).1 _ _ h6]; exact h0, by rw [(bcell hb).1 _ _ h6]; exact h1, by rw [(bcell hb).1 _ _ h6]; exact h2, by rw [(bcell hb).1 _ _ h7]; exact h3, by rw [(bcell hb).1 _ _ h7]; exact h4, by rw [(bcell hb).1 _ _ h7]; exact h5, Nat.lt_of_lt_of_le h6 hb.size, Nat.lt_of_lt_of_le h7 hb.size, bl_trans hb h8, bl_trans hb h9⟩
theorem SA3_3_b1 {w c u : World} {A0 A1 : Nat} {x00 x01 x02 x10 x11 x12 : Value} (h : u.cell? ⟨A0, 0, none⟩ = some x00 ∧ u.cell? ⟨A0, 1, none⟩ = some x01 ∧ u.cell? ⟨A0, 2, none⟩ = some x02 ∧ u.cell? ⟨A1, 0, none⟩ = some x10 ∧ u.cell? ⟨A1, 1, none⟩ = some x11 ∧ u.cell? ⟨A1, 2, none⟩ = some x12 ∧ A0 < u.heap.size ∧ A1 < u.heap.size ∧ Below w.heap.size w u ∧ Below c.heap.size c u) : Below w.heap.size w u := h.2.2.2.2.2.2.2.2.1
theorem SA3_3_b2 {w c u : World} {A0 A1 : Nat} {x00 x01 x02 x10 x11 x12 : Value} (h : u.cell? ⟨A0, 0, none⟩ = some x00 ∧ u.cell? ⟨A0, 1, none⟩ = some x01 ∧ u.cell? ⟨A0, 2, none⟩ = some x02 ∧ u.cell? ⟨A1, 0, none⟩ = some x10 ∧ u.cell? ⟨A1, 1, none⟩ = some x11 ∧ u.cell? ⟨A1, 2, none⟩ = some x12 ∧ A0 < u.heap.size ∧ A1 < u.heap.size ∧ Below w.heap.size w u ∧ Below c.heap.size c u) : Below c.heap.size c u := h.2.2.2.2.2.2.2.2.2

set_option maxHeartbeats 1000000 in
theorem walk (a00 : Int) (a01 : Int) (a02 : Int) (a10 : Int) (a11 : Int) (a12 : Int) (w00 : (Lit.int .i64 a00).wf = true) (w01 : (Lit.int .i64 a01).wf = true) (w02 : (Lit.int .i64 a02).wf = true) (w10 : (Lit.int .i64 a10).wf = true) (w11 : (Lit.int .i64 a11).wf = true) (w12 : (Lit.int .i64 a12).wf = true) (w : World) :
    Calls Try.prog 5 #[.agg #[.int .i64 a00, .int .i64 a01, .int .i64 a02], .agg #[.int .i64 a10, .int .i64 a11, .int .i64 a12]] w fun e w' => e = .returned (.bool true) ∧ Below w.heap.size w w' := by
  go_enter Try.func5, Try.ntmps5
  go_wp2_with fail
  have hS1 := (⟨(by first | assumption | (simp [go_sem]; done) | (simp [go_sem, *]; done)), (by first | assumption | (simp [go_sem]; done) | (simp [go_sem, *]; done)), (by first | assumption | (simp [go_sem]; done) | (simp [go_sem, *]; done)), (by first | assumption | (simp [go_sem]; done) | (simp [go_sem, *]; done)), (by first | assumption | (simp [go_sem]; done) | (simp [go_sem, *]; done)), (by first | assumption | (simp [go_sem]; done) | (simp [go_sem, *]; done)), (by first | assumption | omega | (simp; done) | (simp; omega)), (by first | assumption | omega | (simp; done) | (simp; omega)), (by repeat (first | exact Below.refl _ _ | refine bl_alloc ?_ _ | refine bl_drewN ?_ _ | refine bl_trans (by assumption) ?_ | refine bl_set ?_ (by first | omega | (simp; done) | (simp; omega)) _)), (by repeat (first | exact Below.refl _ _ | refine bl_alloc ?_ _ | refine bl_drewN ?_ _ | refine bl_trans (by assumption) ?_ | refine bl_set ?_ (by first | omega | (simp; done) | (simp; omega)) _))⟩ : ((w.alloc (.cells #[.int .i64 a00, .int .i64 a01, .int .i64 a02] 23)).alloc (.cells #[.int .i64 a10, .int .i64 a11, .int .i64 a12] 40)).cell? ⟨w.heap.size, 0, none⟩ = some (.int .i64 a00) ∧ ((w.alloc (.cells #[.int .i64 a00, .int .i64 a01, .int .i64 a02] 23)).alloc (.cells #[.int .i64 a10, .int .i64 a11, .int .i64 a12] 40)).cell? ⟨w.heap.size, 1, none⟩ = some (.int .i64 a01) ∧ ((w.alloc (.cells #[.int .i64 a00, .int .i64 a01, .int .i64 a02] 23)).alloc (.cells #[.int .i64 a10, .int .i64 a11, .int .i64 a12] 40)).cell? ⟨w.heap.size, 2, none⟩ = some (.int .i64 a02) ∧ ((w.alloc (.cells #[.int .i64 a00, .int .i64 a01, .int .i64 a02] 23)).alloc (.cells #[.int .i64 a10, .int .i64 a11, .int .i64 a12] 40)).cell? ⟨w.heap.size + 1, 0, none⟩ = some (.int .i64 a10) ∧ ((w.alloc (.cells #[.int .i64 a00, .int .i64 a01, .int .i64 a02] 23)).alloc (.cells #[.int .i64 a10, .int .i64 a11, .int .i64 a12] 40)).cell? ⟨w.heap.size + 1, 1, none⟩ = some (.int .i64 a11) ∧ ((w.alloc (.cells #[.int .i64 a00, .int .i64 a01, .int .i64 a02] 23)).alloc (.cells #[.int .i64 a10, .int .i64 a11, .int .i64 a12] 40)).cell? ⟨w.heap.size + 1, 2, none⟩ = some (.int .i64 a12) ∧ w.heap.size < ((w.alloc (.cells #[.int .i64 a00, .int .i64 a01, .int .i64 a02] 23)).alloc (.cells #[.int .i64 a10, .int .i64 a11, .int .i64 a12] 40)).heap.size ∧ w.heap.size + 1 < ((w.alloc (.cells #[.int .i64 a00, .int .i64 a01, .int .i64 a02] 23)).alloc (.cells #[.int .i64 a10, .int .i64 a11, .int .i64 a12] 40)).heap.size ∧ Below w.heap.size w ((w.alloc (.cells #[.int .i64 a00, .int .i64 a01, .int .i64 a02] 23)).alloc (.cells #[.int .i64 a10, .int .i64 a11, .int .i64 a12] 40)) ∧ Below w.heap.size w ((w.alloc (.cells #[.int .i64 a00, .int .i64 a01, .int .i64 a02] 23)).alloc (.cells #[.int .i64 a10, .int .i64 a11, .int .i64 a12] 40)))
  go_region_held3 (fun w' => w'.cell? ⟨w.heap.size, 0, none⟩ = some (.int .i64 a00) ∧ w'.cell? ⟨w.heap.size, 1, none⟩ = some (.int .i64 a01) ∧ w'.cell? ⟨w.heap.size, 2, none⟩ = some (.int .i64 a02) ∧ w'.cell? ⟨w.heap.size + 1, 0, none⟩ = some (.int .i64 a10) ∧ w'.cell? ⟨w.heap.size + 1, 1, none⟩ = some (.int .i64 a11) ∧ w'.cell? ⟨w.heap.size + 1, 2, none⟩ = some (.int .i64 a12) ∧ w.heap.size < w'.heap.size ∧ w.heap.size + 1 < w'.heap.size ∧ Below w.heap.size w w' ∧ Below w.heap.size w w') (first | exact SA3_3_after hbp3 (by assumption) | exact SA3_3_after hbp2 (by assumption) | exact SA3_3_after hbp1 (by assumption) | exact SA3_3_after (below_drewN (Below.refl _ _) _) (by assumption) | exact SA3_3_after (Below.drew (Below.refl _ _)) (by assumption) | assumption) (first | (go_at_call 19; refine (toClue_any _ _ _ _).mono ?_; rintro e p1 ⟨rfl, hbp1⟩) | (go_at_call 27; refine (toLadders_any _ _ _ _).mono ?_; rintro e p2 ⟨rfl, hbp2⟩) | (go_at_call 26; refine (spec_DoesFit _ _ _ _ _ _ _).mono ?_; rintro e p3 ⟨rfl, hbp3⟩) | fail)
  rename_i hh1
  clear hS1 
  obtain ⟨m1_0_0, m1_0_1, m1_0_2, m1_1_0, m1_1_1, m1_1_2, ms1_0, ms1_1, hm1, hk1⟩ := hh1
  have HM1 := Lib.hid hm1
  clear hm1 hk1
  go_wp2_with fail
  have hS2 := (⟨(by first | assumption | (simp [go_sem]; done) | (simp [go_sem, *]; done)), (by first | assumption | (simp [go_sem]; done) | (simp [go_sem, *]; done)), (by first | assumption | (simp [go_sem]; done) | (simp [go_sem, *]; done)), (by first | assumption | (simp [go_sem]; done) | (simp [go_sem, *]; done)), (by first | assumption | (simp [go_sem]; done) | (simp [go_sem, *]; done)), (by first | assumption | (simp [go_sem]; done) | (simp [go_sem, *]; done)), (by first | assumption | omega | (simp; done) | (simp; omega)), (by first | assumption | omega | (simp; done) | (simp; omega)), (by repeat (first | exact HM1.out | exact Below.refl _ _ | refine bl_alloc ?_ _ | refine bl_drewN ?_ _ | refine bl_trans (by assumption) ?_ | refine bl_set ?_ (by first | omega | (simp; done) | (simp; omega)) _)), (by repeat (first | exact Below.refl _ _ | refine bl_alloc ?_ _ | refine bl_drewN ?_ _ | refine bl_trans (by assumption) ?_ | refine bl_set ?_ (by first | omega | (simp; done) | (simp; omega)) _))⟩ : p3.cell? ⟨w.heap.size, 0, none⟩ = some (.int .i64 a00) ∧ p3.cell? ⟨w.heap.size, 1, none⟩ = some (.int .i64 a01) ∧ p3.cell? ⟨w.heap.size, 2, none⟩ = some (.int .i64 a02) ∧ p3.cell? ⟨w.heap.size + 1, 0, none⟩ = some (.int .i64 a10) ∧ p3.cell? ⟨w.heap.size + 1, 1, none⟩ = some (.int .i64 a11) ∧ p3.cell? ⟨w.heap.size + 1, 2, none⟩ = some (.int .i64 a12) ∧ w.heap.size < p3.heap.size ∧ w.heap.size + 1 < p3.heap.size ∧ Below w.heap.size w p3 ∧ Below p3.heap.size p3 p3)
  go_region_held3 (fun w' => w'.cell? ⟨w.heap.size, 0, none⟩ = some (.int .i64 a00) ∧ w'.cell? ⟨w.heap.size, 1, none⟩ = some (.int .i64 a01) ∧ w'.cell? ⟨w.heap.size, 2, none⟩ = some (.int .i64 a02) ∧ w'.cell? ⟨w.heap.size + 1, 0, none⟩ = some (.int .i64 a10) ∧ w'.cell? ⟨w.heap.size + 1, 1, none⟩ = some (.int .i64 a11) ∧ w'.cell? ⟨w.heap.size + 1, 2, none⟩ = some (.int .i64 a12) ∧ w.heap.size < w'.heap.size ∧ w.heap.size + 1 < w'.heap.size ∧ Below w.heap.size w w' ∧ Below p3.heap.size p3 w') (first | exact SA3_3_after hbq3 (by assumption) | exact SA3_3_after hbq2 (by assumption) | exact SA3_3_after hbq1 (by assumption) | exact SA3_3_after (below_drewN (Below.refl _ _) _) (by assumption) | exact SA3_3_after (Below.drew (Below.refl _ _)) (by assumption) | assumption) (first | (go_at_call 19; refine (toClue_any _ _ _ _).mono ?_; rintro e q1 ⟨rfl, hbq1⟩) | (go_at_call 27; refine (toLadders_any _ _ _ _).mono ?_; rintro e q2 ⟨rfl, hbq2⟩) | (go_at_call 28; refine (impl_DoesFit _ _ _ _ _ _ _).mono ?_; rintro e q3 ⟨rfl, hbq3⟩) | fail)
  rename_i hh2
  clear hS2 m1_0_0 m1_0_1 m1_0_2 ms1_0 m1_1_0 m1_1_1 m1_1_2 ms1_1
  obtain ⟨m2_0_0, m2_0_1, m2_0_2, m2_1_0, m2_1_1, m2_1_2, ms2_0, ms2_1, hm2, hk2⟩ := hh2
  have HM2 := Lib.hid hm2
  clear hm2 hk2
  go_wp2
  go_ret
  exact ⟨rfl, (by repeat (first | exact HM2.out | exact Below.refl _ _ | refine bl_alloc ?_ _ | refine bl_drewN ?_ _ | refine bl_trans (by assumption) ?_ | refine bl_set ?_ (by first | omega | (simp; done) | (simp; omega)) _))⟩

set_option maxRecDepth 100000 in
theorem lifted (os : Os) (started : os.Started) (H : Type) (enc : TypeId × Value → H) :
    ReturnsInHanded {} Try.checked os 5 .any (Rows.fnExactDoesFitSpec.pre6 enc Try.prog Try.f5 Rows.fnExactDoesFitRow.domain false) (Rows.fnExactDoesFitSpec.post enc Try.prog Try.f5 false true false false) := by
  refine returnsInHanded_of_change (C := Try.checked) own started (by kernel_rfl) Try.func5
    (ChangeSpec.witness6 (enc := enc) (C := Try.checked) false ⟨#[], #[.agg #[.int .i64 0, .int .i64 0, .int .i64 0], .agg #[.int .i64 0, .int .i64 0, .int .i64 0]], []⟩ 8 (by kernel_rfl) (by kernel_rfl) (by kernel_rfl) (by kernel_rfl)) ?_
  intro W base args ds gs before hval0 hW hcnd _
  have hval : ∀ (j : Nat) t v, Try.f5.params[j]? = some t → args[j]? = some v → Value.okWide Try.prog W .any base t v := hval0
  have hW' := hW
  obtain ⟨p, q, hA0, hV, rfl, hfz, hnd⟩ := hW
  have hA : DataW.TrodAll enc Try.prog W 0 (fun _ => true) true Try.f5.params.toList args.toList ds p := hA0
  rw [Try.params5] at hA hval
  obtain ⟨v0, vs0, d0, ds0, p0, q0, hargs, rfl, rfl, h0, r0⟩ := trodAll_cons hA
  obtain ⟨v1, vs1, d1, ds1, p1, q1, rfl, rfl, rfl, h1, r1⟩ := trodAll_cons r0
  obtain ⟨rfl, rfl, rfl⟩ := trodAll_nil r1
  obtain rfl : args = #[v0, v1] := by cases args; simp_all
  obtain ⟨rfl, rfl⟩ := trodVars_none hV
  have k0 := h0
  have lt0 : ∀ x ∈ p0, x.block < W.heap.size := by obtain ⟨m, hm⟩ := k0; exact DataW.trod_lt m _ _ _ hm
  have k1 := h1
  have lt1 : ∀ x ∈ p1, x.block < W.heap.size := by obtain ⟨m, hm⟩ := k1; exact DataW.trod_lt m _ _ _ hm
  obtain ⟨c00, c01, c02, y00, y01, y02, m0, rfl, rfl, rfl, hy00, hy01, hy02⟩ := open_agg3 Try.underlying23 (by kernel_rfl) (by kernel_rfl) (hval 0 23 v0 rfl rfl) h0
  obtain ⟨a00, e00, rfl, w00⟩ := DataW.trod_int Try.underlying3 hy00
  obtain ⟨a01, e01, rfl, w01⟩ := DataW.trod_int Try.underlying3 hy01
  obtain ⟨a02, e02, rfl, w02⟩ := DataW.trod_int Try.underlying3 hy02
  simp at e00 e01 e02
  subst e00 e01 e02
  obtain ⟨c10, c11, c12, y10, y11, y12, m1, rfl, rfl, rfl, hy10, hy11, hy12⟩ := open_agg3 Try.underlying40 (by kernel_rfl) (by kernel_rfl) (hval 1 40 v1 rfl rfl) h1
  obtain ⟨a10, e10, rfl, w10⟩ := DataW.trod_int Try.underlying3 hy10
  obtain ⟨a11, e11, rfl, w11⟩ := DataW.trod_int Try.underlying3 hy11
  obtain ⟨a12, e12, rfl, w12⟩ := DataW.trod_int Try.underlying3 hy12
  simp at e10 e11 e12
  subst e10 e11 e12
  clear hA0 hval0
  refine (walk a00 a01 a02 a10 a11 a12 w00 w01 w02 w10 w11 w12 W ).mono fun e W' ⟨he, bel⟩ => ?_
  subst he
  exact ⟨_, rfl, _, _, _, [], _, [], hW', trodAll_mk1 (shut_bool Try.underlying4 _), (trodAll_cons_mk (Below.trod laidOut (by kernel_rfl) (of_decide_eq_true (by kernel_rfl)) k0 bel lt0) (trodAll_cons_mk (Below.trod laidOut (by kernel_rfl) (of_decide_eq_true (by kernel_rfl)) k1 bel lt1) trodAll_mk0)), rfl, bel.frame _, fun h => by cases h⟩

theorem over : Rows.fnExactDoesFitRow.holds Try.pinned (OpenSpec.ofChange Rows.fnExactDoesFitSpec) :=
  OpenClaim.holds_of_wide 5 Try.f5 rfl rfl rfl rfl rfl rfl rfl ⟨rfl, rfl, rfl, rfl, rfl⟩ rfl rfl rfl rfl rfl (by kernel_rfl) Try.func5 (by simp only [joinedFacts, make, lifts, may, Bool.and_true]; kernel_rfl)
    (of_decide_eq_true (by kernel_rfl)) (by unfold Func.isWrapper; first | (rw [if_pos (by decide +kernel)]; kernel_rfl) | (rw [if_neg (by decide +kernel)]; exact ⟨rfl, rfl⟩))
    (fun os started H enc _ => lifted os started H enc)

theorem proved : Rows.FnExactDoesFitSaid := over
#print axioms proved
end Go.Proofs.Ytgghceckpdfogaa.fnExactDoesFit
