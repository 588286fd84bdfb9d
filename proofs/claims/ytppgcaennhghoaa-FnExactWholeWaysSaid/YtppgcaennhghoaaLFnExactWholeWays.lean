/- The law 'FnExactWholeWays' holds for every input. -/
import Derived.Test.YtppgcaennhghoaaLW8
import Derived.Test.YtppgcaennhghoaaO
import Derived.ProofKit
import Derived.OpenShut
import Derived.ShutString
import Derived.ChangeOld
import Derived.Lib.SmallJoins
namespace Go.Proofs.Ytppgcaennhghoaa.fnExactWholeWays
open Go.ChangeShapes Go.WideShapes Go.ChangeAt Go.RowKit Go.Joins
open Go.ChangeMaps (open_string shut_string)
set_option linter.unusedVariables false
set_option linter.unusedSimpArgs false
theorem own : ownKnob Try.prog.godebug = none := by kernel_rfl
theorem laidOut : laidOutB Try.prog = true := by kernel_rfl
theorem last5 {a b c d D : Prop} (k : a ∧ b ∧ c ∧ d ∧ D) : D := k.2.2.2.2
theorem four_after {b1 b2 o1 o2 o3 o4 : Nat} {v1 v2 v3 v4 : Value} {W0 v : World} (h1 : W0.cell? ⟨b1, o1, none⟩ = some v1) (h2 : W0.cell? ⟨b1, o2, none⟩ = some v2) (h3 : W0.cell? ⟨b2, o3, none⟩ = some v3) (h4 : W0.cell? ⟨b2, o4, none⟩ = some v4) (l1 : b1 < W0.heap.size) (l2 : b2 < W0.heap.size) (hb : Below W0.heap.size W0 v) :
    v.cell? ⟨b1, o1, none⟩ = some v1 ∧ v.cell? ⟨b1, o2, none⟩ = some v2 ∧ v.cell? ⟨b2, o3, none⟩ = some v3 ∧ v.cell? ⟨b2, o4, none⟩ = some v4 ∧ Below W0.heap.size W0 v :=
  ⟨cell_after hb l1 h1, cell_after hb l1 h2, cell_after hb l2 h3, cell_after hb l2 h4, hb⟩
theorem far_ne2 {u v : Value} {C : Nat} (hu : ∀ k, u.ownBlock = some k → k < C) (hv : ∀ k, v.ownBlock = some k → C ≤ k) : u.ownBlock = none ∨ u.ownBlock ≠ v.ownBlock := by
  cases e : u.ownBlock with
  | none => exact .inl rfl
  | some q =>
    refine .inr fun e' => ?_
    have a1 := hu q e
    have a2 := hv q e'.symm
    omega

set_option maxHeartbeats 4000000 in
theorem walk (a00 : Int) (a01 : Int) (a10 : Int) (a11 : Int) (a2 : Int) (w00 : (Lit.int .i64 a00).wf = true) (w01 : (Lit.int .i64 a01).wf = true) (w10 : (Lit.int .i64 a10).wf = true) (w11 : (Lit.int .i64 a11).wf = true) (w2 : (Lit.int .i64 a2).wf = true) (w : World) :
    Calls Try.prog 17 #[.agg #[.int .i64 a00, .int .i64 a01], .agg #[.int .i64 a10, .int .i64 a11], .int .i64 a2] w fun e w' => e = .returned (.bool true) ∧ Below w.heap.size w w' := by
  go_enter Try.func17, Try.ntmps17
  go_wp2_with fail
  have hT := WWL_len a00 a01 a10 a11 a2
  have a0 : ((w.alloc (.cells #[.int .i64 a00, .int .i64 a01] 23)).alloc (.cells #[.int .i64 a10, .int .i64 a11] 23)).cell? ⟨w.heap.size, 0, none⟩ = some (.int .i64 a00) := by simp [go_sem]
  have a1 : ((w.alloc (.cells #[.int .i64 a00, .int .i64 a01] 23)).alloc (.cells #[.int .i64 a10, .int .i64 a11] 23)).cell? ⟨w.heap.size, 1, none⟩ = some (.int .i64 a01) := by simp [go_sem]
  have b0 : ((w.alloc (.cells #[.int .i64 a00, .int .i64 a01] 23)).alloc (.cells #[.int .i64 a10, .int .i64 a11] 23)).cell? ⟨w.heap.size + 1, 0, none⟩ = some (.int .i64 a10) := by simp [go_sem]
  have b1 : ((w.alloc (.cells #[.int .i64 a00, .int .i64 a01] 23)).alloc (.cells #[.int .i64 a10, .int .i64 a11] 23)).cell? ⟨w.heap.size + 1, 1, none⟩ = some (.int .i64 a11) := by simp [go_sem]
  have l0 : w.heap.size < ((w.alloc (.cells #[.int .i64 a00, .int .i64 a01] 23)).alloc (.cells #[.int .i64 a10, .int .i64 a11] 23)).heap.size := by simp; omega
  have l1 : w.heap.size + 1 < ((w.alloc (.cells #[.int .i64 a00, .int .i64 a01] 23)).alloc (.cells #[.int .i64 a10, .int .i64 a11] 23)).heap.size := by simp
  have HZ := Lib.hid (show Below w.heap.size w ((w.alloc (.cells #[.int .i64 a00, .int .i64 a01] 23)).alloc (.cells #[.int .i64 a10, .int .i64 a11] 23)) by repeat (first | exact Below.refl _ _ | refine bl_alloc ?_ _ | refine bl_drewN ?_ _ | refine bl_trans (by assumption) ?_ | refine bl_set ?_ (by first | omega | (simp; done) | (simp; omega)) _))
  generalize ((w.alloc (.cells #[.int .i64 a00, .int .i64 a01] 23)).alloc (.cells #[.int .i64 a10, .int .i64 a11] 23)) = wz at *
  have HS1 := Lib.hid (fun v hb => four_after (v := v) a0 a1 b0 b1 l0 l1 hb)
  have hS1 := HS1.out wz (Below.refl _ _)
  go_wp2_with fail
  go_region_held3 (fun w' => w'.cell? ⟨w.heap.size, 0, none⟩ = some (.int .i64 a00) ∧ w'.cell? ⟨w.heap.size, 1, none⟩ = some (.int .i64 a01) ∧ w'.cell? ⟨w.heap.size + 1, 0, none⟩ = some (.int .i64 a10) ∧ w'.cell? ⟨w.heap.size + 1, 1, none⟩ = some (.int .i64 a11) ∧ Below wz.heap.size wz w') (first | exact HS1.out _ hks1 | exact HS1.out _ hkt1 | exact HS1.out _ (Below.drew (Below.refl _ _)) | exact HS1.out _ (below_drewN (Below.refl _ _) _) | assumption) (first | (go_at_call 22; refine (toSpot_any _ _ _).mono ?_; rintro e wt1 ⟨rfl, hbt1⟩; have hpret1 := last5 (by assumption); have hkt1 : Below wz.heap.size wz wt1 := bl_trans hbt1 hpret1) | (go_at_call 56; refine (spec_WholeWays _ _ _ _ _ _).mono ?_; rintro e ws1 ⟨g1, rfl, hR1, hbs1⟩; have hpres1 := last5 (by assumption); have hks1 : Below wz.heap.size wz ws1 := bl_trans hbs1 hpres1))
  have R1 := Lib.hid (IRow.mono hR1 hpres1.size)
  have K1 := Lib.hid hks1
  rename_i hh
  clear hh hS1 HS1 hR1 hpres1 hks1 hbs1
  have a0 := cell_after K1.out l0 a0
  have a1 := cell_after K1.out l0 a1
  have b0 := cell_after K1.out l1 b0
  have b1 := cell_after K1.out l1 b1
  have l0 := size_after K1.out l0
  have l1 := size_after K1.out l1
  have HA := Lib.hid (bl_trans K1.out HZ.out)
  have R1lt := Lib.hid (fun k e => (World.ownsRow.lt R1.out k e).2 : ∀ k, g1.ownBlock = some k → k < ws1.heap.size)
  have HS2 := Lib.hid (fun v hb => four_after (v := v) a0 a1 b0 b1 l0 l1 hb)
  have hS2 := HS2.out ws1 (Below.refl _ _)
  go_wp2_with fail
  go_region_held3 (fun w' => w'.cell? ⟨w.heap.size, 0, none⟩ = some (.int .i64 a00) ∧ w'.cell? ⟨w.heap.size, 1, none⟩ = some (.int .i64 a01) ∧ w'.cell? ⟨w.heap.size + 1, 0, none⟩ = some (.int .i64 a10) ∧ w'.cell? ⟨w.heap.size + 1, 1, none⟩ = some (.int .i64 a11) ∧ Below ws1.heap.size ws1 w') (first | exact HS2.out _ hks2 | exact HS2.out _ hkt2 | exact HS2.out _ (Below.drew (Below.refl _ _)) | exact HS2.out _ (below_drewN (Below.refl _ _) _) | assumption) (first | (go_at_call 22; refine (toSpot_any _ _ _).mono ?_; rintro e wt2 ⟨rfl, hbt2⟩; have hpret2 := last5 (by assumption); have hkt2 : Below ws1.heap.size ws1 wt2 := bl_trans hbt2 hpret2) | (go_at_call 57; refine (impl_WholeWays _ _ _ _ _ _).mono ?_; rintro e ws2 ⟨g2, rfl, hR2, hbs2⟩; have hpres2 := last5 (by assumption); have hks2 : Below ws1.heap.size ws1 ws2 := bl_trans hbs2 hpres2))
  have R2 := Lib.hid (IRow.mono hR2 hpres2.size)
  have K2 := Lib.hid hks2
  rename_i hh
  clear hh hS2 HS2 hR2 hpres2 hks2 hbs2
  have R2ge := Lib.hid (fun k e => (World.ownsRow.lt R2.out k e).1 : ∀ k, g2.ownBlock = some k → ws1.heap.size ≤ k)
  go_wp2_with fail
  refine (eqIntS_any _ _ _ _ _ _ R2.out (R1.out.keep K2.out)).mono ?_
  rintro e w' ⟨rfl, nq1, rfl⟩
  have R2 := Lib.hid (R2.out.keep (below_drewN (Below.refl _ _) nq1))
  have R1' := Lib.hid (R1.out.keep (below_drewN K2.out nq1))
  have K2 := Lib.hid (below_drewN K2.out nq1)
  clear R1
  generalize ws2.drewN nq1 = wy at *
  go_wp2_with fail
  refine (markIntS_any _ _ _ _ _ R2.out (by omega) (by omega)).mono ?_
  rintro e wm ⟨rfl, r2, hg, hsz⟩
  have hbm : Below ws1.heap.size wy wm := (Below.refl _ _).grown hg K2.out.size fun g e => R2ge.out g e
  have RM := Lib.hid r2
  have R1 := Lib.hid (show IRow wm _ _ _ from World.ownsRow.kept R1'.out hg (far_ne2 (C := ws1.heap.size) R1lt.out R2ge.out))
  have KM := Lib.hid (show Below ws1.heap.size ws1 wm from K2.out.trans hbm)
  clear r2 hbm hg R1' R2
  have a0 := cell_after KM.out l0 a0
  have a1 := cell_after KM.out l0 a1
  have b0 := cell_after KM.out l1 b0
  have b1 := cell_after KM.out l1 b1
  have l0 := size_after KM.out l0
  have l1 := size_after KM.out l1
  go_wp2_with fail
  refine (heldIntS_any _ _ _ _ _ RM.out (by omega) (by omega)).mono ?_
  rintro e w' ⟨rfl, nq2, rfl⟩
  have RX := Lib.hid (RM.out.keep (below_drewN (Below.refl _ _) nq2))
  have R1 := Lib.hid (R1.out.keep (below_drewN (Below.refl _ _) nq2))
  have KX := Lib.hid (below_drewN KM.out nq2)
  have a0 : (wm.drewN nq2).cell? _ = _ := a0
  have a1 : (wm.drewN nq2).cell? _ = _ := a1
  have b0 : (wm.drewN nq2).cell? _ = _ := b0
  have b1 : (wm.drewN nq2).cell? _ = _ := b1
  have l0 : w.heap.size < (wm.drewN nq2).heap.size := l0
  have l1 : w.heap.size + 1 < (wm.drewN nq2).heap.size := l1
  clear RM KM
  generalize wm.drewN nq2 = wx at *
  have HS3 := Lib.hid (fun v hb => four_after (v := v) a0 a1 b0 b1 l0 l1 hb)
  have hS3 := HS3.out wx (Below.refl _ _)
  go_wp2_with fail
  go_region_held3 (fun w' => w'.cell? ⟨w.heap.size, 0, none⟩ = some (.int .i64 a00) ∧ w'.cell? ⟨w.heap.size, 1, none⟩ = some (.int .i64 a01) ∧ w'.cell? ⟨w.heap.size + 1, 0, none⟩ = some (.int .i64 a10) ∧ w'.cell? ⟨w.heap.size + 1, 1, none⟩ = some (.int .i64 a11) ∧ Below wx.heap.size wx w') (first | exact HS3.out _ hks3 | exact HS3.out _ hkt3 | exact HS3.out _ (Below.drew (Below.refl _ _)) | exact HS3.out _ (below_drewN (Below.refl _ _) _) | assumption) (first | (go_at_call 22; refine (toSpot_any _ _ _).mono ?_; rintro e wt3 ⟨rfl, hbt3⟩; have hpret3 := last5 (by assumption); have hkt3 : Below wx.heap.size wx wt3 := bl_trans hbt3 hpret3) | (go_at_call 57; refine (impl_WholeWays _ _ _ _ _ _).mono ?_; rintro e ws3 ⟨g3, rfl, hR3, hbs3⟩; have hpres3 := last5 (by assumption); have hks3 : Below wx.heap.size wx ws3 := bl_trans hbs3 hpres3))
  have R3 := Lib.hid (IRow.mono hR3 hpres3.size)
  have K3 := Lib.hid hks3
  rename_i hh
  clear hh hS3 HS3 hR3 hpres3 hks3 hbs3
  have K4 := Lib.hid (show Below ws1.heap.size ws1 ws3 from KX.out.trans (K3.out.mono KX.out.size))
  go_wp2_with fail
  refine (eqIntS_any _ _ _ _ _ _ R3.out (R1.out.keep K3.out)).mono ?_
  rintro e w' ⟨rfl, nq3, rfl⟩
  go_wp2_with fail
  refine (heldIntS_any _ _ _ _ _ ((RX.out.keep K3.out).keep (below_drewN (Below.refl _ _) _)) (by omega) (by omega)).mono ?_
  rintro e w' ⟨rfl, nq4, rfl⟩
  go_wp2
  go_ret
  exact ⟨rfl, by repeat (first | exact bl_trans K4.out HA.out | refine bl_drewN ?_ _)⟩

set_option maxRecDepth 100000 in
theorem lifted (os : Os) (started : os.Started) (H : Type) (enc : TypeId × Value → H) :
    ReturnsInHanded {} Try.checked os 17 .any (Rows.fnExactWholeWaysSpec.pre6 enc Try.prog Try.f17 Rows.fnExactWholeWaysRow.domain false) (Rows.fnExactWholeWaysSpec.post enc Try.prog Try.f17 false true false false) := by
  refine returnsInHanded_of_change (C := Try.checked) own started (by kernel_rfl) Try.func17
    (ChangeSpec.witness6 (enc := enc) (C := Try.checked) false ⟨#[], #[.agg #[.int .i64 0, .int .i64 0], .agg #[.int .i64 0, .int .i64 0], .int .i64 0], []⟩ 8 (by kernel_rfl) (by kernel_rfl) (by kernel_rfl) (by kernel_rfl)) ?_
  intro W base args ds gs before hval0 hW hcnd _
  have hval : ∀ (j : Nat) t v, Try.f17.params[j]? = some t → args[j]? = some v → Value.okWide Try.prog W .any base t v := hval0
  have hW' := hW
  obtain ⟨p, q, hA0, hV, rfl, hfz, hnd⟩ := hW
  have hA : DataW.TrodAll enc Try.prog W 0 (fun _ => true) true Try.f17.params.toList args.toList ds p := hA0
  rw [Try.params17] at hA hval
  obtain ⟨v0, vs0, d0, ds0, p0, q0, hargs, rfl, rfl, h0, r0⟩ := trodAll_cons hA
  obtain ⟨v1, vs1, d1, ds1, p1, q1, rfl, rfl, rfl, h1, r1⟩ := trodAll_cons r0
  obtain ⟨v2, vs2, d2, ds2, p2, q2, rfl, rfl, rfl, h2, r2⟩ := trodAll_cons r1
  obtain ⟨rfl, rfl, rfl⟩ := trodAll_nil r2
  obtain rfl : args = #[v0, v1, v2] := by cases args; simp_all
  obtain ⟨rfl, rfl⟩ := trodVars_none hV
  have k0 := h0
  have lt0 : ∀ x ∈ p0, x.block < W.heap.size := by obtain ⟨m, hm⟩ := k0; exact DataW.trod_lt m _ _ _ hm
  have k1 := h1
  have lt1 : ∀ x ∈ p1, x.block < W.heap.size := by obtain ⟨m, hm⟩ := k1; exact DataW.trod_lt m _ _ _ hm
  have k2 := h2
  have lt2 : ∀ x ∈ p2, x.block < W.heap.size := by obtain ⟨m, hm⟩ := k2; exact DataW.trod_lt m _ _ _ hm
  obtain ⟨c00, c01, y00, y01, m0, rfl, rfl, rfl, hy00, hy01⟩ := open_agg2 Try.underlying23 (by kernel_rfl) (by kernel_rfl) (hval 0 23 v0 rfl rfl) h0
  obtain ⟨a00, e00, rfl, w00⟩ := DataW.trod_int Try.underlying3 hy00
  obtain ⟨a01, e01, rfl, w01⟩ := DataW.trod_int Try.underlying3 hy01
  simp at e00 e01
  subst e00 e01
  obtain ⟨c10, c11, y10, y11, m1, rfl, rfl, rfl, hy10, hy11⟩ := open_agg2 Try.underlying23 (by kernel_rfl) (by kernel_rfl) (hval 1 23 v1 rfl rfl) h1
  obtain ⟨a10, e10, rfl, w10⟩ := DataW.trod_int Try.underlying3 hy10
  obtain ⟨a11, e11, rfl, w11⟩ := DataW.trod_int Try.underlying3 hy11
  simp at e10 e11
  subst e10 e11
  obtain ⟨a2, rfl, rfl, rfl, w2⟩ := open_int Try.underlying3 (hval 2 3 v2 rfl rfl) h2
  clear hA0 hval0
  refine (walk a00 a01 a10 a11 a2 w00 w01 w10 w11 w2 W ).mono fun e W' ⟨he, bel⟩ => ?_
  subst he
  exact ⟨_, rfl, _, _, _, [], _, [], hW', trodAll_mk1 (shut_bool Try.underlying4 _), (trodAll_cons_mk (Below.trod laidOut (by kernel_rfl) (of_decide_eq_true (by kernel_rfl)) k0 bel lt0) (trodAll_cons_mk (Below.trod laidOut (by kernel_rfl) (of_decide_eq_true (by kernel_rfl)) k1 bel lt1) (trodAll_cons_mk (Below.trod laidOut (by kernel_rfl) (of_decide_eq_true (by kernel_rfl)) k2 bel lt2) trodAll_mk0))), rfl, bel.frame _, fun h => by cases h⟩

theorem over : Rows.fnExactWholeWaysRow.holds Try.pinned (OpenSpec.ofChange Rows.fnExactWholeWaysSpec) :=
  OpenClaim.holds_of_wide 17 Try.f17 rfl rfl rfl rfl rfl rfl rfl ⟨rfl, rfl, rfl, rfl, rfl⟩ rfl rfl rfl rfl rfl (by kernel_rfl) Try.func17 (by simp only [joinedFacts, make, lifts, may, Bool.and_true]; kernel_rfl)
    (of_decide_eq_true (by kernel_rfl)) (by unfold Func.isWrapper; first | (rw [if_pos (by decide +kernel)]; kernel_rfl) | (rw [if_neg (by decide +kernel)]; exact ⟨rfl, rfl⟩))
    (fun os started H enc _ => lifted os started H enc)

theorem proved : Rows.FnExactWholeWaysSaid := over
#print axioms proved
end Go.Proofs.Ytppgcaennhghoaa.fnExactWholeWays
