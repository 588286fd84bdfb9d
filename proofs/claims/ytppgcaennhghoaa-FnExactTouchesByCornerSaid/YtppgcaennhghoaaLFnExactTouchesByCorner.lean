/- The law 'FnExactTouchesByCorner' holds for every input. -/
import Derived.Test.YtppgcaennhghoaaLW9
import Derived.Test.YtppgcaennhghoaaO
import Derived.ProofKit
import Derived.OpenShut
import Derived.ShutString
import Derived.ChangeOld
import Derived.Lib.SmallJoins
namespace Go.Proofs.Ytppgcaennhghoaa.fnExactTouchesByCorner
open Go.ChangeShapes Go.WideShapes Go.ChangeAt Go.RowKit Go.Joins
open Go.ChangeMaps (open_string shut_string)
set_option linter.unusedVariables false
set_option linter.unusedSimpArgs false
theorem own : ownKnob Try.prog.godebug = none := by kernel_rfl
theorem laidOut : laidOutB Try.prog = true := by kernel_rfl
theorem last5 {a b c d D : Prop} (k : a ∧ b ∧ c ∧ d ∧ D) : D := k.2.2.2.2
theorem four_after {b1 b2 o1 o2 o3 o4 : Nat} {v1 v2 v3 v4 : Value} {W0 v : World} (h1 : W0.cell? ⟨b1, o1, none⟩ = some v1) (h2 : W0.cell? ⟨b1, o2, none⟩ = some v2) (h3 : W0.cell? ⟨b2, o3, none⟩ = some v3) (h4 : W0.cell? ⟨b2, o4, none⟩ = some v4) (l1 : b1 < W0.heap.size) (l2 : b2 < W0.heap.size) (hb : Below W0.heap.size W0 v) :
    v.cell? ⟨b1, o1, none⟩ = some v1 ∧ v.cell? ⟨b1, o2, none⟩ = some v2 ∧ v.cell? ⟨b2, o3, none⟩ = some v3 ∧ v.cell? ⟨b2, o4, none⟩ = some v4 ∧ Below W0.heap.size W0 v :=
  ⟨cell_after hb l1 h1, cell_after hb l1 h2, cell_after hb l2 h3, cell_after hb l2 h4, hb⟩
theorem far_ne2 {u v : Value} {C : Nat} (hu : ∀ k, u.ownBlock = some k → k < C) (hv : ∀ k, v.ownBlock = some k → C ≤ k) : u.ownBlock = none ∨ u.ownBlock ≠ v.ownBlock := by
  cases e : u.ownBlock with
  | none => exact .inl rfl
  | some q =>
    refine .inr fun e' => ?_
    have a1 := hu q e
    have a2 := hv q e'.symm
    omega
theorem dis_comm {u v : Value} (d : u.ownBlock = none ∨ u.ownBlock ≠ v.ownBlock) : v.ownBlock = none ∨ v.ownBlock ≠ u.ownBlock := by
  cases hv : v.ownBlock with
  | none => exact .inl rfl
  | some q =>
    refine .inr fun e => ?_
    rcases d with d | d
    · rw [d] at e
      cases e
    · exact d (by rw [hv, e])

set_option maxHeartbeats 8000000 in
theorem walk (a00 : Int) (a01 : Int) (a10 : Int) (a11 : Int) (w00 : (Lit.int .i64 a00).wf = true) (w01 : (Lit.int .i64 a01).wf = true) (w10 : (Lit.int .i64 a10).wf = true) (w11 : (Lit.int .i64 a11).wf = true) (w : World) :
    Calls Try.prog 11 #[.agg #[.int .i64 a00, .int .i64 a01], .agg #[.int .i64 a10, .int .i64 a11]] w fun e w' => e = .returned (.bool true) ∧ Below w.heap.size w w' := by
  go_enter Try.func11, Try.ntmps11
  go_wp2_with fail
  obtain ⟨hT1, hT2⟩ := TB_len a00 a01 a10 a11
  have a0 : ((w.alloc (.cells #[.int .i64 a00, .int .i64 a01] 23)).alloc (.cells #[.int .i64 a10, .int .i64 a11] 23)).cell? ⟨w.heap.size, 0, none⟩ = some (.int .i64 a00) := by simp [go_sem]
  have a1 : ((w.alloc (.cells #[.int .i64 a00, .int .i64 a01] 23)).alloc (.cells #[.int .i64 a10, .int .i64 a11] 23)).cell? ⟨w.heap.size, 1, none⟩ = some (.int .i64 a01) := by simp [go_sem]
  have b0 : ((w.alloc (.cells #[.int .i64 a00, .int .i64 a01] 23)).alloc (.cells #[.int .i64 a10, .int .i64 a11] 23)).cell? ⟨w.heap.size + 1, 0, none⟩ = some (.int .i64 a10) := by simp [go_sem]
  have b1 : ((w.alloc (.cells #[.int .i64 a00, .int .i64 a01] 23)).alloc (.cells #[.int .i64 a10, .int .i64 a11] 23)).cell? ⟨w.heap.size + 1, 1, none⟩ = some (.int .i64 a11) := by simp [go_sem]
  have l0 : w.heap.size < ((w.alloc (.cells #[.int .i64 a00, .int .i64 a01] 23)).alloc (.cells #[.int .i64 a10, .int .i64 a11] 23)).heap.size := by simp; omega
  have l1 : w.heap.size + 1 < ((w.alloc (.cells #[.int .i64 a00, .int .i64 a01] 23)).alloc (.cells #[.int .i64 a10, .int .i64 a11] 23)).heap.size := by simp
  have HZ := Lib.hid (show Below w.heap.size w ((w.alloc (.cells #[.int .i64 a00, .int .i64 a01] 23)).alloc (.cells #[.int .i64 a10, .int .i64 a11] 23)) by repeat (first | exact Below.refl _ _ | refine bl_alloc ?_ _ | refine bl_drewN ?_ _ | refine bl_trans (by assumption) ?_ | refine bl_set ?_ (by first | omega | (simp; done) | (simp; omega)) _))
  generalize ((w.alloc (.cells #[.int .i64 a00, .int .i64 a01] 23)).alloc (.cells #[.int .i64 a10, .int .i64 a11] 23)) = wz at *
  have HS1 := Lib.hid (fun v hb => four_after (v := v) a0 a1 b0 b1 l0 l1 hb)
  have hS1 := HS1.out wz (Below.refl _ _)
  go_wp2_with fail
  go_region_held3 (fun w' => w'.cell? ⟨w.heap.size, 0, none⟩ = some (.int .i64 a00) ∧ w'.cell? ⟨w.heap.size, 1, none⟩ = some (.int .i64 a01) ∧ w'.cell? ⟨w.heap.size + 1, 0, none⟩ = some (.int .i64 a10) ∧ w'.cell? ⟨w.heap.size + 1, 1, none⟩ = some (.int .i64 a11) ∧ Below wz.heap.size wz w') (first | exact HS1.out _ hks1 | exact HS1.out _ hkt1 | exact HS1.out _ (Below.drew (Below.refl _ _)) | exact HS1.out _ (below_drewN (Below.refl _ _) _) | assumption) (first | (go_at_call 22; refine (toSpot_any _ _ _).mono ?_; rintro e wt1 ⟨rfl, hbt1⟩; have hpret1 := last5 (by assumption); have hkt1 : Below wz.heap.size wz wt1 := bl_trans hbt1 hpret1) | (go_at_call 38; refine (spec_TouchesByCorner _ _ _ _ _).mono ?_; rintro e ws1 ⟨g1, p1, rfl, hR1, hP1, hD1, hbs1⟩; have hpres1 := last5 (by assumption); have hks1 : Below wz.heap.size wz ws1 := bl_trans hbs1 hpres1))
  have R1 := Lib.hid (IRow.mono hR1 hpres1.size)
  have P1 := Lib.hid (IRow.mono hP1 hpres1.size)
  have D1 := Lib.hid hD1
  have K1 := Lib.hid hks1
  rename_i hh
  clear hh hS1 HS1 hR1 hP1 hD1 hpres1 hks1 hbs1
  have a0 := cell_after K1.out l0 a0
  have a1 := cell_after K1.out l0 a1
  have b0 := cell_after K1.out l1 b0
  have b1 := cell_after K1.out l1 b1
  have l0 := size_after K1.out l0
  have l1 := size_after K1.out l1
  have HA := Lib.hid (bl_trans K1.out HZ.out)
  have R1lt := Lib.hid (fun k e => (World.ownsRow.lt R1.out k e).2 : ∀ k, g1.ownBlock = some k → k < ws1.heap.size)
  have P1lt := Lib.hid (fun k e => (World.ownsRow.lt P1.out k e).2 : ∀ k, p1.ownBlock = some k → k < ws1.heap.size)
  have HS2 := Lib.hid (fun v hb => four_after (v := v) a0 a1 b0 b1 l0 l1 hb)
  have hS2 := HS2.out ws1 (Below.refl _ _)
  go_wp2_with fail
  go_region_held3 (fun w' => w'.cell? ⟨w.heap.size, 0, none⟩ = some (.int .i64 a00) ∧ w'.cell? ⟨w.heap.size, 1, none⟩ = some (.int .i64 a01) ∧ w'.cell? ⟨w.heap.size + 1, 0, none⟩ = some (.int .i64 a10) ∧ w'.cell? ⟨w.heap.size + 1, 1, none⟩ = some (.int .i64 a11) ∧ Below ws1.heap.size ws1 w') (first | exact HS2.out _ hks2 | exact HS2.out _ hkt2 | exact HS2.out _ (Below.drew (Below.refl _ _)) | exact HS2.out _ (below_drewN (Below.refl _ _) _) | assumption) (first | (go_at_call 22; refine (toSpot_any _ _ _).mono ?_; rintro e wt2 ⟨rfl, hbt2⟩; have hpret2 := last5 (by assumption); have hkt2 : Below ws1.heap.size ws1 wt2 := bl_trans hbt2 hpret2) | (go_at_call 39; refine (impl_TouchesByCorner _ _ _ _ _).mono ?_; rintro e ws2 ⟨g2, p2, rfl, hR2, hP2, hD2, hbs2⟩; have hpres2 := last5 (by assumption); have hks2 : Below ws1.heap.size ws1 ws2 := bl_trans hbs2 hpres2))
  have R2 := Lib.hid (IRow.mono hR2 hpres2.size)
  have P2 := Lib.hid (IRow.mono hP2 hpres2.size)
  have D2 := Lib.hid hD2
  have K2 := Lib.hid hks2
  rename_i hh
  clear hh hS2 HS2 hR2 hP2 hD2 hpres2 hks2 hbs2
  have R2ge := Lib.hid (fun k e => (World.ownsRow.lt R2.out k e).1 : ∀ k, g2.ownBlock = some k → ws1.heap.size ≤ k)
  have P2ge := Lib.hid (fun k e => (World.ownsRow.lt P2.out k e).1 : ∀ k, p2.ownBlock = some k → ws1.heap.size ≤ k)
  have R1 := Lib.hid (R1.out.keep K2.out)
  have P1 := Lib.hid (P1.out.keep K2.out)
  go_wp2_with fail
  refine (eqIntS_any _ _ _ _ _ _ R2.out R1.out).mono ?_
  rintro e w' ⟨rfl, nq1, rfl⟩
  have R1 := Lib.hid (R1.out.keep (below_drewN (Below.refl _ _) nq1))
  have P1 := Lib.hid (P1.out.keep (below_drewN (Below.refl _ _) nq1))
  have R2 := Lib.hid (R2.out.keep (below_drewN (Below.refl _ _) nq1))
  have P2 := Lib.hid (P2.out.keep (below_drewN (Below.refl _ _) nq1))
  have K2 := Lib.hid (below_drewN K2.out nq1)
  generalize ws2.drewN nq1 = wy at *
  go_wp2_with fail
  refine (eqIntS_any _ _ _ _ _ _ P2.out P1.out).mono ?_
  rintro e w' ⟨rfl, nq2, rfl⟩
  have R1 := Lib.hid (R1.out.keep (below_drewN (Below.refl _ _) nq2))
  have P1 := Lib.hid (P1.out.keep (below_drewN (Below.refl _ _) nq2))
  have R2 := Lib.hid (R2.out.keep (below_drewN (Below.refl _ _) nq2))
  have P2 := Lib.hid (P2.out.keep (below_drewN (Below.refl _ _) nq2))
  have K2 := Lib.hid (below_drewN K2.out nq2)
  generalize wy.drewN nq2 = wx at *
  go_wp2_with fail
  refine (markIntS_any _ _ _ _ _ R2.out (by omega) (by omega)).mono ?_
  rintro e wm ⟨rfl, r2, hg, hsz⟩
  have hbm : Below ws1.heap.size wx wm := (Below.refl _ _).grown hg K2.out.size fun g e => R2ge.out g e
  have RM := Lib.hid r2
  have R1 := Lib.hid (show IRow wm _ _ _ from World.ownsRow.kept R1.out hg (far_ne2 (C := ws1.heap.size) R1lt.out R2ge.out))
  have P1 := Lib.hid (show IRow wm _ _ _ from World.ownsRow.kept P1.out hg (far_ne2 (C := ws1.heap.size) P1lt.out R2ge.out))
  have P2 := Lib.hid (show IRow wm _ _ _ from World.ownsRow.kept P2.out hg (dis_comm D2.out))
  have KM := Lib.hid (show Below ws1.heap.size ws1 wm from K2.out.trans hbm)
  clear r2 hbm hg hsz R2 K2
  go_wp2_with fail
  refine (markIntS_any _ _ _ _ _ P2.out (by omega) (by omega)).mono ?_
  rintro e wn ⟨rfl, r2, hg, hsz⟩
  have hbm : Below ws1.heap.size wm wn := (Below.refl _ _).grown hg KM.out.size fun g e => P2ge.out g e
  have PM := Lib.hid r2
  have R1 := Lib.hid (show IRow wn _ _ _ from World.ownsRow.kept R1.out hg (far_ne2 (C := ws1.heap.size) R1lt.out P2ge.out))
  have P1 := Lib.hid (show IRow wn _ _ _ from World.ownsRow.kept P1.out hg (far_ne2 (C := ws1.heap.size) P1lt.out P2ge.out))
  have RM := Lib.hid (show IRow wn _ _ _ from World.ownsRow.kept RM.out hg D2.out)
  have KM := Lib.hid (show Below ws1.heap.size ws1 wn from KM.out.trans hbm)
  clear r2 hbm hg hsz P2
  have a0 := cell_after KM.out l0 a0
  have a1 := cell_after KM.out l0 a1
  have b0 := cell_after KM.out l1 b0
  have b1 := cell_after KM.out l1 b1
  have l0 := size_after KM.out l0
  have l1 := size_after KM.out l1
  have k1 : ¬ (1 + ((TB1 a00 a01 a10 a11).length : Int) < 0) := by omega
  have k2 : ¬ (1 + ((TB1 a00 a01 a10 a11).length : Int) + ((TB2 a00 a01 a10 a11).length : Int) < 0) := by omega
  go_wp2_with fail
  refine (heldIntS_any _ _ _ _ _ RM.out (by omega) (by omega)).mono ?_
  rintro e w' ⟨rfl, nq3, rfl⟩
  have R1 := Lib.hid (R1.out.keep (below_drewN (Below.refl _ _) nq3))
  have P1 := Lib.hid (P1.out.keep (below_drewN (Below.refl _ _) nq3))
  have RM := Lib.hid (RM.out.keep (below_drewN (Below.refl _ _) nq3))
  have PM := Lib.hid (PM.out.keep (below_drewN (Below.refl _ _) nq3))
  have KM := Lib.hid (below_drewN KM.out nq3)
  have a0 : (wn.drewN nq3).cell? _ = _ := a0
  have a1 : (wn.drewN nq3).cell? _ = _ := a1
  have b0 : (wn.drewN nq3).cell? _ = _ := b0
  have b1 : (wn.drewN nq3).cell? _ = _ := b1
  have l0 : w.heap.size < (wn.drewN nq3).heap.size := l0
  have l1 : w.heap.size + 1 < (wn.drewN nq3).heap.size := l1
  generalize wn.drewN nq3 = wo at *
  go_wp2_with fail
  refine (heldIntS_any _ _ _ _ _ PM.out (by omega) (by omega)).mono ?_
  rintro e w' ⟨rfl, nq4, rfl⟩
  have R1 := Lib.hid (R1.out.keep (below_drewN (Below.refl _ _) nq4))
  have P1 := Lib.hid (P1.out.keep (below_drewN (Below.refl _ _) nq4))
  have RM := Lib.hid (RM.out.keep (below_drewN (Below.refl _ _) nq4))
  have PM := Lib.hid (PM.out.keep (below_drewN (Below.refl _ _) nq4))
  have KM := Lib.hid (below_drewN KM.out nq4)
  have a0 : (wo.drewN nq4).cell? _ = _ := a0
  have a1 : (wo.drewN nq4).cell? _ = _ := a1
  have b0 : (wo.drewN nq4).cell? _ = _ := b0
  have b1 : (wo.drewN nq4).cell? _ = _ := b1
  have l0 : w.heap.size < (wo.drewN nq4).heap.size := l0
  have l1 : w.heap.size + 1 < (wo.drewN nq4).heap.size := l1
  generalize wo.drewN nq4 = wq at *
  have HS3 := Lib.hid (fun v hb => four_after (v := v) a0 a1 b0 b1 l0 l1 hb)
  have hS3 := HS3.out wq (Below.refl _ _)
  go_wp2_with fail
  go_region_held3 (fun w' => w'.cell? ⟨w.heap.size, 0, none⟩ = some (.int .i64 a00) ∧ w'.cell? ⟨w.heap.size, 1, none⟩ = some (.int .i64 a01) ∧ w'.cell? ⟨w.heap.size + 1, 0, none⟩ = some (.int .i64 a10) ∧ w'.cell? ⟨w.heap.size + 1, 1, none⟩ = some (.int .i64 a11) ∧ Below wq.heap.size wq w') (first | exact HS3.out _ hks3 | exact HS3.out _ hkt3 | exact HS3.out _ (Below.drew (Below.refl _ _)) | exact HS3.out _ (below_drewN (Below.refl _ _) _) | assumption) (first | (go_at_call 22; refine (toSpot_any _ _ _).mono ?_; rintro e wt3 ⟨rfl, hbt3⟩; have hpret3 := last5 (by assumption); have hkt3 : Below wq.heap.size wq wt3 := bl_trans hbt3 hpret3) | (go_at_call 39; refine (impl_TouchesByCorner _ _ _ _ _).mono ?_; rintro e ws3 ⟨g3, p3, rfl, hR3, hP3, hD3, hbs3⟩; have hpres3 := last5 (by assumption); have hks3 : Below wq.heap.size wq ws3 := bl_trans hbs3 hpres3))
  have R3 := Lib.hid (IRow.mono hR3 hpres3.size)
  have P3 := Lib.hid (IRow.mono hP3 hpres3.size)
  have D3 := Lib.hid hD3
  have K3 := Lib.hid hks3
  rename_i hh
  clear hh hS3 HS3 hR3 hP3 hD3 hpres3 hks3 hbs3
  have K4 := Lib.hid (show Below ws1.heap.size ws1 ws3 from KM.out.trans (K3.out.mono KM.out.size))
  have R1 := Lib.hid (R1.out.keep K3.out)
  have P1 := Lib.hid (P1.out.keep K3.out)
  have RM := Lib.hid (RM.out.keep K3.out)
  have PM := Lib.hid (PM.out.keep K3.out)
  go_wp2_with fail
  refine (eqIntS_any _ _ _ _ _ _ R3.out R1.out).mono ?_
  rintro e w' ⟨rfl, nq5, rfl⟩
  have P1 := Lib.hid (P1.out.keep (below_drewN (Below.refl _ _) nq5))
  have P3 := Lib.hid (P3.out.keep (below_drewN (Below.refl _ _) nq5))
  have RM := Lib.hid (RM.out.keep (below_drewN (Below.refl _ _) nq5))
  have PM := Lib.hid (PM.out.keep (below_drewN (Below.refl _ _) nq5))
  have K4 := Lib.hid (below_drewN K4.out nq5)
  generalize ws3.drewN nq5 = wu at *
  go_wp2_with fail
  refine (eqIntS_any _ _ _ _ _ _ P3.out P1.out).mono ?_
  rintro e w' ⟨rfl, nq6, rfl⟩
  have RM := Lib.hid (RM.out.keep (below_drewN (Below.refl _ _) nq6))
  have PM := Lib.hid (PM.out.keep (below_drewN (Below.refl _ _) nq6))
  have K4 := Lib.hid (below_drewN K4.out nq6)
  generalize wu.drewN nq6 = wv at *
  go_wp2_with fail
  refine (heldIntS_any _ _ _ _ _ RM.out (by omega) (by omega)).mono ?_
  rintro e w' ⟨rfl, nq7, rfl⟩
  have PM := Lib.hid (PM.out.keep (below_drewN (Below.refl _ _) nq7))
  have K4 := Lib.hid (below_drewN K4.out nq7)
  generalize wv.drewN nq7 = wt at *
  go_wp2_with fail
  refine (heldIntS_any _ _ _ _ _ PM.out (by omega) (by omega)).mono ?_
  rintro e w' ⟨rfl, nq8, rfl⟩
  go_wp2
  go_ret
  exact ⟨rfl, by repeat (first | exact bl_trans K4.out HA.out | refine bl_drewN ?_ _)⟩

set_option maxRecDepth 100000 in
theorem lifted (os : Os) (started : os.Started) (H : Type) (enc : TypeId × Value → H) :
    ReturnsInHanded {} Try.checked os 11 .any (Rows.fnExactTouchesByCornerSpec.pre6 enc Try.prog Try.f11 Rows.fnExactTouchesByCornerRow.domain false) (Rows.fnExactTouchesByCornerSpec.post enc Try.prog Try.f11 false true false false) := by
  refine returnsInHanded_of_change (C := Try.checked) own started (by kernel_rfl) Try.func11
    (ChangeSpec.witness6 (enc := enc) (C := Try.checked) false ⟨#[], #[.agg #[.int .i64 0, .int .i64 0], .agg #[.int .i64 0, .int .i64 0]], []⟩ 8 (by kernel_rfl) (by kernel_rfl) (by kernel_rfl) (by kernel_rfl)) ?_
  intro W base args ds gs before hval0 hW hcnd _
  have hval : ∀ (j : Nat) t v, Try.f11.params[j]? = some t → args[j]? = some v → Value.okWide Try.prog W .any base t v := hval0
  have hW' := hW
  obtain ⟨p, q, hA0, hV, rfl, hfz, hnd⟩ := hW
  have hA : DataW.TrodAll enc Try.prog W 0 (fun _ => true) true Try.f11.params.toList args.toList ds p := hA0
  rw [Try.params11] at hA hval
  obtain ⟨v0, vs0, d0, ds0, p0, q0, hargs, rfl, rfl, h0, r0⟩ := trodAll_cons hA
  obtain ⟨v1, vs1, d1, ds1, p1, q1, rfl, rfl, rfl, h1, r1⟩ := trodAll_cons r0
  obtain ⟨rfl, rfl, rfl⟩ := trodAll_nil r1
  obtain rfl : args = #[v0, v1] := by cases args; simp_all
  obtain ⟨rfl, rfl⟩ := trodVars_none hV
  have k0 := h0
  have lt0 : ∀ x ∈ p0, x.block < W.heap.size := by obtain ⟨m, hm⟩ := k0; exact DataW.trod_lt m _ _ _ hm
  have k1 := h1
  have lt1 : ∀ x ∈ p1, x.block < W.heap.size := by obtain ⟨m, hm⟩ := k1; exact DataW.trod_lt m _ _ _ hm
  obtain ⟨c00, c01, y00, y01, m0, rfl, rfl, rfl, hy00, hy01⟩ := open_agg2 Try.underlying23 (by kernel_rfl) (by kernel_rfl) (hval 0 23 v0 rfl rfl) h0
  obtain ⟨a00, e00, rfl, w00⟩ := DataW.trod_int Try.underlying3 hy00
  obtain ⟨a01, e01, rfl, w01⟩ := DataW.trod_int Try.underlying3 hy01
  simp at e00 e01
  subst e00 e01
  obtain ⟨c10, c11, y10, y11, m1, rfl, rfl, rfl, hy10, hy11⟩ := open_agg2 Try.underlying23 (by kernel_rfl) (by kernel_rfl) (hval 1 23 v1 rfl rfl) h1
  obtain ⟨a10, e10, rfl, w10⟩ := DataW.trod_int Try.underlying3 hy10
  obtain ⟨a11, e11, rfl, w11⟩ := DataW.trod_int Try.underlying3 hy11
  simp at e10 e11
  subst e10 e11
  clear hA0 hval0
  refine (walk a00 a01 a10 a11 w00 w01 w10 w11 W ).mono fun e W' ⟨he, bel⟩ => ?_
  subst he
  exact ⟨_, rfl, _, _, _, [], _, [], hW', trodAll_mk1 (shut_bool Try.underlying4 _), (trodAll_cons_mk (Below.trod laidOut (by kernel_rfl) (of_decide_eq_true (by kernel_rfl)) k0 bel lt0) (trodAll_cons_mk (Below.trod laidOut (by kernel_rfl) (of_decide_eq_true (by kernel_rfl)) k1 bel lt1) trodAll_mk0)), rfl, bel.frame _, fun h => by cases h⟩

theorem over : Rows.fnExactTouchesByCornerRow.holds Try.pinned (OpenSpec.ofChange Rows.fnExactTouchesByCornerSpec) :=
  OpenClaim.holds_of_wide 11 Try.f11 rfl rfl rfl rfl rfl rfl rfl ⟨rfl, rfl, rfl, rfl, rfl⟩ rfl rfl rfl rfl rfl (by kernel_rfl) Try.func11 (by simp only [joinedFacts, make, lifts, may, Bool.and_true]; kernel_rfl)
    (of_decide_eq_true (by kernel_rfl)) (by unfold Func.isWrapper; first | (rw [if_pos (by decide +kernel)]; kernel_rfl) | (rw [if_neg (by decide +kernel)]; exact ⟨rfl, rfl⟩))
    (fun os started H enc _ => lifted os started H enc)

theorem proved : Rows.FnExactTouchesByCornerSaid := over
#print axioms proved
end Go.Proofs.Ytppgcaennhghoaa.fnExactTouchesByCorner
