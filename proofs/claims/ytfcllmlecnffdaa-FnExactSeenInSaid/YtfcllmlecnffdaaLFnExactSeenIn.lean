/- The law 'FnExactSeenIn' holds for every input. -/
import Derived.Test.YtfcllmlecnffdaaMI5
import Derived.Test.YtfcllmlecnffdaaQ3
import Derived.Test.YtfcllmlecnffdaaO
import Derived.ProofKit
import Derived.OpenShut
import Derived.ShutString
import Derived.ChangeOld
import Derived.Lib.SmallJoins
namespace Go.Proofs.Ytfcllmlecnffdaa.fnExactSeenIn
open Go.ChangeShapes Go.WideShapes Go.ChangeAt Go.RowKit Go.Joins
open Go.ChangeMaps (open_string shut_string)
set_option linter.unusedVariables false
set_option linter.unusedSimpArgs false
theorem own : ownKnob Try.prog.godebug = none := by kernel_rfl
theorem laidOut : laidOutB Try.prog = true := by kernel_rfl
theorem far_ne {u v : Value} {C : Nat} (hu : ∀ k, u.ownBlock = some k → C ≤ k) (hv : ∀ k, v.ownBlock = some k → k < C) : u.ownBlock = none ∨ u.ownBlock ≠ v.ownBlock := by
  cases e : u.ownBlock with
  | none => exact .inl rfl
  | some q =>
    refine .inr fun e' => ?_
    have a1 := hu q e
    have a2 := hv q e'.symm
    omega
theorem far_ne2 {u v : Value} {C : Nat} (hu : ∀ k, u.ownBlock = some k → k < C) (hv : ∀ k, v.ownBlock = some k → C ≤ k) : u.ownBlock = none ∨ u.ownBlock ≠ v.ownBlock := by
  cases e : u.ownBlock with
  | none => exact .inl rfl
  | some q =>
    refine .inr fun e' => ?_
    have a1 := hu q e
    have a2 := hv q e'.symm
    omega

set_option maxHeartbeats 1000000 in
theorem walk (v0 : Value) (xs0 : List Int) (v1 : Value) (n1 : Nat) (f1 : Nat → List Int) (a2 : Int) (a3 : Int) (w2 : (Lit.int .i64 a2).wf = true) (w3 : (Lit.int .i64 a3).wf = true) (w : World) (hP0 : QRow w v0 xs0) (hP1 : QQRow w v1 n1 f1) :
    Calls Try.prog 19 #[v0, v1, .int .i64 a2, .int .i64 a3] w fun e w' => e = .returned (.bool true) ∧ Below w.heap.size w w' := by
  have HH0 := Lib.hid hP0
  have HH1 := Lib.hid hP1
  have hl0 := hP0.len_le
  have hl1 := hP1.len_le
  have hsh0 := hP0.shape
  have hsh1 := hP1.shape
  obtain ⟨s0, c0, rfl⟩ := hsh0
  obtain ⟨s1, c1, rfl⟩ := hsh1
  clear hP0 hP1
  by_cases hn0 : xs0.length ≤ 1048576
  · by_cases hn1 : n1 + tot f1 n1 ≤ 1048576
    · obtain ⟨q, hq⟩ : ∃ q : Nat, szQ n1 f1 = (q : Int) := ⟨1048576 - n1 - tot f1 n1, by rw [szQ, if_pos hn1]; omega⟩
      have HN := Lib.hid hn1
      have HSZ := Lib.hid hq
      clear hn1 hq
      go_enter Try.func19, Try.ntmps19
      go_wp2_with fail
      refine (szIntSS_any _ _ _ _ HH1.out).mono ?_
      rintro e w' ⟨rfl, nz, rfl⟩
      rw [HSZ.out]
      have hx := SNL_len xs0 n1 f1 a2 a3
      have B0 := Lib.hid (show Below w.heap.size w (w.drewN nz) from bl_drewN (Below.refl _ _) _)
      generalize w.drewN nz = w0 at *
      go_wp2_with fail
      refine (toIntS_any _ _ _ (HH0.out.keep B0.out) hn0).mono ?_
      rintro e w1 ⟨uA, rfl, hA, hb1⟩
      replace B0 := Lib.hid (bl_trans hb1 B0.out)
      have A := Lib.hid hA
      clear hA
      clear hb1
      go_wp2_with fail
      refine (toIntSS_any _ _ _ _ (HH1.out.keep B0.out) HN.out).mono ?_
      rintro e w2 ⟨uC, rfl, hC, hb2⟩
      replace A := Lib.hid (A.out.keep hb2)
      replace B0 := Lib.hid (bl_trans hb2 B0.out)
      have C := Lib.hid hC
      clear hC
      clear hb2
      go_wp2_with fail
      refine (spec_SeenIn _ _ _ _ _ _ _ _ A.out.toQ C.out.toQ).mono ?_
      rintro e w3 ⟨uR, rfl, hR, hb3⟩
      replace A := Lib.hid (A.out.keep hb3)
      replace C := Lib.hid (C.out.keep hb3)
      replace B0 := Lib.hid (bl_trans hb3 B0.out)
      have Rlt := Lib.hid (fun k e => (World.ownsRow.lt hR k e).2 : ∀ k, uR.ownBlock = some k → k < w3.heap.size)
      have R := Lib.hid hR
      clear hR
      clear hb3
      clear A
      clear C
      have SW := Lib.hid (B0.out.size : w.heap.size ≤ w3.heap.size)
      go_wp2_with fail
      refine (toIntS_any _ _ _ (HH0.out.keep B0.out) hn0).mono ?_
      rintro e w4 ⟨uX, rfl, hX, hb4⟩
      replace R := Lib.hid (R.out.keep hb4)
      replace B0 := Lib.hid (bl_trans hb4 B0.out)
      have Xlt := Lib.hid (World.ownsRow.lt hX : ∀ k, uX.ownBlock = some k → w3.heap.size ≤ k ∧ k < w4.heap.size)
      have S34 := Lib.hid (hb4.size : w3.heap.size ≤ w4.heap.size)
      have X := Lib.hid hX
      clear hX
      clear hb4
      go_wp2_with fail
      refine (toIntSS_any _ _ _ _ (HH1.out.keep B0.out) HN.out).mono ?_
      rintro e w5 ⟨uY, rfl, hY, hb5⟩
      replace R := Lib.hid (R.out.keep hb5)
      replace X := Lib.hid (X.out.keep hb5)
      replace B0 := Lib.hid (bl_trans hb5 B0.out)
      have S45 := Lib.hid (hb5.size : w4.heap.size ≤ w5.heap.size)
      have Y := Lib.hid hY.toB
      clear hY
      clear hb5
      have S5 := Lib.hid (Nat.le_refl w5.heap.size)
      go_wp2_with fail
      refine (impl_SeenIn _ _ _ _ _ _ _ _ X.out.toQ Y.out.toF.toQ).mono ?_
      rintro e w6 ⟨uG, rfl, hG, hb6⟩
      replace R := Lib.hid (R.out.keep hb6)
      replace X := Lib.hid (X.out.keep hb6)
      replace Y := Lib.hid (Y.out.keep hb6)
      replace S5 := Lib.hid (Nat.le_trans S5.out hb6.size)
      replace B0 := Lib.hid (bl_trans hb6 B0.out)
      have Glt := Lib.hid (fun k e => (World.ownsRow.lt hG k e).1 : ∀ k, uG.ownBlock = some k → w5.heap.size ≤ k)
      have G := Lib.hid hG
      clear hG
      clear hb6
      go_wp2_with fail
      refine (eqIntS_any _ _ _ _ _ _ G.out R.out).mono ?_
      rintro e w' ⟨rfl, nq7, rfl⟩
      replace R := Lib.hid (R.out.keep (below_drewN (Below.refl _ _) nq7))
      replace X := Lib.hid (X.out.keep (below_drewN (Below.refl _ _) nq7))
      replace Y := Lib.hid (Y.out.keep (below_drewN (Below.refl _ _) nq7))
      replace G := Lib.hid (G.out.keep (below_drewN (Below.refl _ _) nq7))
      replace S5 := Lib.hid (show w5.heap.size ≤ (w6.drewN nq7).heap.size from S5.out)
      replace B0 := Lib.hid (bl_drewN B0.out nq7)
      generalize w6.drewN nq7 = w7 at *
      go_wp2_with fail
      refine (toIntS_any _ _ _ (HH0.out.keep B0.out) hn0).mono ?_
      rintro e w8 ⟨uZ, rfl, hZ, hb8⟩
      replace R := Lib.hid (R.out.keep hb8)
      replace X := Lib.hid (X.out.keep hb8)
      replace Y := Lib.hid (Y.out.keep hb8)
      replace G := Lib.hid (G.out.keep hb8)
      replace S5 := Lib.hid (Nat.le_trans S5.out hb8.size)
      replace B0 := Lib.hid (bl_trans hb8 B0.out)
      have Z := Lib.hid hZ
      clear hZ
      clear hb8
      go_wp2_with fail
      refine (eqIntS_any _ _ _ _ _ _ X.out Z.out).mono ?_
      rintro e w' ⟨rfl, nq9, rfl⟩
      replace R := Lib.hid (R.out.keep (below_drewN (Below.refl _ _) nq9))
      replace X := Lib.hid (X.out.keep (below_drewN (Below.refl _ _) nq9))
      replace Y := Lib.hid (Y.out.keep (below_drewN (Below.refl _ _) nq9))
      replace G := Lib.hid (G.out.keep (below_drewN (Below.refl _ _) nq9))
      replace Z := Lib.hid (Z.out.keep (below_drewN (Below.refl _ _) nq9))
      replace S5 := Lib.hid (show w5.heap.size ≤ (w8.drewN nq9).heap.size from S5.out)
      replace B0 := Lib.hid (bl_drewN B0.out nq9)
      generalize w8.drewN nq9 = w9 at *
      clear Z
      go_wp2_with fail
      refine (toIntSS_any _ _ _ _ (HH1.out.keep B0.out) HN.out).mono ?_
      rintro e w10 ⟨uV, rfl, hV, hb10⟩
      replace R := Lib.hid (R.out.keep hb10)
      replace X := Lib.hid (X.out.keep hb10)
      replace Y := Lib.hid (Y.out.keep hb10)
      replace G := Lib.hid (G.out.keep hb10)
      replace S5 := Lib.hid (Nat.le_trans S5.out hb10.size)
      replace B0 := Lib.hid (bl_trans hb10 B0.out)
      have V := Lib.hid hV
      clear hV
      clear hb10
      go_wp2_with fail
      refine (eqIntSS_any _ _ _ _ _ _ _ Y.out.toF V.out).mono ?_
      rintro e w' ⟨rfl, nq11, rfl⟩
      replace R := Lib.hid (R.out.keep (below_drewN (Below.refl _ _) nq11))
      replace X := Lib.hid (X.out.keep (below_drewN (Below.refl _ _) nq11))
      replace Y := Lib.hid (Y.out.keep (below_drewN (Below.refl _ _) nq11))
      replace G := Lib.hid (G.out.keep (below_drewN (Below.refl _ _) nq11))
      replace V := Lib.hid (V.out.keep (below_drewN (Below.refl _ _) nq11))
      replace S5 := Lib.hid (show w5.heap.size ≤ (w10.drewN nq11).heap.size from S5.out)
      replace B0 := Lib.hid (bl_drewN B0.out nq11)
      generalize w10.drewN nq11 = w11 at *
      clear V
      have SC := Lib.hid (B0.out.size)
      go_wp2_with fail
      refine (markIntS_any _ _ _ _ _ X.out (by omega) (by omega)).mono ?_
      rintro e wm ⟨rfl, hX2, hg2, hs2⟩
      replace G := Lib.hid (show IRow wm _ _ _ from World.ownsRow.kept G.out hg2 (far_ne (fun k e => Nat.le_trans S45.out (Glt.out k e)) (fun k e => (Xlt.out k e).2)))
      replace R := Lib.hid (show IRow wm _ _ _ from World.ownsRow.kept R.out hg2 (far_ne2 Rlt.out (fun k e => (Xlt.out k e).1)))
      replace Y := Lib.hid (Y.out.kept hg2 (fun k e => (Xlt.out k e).2))
      replace B0 := Lib.hid (B0.out.grown hg2 SC.out (fun k e => Nat.le_trans SW.out (Xlt.out k e).1))
      replace S5 := Lib.hid (show w5.heap.size ≤ wm.heap.size by rw [hs2]; exact S5.out)
      clear hX2 hg2 hs2 SC X
      go_wp2_with fail
      refine (markIntSS_out _ _ _ _ _ _ _ Y.out (Nat.le_trans S45.out S5.out) (by omega) (by have := HN.out; omega)).mono ?_
      rintro e wo ⟨rfl, ho⟩
      replace G := Lib.hid (IRow.outside G.out ho (fun k e => .inr (Glt.out k e)))
      replace R := Lib.hid (IRow.outside R.out ho (fun k e => .inl (Nat.lt_of_lt_of_le (Rlt.out k e) S34.out)))
      replace B0 := Lib.hid (show Below w.heap.size w wo from B0.out.trans (ho.below (Nat.le_trans SW.out S34.out) B0.out.size))
      replace S5 := Lib.hid (Nat.le_trans S5.out ho.size)
      clear ho Y
      have hk0 : ¬ (1 + (xs0.length : Int) + (tot f1 n1 : Nat) < 0) := by omega
      go_wp2_with fail
      refine (eqIntS_any _ _ _ _ _ _ G.out R.out).mono ?_
      rintro e w' ⟨rfl, nq12, rfl⟩
      replace R := Lib.hid (R.out.keep (below_drewN (Below.refl _ _) nq12))
      replace G := Lib.hid (G.out.keep (below_drewN (Below.refl _ _) nq12))
      replace S5 := Lib.hid (show w5.heap.size ≤ (wo.drewN nq12).heap.size from S5.out)
      replace B0 := Lib.hid (bl_drewN B0.out nq12)
      generalize wo.drewN nq12 = w12 at *
      go_wp2_with fail
      refine (markIntS_any _ _ _ _ _ G.out (by omega) (by omega)).mono ?_
      rintro e wp ⟨rfl, hG2, hg3, hs3⟩
      replace R := Lib.hid (show IRow wp _ _ _ from World.ownsRow.kept R.out hg3 (far_ne2 (C := w5.heap.size) (fun k e => Nat.lt_of_lt_of_le (Rlt.out k e) (Nat.le_trans S34.out S45.out)) Glt.out))
      replace B0 := Lib.hid (B0.out.grown hg3 B0.out.size (fun k e => Nat.le_trans SW.out (Nat.le_trans S34.out (Nat.le_trans S45.out (Glt.out k e)))))
      replace G := Lib.hid hG2
      clear hG2 hg3 hs3
      go_wp2_with fail
      refine (heldIntS_any _ _ _ _ _ G.out (by omega) (by omega)).mono ?_
      rintro e w' ⟨rfl, nq13, rfl⟩
      replace R := Lib.hid (R.out.keep (below_drewN (Below.refl _ _) nq13))
      replace G := Lib.hid (G.out.keep (below_drewN (Below.refl _ _) nq13))
      replace B0 := Lib.hid (bl_drewN B0.out nq13)
      generalize wp.drewN nq13 = w13 at *
      go_wp2_with fail
      refine (toIntS_any _ _ _ (HH0.out.keep B0.out) hn0).mono ?_
      rintro e w14 ⟨uA, rfl, hA, hb14⟩
      replace R := Lib.hid (R.out.keep hb14)
      replace G := Lib.hid (G.out.keep hb14)
      replace B0 := Lib.hid (bl_trans hb14 B0.out)
      have A := Lib.hid hA
      clear hA
      clear hb14
      go_wp2_with fail
      refine (toIntSS_any _ _ _ _ (HH1.out.keep B0.out) HN.out).mono ?_
      rintro e w15 ⟨uC, rfl, hC, hb15⟩
      replace R := Lib.hid (R.out.keep hb15)
      replace G := Lib.hid (G.out.keep hb15)
      replace A := Lib.hid (A.out.keep hb15)
      replace B0 := Lib.hid (bl_trans hb15 B0.out)
      have C := Lib.hid hC
      clear hC
      clear hb15
      go_wp2_with fail
      refine (impl_SeenIn _ _ _ _ _ _ _ _ A.out.toQ C.out.toQ).mono ?_
      rintro e w16 ⟨uH, rfl, hH, hb16⟩
      replace R := Lib.hid (R.out.keep hb16)
      replace G := Lib.hid (G.out.keep hb16)
      replace A := Lib.hid (A.out.keep hb16)
      replace C := Lib.hid (C.out.keep hb16)
      replace B0 := Lib.hid (bl_trans hb16 B0.out)
      have H := Lib.hid hH
      clear hH
      clear hb16
      clear A
      clear C
      go_wp2_with fail
      refine (eqIntS_any _ _ _ _ _ _ H.out R.out).mono ?_
      rintro e w' ⟨rfl, nq17, rfl⟩
      replace R := Lib.hid (R.out.keep (below_drewN (Below.refl _ _) nq17))
      replace G := Lib.hid (G.out.keep (below_drewN (Below.refl _ _) nq17))
      replace H := Lib.hid (H.out.keep (below_drewN (Below.refl _ _) nq17))
      replace B0 := Lib.hid (bl_drewN B0.out nq17)
      generalize w16.drewN nq17 = w17 at *
      clear H
      clear R
      go_wp2_with fail
      refine (heldIntS_any _ _ _ _ _ G.out (by omega) (by omega)).mono ?_
      rintro e w' ⟨rfl, nq18, rfl⟩
      replace G := Lib.hid (G.out.keep (below_drewN (Below.refl _ _) nq18))
      replace B0 := Lib.hid (bl_drewN B0.out nq18)
      generalize w17.drewN nq18 = w18 at *
      go_wp2
      go_ret
      exact ⟨rfl, B0.out⟩
    · have HSZ := Lib.hid (show szQ n1 f1 = -1 from if_neg hn1)
      clear hn1
      go_enter Try.func19, Try.ntmps19
      go_wp2_with fail
      refine (szIntSS_any _ _ _ _ HH1.out).mono ?_
      rintro e w' ⟨rfl, nz, rfl⟩
      rw [HSZ.out]
      go_wp2
      go_ret
      exact ⟨rfl, bl_drewN (Below.refl _ _) _⟩
  · go_enter Try.func19, Try.ntmps19
    go_wp2
    go_ret
    exact ⟨rfl, Below.refl _ _⟩

set_option maxRecDepth 100000 in
theorem lifted (os : Os) (started : os.Started) (H : Type) (enc : TypeId × Value → H) :
    ReturnsInHanded {} Try.checked os 19 .any (Rows.fnExactSeenInSpec.pre6 enc Try.prog Try.f19 Rows.fnExactSeenInRow.domain false) (Rows.fnExactSeenInSpec.post enc Try.prog Try.f19 false true false false) := by
  refine returnsInHanded_of_change (C := Try.checked) own started (by kernel_rfl) Try.func19
    (ChangeSpec.witness6 (enc := enc) (C := Try.checked) false ⟨#[], #[.slice none 0 0, .slice none 0 0, .int .i64 0, .int .i64 0], []⟩ 8 (by kernel_rfl) (by kernel_rfl) (by kernel_rfl) (by kernel_rfl)) ?_
  intro W base args ds gs before hval0 hW hcnd _
  have hval : ∀ (j : Nat) t v, Try.f19.params[j]? = some t → args[j]? = some v → Value.okWide Try.prog W .any base t v := hval0
  have hW' := hW
  obtain ⟨p, q, hA0, hV, rfl, hfz, hnd⟩ := hW
  have hA : DataW.TrodAll enc Try.prog W 0 (fun _ => true) true Try.f19.params.toList args.toList ds p := hA0
  rw [Try.params19] at hA hval
  obtain ⟨v0, vs0, d0, ds0, p0, q0, hargs, rfl, rfl, h0, r0⟩ := trodAll_cons hA
  obtain ⟨v1, vs1, d1, ds1, p1, q1, rfl, rfl, rfl, h1, r1⟩ := trodAll_cons r0
  obtain ⟨v2, vs2, d2, ds2, p2, q2, rfl, rfl, rfl, h2, r2⟩ := trodAll_cons r1
  obtain ⟨v3, vs3, d3, ds3, p3, q3, rfl, rfl, rfl, h3, r3⟩ := trodAll_cons r2
  obtain ⟨rfl, rfl, rfl⟩ := trodAll_nil r3
  obtain rfl : args = #[v0, v1, v2, v3] := by cases args; simp_all
  obtain ⟨rfl, rfl⟩ := trodVars_none hV
  have k0 := h0
  have lt0 : ∀ x ∈ p0, x.block < W.heap.size := by obtain ⟨m, hm⟩ := k0; exact DataW.trod_lt m _ _ _ hm
  have k1 := h1
  have lt1 : ∀ x ∈ p1, x.block < W.heap.size := by obtain ⟨m, hm⟩ := k1; exact DataW.trod_lt m _ _ _ hm
  have k2 := h2
  have lt2 : ∀ x ∈ p2, x.block < W.heap.size := by obtain ⟨m, hm⟩ := k2; exact DataW.trod_lt m _ _ _ hm
  have k3 := h3
  have lt3 : ∀ x ∈ p3, x.block < W.heap.size := by obtain ⟨m, hm⟩ := k3; exact DataW.trod_lt m _ _ _ hm
  obtain ⟨xs0, hP0⟩ := open_q (hval 0 25 v0 rfl rfl) h0
  obtain ⟨n1, f1, hP1⟩ := open_qq (hval 1 52 v1 rfl rfl) h1
  obtain ⟨a2, rfl, rfl, rfl, w2⟩ := open_int Try.underlying3 (hval 2 3 v2 rfl rfl) h2
  obtain ⟨a3, rfl, rfl, rfl, w3⟩ := open_int Try.underlying3 (hval 3 3 v3 rfl rfl) h3
  clear hA0 hval0
  refine (walk v0 xs0 v1 n1 f1 a2 a3 w2 w3 W hP0 hP1).mono fun e W' ⟨he, bel⟩ => ?_
  subst he
  exact ⟨_, rfl, _, _, _, [], _, [], hW', trodAll_mk1 (shut_bool Try.underlying4 _), (trodAll_cons_mk (Below.trod laidOut (by kernel_rfl) (of_decide_eq_true (by kernel_rfl)) k0 bel lt0) (trodAll_cons_mk (Below.trod laidOut (by kernel_rfl) (of_decide_eq_true (by kernel_rfl)) k1 bel lt1) (trodAll_cons_mk (Below.trod laidOut (by kernel_rfl) (of_decide_eq_true (by kernel_rfl)) k2 bel lt2) (trodAll_cons_mk (Below.trod laidOut (by kernel_rfl) (of_decide_eq_true (by kernel_rfl)) k3 bel lt3) trodAll_mk0)))), rfl, bel.frame _, fun h => by cases h⟩

theorem over : Rows.fnExactSeenInRow.holds Try.pinned (OpenSpec.ofChange Rows.fnExactSeenInSpec) :=
  OpenClaim.holds_of_wide 19 Try.f19 rfl rfl rfl rfl rfl rfl rfl ⟨rfl, rfl, rfl, rfl, rfl⟩ rfl rfl rfl rfl rfl (by kernel_rfl) Try.func19 (by simp only [joinedFacts, make, lifts, may, Bool.and_true]; kernel_rfl)
    (of_decide_eq_true (by kernel_rfl)) (by unfold Func.isWrapper; first | (rw [if_pos (by decide +kernel)]; kernel_rfl) | (rw [if_neg (by decide +kernel)]; exact ⟨rfl, rfl⟩))
    (fun os started H enc _ => lifted os started H enc)

theorem proved : Rows.FnExactSeenInSaid := over
#print axioms proved
end Go.Proofs.Ytfcllmlecnffdaa.fnExactSeenIn
