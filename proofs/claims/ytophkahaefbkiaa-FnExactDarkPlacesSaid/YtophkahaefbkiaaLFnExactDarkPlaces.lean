/- The law 'FnExactDarkPlaces' holds for every input. -/
import Derived.Test.YtophkahaefbkiaaV3
import Derived.Test.YtophkahaefbkiaaO
import Derived.ProofKit
import Derived.OpenShut
import Derived.ShutString
import Derived.ChangeOld
import Derived.Lib.SmallJoins
namespace Go.Proofs.Ytophkahaefbkiaa.fnExactDarkPlaces
open Go.ChangeShapes Go.WideShapes Go.ChangeAt Go.RowKit Go.Joins
open Go.ChangeMaps (open_string shut_string)
set_option linter.unusedVariables false
set_option linter.unusedSimpArgs false
theorem own : ownKnob Try.prog.godebug = none := by kernel_rfl
theorem laidOut : laidOutB Try.prog = true := by kernel_rfl

set_option maxHeartbeats 1000000 in
theorem walk (a0 : Int) (v1 : Value) (n1 : Nat) (f1 : Nat → Int) (a2 : Int) (w0 : (Lit.int .i64 a0).wf = true) (w2 : (Lit.int .i64 a2).wf = true) (w : World) (hP1 : PRow w v1 n1 f1) :
    Calls Try.prog 5 #[.int .i64 a0, v1, .int .i64 a2] w fun e w' => e = .returned (.bool true) ∧ Below w.heap.size w w' := by
  have HH := Lib.hid hP1
  clear hP1
  have hx := DPL_len a0 n1 f1 a2
  by_cases hn : n1 ≤ 1048576
  · go_enter Try.func5, Try.ntmps5
    go_wp2_with fail
    refine (szPoleS_any _ _ _ _ HH.out).mono ?_
    rintro e w' ⟨rfl, rfl⟩
    rw [if_pos hn]
    go_wp2_with fail
    refine (toPoleS_any _ _ _ _ HH.out hn).mono ?_
    rintro e w1 ⟨u1, rfl, hO1, hb1⟩
    have O1 := Lib.hid hO1
    have B1 := Lib.hid hb1
    clear hO1 hb1
    go_wp2_with fail
    refine (spec_DarkPlaces _ _ _ _ _ _ O1.out.toP O1.out.caps).mono ?_
    rintro e w2 ⟨v0, rfl, hV0, hb2⟩
    have V0 := Lib.hid hV0
    have v0lt := Lib.hid (fun g e => (World.ownsRow.lt hV0 g e).2)
    have B2 := Lib.hid (bl_trans hb2 B1.out)
    clear hb2 hV0
    go_wp2_with fail
    refine (toPoleS_any _ _ _ _ (HH.out.keep B2.out) hn).mono ?_
    rintro e w3 ⟨u2, rfl, hO2, hb3⟩
    have O2 := Lib.hid hO2
    have u2ge := Lib.hid (fun g e => (World.ownsRow.lt hO2 g e).1)
    have u2lt := Lib.hid (fun g e => (World.ownsRow.lt hO2 g e).2)
    have V3 := Lib.hid (V0.out.keep hb3)
    have S3 := Lib.hid hb3.size
    have B3 := Lib.hid (bl_trans hb3 B2.out)
    clear hO2 hb3 V0
    go_wp2_with fail
    refine (impl_DarkPlaces _ _ _ _ _ _ O2.out.toP O2.out.caps).mono ?_
    rintro e w4 ⟨g0, rfl, hG, hb4⟩
    have G4 := Lib.hid hG
    have g0ge := Lib.hid (fun g e => (World.ownsRow.lt hG g e).1)
    have O4 := Lib.hid (O2.out.keep hb4)
    have V4 := Lib.hid (V3.out.keep hb4)
    have S4 := Lib.hid hb4.size
    have B4 := Lib.hid (bl_trans hb4 B3.out)
    clear hb4 hG O2 V3
    go_wp2_with fail
    refine (eqIntS_any _ _ _ _ _ _ G4.out V4.out).mono ?_
    rintro e w' ⟨rfl, nq1, rfl⟩
    have G5 := Lib.hid (show IRow (w4.drewN nq1) _ _ _ from G4.out)
    have V5 := Lib.hid (show IRow (w4.drewN nq1) _ _ _ from V4.out)
    have O5 := Lib.hid (show ORow (w4.drewN nq1) _ _ _ _ from O4.out)
    have B5 := Lib.hid (bl_drewN B4.out nq1)
    have S5 := Lib.hid (show w3.heap.size ≤ (w4.drewN nq1).heap.size from S4.out)
    clear G4 V4 O4 B4 S4
    generalize w4.drewN nq1 = w5 at *
    go_wp2_with fail
    refine (toPoleS_any _ _ _ _ (HH.out.keep B5.out) hn).mono ?_
    rintro e w6 ⟨u3, rfl, hO6, hb6⟩
    have O6 := Lib.hid hO6
    have O6' := Lib.hid (O5.out.keep hb6)
    have G6 := Lib.hid (G5.out.keep hb6)
    have V6 := Lib.hid (V5.out.keep hb6)
    have S6 := Lib.hid (Nat.le_trans S5.out hb6.size)
    have B6 := Lib.hid (bl_trans hb6 B5.out)
    clear hO6 hb6 O5 G5 V5 S5 B5
    go_wp2_with fail
    refine (eqPoleS_any _ _ _ _ _ O6'.out.toP O6.out.toP).mono ?_
    rintro e w7 ⟨rfl, hb7⟩
    have O7 := Lib.hid (O6'.out.keep hb7)
    have G7 := Lib.hid (G6.out.keep hb7)
    have V7 := Lib.hid (V6.out.keep hb7)
    have S7 := Lib.hid (Nat.le_trans S6.out hb7.size)
    have B7 := Lib.hid (bl_trans hb7 B6.out)
    clear hb7 O6 O6' G6 V6 S6 B6
    go_wp2_with fail
    refine (markPoleS_any _ _ _ _ _ _ O7.out (by omega) (by omega)).mono ?_
    rintro e w8 ⟨rfl, hO8, hg8, hs8⟩
    have G8 := Lib.hid (World.ownsRow.kept G7.out hg8 (Or.imp id Ne.symm (by
      have := ne_block (m := w3.heap.size) u2lt.out g0ge.out
      rcases this with h | h
      · cases e : g0.ownBlock with
        | none => exact .inl rfl
        | some q => exact .inr (by rw [h]; simp)
      · exact .inr h)) : IRow w8 _ _ _)
    have V8 := Lib.hid (World.ownsRow.kept V7.out hg8 (ne_block v0lt.out u2ge.out) : IRow w8 _ _ _)
    have S8 := Lib.hid (show w3.heap.size ≤ w8.heap.size by rw [hs8]; exact S7.out)
    have B8 := Lib.hid (show Below w.heap.size w w8 from B7.out.grown hg8 B7.out.size fun g e => Nat.le_trans B2.out.size (u2ge.out g e))
    clear hO8 hg8 hs8 O7 G7 V7 S7 B7
    have hk0 : ¬ (1 + (n1 : Int) * 2 < 0) := by omega
    go_wp2_with fail
    refine (eqIntS_any _ _ _ _ _ _ G8.out V8.out).mono ?_
    rintro e w' ⟨rfl, nq2, rfl⟩
    have G9 := Lib.hid (show IRow (w8.drewN nq2) _ _ _ from G8.out)
    have V9 := Lib.hid (show IRow (w8.drewN nq2) _ _ _ from V8.out)
    have B9 := Lib.hid (bl_drewN B8.out nq2)
    have S9 := Lib.hid (show w3.heap.size ≤ (w8.drewN nq2).heap.size from S8.out)
    clear G8 V8 B8 S8
    generalize w8.drewN nq2 = w9 at *
    go_wp2_with fail
    refine (markIntS_any _ _ _ _ _ G9.out (by omega) (by omega)).mono ?_
    rintro e wa ⟨rfl, hGa, hga, hsa⟩
    have Ga := Lib.hid hGa
    have Va := Lib.hid (World.ownsRow.kept V9.out hga (ne_block (fun g e => Nat.lt_of_lt_of_le (v0lt.out g e) S3.out) g0ge.out) : IRow wa _ _ _)
    have Ba := Lib.hid (show Below w.heap.size w wa from B9.out.grown hga B9.out.size fun g e => Nat.le_trans B3.out.size (g0ge.out g e))
    clear hGa hga hsa G9 V9 B9 S9
    go_wp2_with fail
    refine (heldIntS_any _ _ _ _ _ Ga.out (by omega) (by omega)).mono ?_
    rintro e w' ⟨rfl, nq3, rfl⟩
    have Gb := Lib.hid (show IRow (wa.drewN nq3) _ _ _ from Ga.out)
    have Vb := Lib.hid (show IRow (wa.drewN nq3) _ _ _ from Va.out)
    have Bb := Lib.hid (bl_drewN Ba.out nq3)
    clear Ga Va Ba
    generalize wa.drewN nq3 = wb at *
    go_wp2_with fail
    refine (toPoleS_any _ _ _ _ (HH.out.keep Bb.out) hn).mono ?_
    rintro e wc ⟨u4, rfl, hOc, hbc⟩
    have Oc := Lib.hid hOc
    have Gc := Lib.hid (Gb.out.keep hbc)
    have Vc := Lib.hid (Vb.out.keep hbc)
    have Bc := Lib.hid (bl_trans hbc Bb.out)
    clear hOc hbc Gb Vb Bb
    go_wp2_with fail
    refine (impl_DarkPlaces _ _ _ _ _ _ Oc.out.toP Oc.out.caps).mono ?_
    rintro e wd ⟨h0, rfl, hHd, hbd⟩
    have Hd := Lib.hid hHd
    have Gd := Lib.hid (Gc.out.keep hbd)
    have Vd := Lib.hid (Vc.out.keep hbd)
    have Bd := Lib.hid (bl_trans hbd Bc.out)
    clear hHd hbd Gc Vc Bc
    go_wp2_with fail
    refine (eqIntS_any _ _ _ _ _ _ Hd.out Vd.out).mono ?_
    rintro e w' ⟨rfl, nq4, rfl⟩
    have Ge := Lib.hid (show IRow (wd.drewN nq4) _ _ _ from Gd.out)
    have Be := Lib.hid (bl_drewN Bd.out nq4)
    clear Gd Vd Hd Bd
    generalize wd.drewN nq4 = we at *
    go_wp2_with fail
    refine (heldIntS_any _ _ _ _ _ Ge.out (by omega) (by omega)).mono ?_
    rintro e w' ⟨rfl, nq5, rfl⟩
    go_wp2
    go_ret
    exact ⟨rfl, bl_drewN Be.out _⟩
  · go_enter Try.func5, Try.ntmps5
    go_wp2_with fail
    refine (szPoleS_any _ _ _ _ HH.out).mono ?_
    rintro e w' ⟨rfl, rfl⟩
    rw [if_neg hn]
    go_wp2
    go_ret
    exact ⟨rfl, Below.refl _ _⟩

set_option maxRecDepth 100000 in
theorem lifted (os : Os) (started : os.Started) (H : Type) (enc : TypeId × Value → H) :
    ReturnsInHanded {} Try.checked os 5 .any (Rows.fnExactDarkPlacesSpec.pre6 enc Try.prog Try.f5 Rows.fnExactDarkPlacesRow.domain false) (Rows.fnExactDarkPlacesSpec.post enc Try.prog Try.f5 false true false false) := by
  refine returnsInHanded_of_change (C := Try.checked) own started (by kernel_rfl) Try.func5
    (ChangeSpec.witness6 (enc := enc) (C := Try.checked) false ⟨#[], #[.int .i64 0, .slice none 0 0, .int .i64 0], []⟩ 8 (by kernel_rfl) (by kernel_rfl) (by kernel_rfl) (by kernel_rfl)) ?_
  intro W base args ds gs before hval0 hW hcnd _
  have hval : ∀ (j : Nat) t v, Try.f5.params[j]? = some t → args[j]? = some v → Value.okWide Try.prog W .any base t v := hval0
  have hW' := hW
  obtain ⟨p, q, hA0, hV, rfl, hfz, hnd⟩ := hW
  have hA : DataW.TrodAll enc Try.prog W 0 (fun _ => true) true Try.f5.params.toList args.toList ds p := hA0
  rw [Try.params5] at hA hval
  obtain ⟨v0, vs0, d0, ds0, p0, q0, hargs, rfl, rfl, h0, r0⟩ := trodAll_cons hA
  obtain ⟨v1, vs1, d1, ds1, p1, q1, rfl, rfl, rfl, h1, r1⟩ := trodAll_cons r0
  obtain ⟨v2, vs2, d2, ds2, p2, q2, rfl, rfl, rfl, h2, r2⟩ := trodAll_cons r1
  obtain ⟨rfl, rfl, rfl⟩ := trodAll_nil r2
  obtain rfl : args = #[v0, v1, v2] := by cases args; simp_all
  obtain ⟨rfl, rfl⟩ := trodVars_none hV
  have k0 := h0
  have lt0 : ∀ x ∈ p0, x.block < W.heap.size := by obtain ⟨m, hm⟩ := k0; exact DataW.trod_lt m _ _ _ hm
  have k1 := h1
  have lt1 : ∀ x ∈ p1, x.block < W.heap.size := by obtain ⟨m, hm⟩ := k1; exact DataW.trod_lt m _ _ _ hm
  have k2 := h2
  have lt2 : ∀ x ∈ p2, x.block < W.heap.size := by obtain ⟨m, hm⟩ := k2; exact DataW.trod_lt m _ _ _ hm
  obtain ⟨a0, rfl, rfl, rfl, w0⟩ := open_int Try.underlying3 (hval 0 3 v0 rfl rfl) h0
  obtain ⟨n1, f1, hP1⟩ := open_poles (hval 1 33 v1 rfl rfl) h1
  obtain ⟨a2, rfl, rfl, rfl, w2⟩ := open_int Try.underlying3 (hval 2 3 v2 rfl rfl) h2
  clear hA0 hval0
  refine (walk a0 v1 n1 f1 a2 w0 w2 W hP1).mono fun e W' ⟨he, bel⟩ => ?_
  subst he
  exact ⟨_, rfl, _, _, _, [], _, [], hW', trodAll_mk1 (shut_bool Try.underlying4 _), (trodAll_cons_mk (Below.trod laidOut (by kernel_rfl) (of_decide_eq_true (by kernel_rfl)) k0 bel lt0) (trodAll_cons_mk (Below.trod laidOut (by kernel_rfl) (of_decide_eq_true (by kernel_rfl)) k1 bel lt1) (trodAll_cons_mk (Below.trod laidOut (by kernel_rfl) (of_decide_eq_true (by kernel_rfl)) k2 bel lt2) trodAll_mk0))), rfl, bel.frame _, fun h => by cases h⟩

theorem over : Rows.fnExactDarkPlacesRow.holds Try.pinned (OpenSpec.ofChange Rows.fnExactDarkPlacesSpec) :=
  OpenClaim.holds_of_wide 5 Try.f5 rfl rfl rfl rfl rfl rfl rfl ⟨rfl, rfl, rfl, rfl, rfl⟩ rfl rfl rfl rfl rfl (by kernel_rfl) Try.func5 (by simp only [joinedFacts, make, lifts, may, Bool.and_true]; kernel_rfl)
    (of_decide_eq_true (by kernel_rfl)) (by unfold Func.isWrapper; first | (rw [if_pos (by decide +kernel)]; kernel_rfl) | (rw [if_neg (by decide +kernel)]; exact ⟨rfl, rfl⟩))
    (fun os started H enc _ => lifted os started H enc)

theorem proved : Rows.FnExactDarkPlacesSaid := over
#print axioms proved
end Go.Proofs.Ytophkahaefbkiaa.fnExactDarkPlaces
