/- The law 'FnExactNearestByMirror' holds for every input. -/
import Derived.Test.YtppgcaennhghoaaLWN
import Derived.Test.YtppgcaennhghoaaO
import Derived.ProofKit
import Derived.OpenShut
import Derived.ShutString
import Derived.ChangeOld
import Derived.Lib.SmallJoins
namespace Go.Proofs.Ytppgcaennhghoaa.fnExactNearestByMirror
open Go.ChangeShapes Go.WideShapes Go.ChangeAt Go.RowKit Go.Joins
open Go.ChangeMaps (open_string shut_string)
set_option linter.unusedVariables false
set_option linter.unusedSimpArgs false
theorem own : ownKnob Try.prog.godebug = none := by kernel_rfl
theorem laidOut : laidOutB Try.prog = true := by kernel_rfl

set_option maxHeartbeats 1000000 in
theorem walk (a00 : Int) (a01 : Int) (v1 : Value) (n1 : Nat) (f1 : Nat → Int) (w00 : (Lit.int .i64 a00).wf = true) (w01 : (Lit.int .i64 a01).wf = true) (w : World) (hP1 : PRow w v1 n1 f1) :
    Calls Try.prog 18 #[.agg #[.int .i64 a00, .int .i64 a01], v1] w fun e w' => e = .returned (.bool true) ∧ Below w.heap.size w w' := by
  have HH := Lib.hid hP1
  clear hP1
  by_cases hn : n1 ≤ 1048576
  · go_enter Try.func18, Try.ntmps18
    go_wp2_with fail
    refine (szSpotS_any _ _ _ _ (HH.out.keep (bl_alloc (Below.refl _ _) _))).mono ?_
    rintro e w' ⟨rfl, rfl⟩
    rw [if_pos hn]
    go_wp2_with fail
    refine (toSpot_any _ _ _).mono ?_
    rintro e x1 ⟨rfl, hbx1⟩
    obtain ⟨hcx1, hfx1⟩ := bcell hbx1
    have hzx1 := bsize hbx1
    (try simp only [World.size_alloc, World.size_setCell] at hzx1)
    have kx1_0_0 : x1.cell? ⟨w.heap.size, 0, none⟩ = some (.int .i64 a00) := by rw [hcx1 _ _ (by first | (simp; done) | omega | (simp; omega))]; first | assumption | (simp [go_sem]; done) | (simp [go_sem]; done) | (simp [go_sem, *]; done)
    have kx1_0_1 : x1.cell? ⟨w.heap.size, 1, none⟩ = some (.int .i64 a01) := by rw [hcx1 _ _ (by first | (simp; done) | omega | (simp; omega))]; first | assumption | (simp [go_sem]; done) | (simp [go_sem]; done) | (simp [go_sem, *]; done)
    have sx1_0 : w.heap.size < x1.heap.size := by first | omega | (simp at *; omega)
    have hBx1 : Below w.heap.size w x1 := (by repeat (first | exact Below.refl _ _ | refine bl_alloc ?_ _ | refine bl_drewN ?_ _ | refine bl_trans (by assumption) ?_ | refine bl_set ?_ (by first | omega | (simp; done) | (simp; omega)) _))
    have HBx1 := Lib.hid hBx1
    clear hBx1 hcx1 hfx1 hbx1
    go_wp2_with fail
    refine (toSpotS_any _ _ _ _ (HH.out.keep HBx1.out) hn).mono ?_
    rintro e x2 ⟨u1, rfl, hO1, hbx2⟩
    obtain ⟨hcx2, hfx2⟩ := bcell hbx2
    have hzx2 := bsize hbx2
    (try simp only [World.size_alloc, World.size_setCell] at hzx2)
    have hkx2 : Below x1.heap.size x1 x2 := (by repeat (first | exact Below.refl _ _ | refine bl_alloc ?_ _ | refine bl_drewN ?_ _ | refine bl_trans (by assumption) ?_ | refine bl_set ?_ (by first | omega | (simp; done) | (simp; omega)) _))
    have O1 := Lib.hid hO1
    clear hO1
    have kx2_0_0 : x2.cell? ⟨w.heap.size, 0, none⟩ = some (.int .i64 a00) := cell_after hkx2 sx1_0 kx1_0_0
    have kx2_0_1 : x2.cell? ⟨w.heap.size, 1, none⟩ = some (.int .i64 a01) := cell_after hkx2 sx1_0 kx1_0_1
    have sx2_0 : w.heap.size < x2.heap.size := size_after hkx2 sx1_0
    have hBx2 : Below w.heap.size w x2 := (by repeat (first | exact HBx1.out | exact Below.refl _ _ | refine bl_alloc ?_ _ | refine bl_drewN ?_ _ | refine bl_trans (by assumption) ?_ | refine bl_set ?_ (by first | omega | (simp; done) | (simp; omega)) _))
    have HBx2 := Lib.hid hBx2
    clear hBx2 hcx2 hfx2 hbx2 hkx2 kx1_0_0 kx1_0_1 sx1_0
    go_wp2_with fail
    refine (spec_NearestByMirror _ _ _ _ _ _ O1.out.toP).mono ?_
    rintro e x3 ⟨rfl, hbx3⟩
    obtain ⟨hcx3, hfx3⟩ := bcell hbx3
    have hzx3 := bsize hbx3
    (try simp only [World.size_alloc, World.size_setCell] at hzx3)
    have hkx3 : Below x2.heap.size x2 x3 := (by repeat (first | exact Below.refl _ _ | refine bl_alloc ?_ _ | refine bl_drewN ?_ _ | refine bl_trans (by assumption) ?_ | refine bl_set ?_ (by first | omega | (simp; done) | (simp; omega)) _))
    clear O1
    have kx3_0_0 : x3.cell? ⟨w.heap.size, 0, none⟩ = some (.int .i64 a00) := cell_after hkx3 sx2_0 kx2_0_0
    have kx3_0_1 : x3.cell? ⟨w.heap.size, 1, none⟩ = some (.int .i64 a01) := cell_after hkx3 sx2_0 kx2_0_1
    have sx3_0 : w.heap.size < x3.heap.size := size_after hkx3 sx2_0
    have hBx3 : Below w.heap.size w x3 := (by repeat (first | exact HBx2.out | exact Below.refl _ _ | refine bl_alloc ?_ _ | refine bl_drewN ?_ _ | refine bl_trans (by assumption) ?_ | refine bl_set ?_ (by first | omega | (simp; done) | (simp; omega)) _))
    have HBx3 := Lib.hid hBx3
    clear hBx3 hcx3 hfx3 hbx3 hkx3 kx2_0_0 kx2_0_1 sx2_0
    go_wp2_with fail
    refine (toSpotS_any _ _ _ _ (HH.out.keep HBx3.out) hn).mono ?_
    rintro e x4 ⟨u2, rfl, hO2, hbx4⟩
    obtain ⟨hcx4, hfx4⟩ := bcell hbx4
    have hzx4 := bsize hbx4
    (try simp only [World.size_alloc, World.size_setCell] at hzx4)
    have hkx4 : Below x3.heap.size x3 x4 := (by repeat (first | exact Below.refl _ _ | refine bl_alloc ?_ _ | refine bl_drewN ?_ _ | refine bl_trans (by assumption) ?_ | refine bl_set ?_ (by first | omega | (simp; done) | (simp; omega)) _))
    have O2 := Lib.hid hO2
    clear hO2
    have kx4_0_0 : x4.cell? ⟨w.heap.size, 0, none⟩ = some (.int .i64 a00) := cell_after hkx4 sx3_0 kx3_0_0
    have kx4_0_1 : x4.cell? ⟨w.heap.size, 1, none⟩ = some (.int .i64 a01) := cell_after hkx4 sx3_0 kx3_0_1
    have sx4_0 : w.heap.size < x4.heap.size := size_after hkx4 sx3_0
    have hBx4 : Below w.heap.size w x4 := (by repeat (first | exact HBx3.out | exact Below.refl _ _ | refine bl_alloc ?_ _ | refine bl_drewN ?_ _ | refine bl_trans (by assumption) ?_ | refine bl_set ?_ (by first | omega | (simp; done) | (simp; omega)) _))
    have HBx4 := Lib.hid hBx4
    clear hBx4 hcx4 hfx4 hbx4 hkx4 kx3_0_0 kx3_0_1 sx3_0
    go_wp2_with fail
    refine (toSpot_any _ _ _).mono ?_
    rintro e x5 ⟨rfl, hbx5⟩
    obtain ⟨hcx5, hfx5⟩ := bcell hbx5
    have hzx5 := bsize hbx5
    (try simp only [World.size_alloc, World.size_setCell] at hzx5)
    have hkx5 : Below x4.heap.size x4 x5 := (by repeat (first | exact Below.refl _ _ | refine bl_alloc ?_ _ | refine bl_drewN ?_ _ | refine bl_trans (by assumption) ?_ | refine bl_set ?_ (by first | omega | (simp; done) | (simp; omega)) _))
    have O2 := Lib.hid (O2.out.keep hkx5)
    have kx5_0_0 : x5.cell? ⟨w.heap.size, 0, none⟩ = some (.int .i64 a00) := cell_after hkx5 sx4_0 kx4_0_0
    have kx5_0_1 : x5.cell? ⟨w.heap.size, 1, none⟩ = some (.int .i64 a01) := cell_after hkx5 sx4_0 kx4_0_1
    have sx5_0 : w.heap.size < x5.heap.size := size_after hkx5 sx4_0
    have hBx5 : Below w.heap.size w x5 := (by repeat (first | exact HBx4.out | exact Below.refl _ _ | refine bl_alloc ?_ _ | refine bl_drewN ?_ _ | refine bl_trans (by assumption) ?_ | refine bl_set ?_ (by first | omega | (simp; done) | (simp; omega)) _))
    have HBx5 := Lib.hid hBx5
    clear hBx5 hcx5 hfx5 hbx5 hkx5 kx4_0_0 kx4_0_1 sx4_0
    go_wp2_with fail
    refine (impl_NearestByMirror _ _ _ _ _ _ O2.out.toP).mono ?_
    rintro e x6 ⟨rfl, hbx6⟩
    obtain ⟨hcx6, hfx6⟩ := bcell hbx6
    have hzx6 := bsize hbx6
    (try simp only [World.size_alloc, World.size_setCell] at hzx6)
    have hkx6 : Below x5.heap.size x5 x6 := (by repeat (first | exact Below.refl _ _ | refine bl_alloc ?_ _ | refine bl_drewN ?_ _ | refine bl_trans (by assumption) ?_ | refine bl_set ?_ (by first | omega | (simp; done) | (simp; omega)) _))
    have O2 := Lib.hid (O2.out.keep hkx6)
    have kx6_0_0 : x6.cell? ⟨w.heap.size, 0, none⟩ = some (.int .i64 a00) := cell_after hkx6 sx5_0 kx5_0_0
    have kx6_0_1 : x6.cell? ⟨w.heap.size, 1, none⟩ = some (.int .i64 a01) := cell_after hkx6 sx5_0 kx5_0_1
    have sx6_0 : w.heap.size < x6.heap.size := size_after hkx6 sx5_0
    have hBx6 : Below w.heap.size w x6 := (by repeat (first | exact HBx5.out | exact Below.refl _ _ | refine bl_alloc ?_ _ | refine bl_drewN ?_ _ | refine bl_trans (by assumption) ?_ | refine bl_set ?_ (by first | omega | (simp; done) | (simp; omega)) _))
    have HBx6 := Lib.hid hBx6
    clear hBx6 hcx6 hfx6 hbx6 hkx6 kx5_0_0 kx5_0_1 sx5_0
    go_wp2_with fail
    refine (toSpotS_any _ _ _ _ (HH.out.keep HBx6.out) hn).mono ?_
    rintro e x7 ⟨u3, rfl, hO3, hbx7⟩
    obtain ⟨hcx7, hfx7⟩ := bcell hbx7
    have hzx7 := bsize hbx7
    (try simp only [World.size_alloc, World.size_setCell] at hzx7)
    have hkx7 : Below x6.heap.size x6 x7 := (by repeat (first | exact Below.refl _ _ | refine bl_alloc ?_ _ | refine bl_drewN ?_ _ | refine bl_trans (by assumption) ?_ | refine bl_set ?_ (by first | omega | (simp; done) | (simp; omega)) _))
    have O2 := Lib.hid (O2.out.keep hkx7)
    have O3 := Lib.hid hO3
    clear hO3
    have kx7_0_0 : x7.cell? ⟨w.heap.size, 0, none⟩ = some (.int .i64 a00) := cell_after hkx7 sx6_0 kx6_0_0
    have kx7_0_1 : x7.cell? ⟨w.heap.size, 1, none⟩ = some (.int .i64 a01) := cell_after hkx7 sx6_0 kx6_0_1
    have sx7_0 : w.heap.size < x7.heap.size := size_after hkx7 sx6_0
    have hBx7 : Below w.heap.size w x7 := (by repeat (first | exact HBx6.out | exact Below.refl _ _ | refine bl_alloc ?_ _ | refine bl_drewN ?_ _ | refine bl_trans (by assumption) ?_ | refine bl_set ?_ (by first | omega | (simp; done) | (simp; omega)) _))
    have HBx7 := Lib.hid hBx7
    clear hBx7 hcx7 hfx7 hbx7 hkx7 kx6_0_0 kx6_0_1 sx6_0
    go_wp2_with fail
    refine (eqSpotS_any _ _ _ _ _ O2.out.toP O3.out.toP).mono ?_
    rintro e x8 ⟨rfl, hbx8⟩
    obtain ⟨hcx8, hfx8⟩ := bcell hbx8
    have hzx8 := bsize hbx8
    (try simp only [World.size_alloc, World.size_setCell] at hzx8)
    have hkx8 : Below x7.heap.size x7 x8 := (by repeat (first | exact Below.refl _ _ | refine bl_alloc ?_ _ | refine bl_drewN ?_ _ | refine bl_trans (by assumption) ?_ | refine bl_set ?_ (by first | omega | (simp; done) | (simp; omega)) _))
    have kx8_0_0 : x8.cell? ⟨w.heap.size, 0, none⟩ = some (.int .i64 a00) := cell_after hkx8 sx7_0 kx7_0_0
    have kx8_0_1 : x8.cell? ⟨w.heap.size, 1, none⟩ = some (.int .i64 a01) := cell_after hkx8 sx7_0 kx7_0_1
    have sx8_0 : w.heap.size < x8.heap.size := size_after hkx8 sx7_0
    have hBx8 : Below w.heap.size w x8 := (by repeat (first | exact HBx7.out | exact Below.refl _ _ | refine bl_alloc ?_ _ | refine bl_drewN ?_ _ | refine bl_trans (by assumption) ?_ | refine bl_set ?_ (by first | omega | (simp; done) | (simp; omega)) _))
    have HBx8 := Lib.hid hBx8
    clear hBx8 hcx8 hfx8 hbx8 hkx8 kx7_0_0 kx7_0_1 sx7_0
    go_wp2
    go_ret
    exact ⟨rfl, (by repeat (first | exact HBx8.out | exact Below.refl _ _ | refine bl_alloc ?_ _ | refine bl_drewN ?_ _ | refine bl_trans (by assumption) ?_ | refine bl_set ?_ (by first | omega | (simp; done) | (simp; omega)) _))⟩
  · go_enter Try.func18, Try.ntmps18
    go_wp2_with fail
    refine (szSpotS_any _ _ _ _ (HH.out.keep (bl_alloc (Below.refl _ _) _))).mono ?_
    rintro e w' ⟨rfl, rfl⟩
    rw [if_neg hn]
    go_wp2
    go_ret
    exact ⟨rfl, bl_alloc (Below.refl _ _) _⟩

set_option maxRecDepth 100000 in
theorem lifted (os : Os) (started : os.Started) (H : Type) (enc : TypeId × Value → H) :
    ReturnsInHanded {} Try.checked os 18 .any (Rows.fnExactNearestByMirrorSpec.pre6 enc Try.prog Try.f18 Rows.fnExactNearestByMirrorRow.domain false) (Rows.fnExactNearestByMirrorSpec.post enc Try.prog Try.f18 false true false false) := by
  refine returnsInHanded_of_change (C := Try.checked) own started (by kernel_rfl) Try.func18
    (ChangeSpec.witness6 (enc := enc) (C := Try.checked) false ⟨#[], #[.agg #[.int .i64 0, .int .i64 0], .slice none 0 0], []⟩ 8 (by kernel_rfl) (by kernel_rfl) (by kernel_rfl) (by kernel_rfl)) ?_
  intro W base args ds gs before hval0 hW hcnd _
  have hval : ∀ (j : Nat) t v, Try.f18.params[j]? = some t → args[j]? = some v → Value.okWide Try.prog W .any base t v := hval0
  have hW' := hW
  obtain ⟨p, q, hA0, hV, rfl, hfz, hnd⟩ := hW
  have hA : DataW.TrodAll enc Try.prog W 0 (fun _ => true) true Try.f18.params.toList args.toList ds p := hA0
  rw [Try.params18] at hA hval
  obtain ⟨v0, vs0, d0, ds0, p0, q0, hargs, rfl, rfl, h0, r0⟩ := trodAll_cons hA
  obtain ⟨v1, vs1, d1, ds1, p1, q1, rfl, rfl, rfl, h1, r1⟩ := trodAll_cons r0
  obtain ⟨rfl, rfl, rfl⟩ := trodAll_nil r1
  obtain rfl : args = #[v0, v1] := by cases args; simp_all
  obtain ⟨rfl, rfl⟩ := trodVars_none hV
  have k0 := h0
  have lt0 : ∀ x ∈ p0, x.block < W.heap.size := by obtain ⟨m, hm⟩ := k0; exact DataW.trod_lt m _ _ _ hm
  have k1 := h1
  have lt1 : ∀ x ∈ p1, x.block < W.heap.size := by obtain ⟨m, hm⟩ := k1; exact DataW.trod_lt m _ _ _ hm
  obtain ⟨c00, c01, y00, y01, m0, rfl, rfl, rfl, hy00, hy01⟩ := open_agg2 Try.underlying23 (by kernel_rfl) (by kernel_rfl) (hval 0 23 v0 rfl rfl) h0
  obtain ⟨a00, e00, rfl, w00⟩ := DataW.trod_int Try.underlying3 hy00
  obtain ⟨a01, e01, rfl, w01⟩ := DataW.trod_int Try.underlying3 hy01
  simp at e00 e01
  subst e00 e01
  obtain ⟨n1, f1, hP1⟩ := open_spots (hval 1 58 v1 rfl rfl) h1
  clear hA0 hval0
  refine (walk a00 a01 v1 n1 f1 w00 w01 W hP1).mono fun e W' ⟨he, bel⟩ => ?_
  subst he
  exact ⟨_, rfl, _, _, _, [], _, [], hW', trodAll_mk1 (shut_bool Try.underlying4 _), (trodAll_cons_mk (Below.trod laidOut (by kernel_rfl) (of_decide_eq_true (by kernel_rfl)) k0 bel lt0) (trodAll_cons_mk (Below.trod laidOut (by kernel_rfl) (of_decide_eq_true (by kernel_rfl)) k1 bel lt1) trodAll_mk0)), rfl, bel.frame _, fun h => by cases h⟩

theorem over : Rows.fnExactNearestByMirrorRow.holds Try.pinned (OpenSpec.ofChange Rows.fnExactNearestByMirrorSpec) :=
  OpenClaim.holds_of_wide 18 Try.f18 rfl rfl rfl rfl rfl rfl rfl ⟨rfl, rfl, rfl, rfl, rfl⟩ rfl rfl rfl rfl rfl (by kernel_rfl) Try.func18 (by simp only [joinedFacts, make, lifts, may, Bool.and_true]; kernel_rfl)
    (of_decide_eq_true (by kernel_rfl)) (by unfold Func.isWrapper; first | (rw [if_pos (by decide +kernel)]; kernel_rfl) | (rw [if_neg (by decide +kernel)]; exact ⟨rfl, rfl⟩))
    (fun os started H enc _ => lifted os started H enc)

theorem proved : Rows.FnExactNearestByMirrorSaid := over
#print axioms proved
end Go.Proofs.Ytppgcaennhghoaa.fnExactNearestByMirror
