/- The law 'FnExactBackBeam' holds for every input. -/
import Derived.Test.YtnhjiipkekblfaaB10
import Derived.Deep.Cut
import Derived.Deep.DeepCutAuto
import Derived.Test.YtnhjiipkekblfaaO
import Derived.ProofKit
import Derived.OpenShut
import Derived.ShutString
import Derived.ChangeOld
import Derived.Lib.SmallJoins
namespace Go.Proofs.Ytnhjiipkekblfaa.fnExactBackBeam
open Go.ChangeShapes Go.WideShapes Go.ChangeAt Go.RowKit Go.Joins
open Go.ChangeMaps (open_string shut_string)
set_option linter.unusedVariables false
set_option linter.unusedSimpArgs false
theorem own : ownKnob Try.prog.godebug = none := by kernel_rfl
theorem laidOut : laidOutB Try.prog = true := by kernel_rfl
theorem last11 {a b c d e f g h i j : Prop} {D : Prop} (k : a ∧ b ∧ c ∧ d ∧ e ∧ f ∧ g ∧ h ∧ i ∧ j ∧ D) : D := k.2.2.2.2.2.2.2.2.2.2
theorem ten_after {c p : Nat} {v1 v2 v3 v4 v5 v6 v7 v8 v9 v0 : Value} {W0 v : World} (h1 : W0.cell? ⟨c, 0, none⟩ = some v1) (h2 : W0.cell? ⟨c, 1, none⟩ = some v2) (h3 : W0.cell? ⟨c + 1, 0, none⟩ = some v3) (h4 : W0.cell? ⟨c + 1, 1, none⟩ = some v4) (h5 : W0.cell? ⟨c + 1, 2, none⟩ = some v5) (h6 : W0.cell? ⟨c + 1, 3, none⟩ = some v6)
    (h7 : W0.cell? ⟨p, 0, none⟩ = some v7) (h8 : W0.cell? ⟨p, 1, none⟩ = some v8) (h9 : W0.cell? ⟨p, 2, none⟩ = some v9) (h0 : W0.cell? ⟨p, 3, none⟩ = some v0) (l0 : c < W0.heap.size) (l1 : c + 1 < W0.heap.size) (lp : p < W0.heap.size) (hb : Below W0.heap.size W0 v) :
    v.cell? ⟨c, 0, none⟩ = some v1 ∧ v.cell? ⟨c, 1, none⟩ = some v2 ∧ v.cell? ⟨c + 1, 0, none⟩ = some v3 ∧ v.cell? ⟨c + 1, 1, none⟩ = some v4 ∧ v.cell? ⟨c + 1, 2, none⟩ = some v5 ∧ v.cell? ⟨c + 1, 3, none⟩ = some v6 ∧
      v.cell? ⟨p, 0, none⟩ = some v7 ∧ v.cell? ⟨p, 1, none⟩ = some v8 ∧ v.cell? ⟨p, 2, none⟩ = some v9 ∧ v.cell? ⟨p, 3, none⟩ = some v0 ∧ Below W0.heap.size W0 v :=
  ⟨cell_after hb l0 h1, cell_after hb l0 h2, cell_after hb l1 h3, cell_after hb l1 h4, cell_after hb l1 h5, cell_after hb l1 h6, cell_after hb lp h7, cell_after hb lp h8, cell_after hb lp h9, cell_after hb lp h0, hb⟩

set_option maxHeartbeats 10000000 in
theorem walk (a00 : Int) (a01 : Int) (a10 : Int) (a11 : Int) (a12 : Bool) (a13 : Bool) (w00 : (Lit.int .i64 a00).wf = true) (w01 : (Lit.int .i64 a01).wf = true) (w10 : (Lit.int .i64 a10).wf = true) (w11 : (Lit.int .i64 a11).wf = true) (w : World) :
    Calls Try.prog 19 #[.agg #[.int .i64 a00, .int .i64 a01], .agg #[.int .i64 a10, .int .i64 a11, .bool a12, .bool a13]] w fun e w' => e = .returned (.bool true) ∧ Below w.heap.size w w' := by
  go_enter Try.func19, Try.ntmps19
  go_wp2_with fail
  have a0 : ((w.alloc (.cells #[.int .i64 a00, .int .i64 a01] 23)).alloc (.cells #[.int .i64 a10, .int .i64 a11, .bool a12, .bool a13] 29)).cell? ⟨w.heap.size, 0, none⟩ = some (.int .i64 a00) := by simp [go_sem]
  have a1 : ((w.alloc (.cells #[.int .i64 a00, .int .i64 a01] 23)).alloc (.cells #[.int .i64 a10, .int .i64 a11, .bool a12, .bool a13] 29)).cell? ⟨w.heap.size, 1, none⟩ = some (.int .i64 a01) := by simp [go_sem]
  have b0 : ((w.alloc (.cells #[.int .i64 a00, .int .i64 a01] 23)).alloc (.cells #[.int .i64 a10, .int .i64 a11, .bool a12, .bool a13] 29)).cell? ⟨w.heap.size + 1, 0, none⟩ = some (.int .i64 a10) := by simp [go_sem]
  have b1 : ((w.alloc (.cells #[.int .i64 a00, .int .i64 a01] 23)).alloc (.cells #[.int .i64 a10, .int .i64 a11, .bool a12, .bool a13] 29)).cell? ⟨w.heap.size + 1, 1, none⟩ = some (.int .i64 a11) := by simp [go_sem]
  have b2 : ((w.alloc (.cells #[.int .i64 a00, .int .i64 a01] 23)).alloc (.cells #[.int .i64 a10, .int .i64 a11, .bool a12, .bool a13] 29)).cell? ⟨w.heap.size + 1, 2, none⟩ = some (.bool a12) := by simp [go_sem]
  have b3 : ((w.alloc (.cells #[.int .i64 a00, .int .i64 a01] 23)).alloc (.cells #[.int .i64 a10, .int .i64 a11, .bool a12, .bool a13] 29)).cell? ⟨w.heap.size + 1, 3, none⟩ = some (.bool a13) := by simp [go_sem]
  have l0 : w.heap.size < ((w.alloc (.cells #[.int .i64 a00, .int .i64 a01] 23)).alloc (.cells #[.int .i64 a10, .int .i64 a11, .bool a12, .bool a13] 29)).heap.size := by simp; omega
  have l1 : w.heap.size + 1 < ((w.alloc (.cells #[.int .i64 a00, .int .i64 a01] 23)).alloc (.cells #[.int .i64 a10, .int .i64 a11, .bool a12, .bool a13] 29)).heap.size := by simp
  have HZ := Lib.hid (show Below w.heap.size w ((w.alloc (.cells #[.int .i64 a00, .int .i64 a01] 23)).alloc (.cells #[.int .i64 a10, .int .i64 a11, .bool a12, .bool a13] 29)) by repeat (first | exact Below.refl _ _ | refine bl_alloc ?_ _ | refine bl_drewN ?_ _ | refine bl_trans (by assumption) ?_ | refine bl_set ?_ (by first | omega | (simp; done) | (simp; omega)) _))
  generalize ((w.alloc (.cells #[.int .i64 a00, .int .i64 a01] 23)).alloc (.cells #[.int .i64 a10, .int .i64 a11, .bool a12, .bool a13] 29)) = wz at *
  have HS := Lib.hid (fun v hb => six_after (v := v) a0 a1 b0 b1 b2 b3 l0 l1 hb)
  have hS := HS.out wz (Below.refl _ _)
  go_upto_region 2 with fail
  go_cut [5, 6] (fun s5 s6 wx => ∃ p, s5 = .pointer (some ⟨p, 0, none⟩) ∧ s6 = .bool (okB a00 a01 a10 a11) ∧ wx.cell? ⟨p, 0, none⟩ = some (.int .i64 (Z (okB a00 a01 a10 a11) a10)) ∧ wx.cell? ⟨p, 1, none⟩ = some (.int .i64 (Z (okB a00 a01 a10 a11) a11)) ∧ wx.cell? ⟨p, 2, none⟩ = some (.bool (okB a00 a01 a10 a11 && !a12)) ∧ wx.cell? ⟨p, 3, none⟩ = some (.bool (okB a00 a01 a10 a11 && !a13)) ∧ wz.heap.size ≤ p ∧ p < wx.heap.size ∧ Below wz.heap.size wz wx)
  case first =>
    go_region_held3 (fun w' => w'.cell? ⟨w.heap.size, 0, none⟩ = some (.int .i64 a00) ∧ w'.cell? ⟨w.heap.size, 1, none⟩ = some (.int .i64 a01) ∧ w'.cell? ⟨w.heap.size + 1, 0, none⟩ = some (.int .i64 a10) ∧ w'.cell? ⟨w.heap.size + 1, 1, none⟩ = some (.int .i64 a11) ∧ w'.cell? ⟨w.heap.size + 1, 2, none⟩ = some (.bool a12) ∧ w'.cell? ⟨w.heap.size + 1, 3, none⟩ = some (.bool a13) ∧ Below wz.heap.size wz w') (first | exact HS.out _ hks | exact HS.out _ hkb | exact HS.out _ hkt | exact HS.out _ (bl_alloc hks _) | exact HS.out _ (bl_alloc hkb _) | exact HS.out _ (bl_alloc hkt _) | exact HS.out _ (Below.drew (Below.refl _ _)) | exact HS.out _ (bl_alloc (Below.drew (Below.refl _ _)) _) | exact HS.out _ (bl_alloc (Below.refl _ _) _) | exact HS.out _ (Below.drew (bl_alloc (Below.refl _ _) _)) | exact HS.out _ (bl_set (bl_set (bl_set (bl_set hks (by first | omega | (simp; done) | (simp; omega)) _) (by first | omega | (simp; done) | (simp; omega)) _) (by first | omega | (simp; done) | (simp; omega)) _) (by first | omega | (simp; done) | (simp; omega)) _) | assumption) (first | (go_at_call 22; refine (toTable_any _ _ _).mono ?_; rintro e wt ⟨rfl, hbt⟩; have hzt := hbt.size; (try simp [Nat.succ_le_iff] at hzt); obtain ⟨hct, hft⟩ := bcell hbt; have hkt : Below wz.heap.size wz wt := bl_trans hbt (last7 (by assumption)); (try have ztwz : wz.heap.size < wt.heap.size := by omega)) | (go_at_call 25; refine (toBeam_any _ _ _ _ _).mono ?_; rintro e wb ⟨rfl, hbb⟩; have hzb := hbb.size; (try simp [Nat.succ_le_iff] at hzb); obtain ⟨hcb, hfb⟩ := bcell hbb; have hkb : Below wz.heap.size wz wb := bl_trans hbb (last7 (by assumption)); (try have zbwz : wz.heap.size < wb.heap.size := by omega); (try have zbwt : wt.heap.size < wb.heap.size := by omega)) | (go_at_call 62; refine (spec_BackBeam _ _ _ _ _ _ _).mono ?_; rintro e ws ⟨rfl, hbs⟩; have hzs := hbs.size; (try simp [Nat.succ_le_iff] at hzs); obtain ⟨hcs, hfs⟩ := bcell hbs; have hks : Below wz.heap.size wz ws := bl_trans hbs (last7 (by assumption)); (try have zswz : wz.heap.size < ws.heap.size := by omega); (try have zswt : wt.heap.size < ws.heap.size := by omega); (try have zswb : wb.heap.size < ws.heap.size := by omega)))
    all_goals
      go_wp2_with fail
      go_meet
      refine ⟨_, rfl, rfl, ?_, ?_, ?_, ?_, ?_, ?_, last7 (by assumption)⟩
      all_goals first | omega | (simp [go_sem, *]; done) | (simp; omega) | (simp [go_sem, *]; omega)
  case rest =>
    obtain ⟨p, rfl, rfl, q0, q1, q2, q3, hp1, hp2, hB⟩ := hcut
    have a0 := cell_after hB l0 a0
    have a1 := cell_after hB l0 a1
    have b0 := cell_after hB l1 b0
    have b1 := cell_after hB l1 b1
    have b2 := cell_after hB l1 b2
    have b3 := cell_after hB l1 b3
    have l0 := size_after hB l0
    have l1 := size_after hB l1
    have HZ := Lib.hid (bl_trans hB HZ.out)
    clear HS hS hB
    clear hp1
    rename World => wy
    have HS := Lib.hid (fun v hb => ten_after (v := v) a0 a1 b0 b1 b2 b3 q0 q1 q2 q3 l0 l1 hp2 hb)
    have hS := HS.out wy (Below.refl _ _)
    clear a0 a1 b0 b1 b2 b3 q0 q1 q2 q3
    go_wp2_with fail
    go_region_held3 (fun w' => w'.cell? ⟨w.heap.size, 0, none⟩ = some (.int .i64 a00) ∧ w'.cell? ⟨w.heap.size, 1, none⟩ = some (.int .i64 a01) ∧ w'.cell? ⟨w.heap.size + 1, 0, none⟩ = some (.int .i64 a10) ∧ w'.cell? ⟨w.heap.size + 1, 1, none⟩ = some (.int .i64 a11) ∧ w'.cell? ⟨w.heap.size + 1, 2, none⟩ = some (.bool a12) ∧ w'.cell? ⟨w.heap.size + 1, 3, none⟩ = some (.bool a13) ∧ w'.cell? ⟨p, 0, none⟩ = some (.int .i64 (Z (okB a00 a01 a10 a11) a10)) ∧ w'.cell? ⟨p, 1, none⟩ = some (.int .i64 (Z (okB a00 a01 a10 a11) a11)) ∧ w'.cell? ⟨p, 2, none⟩ = some (.bool (okB a00 a01 a10 a11 && !a12)) ∧ w'.cell? ⟨p, 3, none⟩ = some (.bool (okB a00 a01 a10 a11 && !a13)) ∧ Below wy.heap.size wy w') (first | exact HS.out _ hks | exact HS.out _ hkb | exact HS.out _ hkt | exact HS.out _ (bl_alloc hks _) | exact HS.out _ (bl_alloc hkb _) | exact HS.out _ (bl_alloc hkt _) | exact HS.out _ (Below.drew (Below.refl _ _)) | exact HS.out _ (bl_alloc (Below.drew (Below.refl _ _)) _) | exact HS.out _ (bl_alloc (Below.refl _ _) _) | exact HS.out _ (Below.drew (bl_alloc (Below.refl _ _) _)) | exact HS.out _ (bl_set (bl_set (bl_set (bl_set hks (by first | omega | (simp; done) | (simp; omega)) _) (by first | omega | (simp; done) | (simp; omega)) _) (by first | omega | (simp; done) | (simp; omega)) _) (by first | omega | (simp; done) | (simp; omega)) _) | assumption) (first | (go_at_call 22; refine (toTable_any _ _ _).mono ?_; rintro e wt ⟨rfl, hbt⟩; have hzt := hbt.size; (try simp [Nat.succ_le_iff] at hzt); obtain ⟨hct, hft⟩ := bcell hbt; have hkt : Below wy.heap.size wy wt := bl_trans hbt (last11 (by assumption)); (try have ztwy : wy.heap.size < wt.heap.size := by omega)) | (go_at_call 25; refine (toBeam_any _ _ _ _ _).mono ?_; rintro e wb ⟨rfl, hbb⟩; have hzb := hbb.size; (try simp [Nat.succ_le_iff] at hzb); obtain ⟨hcb, hfb⟩ := bcell hbb; have hkb : Below wy.heap.size wy wb := bl_trans hbb (last11 (by assumption)); (try have zbwy : wy.heap.size < wb.heap.size := by omega); (try have zbwt : wt.heap.size < wb.heap.size := by omega)) | (go_at_call 63; refine (impl_BackBeam _ _ _ _ _ _ _).mono ?_; rintro e ws ⟨rfl, hbs⟩; have hzs := hbs.size; (try simp [Nat.succ_le_iff] at hzs); obtain ⟨hcs, hfs⟩ := bcell hbs; have hks : Below wy.heap.size wy ws := bl_trans hbs (last11 (by assumption)); (try have zswy : wy.heap.size < ws.heap.size := by omega); (try have zswt : wt.heap.size < ws.heap.size := by omega); (try have zswb : wb.heap.size < ws.heap.size := by omega)))
    all_goals
      have hfin := last11 (by assumption)
      have HF := Lib.hid (bl_trans hfin HZ.out)
      clear hfin
      go_wp2_with fail
      refine (eqBeam_any _ _ _ _ _).mono ?_
      rintro e wf ⟨rfl, hbf⟩
      have HG := Lib.hid (bl_trans hbf HF.out)
      clear hbf
      go_wp2
      go_ret
      exact ⟨rfl, HG.out⟩

set_option maxRecDepth 100000 in
theorem lifted (os : Os) (started : os.Started) (H : Type) (enc : TypeId × Value → H) :
    ReturnsInHanded {} Try.checked os 19 .any (Rows.fnExactBackBeamSpec.pre6 enc Try.prog Try.f19 Rows.fnExactBackBeamRow.domain false) (Rows.fnExactBackBeamSpec.post enc Try.prog Try.f19 false true false false) := by
  refine returnsInHanded_of_change (C := Try.checked) own started (by kernel_rfl) Try.func19
    (ChangeSpec.witness6 (enc := enc) (C := Try.checked) false ⟨#[], #[.agg #[.int .i64 0, .int .i64 0], .agg #[.int .i64 0, .int .i64 0, .bool false, .bool false]], []⟩ 8 (by kernel_rfl) (by kernel_rfl) (by kernel_rfl) (by kernel_rfl)) ?_
  intro W base args ds gs before hval0 hW hcnd _
  have hval : ∀ (j : Nat) t v, Try.f19.params[j]? = some t → args[j]? = some v → Value.okWide Try.prog W .any base t v := hval0
  have hW' := hW
  obtain ⟨p, q, hA0, hV, rfl, hfz, hnd⟩ := hW
  have hA : DataW.TrodAll enc Try.prog W 0 (fun _ => true) true Try.f19.params.toList args.toList ds p := hA0
  rw [Try.params19] at hA hval
  obtain ⟨v0, vs0, d0, ds0, p0, q0, hargs, rfl, rfl, h0, r0⟩ := trodAll_cons hA
  obtain ⟨v1, vs1, d1, ds1, p1, q1, rfl, rfl, rfl, h1, r1⟩ := trodAll_cons r0
  obtain ⟨rfl, rfl, rfl⟩ := trodAll_nil r1
  obtain rfl : args = #[v0, v1] := by cases args; simp_all
  obtain ⟨rfl, rfl⟩ := trodVars_none hV
  have k0 := h0
  have lt0 : ∀ x ∈ p0, x.block < W.heap.size := by obtain ⟨m, hm⟩ := k0; exact DataW.trod_lt m _ _ _ hm
  have k1 := h1
  have lt1 : ∀ x ∈ p1, x.block < W.heap.size := by obtain ⟨m, hm⟩ := k1; exact DataW.trod_lt m _ _ _ hm
  obtain ⟨c00, c01, y00, y01, m0, rfl, rfl, rfl, hy00, hy01⟩ := open_agg2 Try.underlying23 (by kernel_rfl) (by kernel_rfl) (hval 0 23 v0 rfl rfl) h0
  obtain ⟨a00, e00, rfl, w00⟩ := DataW.trod_int Try.underlying3 hy00
  obtain ⟨a01, e01, rfl, w01⟩ := DataW.trod_int Try.underlying3 hy01
  simp at e00 e01
  subst e00 e01
  obtain ⟨c10, c11, c12, c13, y10, y11, y12, y13, m1, rfl, rfl, rfl, hy10, hy11, hy12, hy13⟩ := open_agg4 Try.underlying29 (by kernel_rfl) (by kernel_rfl) (hval 1 29 v1 rfl rfl) h1
  obtain ⟨a10, e10, rfl, w10⟩ := DataW.trod_int Try.underlying3 hy10
  obtain ⟨a11, e11, rfl, w11⟩ := DataW.trod_int Try.underlying3 hy11
  obtain ⟨a12, e12, rfl⟩ := DataW.trod_bool Try.underlying4 hy12
  obtain ⟨a13, e13, rfl⟩ := DataW.trod_bool Try.underlying4 hy13
  simp at e10 e11 e12 e13
  subst e10 e11 e12 e13
  clear hA0 hval0
  refine (walk a00 a01 a10 a11 a12 a13 w00 w01 w10 w11 W ).mono fun e W' ⟨he, bel⟩ => ?_
  subst he
  exact ⟨_, rfl, _, _, _, [], _, [], hW', trodAll_mk1 (shut_bool Try.underlying4 _), (trodAll_cons_mk (Below.trod laidOut (by kernel_rfl) (of_decide_eq_true (by kernel_rfl)) k0 bel lt0) (trodAll_cons_mk (Below.trod laidOut (by kernel_rfl) (of_decide_eq_true (by kernel_rfl)) k1 bel lt1) trodAll_mk0)), rfl, bel.frame _, fun h => by cases h⟩

theorem over : Rows.fnExactBackBeamRow.holds Try.pinned (OpenSpec.ofChange Rows.fnExactBackBeamSpec) :=
  OpenClaim.holds_of_wide 19 Try.f19 rfl rfl rfl rfl rfl rfl rfl ⟨rfl, rfl, rfl, rfl, rfl⟩ rfl rfl rfl rfl rfl (by kernel_rfl) Try.func19 (by simp only [joinedFacts, make, lifts, may, Bool.and_true]; kernel_rfl)
    (of_decide_eq_true (by kernel_rfl)) (by unfold Func.isWrapper; first | (rw [if_pos (by decide +kernel)]; kernel_rfl) | (rw [if_neg (by decide +kernel)]; exact ⟨rfl, rfl⟩))
    (fun os started H enc _ => lifted os started H enc)

theorem proved : Rows.FnExactBackBeamSaid := over
#print axioms proved
end Go.Proofs.Ytnhjiipkekblfaa.fnExactBackBeam
