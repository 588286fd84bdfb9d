/- Walkers that are read back, by the model. -/
import Derived.Test.YtkcncjoekbbolaaDoorWKP
import Derived.Deep.Cut
import Derived.Lib.SlBytesConst
import Derived.Deep.DeepCutAuto
import Derived.Deep.RegionLaw
import Derived.Deep.RegionHeld3
namespace Go.Proofs.YtkcncjoekbbolaaDoor
open Go.RowKit
set_option linter.unusedVariables false
set_option linter.unusedSimpArgs false
theorem P3_after {a u v : World} {g g3 : Nat} {x y z : Value} (hb : Below u.heap.size u v) (h : u.cell? ⟨g, 0, none⟩ = some x ∧ u.cell? ⟨g3, 0, none⟩ = some y ∧ u.cell? ⟨g3, 1, none⟩ = some z ∧ g < u.heap.size ∧ g3 < u.heap.size ∧ Below a.heap.size a u) :
    v.cell? ⟨g, 0, none⟩ = some x ∧ v.cell? ⟨g3, 0, none⟩ = some y ∧ v.cell? ⟨g3, 1, none⟩ = some z ∧ g < v.heap.size ∧ g3 < v.heap.size ∧ Below a.heap.size a v := by
  obtain ⟨h1, h2, h3, h4, h5, h6⟩ := h
  exact ⟨cell_after hb h4 h1, cell_after hb h5 h2, cell_after hb h5 h3, size_after hb h4, size_after hb h5, bl_trans hb h6⟩
theorem cell_marked (w : World) (a b : Value) (t : TypeId) (z : Nat × Nat) : (w.alloc (.cells #[a, b] t z)).cell? ⟨w.heap.size, 0, none⟩ = some a ∧ (w.alloc (.cells #[a, b] t z)).cell? ⟨w.heap.size, 1, none⟩ = some b := by
  have hh : (w.alloc (.cells #[a, b] t z)).heap[w.heap.size]? = some (.cells #[a, b] t z) := by
    show (w.heap.push _)[w.heap.size]? = _
    simp
  constructor <;> (unfold World.cell?; rw [hh]; rfl)
theorem frozen_off {u v : World} (hb : Below u.heap.size u v) {n o : Nat} (hn : n < u.heap.size) (hu : u.frozen? ⟨n, o, none⟩ = false) : v.frozen? ⟨n, o, none⟩ = false := by
  rw [(bcell hb).2 _ _ hn]; exact hu
set_option maxRecDepth 100000 in
set_option maxHeartbeats 8000000 in
theorem wkParse_any (s : ByteArray) (hs : s.size ≤ 1048576) (w : World) :
    Calls Tryd.prog 15 #[.string s] w fun e w' => ∃ a b c ok, e = .returned (.tuple #[.agg #[.int .i64 a, .int .i64 b, .int .i64 c], .bool ok]) ∧ ReadW s a b c ok ∧ Below w.heap.size w w' := by
  have hlen := len_data s
  go_enter Tryd.func15, Tryd.ntmps15
  go_wp2_with fail
  refine (l1Split_any s 64 64 rfl hs _).mono ?_
  rintro e w1 ⟨v1, rfl, r1, hb1⟩
  have R1 := Lib.hid r1
  clear r1
  obtain ⟨hc1, hf1⟩ := bcell hb1
  have hz1 := bsize hb1
  simp only [World.size_alloc] at hz1
  have z1 : w.heap.size < w1.heap.size := by omega
  by_cases hlong : 12 < s.size
  · have P := Lib.hid (readW_no (s := s) (fun a b c h e => by obtain ⟨_, _, _, _, h14⟩ := txW_parts h; rw [e] at h14; omega))
    have hl' : (12 : Int) < (s.size : Int) := by omega
    go_wp2
    refine bodyPost_ret (v := .tuple #[.agg #[.int .i64 0, .int .i64 0, .int .i64 0], .bool false]) (by simp [results, Tryd.results15, go_sem, *]) rfl ⟨_, _, _, _, rfl, P.out, (by repeat (first | exact Below.refl _ _ | refine bl_alloc ?_ _ | refine bl_drewN ?_ _ | refine bl_trans (by assumption) ?_ | refine bl_set ?_ (by first | omega | (simp; done) | (simp; omega)) _))⟩
  have hl' : ¬ (12 : Int) < (s.size : Int) := by omega
  by_cases hp : (sp 64 s.data.toList s.size).1.length ≠ 1
  · have P := Lib.hid (readW_no (s := s) (fun a b c h e => by
      obtain ⟨_, e1, n1, n2, _⟩ := txW_parts h
      rw [e] at e1
      have := sp_two n1 n2
      rw [← e1, hlen] at this
      exact hp (by rw [this]; rfl)))
    obtain ⟨g, cap, rfl, _, _, _⟩ := R1.out.open_ (by simp)
    have hl2 : (((((sp 64 s.data.toList s.size).1 ++ [(sp 64 s.data.toList s.size).2]).length : Nat) : Int) != 2) = true := by simp; omega
    generalize ((sp 64 s.data.toList s.size).1 ++ [(sp 64 s.data.toList s.size).2]).length = L at *
    go_wp2
    refine bodyPost_ret (v := .tuple #[.agg #[.int .i64 0, .int .i64 0, .int .i64 0], .bool false]) (by simp [results, Tryd.results15, go_sem, *]) rfl ⟨_, _, _, _, rfl, P.out, (by repeat (first | exact Below.refl _ _ | refine bl_alloc ?_ _ | refine bl_drewN ?_ _ | refine bl_trans (by assumption) ?_ | refine bl_set ?_ (by first | omega | (simp; done) | (simp; omega)) _))⟩
  have hp := Decidable.not_not.1 hp
  obtain ⟨x, y, hxy, hsplit, n1, n2⟩ := sp_of_one (b := 64) (l := s.data.toList) (by rw [hlen]; exact hp)
  rw [hlen] at hxy
  rw [hxy] at R1
  clear hp hxy
  have HS := Lib.hid hsplit
  clear hsplit
  obtain ⟨g, cap, rfl, hB1, hg, hcl⟩ := SRow.open_ R1.out (by simp)
  obtain ⟨sx, hsx⟩ : ∃ sx : ByteArray, sx = ⟨x.toArray⟩ := ⟨_, rfl⟩
  obtain ⟨sy, hsy⟩ : ∃ sy : ByteArray, sy = ⟨y.toArray⟩ := ⟨_, rfl⟩
  have cx : w1.cell? ⟨g, 0, none⟩ = some (.string sx) := by rw [hsx]; exact hcl 0 (by simp)
  have cy : w1.cell? ⟨g, 1, none⟩ = some (.string sy) := by rw [hsy]; exact hcl 1 (by simp)
  have lx : sx.data.toList = x := by rw [hsx]
  have ly : sy.data.toList = y := by rw [hsy]
  have hys : sy.size ≤ 1048576 := by
    rw [← len_data, ly]
    have := congrArg List.length HS.out
    rw [hlen] at this
    simp only [List.length_append, List.length_cons] at this
    omega
  simp only [List.cons_append, List.nil_append, List.length_cons, List.length_nil] at *
  have hk : Below w.heap.size w w1 := (by repeat (first | exact Below.refl _ _ | refine bl_alloc ?_ _ | refine bl_drewN ?_ _ | refine bl_trans (by assumption) ?_ | refine bl_set ?_ (by first | omega | (simp; done) | (simp; omega)) _))
  have dr0 : w1.cell? ⟨w.heap.size, 0, none⟩ = some (.int .i64 0) := by simp [*]
  have dr1 : w1.cell? ⟨w.heap.size, 1, none⟩ = some (.int .i64 0) := by simp [*]
  have dr2 : w1.cell? ⟨w.heap.size, 2, none⟩ = some (.int .i64 0) := by simp [*]
  have fr0 : w1.frozen? ⟨w.heap.size, 0, none⟩ = false := by simp [*]
  have fr1 : w1.frozen? ⟨w.heap.size, 1, none⟩ = false := by simp [*]
  have fr2 : w1.frozen? ⟨w.heap.size, 2, none⟩ = false := by simp [*]
  have HK := Lib.hid hk
  clear hcl R1 hc1 hf1 hb1 hk hsx hsy hB1
  subst lx ly
  have hcv : (convert 45 45 (.slice (some ⟨w1.heap.size, 0, none⟩) 2 2)).run Tryd.prog (w1.alloc (.cells #[.int .u8 43, .int .u8 45] 5)) = .ok (.slice (some ⟨w1.heap.size, 0, none⟩) 2 2) (w1.alloc (.cells #[.int .u8 43, .int .u8 45] 5 (2, 3))) := Lib.run_convert_bytes_const w1 45 5 #[.int .u8 43, .int .u8 45] 2 2 Tryd.underlying45 Tryd.underlying5
  go_wp2_with fail
  have kb : Below w1.heap.size w1 (w1.alloc (.cells #[.int .u8 43, .int .u8 45] 5 (2, 3))) := bl_alloc (Below.refl _ _) _
  have cs0 : (w1.alloc (.cells #[.int .u8 43, .int .u8 45] 5 (2, 3))).cell? ⟨w1.heap.size, 0, none⟩ = some (.int .u8 43) := (cell_marked w1 _ _ _ _).1
  have cs1 : (w1.alloc (.cells #[.int .u8 43, .int .u8 45] 5 (2, 3))).cell? ⟨w1.heap.size, 1, none⟩ = some (.int .u8 45) := (cell_marked w1 _ _ _ _).2
  have ls : w1.heap.size < (w1.alloc (.cells #[.int .u8 43, .int .u8 45] 5 (2, 3))).heap.size := by simp
  have cx := cell_after kb hg cx
  have cy := cell_after kb hg cy
  have dr0 := cell_after kb z1 dr0
  have dr1 := cell_after kb z1 dr1
  have dr2 := cell_after kb z1 dr2
  have fr0 := frozen_off kb z1 fr0
  have fr1 := frozen_off kb z1 fr1
  have fr2 := frozen_off kb z1 fr2
  have HKL := Lib.hid (bl_trans kb HK.out)
  have lw := size_after kb z1
  have lg := size_after kb hg
  clear kb HK
  generalize (w1.alloc (.cells #[.int .u8 43, .int .u8 45] 5 (2, 3))) = wl at *
  generalize w1.heap.size = q at *
  go_loopw [23] (fun kk wr => ∃ k : Nat, k ≤ 2 ∧ kk = .int .i64 (k : Nat) ∧ Left s k ∧ Below wl.heap.size wl wr) (fun kk _ => 2 - (intOf kk).toNat)
  case atStart => exact ⟨0, by omega, rfl, fun _ _ _ _ _ => .inl rfl, Below.refl _ _⟩
  case round =>
    obtain ⟨k, hk, rfl, hleft, hb⟩ := hrel
    have HLF := Lib.hid hleft
    clear hleft
    by_cases hlt : k < 2
    · have rx := cell_after hb lg cx
      have ry := cell_after hb lg cy
      have q0 := cell_after hb ls cs0
      have q1 := cell_after hb ls cs1
      have e0 := cell_after hb lw dr0
      have e1 := cell_after hb lw dr1
      have e2 := cell_after hb lw dr2
      have f0 := frozen_off hb lw fr0
      have f1 := frozen_off hb lw fr1
      have f2 := frozen_off hb lw fr2
      have mg := size_after hb lg
      have mw := size_after hb lw
      have HB := Lib.hid (show Below w.heap.size w wr from bl_trans hb HKL.out)
      have HBL := Lib.hid hb
      clear hb
      rcases (show k = 0 ∨ k = 1 by omega) with rfl | rfl
      · clear dr0 dr1 dr2 fr0 fr1 fr2 cx cy cs0 cs1 lw lg ls
        go_wp2_with fail
        refine (l1Split_any sy 43 43 rfl hys _).mono ?_
        rintro e w3 ⟨v3, rfl, r3, hb3⟩
        have R3 := Lib.hid r3
        clear r3
        have rx := cell_after hb3 mg rx
        have ry := cell_after hb3 mg ry
        have e0 := cell_after hb3 mw e0
        have e1 := cell_after hb3 mw e1
        have e2 := cell_after hb3 mw e2
        have f0 := frozen_off hb3 mw f0
        have f1 := frozen_off hb3 mw f1
        have f2 := frozen_off hb3 mw f2
        have mg := size_after hb3 mg
        have mw := size_after hb3 mw
        clear q0 q1
        have HB := Lib.hid (bl_trans hb3 HB.out)
        have HBL := Lib.hid (bl_trans hb3 HBL.out)
        clear hb3
        by_cases hp : (sp 43 sy.data.toList sy.size).1.length ≠ 1
        · have HLN := Lib.hid (left_miss (k := 0) (by omega) HLF.out HS.out n1 (show (sp 43 sy.data.toList sy.data.toList.length).1.length ≠ 1 by rw [len_data]; exact hp))
          obtain ⟨g3, cap3, rfl, _, _, _⟩ := R3.out.open_ (by simp)
          have hl2 : (((((sp 43 sy.data.toList sy.size).1 ++ [(sp 43 sy.data.toList sy.size).2]).length : Nat) : Int) != 2) = true := by simp; omega
          generalize ((sp 43 sy.data.toList sy.size).1 ++ [(sp 43 sy.data.toList sy.size).2]).length = L at *
          go_wp2
          go_roundw
          case rel => exact ⟨1, by omega, by go_num, HLN.out, HBL.out⟩
          case measure => simp only [intOf]; omega
        have hp := Decidable.not_not.1 hp
        obtain ⟨u, v, huv, hsplit, m1, m2⟩ := sp_of_one (b := 43) (l := sy.data.toList) (by rw [len_data]; exact hp)
        rw [len_data] at huv
        rw [huv] at R3
        clear hp huv
        have HIT := Lib.hid (left_hit (k := 0) HS.out n1 hsplit m1)
        clear hsplit m1 m2
        obtain ⟨g3, cap3, rfl, hB3, hg3, hcl3⟩ := SRow.open_ R3.out (by simp)
        obtain ⟨su, hsu⟩ : ∃ su : ByteArray, su = ⟨u.toArray⟩ := ⟨_, rfl⟩
        obtain ⟨sv, hsv⟩ : ∃ sv : ByteArray, sv = ⟨v.toArray⟩ := ⟨_, rfl⟩
        have cu : w3.cell? ⟨g3, 0, none⟩ = some (.string su) := by rw [hsu]; exact hcl3 0 (by simp)
        have cv : w3.cell? ⟨g3, 1, none⟩ = some (.string sv) := by rw [hsv]; exact hcl3 1 (by simp)
        have lu : su.data.toList = u := by rw [hsu]
        have lv : sv.data.toList = v := by rw [hsv]
        simp only [List.cons_append, List.nil_append, List.length_cons, List.length_nil] at *
        clear hcl3 R3 hsu hsv hB3
        subst lu lv
        have hS : w3.cell? ⟨g, 0, none⟩ = some (.string sx) ∧ w3.cell? ⟨g3, 0, none⟩ = some (.string su) ∧ w3.cell? ⟨g3, 1, none⟩ = some (.string sv) ∧ g < w3.heap.size ∧ g3 < w3.heap.size ∧ Below w3.heap.size w3 w3 := ⟨rx, cu, cv, mg, hg3, Below.refl _ _⟩
        go_upto_region 9 with fail
        go_cut [8] (fun s8 wx => s8 = .pointer (some ⟨w3.heap.size, 0, none⟩) ∧ wx = (w3.alloc (.cells #[.int .i64 (rdV sx.data.toList), .int .i64 (rdV su.data.toList), .int .i64 (rdV sv.data.toList)] 26)).drew)
        case first =>
          go_region_held3 (fun w' => w'.cell? ⟨g, 0, none⟩ = some (.string sx) ∧ w'.cell? ⟨g3, 0, none⟩ = some (.string su) ∧ w'.cell? ⟨g3, 1, none⟩ = some (.string sv) ∧ g < w'.heap.size ∧ g3 < w'.heap.size ∧ Below w3.heap.size w3 w') (first | exact P3_after (below_drewN (Below.refl _ _) _) (by assumption) | exact P3_after (Below.drew (Below.refl _ _)) (by assumption) | assumption | exact P3_after (Below.drew ((Below.refl _ _).alloc (Nat.le_refl _) _)) (by assumption) | exact P3_after ((Below.refl _ _).alloc (Nat.le_refl _) _) (by assumption)) (first | (go_at_call 24; refine (l1Read_any _ _).mono ?_; rintro e w9 ⟨rfl, rfl⟩))
          all_goals (go_wp2_with fail; go_meet; exact ⟨rfl, rfl⟩)
        case rest =>
          obtain ⟨rfl, rfl⟩ := hcut
          have hb1 := rdV_bound sv.data.toList
          have hb2 := rdV_most sv.data.toList
          clear hS cu cv hg3 rx ry mg
          generalize rdV sx.data.toList = H at *
          generalize rdV su.data.toList = P at *
          generalize rdV sv.data.toList = V at *
          have hbb : Below w3.heap.size w3 (w3.alloc (.cells #[.int .i64 H, .int .i64 P, .int .i64 V] 26)).drew := Below.drew ((Below.refl _ _).alloc (Nat.le_refl _) _)
          have a0 : (w3.alloc (.cells #[.int .i64 H, .int .i64 P, .int .i64 V] 26)).drew.cell? ⟨w3.heap.size, 0, none⟩ = some (.int .i64 H) := by simp
          have a1 : (w3.alloc (.cells #[.int .i64 H, .int .i64 P, .int .i64 V] 26)).drew.cell? ⟨w3.heap.size, 1, none⟩ = some (.int .i64 P) := by simp
          have a2 : (w3.alloc (.cells #[.int .i64 H, .int .i64 P, .int .i64 V] 26)).drew.cell? ⟨w3.heap.size, 2, none⟩ = some (.int .i64 V) := by simp
          have fq : (w3.alloc (.cells #[.int .i64 H, .int .i64 P, .int .i64 V] 26)).drew.frozen? ⟨w3.heap.size, 2, none⟩ = false := by simp
          have l1 : w3.heap.size < (w3.alloc (.cells #[.int .i64 H, .int .i64 P, .int .i64 V] 26)).drew.heap.size := by simp
          have hqw : w.heap.size < w3.heap.size := mw
          clear mw
          have hwl : wl.heap.size ≤ w3.heap.size := HBL.out.size
          have e0 := cell_after hbb hqw e0
          have e1 := cell_after hbb hqw e1
          have e2 := cell_after hbb hqw e2
          have f0 := frozen_off hbb hqw f0
          have f1 := frozen_off hbb hqw f1
          have f2 := frozen_off hbb hqw f2
          have mw := size_after hbb hqw
          have HB := Lib.hid (bl_trans hbb HB.out)
          have HBL := Lib.hid (bl_trans hbb HBL.out)
          clear hbb
          generalize (w3.alloc (.cells #[.int .i64 H, .int .i64 P, .int .i64 V] 26)).drew = w8 at *
          generalize w3.heap.size = q3 at *
          by_cases hv : V < 0
          · have P0 := Lib.hid (readW_no (s := s) (fun a b c h e => by have := HIT.out a b c h e; omega))
            clear HIT HLF
            go_wp2
            have hfin : Below w.heap.size w (((w8.setCell ⟨w.heap.size, 0, none⟩ (.int .i64 0)).setCell ⟨w.heap.size, 1, none⟩ (.int .i64 0)).setCell ⟨w.heap.size, 2, none⟩ (.int .i64 0)) := bl_set (bl_set (bl_set HB.out (Nat.le_refl _) _) (Nat.le_refl _) _) (Nat.le_refl _) _
            refine bodyPost_ret (v := .tuple #[.agg #[.int .i64 0, .int .i64 0, .int .i64 0], .bool false]) (by simp [results, Tryd.results15, go_sem, *]) rfl ⟨_, _, _, _, rfl, P0.out, hfin⟩
          have hne : w.heap.size ≠ q3 := by omega
          have HNO := Lib.hid (show ¬ (okWk 200 H P V = true ∧ txW H P V = s) → Left s 1 from fun hn a b c h e => absurd (by obtain ⟨r1, r2, _, r3⟩ := HIT.out a b c h e; simp only [if_true] at r3; subst r1 r2 r3; exact ⟨h, e⟩) hn)
          clear HIT HLF
          go_wp2_with fail
          cases hok : okWk 200 H P V
          · have HLN := Lib.hid (HNO.out (by rw [hok]; simp))
            clear HNO
            refine (wkAny_any _ _ _ _).mono ?_
            rintro e w9 ⟨rfl, hb9⟩
            rw [hok]
            have HBL := Lib.hid (bl_trans hb9 HBL.out)
            clear hb9 a0 a1 a2 e0 e1 e2 f0 f1 f2
            go_wp2
            go_roundw
            case rel => exact ⟨1, by omega, by go_num, HLN.out, HBL.out⟩
            case measure => simp only [intOf]; omega
          refine (wkAny_any _ _ _ _).mono ?_
          rintro e w9 ⟨rfl, hb9⟩
          rw [hok]
          have a0 := cell_after hb9 l1 a0
          have a1 := cell_after hb9 l1 a1
          have a2 := cell_after hb9 l1 a2
          have e0 := cell_after hb9 mw e0
          have e1 := cell_after hb9 mw e1
          have e2 := cell_after hb9 mw e2
          have f0 := frozen_off hb9 mw f0
          have f1 := frozen_off hb9 mw f1
          have f2 := frozen_off hb9 mw f2
          have l1 := size_after hb9 l1
          have mw := size_after hb9 mw
          have HB := Lib.hid (bl_trans hb9 HB.out)
          have HBL := Lib.hid (bl_trans hb9 HBL.out)
          clear hb9
          go_wp2_with fail
          refine (wkText_any _ _ _ hok _).mono ?_
          rintro e w7 ⟨rfl, hb7⟩
          have a0 := cell_after hb7 l1 a0
          have a1 := cell_after hb7 l1 a1
          have a2 := cell_after hb7 l1 a2
          have e0 := cell_after hb7 mw e0
          have e1 := cell_after hb7 mw e1
          have e2 := cell_after hb7 mw e2
          have f0 := frozen_off hb7 mw f0
          have f1 := frozen_off hb7 mw f1
          have f2 := frozen_off hb7 mw f2
          have l1 := size_after hb7 l1
          have mw := size_after hb7 mw
          have HB := Lib.hid (bl_trans hb7 HB.out)
          have HBL := Lib.hid (bl_trans hb7 HBL.out)
          clear hb7
          by_cases ht : txW H P V = s
          · have htl : ((txW H P V).toList == s.toList) = true := by rw [ht]; exact beq_self_eq_true _
            have P1 := Lib.hid (show ReadW s H P V true from ⟨⟨fun _ => ⟨hok, ht⟩, fun _ _ _ _ _ => rfl⟩, fun e => by cases e⟩)
            clear HNO ht hok
            go_wp2
            have hfin : Below w.heap.size w (((w7.setCell ⟨w.heap.size, 0, none⟩ (.int .i64 H)).setCell ⟨w.heap.size, 1, none⟩ (.int .i64 P)).setCell ⟨w.heap.size, 2, none⟩ (.int .i64 V)) := bl_set (bl_set (bl_set HB.out (Nat.le_refl _) _) (Nat.le_refl _) _) (Nat.le_refl _) _
            refine bodyPost_ret (v := .tuple #[.agg #[.int .i64 H, .int .i64 P, .int .i64 V], .bool true]) (by simp [results, Tryd.results15, go_sem, *]) rfl ⟨_, _, _, _, rfl, P1.out, hfin⟩
          · have htl : ((txW H P V).toList == s.toList) = false := beq_eq_false_iff_ne.2 fun e => ht (toList_inj e)
            have HLN := Lib.hid (HNO.out (fun h => ht h.2))
            clear HNO ht a0 a1 a2 e0 e1 e2 f0 f1 f2
            go_wp2
            go_roundw
            case rel => exact ⟨1, by omega, by go_num, HLN.out, HBL.out⟩
            case measure => simp only [intOf]; omega
      · clear dr0 dr1 dr2 fr0 fr1 fr2 cx cy cs0 cs1 lw lg ls
        go_wp2_with fail
        refine (l1Split_any sy 45 45 rfl hys _).mono ?_
        rintro e w3 ⟨v3, rfl, r3, hb3⟩
        have R3 := Lib.hid r3
        clear r3
        have rx := cell_after hb3 mg rx
        have ry := cell_after hb3 mg ry
        have e0 := cell_after hb3 mw e0
        have e1 := cell_after hb3 mw e1
        have e2 := cell_after hb3 mw e2
        have f0 := frozen_off hb3 mw f0
        have f1 := frozen_off hb3 mw f1
        have f2 := frozen_off hb3 mw f2
        have mg := size_after hb3 mg
        have mw := size_after hb3 mw
        clear q0 q1
        have HB := Lib.hid (bl_trans hb3 HB.out)
        have HBL := Lib.hid (bl_trans hb3 HBL.out)
        clear hb3
        by_cases hp : (sp 45 sy.data.toList sy.size).1.length ≠ 1
        · have HLN := Lib.hid (left_miss (k := 1) (by omega) HLF.out HS.out n1 (show (sp 45 sy.data.toList sy.data.toList.length).1.length ≠ 1 by rw [len_data]; exact hp))
          obtain ⟨g3, cap3, rfl, _, _, _⟩ := R3.out.open_ (by simp)
          have hl2 : (((((sp 45 sy.data.toList sy.size).1 ++ [(sp 45 sy.data.toList sy.size).2]).length : Nat) : Int) != 2) = true := by simp; omega
          generalize ((sp 45 sy.data.toList sy.size).1 ++ [(sp 45 sy.data.toList sy.size).2]).length = L at *
          go_wp2
          go_roundw
          case rel => exact ⟨2, by omega, by go_num, HLN.out, HBL.out⟩
          case measure => simp only [intOf]; omega
        have hp := Decidable.not_not.1 hp
        obtain ⟨u, v, huv, hsplit, m1, m2⟩ := sp_of_one (b := 45) (l := sy.data.toList) (by rw [len_data]; exact hp)
        rw [len_data] at huv
        rw [huv] at R3
        clear hp huv
        have HIT := Lib.hid (left_hit (k := 1) HS.out n1 hsplit m1)
        clear hsplit m1 m2
        obtain ⟨g3, cap3, rfl, hB3, hg3, hcl3⟩ := SRow.open_ R3.out (by simp)
        obtain ⟨su, hsu⟩ : ∃ su : ByteArray, su = ⟨u.toArray⟩ := ⟨_, rfl⟩
        obtain ⟨sv, hsv⟩ : ∃ sv : ByteArray, sv = ⟨v.toArray⟩ := ⟨_, rfl⟩
        have cu : w3.cell? ⟨g3, 0, none⟩ = some (.string su) := by rw [hsu]; exact hcl3 0 (by simp)
        have cv : w3.cell? ⟨g3, 1, none⟩ = some (.string sv) := by rw [hsv]; exact hcl3 1 (by simp)
        have lu : su.data.toList = u := by rw [hsu]
        have lv : sv.data.toList = v := by rw [hsv]
        simp only [List.cons_append, List.nil_append, List.length_cons, List.length_nil] at *
        clear hcl3 R3 hsu hsv hB3
        subst lu lv
        have hS : w3.cell? ⟨g, 0, none⟩ = some (.string sx) ∧ w3.cell? ⟨g3, 0, none⟩ = some (.string su) ∧ w3.cell? ⟨g3, 1, none⟩ = some (.string sv) ∧ g < w3.heap.size ∧ g3 < w3.heap.size ∧ Below w3.heap.size w3 w3 := ⟨rx, cu, cv, mg, hg3, Below.refl _ _⟩
        go_upto_region 9 with fail
        go_cut [8] (fun s8 wx => s8 = .pointer (some ⟨w3.heap.size, 0, none⟩) ∧ wx = (w3.alloc (.cells #[.int .i64 (rdV sx.data.toList), .int .i64 (rdV su.data.toList), .int .i64 (rdV sv.data.toList)] 26)).drew)
        case first =>
          go_region_held3 (fun w' => w'.cell? ⟨g, 0, none⟩ = some (.string sx) ∧ w'.cell? ⟨g3, 0, none⟩ = some (.string su) ∧ w'.cell? ⟨g3, 1, none⟩ = some (.string sv) ∧ g < w'.heap.size ∧ g3 < w'.heap.size ∧ Below w3.heap.size w3 w') (first | exact P3_after (below_drewN (Below.refl _ _) _) (by assumption) | exact P3_after (Below.drew (Below.refl _ _)) (by assumption) | assumption | exact P3_after (Below.drew ((Below.refl _ _).alloc (Nat.le_refl _) _)) (by assumption) | exact P3_after ((Below.refl _ _).alloc (Nat.le_refl _) _) (by assumption)) (first | (go_at_call 24; refine (l1Read_any _ _).mono ?_; rintro e w9 ⟨rfl, rfl⟩))
          all_goals (go_wp2_with fail; go_meet; exact ⟨rfl, rfl⟩)
        case rest =>
          obtain ⟨rfl, rfl⟩ := hcut
          have hb1 := rdV_bound sv.data.toList
          have hb2 := rdV_most sv.data.toList
          clear hS cu cv hg3 rx ry mg
          generalize rdV sx.data.toList = H at *
          generalize rdV su.data.toList = P at *
          generalize rdV sv.data.toList = V at *
          have hbb : Below w3.heap.size w3 (w3.alloc (.cells #[.int .i64 H, .int .i64 P, .int .i64 V] 26)).drew := Below.drew ((Below.refl _ _).alloc (Nat.le_refl _) _)
          have a0 : (w3.alloc (.cells #[.int .i64 H, .int .i64 P, .int .i64 V] 26)).drew.cell? ⟨w3.heap.size, 0, none⟩ = some (.int .i64 H) := by simp
          have a1 : (w3.alloc (.cells #[.int .i64 H, .int .i64 P, .int .i64 V] 26)).drew.cell? ⟨w3.heap.size, 1, none⟩ = some (.int .i64 P) := by simp
          have a2 : (w3.alloc (.cells #[.int .i64 H, .int .i64 P, .int .i64 V] 26)).drew.cell? ⟨w3.heap.size, 2, none⟩ = some (.int .i64 V) := by simp
          have fq : (w3.alloc (.cells #[.int .i64 H, .int .i64 P, .int .i64 V] 26)).drew.frozen? ⟨w3.heap.size, 2, none⟩ = false := by simp
          have l1 : w3.heap.size < (w3.alloc (.cells #[.int .i64 H, .int .i64 P, .int .i64 V] 26)).drew.heap.size := by simp
          have hqw : w.heap.size < w3.heap.size := mw
          clear mw
          have hwl : wl.heap.size ≤ w3.heap.size := HBL.out.size
          have e0 := cell_after hbb hqw e0
          have e1 := cell_after hbb hqw e1
          have e2 := cell_after hbb hqw e2
          have f0 := frozen_off hbb hqw f0
          have f1 := frozen_off hbb hqw f1
          have f2 := frozen_off hbb hqw f2
          have mw := size_after hbb hqw
          have HB := Lib.hid (bl_trans hbb HB.out)
          have HBL := Lib.hid (bl_trans hbb HBL.out)
          clear hbb
          generalize (w3.alloc (.cells #[.int .i64 H, .int .i64 P, .int .i64 V] 26)).drew = w8 at *
          generalize w3.heap.size = q3 at *
          by_cases hv : V < 0
          · have P0 := Lib.hid (readW_no (s := s) (fun a b c h e => by have := HIT.out a b c h e; omega))
            clear HIT HLF
            go_wp2
            have hfin : Below w.heap.size w (((w8.setCell ⟨w.heap.size, 0, none⟩ (.int .i64 0)).setCell ⟨w.heap.size, 1, none⟩ (.int .i64 0)).setCell ⟨w.heap.size, 2, none⟩ (.int .i64 0)) := bl_set (bl_set (bl_set HB.out (Nat.le_refl _) _) (Nat.le_refl _) _) (Nat.le_refl _) _
            refine bodyPost_ret (v := .tuple #[.agg #[.int .i64 0, .int .i64 0, .int .i64 0], .bool false]) (by simp [results, Tryd.results15, go_sem, *]) rfl ⟨_, _, _, _, rfl, P0.out, hfin⟩
          have hne : w.heap.size ≠ q3 := by omega
          have HNO := Lib.hid (show ¬ (okWk 200 H P (-V) = true ∧ txW H P (-V) = s) → Left s 2 from fun hn a b c h e => absurd (by obtain ⟨r1, r2, _, r3⟩ := HIT.out a b c h e; rw [if_neg (by omega)] at r3; subst r1 r2 r3; exact ⟨h, e⟩) hn)
          clear HIT HLF
          go_wp2_with fail
          have a0y : (w8.setCell ⟨q3, 2, none⟩ (.int .i64 (-V))).cell? ⟨q3, 0, none⟩ = some (.int .i64 H) := by rw [World.cell?_setCell_other _ _ _ _ (by simp)]; exact a0
          have a1y : (w8.setCell ⟨q3, 2, none⟩ (.int .i64 (-V))).cell? ⟨q3, 1, none⟩ = some (.int .i64 P) := by rw [World.cell?_setCell_other _ _ _ _ (by simp)]; exact a1
          have a2y : (w8.setCell ⟨q3, 2, none⟩ (.int .i64 (-V))).cell? ⟨q3, 2, none⟩ = some (.int .i64 (-V)) := World.cell?_setCell_same _ _ _ a2
          have e0y : (w8.setCell ⟨q3, 2, none⟩ (.int .i64 (-V))).cell? ⟨w.heap.size, 0, none⟩ = some (.int .i64 0) := by rw [World.cell?_setCell_other _ _ _ _ (by first | (simp; done) | (simp; omega))]; exact e0
          have f0y : (w8.setCell ⟨q3, 2, none⟩ (.int .i64 (-V))).frozen? ⟨w.heap.size, 0, none⟩ = false := by simpa using f0
          have e1y : (w8.setCell ⟨q3, 2, none⟩ (.int .i64 (-V))).cell? ⟨w.heap.size, 1, none⟩ = some (.int .i64 0) := by rw [World.cell?_setCell_other _ _ _ _ (by first | (simp; done) | (simp; omega))]; exact e1
          have f1y : (w8.setCell ⟨q3, 2, none⟩ (.int .i64 (-V))).frozen? ⟨w.heap.size, 1, none⟩ = false := by simpa using f1
          have e2y : (w8.setCell ⟨q3, 2, none⟩ (.int .i64 (-V))).cell? ⟨w.heap.size, 2, none⟩ = some (.int .i64 0) := by rw [World.cell?_setCell_other _ _ _ _ (by first | (simp; done) | (simp; omega))]; exact e2
          have f2y : (w8.setCell ⟨q3, 2, none⟩ (.int .i64 (-V))).frozen? ⟨w.heap.size, 2, none⟩ = false := by simpa using f2
          have l1y : q3 < (w8.setCell ⟨q3, 2, none⟩ (.int .i64 (-V))).heap.size := by simpa using l1
          have mwy : w.heap.size < (w8.setCell ⟨q3, 2, none⟩ (.int .i64 (-V))).heap.size := by simpa using mw
          have HB := Lib.hid (bl_set HB.out (p := ⟨q3, 2, none⟩) (by show w.heap.size ≤ q3; omega) (.int .i64 (-V)))
          have HBL := Lib.hid (bl_set HBL.out (p := ⟨q3, 2, none⟩) hwl (.int .i64 (-V)))
          clear a0 a1 a2 e0 e1 e2 f0 f1 f2 l1 mw fq
          have a0 := a0y
          have a1 := a1y
          have a2 := a2y
          have e0 := e0y
          have e1 := e1y
          have e2 := e2y
          have f0 := f0y
          have f1 := f1y
          have f2 := f2y
          have l1 := l1y
          have mw := mwy
          clear a0y a1y a2y e0y e1y e2y f0y f1y f2y l1y mwy
          generalize (w8.setCell ⟨q3, 2, none⟩ (.int .i64 (-V))) = w8x at *
          generalize -V = U at *
          cases hok : okWk 200 H P U
          · have HLN := Lib.hid (HNO.out (by rw [hok]; simp))
            clear HNO
            refine (wkAny_any _ _ _ _).mono ?_
            rintro e w9 ⟨rfl, hb9⟩
            rw [hok]
            have HBL := Lib.hid (bl_trans hb9 HBL.out)
            clear hb9 a0 a1 a2 e0 e1 e2 f0 f1 f2
            go_wp2
            go_roundw
            case rel => exact ⟨2, by omega, by go_num, HLN.out, HBL.out⟩
            case measure => simp only [intOf]; omega
          refine (wkAny_any _ _ _ _).mono ?_
          rintro e w9 ⟨rfl, hb9⟩
          rw [hok]
          have a0 := cell_after hb9 l1 a0
          have a1 := cell_after hb9 l1 a1
          have a2 := cell_after hb9 l1 a2
          have e0 := cell_after hb9 mw e0
          have e1 := cell_after hb9 mw e1
          have e2 := cell_after hb9 mw e2
          have f0 := frozen_off hb9 mw f0
          have f1 := frozen_off hb9 mw f1
          have f2 := frozen_off hb9 mw f2
          have l1 := size_after hb9 l1
          have mw := size_after hb9 mw
          have HB := Lib.hid (bl_trans hb9 HB.out)
          have HBL := Lib.hid (bl_trans hb9 HBL.out)
          clear hb9
          go_wp2_with fail
          refine (wkText_any _ _ _ hok _).mono ?_
          rintro e w7 ⟨rfl, hb7⟩
          have a0 := cell_after hb7 l1 a0
          have a1 := cell_after hb7 l1 a1
          have a2 := cell_after hb7 l1 a2
          have e0 := cell_after hb7 mw e0
          have e1 := cell_after hb7 mw e1
          have e2 := cell_after hb7 mw e2
          have f0 := frozen_off hb7 mw f0
          have f1 := frozen_off hb7 mw f1
          have f2 := frozen_off hb7 mw f2
          have l1 := size_after hb7 l1
          have mw := size_after hb7 mw
          have HB := Lib.hid (bl_trans hb7 HB.out)
          have HBL := Lib.hid (bl_trans hb7 HBL.out)
          clear hb7
          by_cases ht : txW H P U = s
          · have htl : ((txW H P U).toList == s.toList) = true := by rw [ht]; exact beq_self_eq_true _
            have P1 := Lib.hid (show ReadW s H P U true from ⟨⟨fun _ => ⟨hok, ht⟩, fun _ _ _ _ _ => rfl⟩, fun e => by cases e⟩)
            clear HNO ht hok
            go_wp2
            have hfin : Below w.heap.size w (((w7.setCell ⟨w.heap.size, 0, none⟩ (.int .i64 H)).setCell ⟨w.heap.size, 1, none⟩ (.int .i64 P)).setCell ⟨w.heap.size, 2, none⟩ (.int .i64 U)) := bl_set (bl_set (bl_set HB.out (Nat.le_refl _) _) (Nat.le_refl _) _) (Nat.le_refl _) _
            refine bodyPost_ret (v := .tuple #[.agg #[.int .i64 H, .int .i64 P, .int .i64 U], .bool true]) (by simp [results, Tryd.results15, go_sem, *]) rfl ⟨_, _, _, _, rfl, P1.out, hfin⟩
          · have htl : ((txW H P U).toList == s.toList) = false := beq_eq_false_iff_ne.2 fun e => ht (toList_inj e)
            have HLN := Lib.hid (HNO.out (fun h => ht h.2))
            clear HNO ht a0 a1 a2 e0 e1 e2 f0 f1 f2
            go_wp2
            go_roundw
            case rel => exact ⟨2, by omega, by go_num, HLN.out, HBL.out⟩
            case measure => simp only [intOf]; omega
    · obtain rfl : k = 2 := by omega
      have P := Lib.hid (readW_no (left_no HLF.out))
      have e0 := cell_after hb lw dr0
      have e1 := cell_after hb lw dr1
      have e2 := cell_after hb lw dr2
      have f0 := frozen_off hb lw fr0
      have f1 := frozen_off hb lw fr1
      have f2 := frozen_off hb lw fr2
      have HB := Lib.hid (show Below w.heap.size w wr from bl_trans hb HKL.out)
      clear hb dr0 dr1 dr2 fr0 fr1 fr2 cx cy cs0 cs1
      go_wp2
      have hfin : Below w.heap.size w (((wr.setCell ⟨w.heap.size, 0, none⟩ (.int .i64 0)).setCell ⟨w.heap.size, 1, none⟩ (.int .i64 0)).setCell ⟨w.heap.size, 2, none⟩ (.int .i64 0)) := bl_set (bl_set (bl_set HB.out (Nat.le_refl _) _) (Nat.le_refl _) _) (Nat.le_refl _) _
      refine bodyPost_ret (v := .tuple #[.agg #[.int .i64 0, .int .i64 0, .int .i64 0], .bool false]) (by simp [results, Tryd.results15, go_sem, *]) rfl ⟨_, _, _, _, rfl, P.out, hfin⟩
end Go.Proofs.YtkcncjoekbbolaaDoor
