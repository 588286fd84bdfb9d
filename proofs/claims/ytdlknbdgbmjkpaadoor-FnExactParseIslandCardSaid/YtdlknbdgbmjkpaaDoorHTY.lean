/- Islands that are read back, by the model. -/
import Derived.Test.YtdlknbdgbmjkpaaDoorHTP
import Derived.Deep.Cut
import Derived.Deep.DeepCutAuto
import Derived.Deep.RegionLaw
namespace Go.Proofs.YtdlknbdgbmjkpaaDoor
open Go.RowKit
set_option linter.unusedVariables false
set_option linter.unusedSimpArgs false
theorem S3p_after {w3 a b : World} {g q r : Nat} {x0 x1 x2 x3 : Value} (hb : Below a.heap.size a b) (h : a.cell? ⟨g, 0, none⟩ = some (x0) ∧ a.cell? ⟨q, 0, none⟩ = some (x1) ∧ a.cell? ⟨r, 0, none⟩ = some (x2) ∧ a.cell? ⟨r, 1, none⟩ = some (x3) ∧ g < a.heap.size ∧ q < a.heap.size ∧ r < a.heap.size ∧ Below w3.heap.size w3 a) : b.cell? ⟨g, 0, none⟩ = some (x0) ∧ b.cell? ⟨q, 0, none⟩ = some (x1) ∧ b.cell? ⟨r, 0, none⟩ = some (x2) ∧ b.cell? ⟨r, 1, none⟩ = some (x3) ∧ g < b.heap.size ∧ q < b.heap.size ∧ r < b.heap.size ∧ Below w3.heap.size w3 b :=
  ⟨cell_after hb h.2.2.2.2.1 h.1, cell_after hb h.2.2.2.2.2.1 h.2.1, cell_after hb h.2.2.2.2.2.2.1 h.2.2.1, cell_after hb h.2.2.2.2.2.2.1 h.2.2.2.1, size_after hb h.2.2.2.2.1, size_after hb h.2.2.2.2.2.1, size_after hb h.2.2.2.2.2.2.1, bl_trans hb h.2.2.2.2.2.2.2⟩
set_option maxRecDepth 100000 in
set_option maxHeartbeats 4000000 in
theorem htParse_any (s : ByteArray) (hs : s.size ≤ 1048576) (w : World) :
    Calls Tryd.prog 15 #[.string s] w fun e w' => ∃ a b c d ok, e = .returned (.tuple #[.agg #[.int .i64 a, .int .i64 b, .int .i64 c, .int .i64 d], .bool ok]) ∧ ReadI s a b c d ok ∧ Below w.heap.size w w' := by
  have hlen := len_data s
  go_enter Tryd.func15, Tryd.ntmps15
  go_wp2_with fail
  refine (l1Split_any s 124 124 rfl hs _).mono ?_
  rintro e w1 ⟨v1, rfl, r1, hb1⟩
  have R1 := Lib.hid r1
  clear r1
  obtain ⟨hc1, hf1⟩ := bcell hb1
  have hz1 := bsize hb1
  simp only [World.size_alloc] at hz1
  have z1 : w.heap.size < w1.heap.size := by omega
  by_cases hlong : 18 < s.size
  · have P := Lib.hid (readI_no (s := s) (fun a b c d h e => by obtain ⟨_, _, _, _, _, _, _, h18⟩ := txI_parts h; rw [e] at h18; omega))
    have hl' : (18 : Int) < (s.size : Int) := by omega
    go_wp2
    refine bodyPost_ret (v := .tuple #[.agg #[.int .i64 0, .int .i64 0, .int .i64 0, .int .i64 0], .bool false]) (by simp [results, Tryd.results15, go_sem, *]) rfl ⟨_, _, _, _, _, rfl, P.out, (by repeat (first | exact Below.refl _ _ | refine bl_alloc ?_ _ | refine bl_drewN ?_ _ | refine bl_trans (by assumption) ?_ | refine bl_set ?_ (by first | omega | (simp; done) | (simp; omega)) _))⟩
  have hl' : ¬ (18 : Int) < (s.size : Int) := by omega
  by_cases hp : (sp 124 s.data.toList s.size).1.length ≠ 1
  · have P := Lib.hid (readI_no (s := s) (fun a b c d h e => by
      obtain ⟨p, q', r', t, _, _, e1, _⟩ := txI_parts h
      rw [e] at e1
      have := sp_two (n124 _) (m124 q' r' t) (x := Lib.decDigits p)
      rw [← e1, hlen] at this
      exact hp (by rw [this]; rfl)))
    obtain ⟨g9, cap9, rfl, _, _, _⟩ := R1.out.open_ (by simp)
    have hl2 : (((((sp 124 s.data.toList s.size).1 ++ [(sp 124 s.data.toList s.size).2]).length : Nat) : Int) != 2) = true := by simp; omega
    generalize ((sp 124 s.data.toList s.size).1 ++ [(sp 124 s.data.toList s.size).2]).length = L at *
    go_wp2
    refine bodyPost_ret (v := .tuple #[.agg #[.int .i64 0, .int .i64 0, .int .i64 0, .int .i64 0], .bool false]) (by simp [results, Tryd.results15, go_sem, *]) rfl ⟨_, _, _, _, _, rfl, P.out, (by repeat (first | exact Below.refl _ _ | refine bl_alloc ?_ _ | refine bl_drewN ?_ _ | refine bl_trans (by assumption) ?_ | refine bl_set ?_ (by first | omega | (simp; done) | (simp; omega)) _))⟩
  have hp := Decidable.not_not.1 hp
  obtain ⟨x, y, hxy, hsplit, n1, n2⟩ := sp_of_one (b := 124) (l := s.data.toList) (by rw [hlen]; exact hp)
  rw [hlen] at hxy
  rw [hxy] at R1
  clear hp hxy
  have HS := Lib.hid hsplit
  have hyl : y.length ≤ 18 := by
    have := congrArg List.length hsplit
    simp at this; omega
  clear hsplit
  obtain ⟨g, cap, rfl, hB1, hg, hcl⟩ := SRow.open_ R1.out (by simp)
  have cx : w1.cell? ⟨g, 0, none⟩ = some (str x) := hcl 0 (by simp)
  have cy : w1.cell? ⟨g, 1, none⟩ = some (str y) := hcl 1 (by simp)
  simp only [List.cons_append, List.nil_append, List.length_cons, List.length_nil] at *
  clear hcl R1 hp
  go_wp2_with fail
  refine (l1Split_any ⟨y.toArray⟩ 58 58 rfl (by show y.length ≤ 1048576; omega) _).mono ?_
  rintro e w2 ⟨v2, rfl, r2, hb2⟩
  have r2 : SRow w2 w1.heap.size v2 ((sp 58 y y.length).1 ++ [(sp 58 y y.length).2]) := r2
  have R2 := Lib.hid r2
  clear r2
  obtain ⟨hc2, hf2⟩ := bcell hb2
  have hz2 := bsize hb2
  have z2 : w.heap.size < w2.heap.size := by omega
  have z2g : g < w2.heap.size := by omega
  by_cases hp : (sp 58 y y.length).1.length ≠ 1
  · have P := Lib.hid (readI_no (s := s) (fun a b c d h e => by
      obtain ⟨p, q', r', t, _, _, e1, _⟩ := txI_parts h
      rw [e, HS.out] at e1
      obtain ⟨q1, q2⟩ := cut_unique n1 (n124 _) e1
      have := sp_two (n58 _) (m58 r' t) (x := Lib.decDigits q')
      rw [← q2] at this
      exact hp (by rw [this]; rfl)))
    obtain ⟨g9, cap9, rfl, _, _, _⟩ := R2.out.open_ (by simp)
    have hl2 : (((((sp 58 y y.length).1 ++ [(sp 58 y y.length).2]).length : Nat) : Int) != 2) = true := by simp; omega
    generalize ((sp 58 y y.length).1 ++ [(sp 58 y y.length).2]).length = L at *
    go_wp2
    refine bodyPost_ret (v := .tuple #[.agg #[.int .i64 0, .int .i64 0, .int .i64 0, .int .i64 0], .bool false]) (by simp [results, Tryd.results15, go_sem, *]) rfl ⟨_, _, _, _, _, rfl, P.out, (by repeat (first | exact Below.refl _ _ | refine bl_alloc ?_ _ | refine bl_drewN ?_ _ | refine bl_trans (by assumption) ?_ | refine bl_set ?_ (by first | omega | (simp; done) | (simp; omega)) _))⟩
  have hp := Decidable.not_not.1 hp
  obtain ⟨y1, y2, hyz, hsplit, n3, n4⟩ := sp_of_one hp
  rw [hyz] at R2
  have HY := Lib.hid hsplit
  have hyl2 : y2.length ≤ 18 := by
    have := congrArg List.length hsplit
    simp at this; omega
  clear hp hyz hsplit
  obtain ⟨q, cap2, rfl, hB2, hq, hcl⟩ := SRow.open_ R2.out (by simp)
  have dy : w2.cell? ⟨q, 0, none⟩ = some (str y1) := hcl 0 (by simp)
  have dz : w2.cell? ⟨q, 1, none⟩ = some (str y2) := hcl 1 (by simp)
  have dx : w2.cell? ⟨g, 0, none⟩ = some (str x) := by rw [hc2 _ _ hg]; exact cx
  simp only [List.cons_append, List.nil_append, List.length_cons, List.length_nil] at *
  clear hcl R2
  go_wp2_with fail
  refine (l1Split_any ⟨y2.toArray⟩ 47 47 rfl (by show y2.length ≤ 1048576; omega) _).mono ?_
  rintro e w3 ⟨v3, rfl, r3, hb3⟩
  have r3 : SRow w3 w2.heap.size v3 ((sp 47 y2 y2.length).1 ++ [(sp 47 y2 y2.length).2]) := r3
  have R3 := Lib.hid r3
  clear r3
  obtain ⟨hc3, hf3⟩ := bcell hb3
  have hz3 := bsize hb3
  have z3 : w.heap.size < w3.heap.size := by omega
  have z3g : g < w3.heap.size := by omega
  have z3q : q < w3.heap.size := by omega
  by_cases hp : (sp 47 y2 y2.length).1.length ≠ 1
  · have P := Lib.hid (readI_no (s := s) (fun a b c d h e => by
      obtain ⟨p, q', r', t, _, _, e1, _⟩ := txI_parts h
      rw [e, HS.out] at e1
      obtain ⟨q1, q2⟩ := cut_unique n1 (n124 _) e1
      rw [HY.out] at q2
      obtain ⟨q3, q4⟩ := cut_unique n3 (n58 _) q2
      have := sp_two (n47 _) (n47 t) (x := Lib.decDigits r')
      rw [← q4] at this
      exact hp (by rw [this]; rfl)))
    obtain ⟨g9, cap9, rfl, _, _, _⟩ := R3.out.open_ (by simp)
    have hl2 : (((((sp 47 y2 y2.length).1 ++ [(sp 47 y2 y2.length).2]).length : Nat) : Int) != 2) = true := by simp; omega
    generalize ((sp 47 y2 y2.length).1 ++ [(sp 47 y2 y2.length).2]).length = L at *
    go_wp2
    refine bodyPost_ret (v := .tuple #[.agg #[.int .i64 0, .int .i64 0, .int .i64 0, .int .i64 0], .bool false]) (by simp [results, Tryd.results15, go_sem, *]) rfl ⟨_, _, _, _, _, rfl, P.out, (by repeat (first | exact Below.refl _ _ | refine bl_alloc ?_ _ | refine bl_drewN ?_ _ | refine bl_trans (by assumption) ?_ | refine bl_set ?_ (by first | omega | (simp; done) | (simp; omega)) _))⟩
  have hp := Decidable.not_not.1 hp
  obtain ⟨z, u, hzu, hsplit, n5, n6⟩ := sp_of_one hp
  rw [hzu] at R3
  have HZ := Lib.hid hsplit
  clear hp hzu hsplit
  obtain ⟨r, cap3, rfl, hB3, hr, hcl⟩ := SRow.open_ R3.out (by simp)
  have ez : w3.cell? ⟨r, 0, none⟩ = some (str z) := hcl 0 (by simp)
  have eu : w3.cell? ⟨r, 1, none⟩ = some (str u) := hcl 1 (by simp)
  have ex : w3.cell? ⟨g, 0, none⟩ = some (str x) := by rw [hc3 _ _ z2g]; exact dx
  have ey : w3.cell? ⟨q, 0, none⟩ = some (str y1) := by rw [hc3 _ _ hq]; exact dy
  simp only [List.cons_append, List.nil_append, List.length_cons, List.length_nil] at *
  have hk : Below w.heap.size w w3 := (by repeat (first | exact Below.refl _ _ | refine bl_alloc ?_ _ | refine bl_drewN ?_ _ | refine bl_trans (by assumption) ?_ | refine bl_set ?_ (by first | omega | (simp; done) | (simp; omega)) _))
  have dr0 : w3.cell? ⟨w.heap.size, 0, none⟩ = some (.int .i64 0) := by rw [hc3 _ _ z2, hc2 _ _ z1]; simp [*]
  have fr0 : w3.frozen? ⟨w.heap.size, 0, none⟩ = false := by rw [hf3 _ _ z2, hf2 _ _ z1]; simp [*]
  have dr1 : w3.cell? ⟨w.heap.size, 1, none⟩ = some (.int .i64 0) := by rw [hc3 _ _ z2, hc2 _ _ z1]; simp [*]
  have fr1 : w3.frozen? ⟨w.heap.size, 1, none⟩ = false := by rw [hf3 _ _ z2, hf2 _ _ z1]; simp [*]
  have dr2 : w3.cell? ⟨w.heap.size, 2, none⟩ = some (.int .i64 0) := by rw [hc3 _ _ z2, hc2 _ _ z1]; simp [*]
  have fr2 : w3.frozen? ⟨w.heap.size, 2, none⟩ = false := by rw [hf3 _ _ z2, hf2 _ _ z1]; simp [*]
  have dr3 : w3.cell? ⟨w.heap.size, 3, none⟩ = some (.int .i64 0) := by rw [hc3 _ _ z2, hc2 _ _ z1]; simp [*]
  have fr3 : w3.frozen? ⟨w.heap.size, 3, none⟩ = false := by rw [hf3 _ _ z2, hf2 _ _ z1]; simp [*]
  have HK := Lib.hid hk
  have HALL := Lib.hid (show s.data.toList = x ++ 124 :: (y1 ++ 58 :: (z ++ 47 :: u)) by rw [HS.out, HY.out, HZ.out])
  have HR : Hid (∀ a b c d, okIs a b c d = true → txI a b c d = s → okIs (rdV x) (rdV y1) (rdV z) (rdV u) = true) := by
    refine Lib.hid fun a b c d h e => ?_
    obtain ⟨p, q', r', t, ⟨rfl, rfl, rfl, rfl⟩, hlt, e1, _⟩ := txI_parts h
    obtain ⟨l1, l2, l3, l4⟩ := rdV_all hlt
    rw [e, HS.out] at e1
    obtain ⟨q1, q2⟩ := cut_unique n1 (n124 _) e1
    rw [HY.out] at q2
    obtain ⟨q3, q4⟩ := cut_unique n3 (n58 _) q2
    rw [HZ.out] at q4
    obtain ⟨q5, q6⟩ := cut_unique n5 (n47 _) q4
    rw [q1, q3, q5, q6, l1, l2, l3, l4]
    exact h
  clear hcl R3 cx cy dx dy dz hc1 hf1 hb1 hc2 hf2 hb2 hc3 hf3 hb3 hk HS HY HZ n1 n2 n3 n4 n5 n6
  have hS : w3.cell? ⟨g, 0, none⟩ = some (str x) ∧ w3.cell? ⟨q, 0, none⟩ = some (str y1) ∧ w3.cell? ⟨r, 0, none⟩ = some (str z) ∧ w3.cell? ⟨r, 1, none⟩ = some (str u) ∧ g < w3.heap.size ∧ q < w3.heap.size ∧ r < w3.heap.size ∧ Below w3.heap.size w3 w3 := ⟨ex, ey, ez, eu, z3g, z3q, hr, Below.refl _ _⟩
  clear ex ey ez eu
  go_upto_region 10 with fail
  go_cut [7] (fun s7 wx => s7 = .pointer (some ⟨w3.heap.size, 0, none⟩) ∧ wx = (w3.alloc (.cells #[.int .i64 (rdV x), .int .i64 (rdV y1), .int .i64 (rdV z), .int .i64 (rdV u)] 26)).drew)
  case first =>
    go_region_held3 (fun w' => w'.cell? ⟨g, 0, none⟩ = some (str x) ∧ w'.cell? ⟨q, 0, none⟩ = some (str y1) ∧ w'.cell? ⟨r, 0, none⟩ = some (str z) ∧ w'.cell? ⟨r, 1, none⟩ = some (str u) ∧ g < w'.heap.size ∧ q < w'.heap.size ∧ r < w'.heap.size ∧ Below w3.heap.size w3 w') (first | exact S3p_after (below_drewN (Below.refl _ _) _) (by assumption) | exact S3p_after (Below.drew (Below.refl _ _)) (by assumption) | assumption | exact S3p_after (Below.drew ((Below.refl _ _).alloc (Nat.le_refl _) _)) (by assumption) | exact S3p_after ((Below.refl _ _).alloc (Nat.le_refl _) _) (by assumption)) (first | (go_at_call 26; refine (l1Read_any ⟨_⟩ _).mono ?_; rintro e w9 ⟨rfl, rfl⟩))
    all_goals (go_wp2_with fail; go_meet; exact ⟨rfl, rfl⟩)
  case rest =>
    obtain ⟨rfl, rfl⟩ := hcut
    have PF : okIs (rdV x) (rdV y1) (rdV z) (rdV u) = false → ReadI s 0 0 0 0 false := fun hok => readI_no (s := s) (fun a b c d h e => by
        have := HR.out a b c d h e
        rw [hok] at this; cases this)
    have PB : okIs (rdV x) (rdV y1) (rdV z) (rdV u) = true → ReadI s (rdV x) (rdV y1) (rdV z) (rdV u) true := fun hok => readI_yes hok (text_of HALL.out hok)
    have QF := Lib.hid PF
    have QB := Lib.hid PB
    clear PF PB HR hS HALL
    generalize rdV x = p1 at *
    generalize rdV y1 = p2 at *
    generalize rdV z = p3 at *
    generalize rdV u = p4 at *
    have hbb : Below w3.heap.size w3 (w3.alloc (.cells #[.int .i64 p1, .int .i64 p2, .int .i64 p3, .int .i64 p4] 26)).drew := Below.drew ((Below.refl _ _).alloc (Nat.le_refl _) _)
    have a0 : (w3.alloc (.cells #[.int .i64 p1, .int .i64 p2, .int .i64 p3, .int .i64 p4] 26)).drew.cell? ⟨w3.heap.size, 0, none⟩ = some (.int .i64 p1) := by simp
    have a1 : (w3.alloc (.cells #[.int .i64 p1, .int .i64 p2, .int .i64 p3, .int .i64 p4] 26)).drew.cell? ⟨w3.heap.size, 1, none⟩ = some (.int .i64 p2) := by simp
    have a2 : (w3.alloc (.cells #[.int .i64 p1, .int .i64 p2, .int .i64 p3, .int .i64 p4] 26)).drew.cell? ⟨w3.heap.size, 2, none⟩ = some (.int .i64 p3) := by simp
    have a3 : (w3.alloc (.cells #[.int .i64 p1, .int .i64 p2, .int .i64 p3, .int .i64 p4] 26)).drew.cell? ⟨w3.heap.size, 3, none⟩ = some (.int .i64 p4) := by simp
    have b0 := cell_after hbb z3 dr0
    have f0 := frozen_after hbb z3 fr0
    have b1 := cell_after hbb z3 dr1
    have f1 := frozen_after hbb z3 fr1
    have b2 := cell_after hbb z3 dr2
    have f2 := frozen_after hbb z3 fr2
    have b3 := cell_after hbb z3 dr3
    have f3 := frozen_after hbb z3 fr3
    have l1 : w3.heap.size < (w3.alloc (.cells #[.int .i64 p1, .int .i64 p2, .int .i64 p3, .int .i64 p4] 26)).drew.heap.size := by simp
    have l2 := size_after hbb z3
    have hk8 : Below w.heap.size w (w3.alloc (.cells #[.int .i64 p1, .int .i64 p2, .int .i64 p3, .int .i64 p4] 26)).drew := Below.drew (bl_alloc HK.out _)
    have hne : w.heap.size ≠ w3.heap.size := by omega
    clear hbb dr0 dr1 dr2 dr3 fr0 fr1 fr2 fr3 HK
    generalize (w3.alloc (.cells #[.int .i64 p1, .int .i64 p2, .int .i64 p3, .int .i64 p4] 26)).drew = w8 at *
    have HK := Lib.hid hk8
    clear hk8
    generalize w3.heap.size = qq at *
    have HG := fun W => Lib.hid (spec_htGood p1 p2 p3 p4 W)
    go_wp2_with fail
    refine ((HG _).out).mono ?_
    rintro e w9 ⟨rfl, hb9⟩
    have a0 := cell_after hb9 l1 a0
    have b0 := cell_after hb9 l2 b0
    have f0 := frozen_after hb9 l2 f0
    have a1 := cell_after hb9 l1 a1
    have b1 := cell_after hb9 l2 b1
    have f1 := frozen_after hb9 l2 f1
    have a2 := cell_after hb9 l1 a2
    have b2 := cell_after hb9 l2 b2
    have f2 := frozen_after hb9 l2 f2
    have a3 := cell_after hb9 l1 a3
    have b3 := cell_after hb9 l2 b3
    have f3 := frozen_after hb9 l2 f3
    have l1 := size_after hb9 l1
    have l2 := size_after hb9 l2
    have HK9 := Lib.hid (bl_trans hb9 HK.out)
    clear hb9
    cases hok : okIs p1 p2 p3 p4
    · have P := Lib.hid (QF.out hok)
      go_wp2
      refine bodyPost_ret (v := .tuple #[.agg #[.int .i64 0, .int .i64 0, .int .i64 0, .int .i64 0], .bool false]) (by simp [results, Tryd.results15, go_sem, *]) rfl ⟨_, _, _, _, _, rfl, P.out, (by repeat (first | exact HK9.out | exact Below.refl _ _ | refine bl_alloc ?_ _ | refine bl_drewN ?_ _ | refine bl_set ?_ (by first | omega | (simp; done) | (simp; omega)) _))⟩
    · have P := Lib.hid (QB.out hok)
      go_wp2
      refine bodyPost_ret (v := .tuple #[.agg #[.int .i64 p1, .int .i64 p2, .int .i64 p3, .int .i64 p4], .bool true]) (by simp [results, Tryd.results15, go_sem, *]) rfl ⟨_, _, _, _, _, rfl, P.out, (by repeat (first | exact HK9.out | exact Below.refl _ _ | refine bl_alloc ?_ _ | refine bl_drewN ?_ _ | refine bl_set ?_ (by first | omega | (simp; done) | (simp; omega)) _))⟩
end Go.Proofs.YtdlknbdgbmjkpaaDoor
