/- The law FnHeightsMeasured: its walk. -/
import Derived.Test.YtggoeaahagelfaaHM1
import Derived.Test.YtggoeaahagelfaaDR8
import Derived.Deep.Cut
import Derived.Deep.DeepCutAuto
import Derived.Deep.RegionHeld3
namespace Go.Proofs.Ytggoeaahagelfaa
open Go.RowKit
set_option linter.unusedVariables false
set_option linter.unusedSimpArgs false
attribute [local irreducible] Array.setIfInBounds
theorem reframe {P : Program} {c : Code} {Q : Exit → Act → World → Prop} {T : Array Value} {w : World} (h : ∀ T' : Array Value, T' = T → c.wp P Q ⟨T', []⟩ w) : c.wp P Q ⟨T, []⟩ w := h T rfl
theorem wp_cond_t {P : Program} {x y : Code} {c : Operand} {Q : Exit → Act → World → Prop} {a : Act} {w : World} (h : a.eval c = .bool true) (hx : x.wp P Q a w) : (Code.cond c x y).wp P Q a w := wp_cond_split h (fun _ => hx) (fun h => by cases h)
theorem wp_cond_f {P : Program} {x y : Code} {c : Operand} {Q : Exit → Act → World → Prop} {a : Act} {w : World} (h : a.eval c = .bool false) (hy : y.wp P Q a w) : (Code.cond c x y).wp P Q a w := wp_cond_split h (fun h => by cases h) (fun _ => hy)
theorem getq {T : Array Value} {k : Nat} {v : Value} (h : T[k]? = some v) (hh : k < T.size) : T[k]'hh = v := by
  rw [Array.getElem?_eq_getElem hh] at h
  exact Option.some.inj h
theorem putq {T : Array Value} {k : Nat} {v : Value} (hk : k < T.size) (h : ∀ hh : k < T.size, T[k]'hh = v) : T[k]? = some v := by
  rw [Array.getElem?_eq_getElem hk, h hk]
theorem undef_no {b : Bool} {G : Prop} (h : some undef = some (Value.bool b)) : G := by simp [undef] at h
theorem Bytes.later {w u : World} {v : Value} (h : Bytes w w.heap.size v) (hb : Below w.heap.size w u) : Bytes u u.heap.size v := by
  rcases h with h | ⟨g, off, n, cap, hv, h0, h1, hg, hx⟩
  · exact .inl h
  · refine .inr ⟨g, off, n, cap, hv, h0, h1, Nat.lt_of_lt_of_le hg hb.size, fun i hi => ?_⟩
    obtain ⟨x, x0, x1, hx⟩ := hx i hi
    exact ⟨x, x0, x1, by rw [(bcell hb).1 _ _ hg]; exact hx⟩
def OneB (e : Ending) : Prop := ∃ r : Bool, e = .returned (.bool r)
set_option maxHeartbeats 400000 in
theorem big_any (v u : Value) (w : World) (h : Bytes w w.heap.size v) (k : Bytes w w.heap.size u) :
    Calls Try.prog 4 #[v, u] w fun e w' => OneB e ∧ w = w' := by
  obtain ⟨a, n, c, rfl, hn⟩ := h.shape
  obtain ⟨a', n', c', rfl, hn'⟩ := k.shape
  clear h k
  go_enter Try.func4, Try.ntmps4
  go_wp2
  all_goals (go_ret; exact ⟨⟨_, rfl⟩, rfl⟩)
set_option maxHeartbeats 8000000 in
set_option maxRecDepth 100000 in
theorem heights_walk (v0 v1 : Value) (w : World) (h0 : Bytes w w.heap.size v0) (h1 : Bytes w w.heap.size v1) :
    Calls Try.prog 3 #[v0, v1] w fun e w' => e = .returned (.bool true) ∧ Below w.heap.size w w' := by
  go_enter Try.func3, Try.ntmps3
  refine reframe fun T1 hT => ?_
  have hs1 : T1.size = 540 := by rw [hT]; rfl
  have f0_1 : ∀ hh : 0 < T1.size, T1[0]'hh = v0 := by subst hT; intro hh; rfl
  have f1_1 : ∀ hh : 1 < T1.size, T1[1]'hh = v1 := by subst hT; intro hh; rfl
  have q0_1 := putq (by rw [hs1]; decide) f0_1
  have q1_1 := putq (by rw [hs1]; decide) f1_1
  clear hT
  have HB0 := Lib.hid (Below.refl w.heap.size w)
  have H0 := Lib.hid h0
  have H1 := Lib.hid h1
  clear h0 h1
  go_wp2_with fail
  refine (big_any _ _ _ H0.out H1.out).mono ?_
  rintro e w' ⟨⟨r, rfl⟩, rfl⟩
  go_wp2_with fail
  cases r
  case true =>
    refine wp_cond_t ?_ ?_
    · (go_simp <;> omega)
    go_wp2
    go_ret
    exact ⟨by simp [hs1], HB0.out⟩
  go_wp2_with fail
  refine wp_cond_f ?_ ?_
  · (go_simp <;> omega)
  go_wp2_with fail
  refine (DrawTreeByStaff_any v0 _ (H0.out.later (by repeat (first | exact HB0.out | exact Below.refl _ _ | refine bl_drewN ?_ _)))).mono ?_
  rintro e w1 ⟨a, s, n, f, rfl, hb1⟩
  have HB1 := Lib.hid (show Below w.heap.size w w1 from bl_trans hb1 (by repeat (first | exact HB0.out | exact Below.refl _ _ | refine bl_drewN ?_ _)))
  clear hb1
  obtain ⟨X, Y, OK, P1, P2, PF⟩ := tree_pack a s n f
  go_upto_region 4 with fail
  refine reframe fun T2 hT => ?_
  have hs2 : T2.size = 540 := by subst hT; simp [hs1]
  have q1_2 : T2[1]? = some (v1) := by subst hT; exact (by first | (simp only [↓Array.getElem?_setIfInBounds_ne, ne_eq, Nat.reduceEqDiff, not_false_eq_true, q1_1]; done) | simp [hs1, f0_1, f1_1])
  have f1_2 := fun hh => getq q1_2 hh
  have q5_2 : T2[5]? = some (.int .i64 a) := by subst hT; exact (by first | (simp only [↓Array.getElem?_setIfInBounds_ne, ne_eq, Nat.reduceEqDiff, not_false_eq_true]; done) | simp [hs1, f0_1, f1_1])
  have f5_2 := fun hh => getq q5_2 hh
  have q6_2 : T2[6]? = some (.int .i64 s) := by subst hT; exact (by first | (simp only [↓Array.getElem?_setIfInBounds_ne, ne_eq, Nat.reduceEqDiff, not_false_eq_true]; done) | simp [hs1, f0_1, f1_1])
  have f6_2 := fun hh => getq q6_2 hh
  have q7_2 : T2[7]? = some (.int .i64 n) := by subst hT; exact (by first | (simp only [↓Array.getElem?_setIfInBounds_ne, ne_eq, Nat.reduceEqDiff, not_false_eq_true]; done) | simp [hs1, f0_1, f1_1])
  have f7_2 := fun hh => getq q7_2 hh
  have q8_2 : T2[8]? = some (.int .i64 f) := by subst hT; exact (by first | (simp only [↓Array.getElem?_setIfInBounds_ne, ne_eq, Nat.reduceEqDiff, not_false_eq_true]; done) | simp [hs1, f0_1, f1_1])
  have f8_2 := fun hh => getq q8_2 hh
  clear hT f1_1 f0_1 hs1 q0_1 q1_1
  go_wp2_with fail
  refine ((P1 _).out).mono ?_
  rintro e w2 ⟨rfl, hb2⟩
  have HB2 := Lib.hid (show Below w.heap.size w w2 from bl_trans hb2 (by repeat (first | exact HB1.out | exact Below.refl _ _ | refine bl_drewN ?_ _)))
  clear hb2
  go_wp2_with fail
  refine ((P2 _).out).mono ?_
  rintro e w3 ⟨rfl, hb3⟩
  have HB3 := Lib.hid (show Below w.heap.size w w3 from bl_trans hb3 (by repeat (first | exact HB2.out | exact Below.refl _ _ | refine bl_drewN ?_ _)))
  clear hb3
  go_upto_region 6 with fail
  refine reframe fun T3 hT => ?_
  have hs3 : T3.size = 540 := by subst hT; simp [hs2]
  have q1_3 : T3[1]? = some (v1) := by subst hT; exact (by first | (simp only [↓Array.getElem?_setIfInBounds_ne, ne_eq, Nat.reduceEqDiff, not_false_eq_true, q1_2]; done) | simp [hs2, f1_2, f5_2, f6_2, f7_2, f8_2])
  have f1_3 := fun hh => getq q1_3 hh
  have q5_3 : T3[5]? = some (.int .i64 a) := by subst hT; exact (by first | (simp only [↓Array.getElem?_setIfInBounds_ne, ne_eq, Nat.reduceEqDiff, not_false_eq_true, q5_2]; done) | simp [hs2, f1_2, f5_2, f6_2, f7_2, f8_2])
  have f5_3 := fun hh => getq q5_3 hh
  have q6_3 : T3[6]? = some (.int .i64 s) := by subst hT; exact (by first | (simp only [↓Array.getElem?_setIfInBounds_ne, ne_eq, Nat.reduceEqDiff, not_false_eq_true, q6_2]; done) | simp [hs2, f1_2, f5_2, f6_2, f7_2, f8_2])
  have f6_3 := fun hh => getq q6_3 hh
  have q7_3 : T3[7]? = some (.int .i64 n) := by subst hT; exact (by first | (simp only [↓Array.getElem?_setIfInBounds_ne, ne_eq, Nat.reduceEqDiff, not_false_eq_true, q7_2]; done) | simp [hs2, f1_2, f5_2, f6_2, f7_2, f8_2])
  have f7_3 := fun hh => getq q7_3 hh
  have q8_3 : T3[8]? = some (.int .i64 f) := by subst hT; exact (by first | (simp only [↓Array.getElem?_setIfInBounds_ne, ne_eq, Nat.reduceEqDiff, not_false_eq_true, q8_2]; done) | simp [hs2, f1_2, f5_2, f6_2, f7_2, f8_2])
  have f8_3 := fun hh => getq q8_3 hh
  have q9_3 : T3[9]? = some (.int .i64 X) := by subst hT; exact (by first | (simp only [↓Array.getElem?_setIfInBounds_ne, ne_eq, Nat.reduceEqDiff, not_false_eq_true]; done) | simp [hs2, f1_2, f5_2, f6_2, f7_2, f8_2])
  have f9_3 := fun hh => getq q9_3 hh
  have q10_3 : T3[10]? = some (.int .i64 Y) := by subst hT; exact (by first | (simp only [↓Array.getElem?_setIfInBounds_ne, ne_eq, Nat.reduceEqDiff, not_false_eq_true]; done) | simp [hs2, f1_2, f5_2, f6_2, f7_2, f8_2])
  have f10_3 := fun hh => getq q10_3 hh
  have q11_3 : T3[11]? = some (.bool OK) := by subst hT; exact (by first | (simp only [↓Array.getElem?_setIfInBounds_ne, ne_eq, Nat.reduceEqDiff, not_false_eq_true]; done) | simp [hs2, f1_2, f5_2, f6_2, f7_2, f8_2])
  have f11_3 := fun hh => getq q11_3 hh
  have q12_3 : T3[12]? = some (.int .i64 X) := by subst hT; exact (by first | (simp only [↓Array.getElem?_setIfInBounds_ne, ne_eq, Nat.reduceEqDiff, not_false_eq_true]; done) | simp [hs2, f1_2, f5_2, f6_2, f7_2, f8_2])
  have f12_3 := fun hh => getq q12_3 hh
  have q13_3 : T3[13]? = some (.int .i64 Y) := by subst hT; exact (by first | (simp only [↓Array.getElem?_setIfInBounds_ne, ne_eq, Nat.reduceEqDiff, not_false_eq_true]; done) | simp [hs2, f1_2, f5_2, f6_2, f7_2, f8_2])
  have f13_3 := fun hh => getq q13_3 hh
  have q14_3 : T3[14]? = some (.bool OK) := by subst hT; exact (by first | (simp only [↓Array.getElem?_setIfInBounds_ne, ne_eq, Nat.reduceEqDiff, not_false_eq_true]; done) | simp [hs2, f1_2, f5_2, f6_2, f7_2, f8_2])
  have f14_3 := fun hh => getq q14_3 hh
  clear hT f8_2 f7_2 f6_2 f5_2 f1_2 hs2 q1_2 q5_2 q6_2 q7_2 q8_2
  go_wp2_with fail
  refine wp_cond_f ?_ ?_
  · (go_simp <;> omega)
  go_wp2_with fail
  refine wp_cut (fun a' wx => ∃ T : Array Value, a' = ⟨T, []⟩ ∧ T.size = 540 ∧ T[1]? = some (v1) ∧ Below w.heap.size w wx) ?rest ?first
  case first =>
    intro J K' hJ hK
    clear H1
    cases OK
    · refine wp_cond_f ?_ ?_
      · (go_simp <;> omega)
      go_wp2_with fail
      refine Met.intro (hJ _ _ ⟨_, rfl, by simp [hs3], by first | (simp only [↓Array.getElem?_setIfInBounds_ne, ne_eq, Nat.reduceEqDiff, not_false_eq_true, q1_3]; done) | simp [hs3, f1_3, f5_3, f6_3, f7_3, f8_3, f9_3, f10_3, f11_3, f12_3, f13_3, f14_3], (by repeat (first | exact HB3.out | exact Below.refl _ _ | refine bl_drewN ?_ _))⟩)
    · obtain ⟨⟨⟨a0, a1⟩, ⟨s0, s1⟩, hlt, ⟨n0, n1⟩, f0, f1⟩, ⟨x0, x1⟩, ⟨y0, y1⟩, hg, e1, e2, HK⟩ := (PF rfl).out
      clear PF
      have HY := fun W => Lib.hid (yLow_int x0 (by omega) y0 (by omega) hg W)
      obtain ⟨m0, m1⟩ := mul_bd2 (a := s) (b := Y) (m := 100) (k := 2000) (by omega) (by omega) (by omega) (by omega)
      obtain ⟨m2, m3⟩ := mul_bd2 (a := a) (b := Y) (m := 100) (k := 2000) (by omega) (by omega) (by omega) (by omega)
      obtain ⟨m4, m5⟩ := mul_bd2 (a := s - a) (b := n + f) (m := 100) (k := 4000) (by omega) (by omega) (by omega) (by omega)
      obtain ⟨m6, m7⟩ := mul_bd2 (a := (s - a) * (n + f)) (b := Y) (m := 400000) (k := 2000) (by omega) (by omega) (by omega) (by omega)
      have m8 : 0 ≤ (X - a * Y) * n := by omega
      have m9 : (X - a * Y) * n ≤ 800000000 := by omega
      have ma : a * Y ≤ s * Y := Int.mul_le_mul_of_nonneg_right (by omega) (by omega)
      have w0_ : ¬ X ≤ s * Y := by omega
      have w7_ : ((X - a * Y) * n != (s - a) * (n + f) * Y) = false := by rw [e2]; simp
      clear hg
      go_wp2_with fail
      refine wp_cond_t ?_ ?_
      · (go_simp <;> omega)
      go_wp2_with fail
      refine ((HY _).out).mono ?_
      rintro e w' ⟨rfl, m4, rfl⟩
      go_wp2_with fail
      refine wp_cond_f ?_ ?_
      · (go_simp <;> omega)
      by_cases hY : Y = 1
      · by_cases hX : X ≤ 2000
        · subst hY
          have HQ := HK rfl hX
          have HI := fun W => Lib.hid (yIs_any (n := s) (d := 1) (x := s) (y := 1) (by omega) (by omega) (by omega) (by omega) (by simp) (by omega) (by omega) rfl W)
          go_wp2_with fail
          refine wp_cond_t ?_ ?_
          · (go_simp <;> omega)
          go_wp2_with fail
          refine ((HQ _).out).mono ?_
          rintro e w5 ⟨rfl, hb5⟩
          have HB5 := Lib.hid (show Below w.heap.size w w5 from bl_trans hb5 (by repeat (first | exact HB3.out | exact Below.refl _ _ | refine bl_drewN ?_ _)))
          clear hb5
          go_wp2_with fail
          refine ((HI _).out).mono ?_
          rintro e w' ⟨rfl, m6, rfl⟩
          go_wp2_with fail
          refine wp_cond_f ?_ ?_
          · (go_simp <;> omega)
          go_wp2_with fail
          refine Met.intro (hJ _ _ ⟨_, rfl, by simp [hs3], by first | (simp only [↓Array.getElem?_setIfInBounds_ne, ne_eq, Nat.reduceEqDiff, not_false_eq_true, q1_3]; done) | simp [hs3, f1_3, f5_3, f6_3, f7_3, f8_3, f9_3, f10_3, f11_3, f12_3, f13_3, f14_3], (by repeat (first | exact HB5.out | exact Below.refl _ _ | refine bl_drewN ?_ _))⟩)
        · subst hY
          have hX' : ¬ X ≤ 2000 := hX
          go_wp2_with fail
          refine wp_cond_f ?_ ?_
          · (go_simp <;> omega)
          go_wp2_with fail
          refine Met.intro (hJ _ _ ⟨_, rfl, by simp [hs3], by first | (simp only [↓Array.getElem?_setIfInBounds_ne, ne_eq, Nat.reduceEqDiff, not_false_eq_true, q1_3]; done) | simp [hs3, f1_3, f5_3, f6_3, f7_3, f8_3, f9_3, f10_3, f11_3, f12_3, f13_3, f14_3], (by repeat (first | exact HB3.out | exact Below.refl _ _ | refine bl_drewN ?_ _))⟩)
      · have hY' : (Y == 1) = false := beq_eq_false_iff_ne.2 hY
        go_wp2_with fail
        refine wp_cond_f ?_ ?_
        · (go_simp <;> omega)
        go_wp2_with fail
        refine Met.intro (hJ _ _ ⟨_, rfl, by simp [hs3], by first | (simp only [↓Array.getElem?_setIfInBounds_ne, ne_eq, Nat.reduceEqDiff, not_false_eq_true, q1_3]; done) | simp [hs3, f1_3, f5_3, f6_3, f7_3, f8_3, f9_3, f10_3, f11_3, f12_3, f13_3, f14_3], (by repeat (first | exact HB3.out | exact Below.refl _ _ | refine bl_drewN ?_ _))⟩)
  case rest =>
    intro a' wc hR
    obtain ⟨T4, rfl, hs4, q1_4, hbl⟩ := hR
    have f1_4 := fun hh => getq q1_4 hh
    have HB7 := Lib.hid (show Below w.heap.size w wc from hbl)
    clear hbl P1 P2 PF HB0 HB1 HB2 HB3 H0
    go_wp2_with fail
    refine (DrawTowerByShadow_any v1 _ (H1.out.later (by repeat (first | exact HB7.out | exact Below.refl _ _ | refine bl_drewN ?_ _)))).mono ?_
    rintro e w8 ⟨pa, ha, ta, rfl, hb8⟩
    have HB8 := Lib.hid (show Below w.heap.size w w8 from bl_trans hb8 (by repeat (first | exact HB7.out | exact Below.refl _ _ | refine bl_drewN ?_ _)))
    clear hb8
    obtain ⟨X1, Y1, O1, P1, P2, P3, P4, F1⟩ := shadow_pack pa ha ta
    go_upto_region 16 with fail
    refine reframe fun T5 hT => ?_
    have hs5 : T5.size = 540 := by subst hT; simp [hs4]
    have q1_5 : T5[1]? = some (v1) := by subst hT; exact (by first | (simp only [↓Array.getElem?_setIfInBounds_ne, ne_eq, Nat.reduceEqDiff, not_false_eq_true, q1_4]; done) | simp [hs4, f1_4])
    have f1_5 := fun hh => getq q1_5 hh
    have q18_5 : T5[18]? = some (.int .i64 pa) := by subst hT; exact (by first | (simp only [↓Array.getElem?_setIfInBounds_ne, ne_eq, Nat.reduceEqDiff, not_false_eq_true]; done) | simp [hs4, f1_4])
    have f18_5 := fun hh => getq q18_5 hh
    have q19_5 : T5[19]? = some (.int .i64 ha) := by subst hT; exact (by first | (simp only [↓Array.getElem?_setIfInBounds_ne, ne_eq, Nat.reduceEqDiff, not_false_eq_true]; done) | simp [hs4, f1_4])
    have f19_5 := fun hh => getq q19_5 hh
    have q20_5 : T5[20]? = some (.int .i64 ta) := by subst hT; exact (by first | (simp only [↓Array.getElem?_setIfInBounds_ne, ne_eq, Nat.reduceEqDiff, not_false_eq_true]; done) | simp [hs4, f1_4])
    have f20_5 := fun hh => getq q20_5 hh
    clear hT f1_4 hs4 q1_4
    go_wp2_with fail
    refine ((P1 _).out).mono ?_
    rintro e w9 ⟨rfl, hb9⟩
    have HB9 := Lib.hid (show Below w.heap.size w w9 from bl_trans hb9 (by repeat (first | exact HB8.out | exact Below.refl _ _ | refine bl_drewN ?_ _)))
    clear hb9
    go_wp2_with fail
    refine ((P2 _).out).mono ?_
    rintro e w10 ⟨rfl, hb10⟩
    have HB10 := Lib.hid (show Below w.heap.size w w10 from bl_trans hb10 (by repeat (first | exact HB9.out | exact Below.refl _ _ | refine bl_drewN ?_ _)))
    clear hb10
    go_wp2_with fail
    refine ((P3 _).out).mono ?_
    rintro e w11 ⟨rfl, hb11⟩
    have HB11 := Lib.hid (show Below w.heap.size w w11 from bl_trans hb11 (by repeat (first | exact HB10.out | exact Below.refl _ _ | refine bl_drewN ?_ _)))
    clear hb11
    go_wp2_with fail
    refine ((P4 _).out).mono ?_
    rintro e w12 ⟨rfl, hb12⟩
    have HB12 := Lib.hid (show Below w.heap.size w w12 from bl_trans hb12 (by repeat (first | exact HB11.out | exact Below.refl _ _ | refine bl_drewN ?_ _)))
    clear hb12
    go_upto_region 20 with fail
    refine reframe fun T6 hT => ?_
    have hs6 : T6.size = 540 := by subst hT; simp [hs5]
    have q1_6 : T6[1]? = some (v1) := by subst hT; exact (by first | (simp only [↓Array.getElem?_setIfInBounds_ne, ne_eq, Nat.reduceEqDiff, not_false_eq_true, q1_5]; done) | simp [hs5, f1_5, f18_5, f19_5, f20_5])
    have f1_6 := fun hh => getq q1_6 hh
    have q18_6 : T6[18]? = some (.int .i64 pa) := by subst hT; exact (by first | (simp only [↓Array.getElem?_setIfInBounds_ne, ne_eq, Nat.reduceEqDiff, not_false_eq_true, q18_5]; done) | simp [hs5, f1_5, f18_5, f19_5, f20_5])
    have f18_6 := fun hh => getq q18_6 hh
    have q19_6 : T6[19]? = some (.int .i64 ha) := by subst hT; exact (by first | (simp only [↓Array.getElem?_setIfInBounds_ne, ne_eq, Nat.reduceEqDiff, not_false_eq_true, q19_5]; done) | simp [hs5, f1_5, f18_5, f19_5, f20_5])
    have f19_6 := fun hh => getq q19_6 hh
    have q20_6 : T6[20]? = some (.int .i64 ta) := by subst hT; exact (by first | (simp only [↓Array.getElem?_setIfInBounds_ne, ne_eq, Nat.reduceEqDiff, not_false_eq_true, q20_5]; done) | simp [hs5, f1_5, f18_5, f19_5, f20_5])
    have f20_6 := fun hh => getq q20_6 hh
    have q21_6 : T6[21]? = some (.int .i64 X1) := by subst hT; exact (by first | (simp only [↓Array.getElem?_setIfInBounds_ne, ne_eq, Nat.reduceEqDiff, not_false_eq_true]; done) | simp [hs5, f1_5, f18_5, f19_5, f20_5])
    have f21_6 := fun hh => getq q21_6 hh
    have q22_6 : T6[22]? = some (.int .i64 Y1) := by subst hT; exact (by first | (simp only [↓Array.getElem?_setIfInBounds_ne, ne_eq, Nat.reduceEqDiff, not_false_eq_true]; done) | simp [hs5, f1_5, f18_5, f19_5, f20_5])
    have f22_6 := fun hh => getq q22_6 hh
    have q23_6 : T6[23]? = some (.bool O1) := by subst hT; exact (by first | (simp only [↓Array.getElem?_setIfInBounds_ne, ne_eq, Nat.reduceEqDiff, not_false_eq_true]; done) | simp [hs5, f1_5, f18_5, f19_5, f20_5])
    have f23_6 := fun hh => getq q23_6 hh
    have q24_6 : T6[24]? = some (.int .i64 X1) := by subst hT; exact (by first | (simp only [↓Array.getElem?_setIfInBounds_ne, ne_eq, Nat.reduceEqDiff, not_false_eq_true]; done) | simp [hs5, f1_5, f18_5, f19_5, f20_5])
    have f24_6 := fun hh => getq q24_6 hh
    have q25_6 : T6[25]? = some (.int .i64 Y1) := by subst hT; exact (by first | (simp only [↓Array.getElem?_setIfInBounds_ne, ne_eq, Nat.reduceEqDiff, not_false_eq_true]; done) | simp [hs5, f1_5, f18_5, f19_5, f20_5])
    have f25_6 := fun hh => getq q25_6 hh
    have q26_6 : T6[26]? = some (.bool O1) := by subst hT; exact (by first | (simp only [↓Array.getElem?_setIfInBounds_ne, ne_eq, Nat.reduceEqDiff, not_false_eq_true]; done) | simp [hs5, f1_5, f18_5, f19_5, f20_5])
    have f26_6 := fun hh => getq q26_6 hh
    have q27_6 : T6[27]? = some (.int .i64 X1) := by subst hT; exact (by first | (simp only [↓Array.getElem?_setIfInBounds_ne, ne_eq, Nat.reduceEqDiff, not_false_eq_true]; done) | simp [hs5, f1_5, f18_5, f19_5, f20_5])
    have f27_6 := fun hh => getq q27_6 hh
    have q28_6 : T6[28]? = some (.int .i64 Y1) := by subst hT; exact (by first | (simp only [↓Array.getElem?_setIfInBounds_ne, ne_eq, Nat.reduceEqDiff, not_false_eq_true]; done) | simp [hs5, f1_5, f18_5, f19_5, f20_5])
    have f28_6 := fun hh => getq q28_6 hh
    have q29_6 : T6[29]? = some (.bool O1) := by subst hT; exact (by first | (simp only [↓Array.getElem?_setIfInBounds_ne, ne_eq, Nat.reduceEqDiff, not_false_eq_true]; done) | simp [hs5, f1_5, f18_5, f19_5, f20_5])
    have f29_6 := fun hh => getq q29_6 hh
    have q30_6 : T6[30]? = some (.int .i64 X1) := by subst hT; exact (by first | (simp only [↓Array.getElem?_setIfInBounds_ne, ne_eq, Nat.reduceEqDiff, not_false_eq_true]; done) | simp [hs5, f1_5, f18_5, f19_5, f20_5])
    have f30_6 := fun hh => getq q30_6 hh
    have q31_6 : T6[31]? = some (.int .i64 Y1) := by subst hT; exact (by first | (simp only [↓Array.getElem?_setIfInBounds_ne, ne_eq, Nat.reduceEqDiff, not_false_eq_true]; done) | simp [hs5, f1_5, f18_5, f19_5, f20_5])
    have f31_6 := fun hh => getq q31_6 hh
    have q32_6 : T6[32]? = some (.bool O1) := by subst hT; exact (by first | (simp only [↓Array.getElem?_setIfInBounds_ne, ne_eq, Nat.reduceEqDiff, not_false_eq_true]; done) | simp [hs5, f1_5, f18_5, f19_5, f20_5])
    have f32_6 := fun hh => getq q32_6 hh
    clear hT f20_5 f19_5 f18_5 f1_5 hs5 q1_5 q18_5 q19_5 q20_5
    go_wp2_with fail
    refine (DrawStaffForTree_any v1 _ (H1.out.later (by repeat (first | exact HB12.out | exact Below.refl _ _ | refine bl_drewN ?_ _)))).mono ?_
    rintro e w13 ⟨eb, tb, nb, fb, rfl, hb13⟩
    have HB13 := Lib.hid (show Below w.heap.size w w13 from bl_trans hb13 (by repeat (first | exact HB12.out | exact Below.refl _ _ | refine bl_drewN ?_ _)))
    clear hb13
    clear P1 P2 P3 P4
    obtain ⟨X2, Y2, O2, P1, P2, F2⟩ := staff_pack eb tb nb fb
    go_upto_region 21 with fail
    refine reframe fun T7 hT => ?_
    have hs7 : T7.size = 540 := by subst hT; simp [hs6]
    have q1_7 : T7[1]? = some (v1) := by subst hT; exact (by first | (simp only [↓Array.getElem?_setIfInBounds_ne, ne_eq, Nat.reduceEqDiff, not_false_eq_true, q1_6]; done) | simp [hs6, f1_6, f18_6, f19_6, f20_6, f21_6, f22_6, f23_6, f24_6, f25_6, f26_6, f27_6, f28_6, f29_6, f30_6, f31_6, f32_6])
    have f1_7 := fun hh => getq q1_7 hh
    have q18_7 : T7[18]? = some (.int .i64 pa) := by subst hT; exact (by first | (simp only [↓Array.getElem?_setIfInBounds_ne, ne_eq, Nat.reduceEqDiff, not_false_eq_true, q18_6]; done) | simp [hs6, f1_6, f18_6, f19_6, f20_6, f21_6, f22_6, f23_6, f24_6, f25_6, f26_6, f27_6, f28_6, f29_6, f30_6, f31_6, f32_6])
    have f18_7 := fun hh => getq q18_7 hh
    have q19_7 : T7[19]? = some (.int .i64 ha) := by subst hT; exact (by first | (simp only [↓Array.getElem?_setIfInBounds_ne, ne_eq, Nat.reduceEqDiff, not_false_eq_true, q19_6]; done) | simp [hs6, f1_6, f18_6, f19_6, f20_6, f21_6, f22_6, f23_6, f24_6, f25_6, f26_6, f27_6, f28_6, f29_6, f30_6, f31_6, f32_6])
    have f19_7 := fun hh => getq q19_7 hh
    have q20_7 : T7[20]? = some (.int .i64 ta) := by subst hT; exact (by first | (simp only [↓Array.getElem?_setIfInBounds_ne, ne_eq, Nat.reduceEqDiff, not_false_eq_true, q20_6]; done) | simp [hs6, f1_6, f18_6, f19_6, f20_6, f21_6, f22_6, f23_6, f24_6, f25_6, f26_6, f27_6, f28_6, f29_6, f30_6, f31_6, f32_6])
    have f20_7 := fun hh => getq q20_7 hh
    have q21_7 : T7[21]? = some (.int .i64 X1) := by subst hT; exact (by first | (simp only [↓Array.getElem?_setIfInBounds_ne, ne_eq, Nat.reduceEqDiff, not_false_eq_true, q21_6]; done) | simp [hs6, f1_6, f18_6, f19_6, f20_6, f21_6, f22_6, f23_6, f24_6, f25_6, f26_6, f27_6, f28_6, f29_6, f30_6, f31_6, f32_6])
    have f21_7 := fun hh => getq q21_7 hh
    have q22_7 : T7[22]? = some (.int .i64 Y1) := by subst hT; exact (by first | (simp only [↓Array.getElem?_setIfInBounds_ne, ne_eq, Nat.reduceEqDiff, not_false_eq_true, q22_6]; done) | simp [hs6, f1_6, f18_6, f19_6, f20_6, f21_6, f22_6, f23_6, f24_6, f25_6, f26_6, f27_6, f28_6, f29_6, f30_6, f31_6, f32_6])
    have f22_7 := fun hh => getq q22_7 hh
    have q23_7 : T7[23]? = some (.bool O1) := by subst hT; exact (by first | (simp only [↓Array.getElem?_setIfInBounds_ne, ne_eq, Nat.reduceEqDiff, not_false_eq_true, q23_6]; done) | simp [hs6, f1_6, f18_6, f19_6, f20_6, f21_6, f22_6, f23_6, f24_6, f25_6, f26_6, f27_6, f28_6, f29_6, f30_6, f31_6, f32_6])
    have f23_7 := fun hh => getq q23_7 hh
    have q24_7 : T7[24]? = some (.int .i64 X1) := by subst hT; exact (by first | (simp only [↓Array.getElem?_setIfInBounds_ne, ne_eq, Nat.reduceEqDiff, not_false_eq_true, q24_6]; done) | simp [hs6, f1_6, f18_6, f19_6, f20_6, f21_6, f22_6, f23_6, f24_6, f25_6, f26_6, f27_6, f28_6, f29_6, f30_6, f31_6, f32_6])
    have f24_7 := fun hh => getq q24_7 hh
    have q25_7 : T7[25]? = some (.int .i64 Y1) := by subst hT; exact (by first | (simp only [↓Array.getElem?_setIfInBounds_ne, ne_eq, Nat.reduceEqDiff, not_false_eq_true, q25_6]; done) | simp [hs6, f1_6, f18_6, f19_6, f20_6, f21_6, f22_6, f23_6, f24_6, f25_6, f26_6, f27_6, f28_6, f29_6, f30_6, f31_6, f32_6])
    have f25_7 := fun hh => getq q25_7 hh
    have q26_7 : T7[26]? = some (.bool O1) := by subst hT; exact (by first | (simp only [↓Array.getElem?_setIfInBounds_ne, ne_eq, Nat.reduceEqDiff, not_false_eq_true, q26_6]; done) | simp [hs6, f1_6, f18_6, f19_6, f20_6, f21_6, f22_6, f23_6, f24_6, f25_6, f26_6, f27_6, f28_6, f29_6, f30_6, f31_6, f32_6])
    have f26_7 := fun hh => getq q26_7 hh
    have q27_7 : T7[27]? = some (.int .i64 X1) := by subst hT; exact (by first | (simp only [↓Array.getElem?_setIfInBounds_ne, ne_eq, Nat.reduceEqDiff, not_false_eq_true, q27_6]; done) | simp [hs6, f1_6, f18_6, f19_6, f20_6, f21_6, f22_6, f23_6, f24_6, f25_6, f26_6, f27_6, f28_6, f29_6, f30_6, f31_6, f32_6])
    have f27_7 := fun hh => getq q27_7 hh
    have q28_7 : T7[28]? = some (.int .i64 Y1) := by subst hT; exact (by first | (simp only [↓Array.getElem?_setIfInBounds_ne, ne_eq, Nat.reduceEqDiff, not_false_eq_true, q28_6]; done) | simp [hs6, f1_6, f18_6, f19_6, f20_6, f21_6, f22_6, f23_6, f24_6, f25_6, f26_6, f27_6, f28_6, f29_6, f30_6, f31_6, f32_6])
    have f28_7 := fun hh => getq q28_7 hh
    have q29_7 : T7[29]? = some (.bool O1) := by subst hT; exact (by first | (simp only [↓Array.getElem?_setIfInBounds_ne, ne_eq, Nat.reduceEqDiff, not_false_eq_true, q29_6]; done) | simp [hs6, f1_6, f18_6, f19_6, f20_6, f21_6, f22_6, f23_6, f24_6, f25_6, f26_6, f27_6, f28_6, f29_6, f30_6, f31_6, f32_6])
    have f29_7 := fun hh => getq q29_7 hh
    have q30_7 : T7[30]? = some (.int .i64 X1) := by subst hT; exact (by first | (simp only [↓Array.getElem?_setIfInBounds_ne, ne_eq, Nat.reduceEqDiff, not_false_eq_true, q30_6]; done) | simp [hs6, f1_6, f18_6, f19_6, f20_6, f21_6, f22_6, f23_6, f24_6, f25_6, f26_6, f27_6, f28_6, f29_6, f30_6, f31_6, f32_6])
    have f30_7 := fun hh => getq q30_7 hh
    have q31_7 : T7[31]? = some (.int .i64 Y1) := by subst hT; exact (by first | (simp only [↓Array.getElem?_setIfInBounds_ne, ne_eq, Nat.reduceEqDiff, not_false_eq_true, q31_6]; done) | simp [hs6, f1_6, f18_6, f19_6, f20_6, f21_6, f22_6, f23_6, f24_6, f25_6, f26_6, f27_6, f28_6, f29_6, f30_6, f31_6, f32_6])
    have f31_7 := fun hh => getq q31_7 hh
    have q32_7 : T7[32]? = some (.bool O1) := by subst hT; exact (by first | (simp only [↓Array.getElem?_setIfInBounds_ne, ne_eq, Nat.reduceEqDiff, not_false_eq_true, q32_6]; done) | simp [hs6, f1_6, f18_6, f19_6, f20_6, f21_6, f22_6, f23_6, f24_6, f25_6, f26_6, f27_6, f28_6, f29_6, f30_6, f31_6, f32_6])
    have f32_7 := fun hh => getq q32_7 hh
    have q33_7 : T7[33]? = some (.int .i64 eb) := by subst hT; exact (by first | (simp only [↓Array.getElem?_setIfInBounds_ne, ne_eq, Nat.reduceEqDiff, not_false_eq_true]; done) | simp [hs6, f1_6, f18_6, f19_6, f20_6, f21_6, f22_6, f23_6, f24_6, f25_6, f26_6, f27_6, f28_6, f29_6, f30_6, f31_6, f32_6])
    have f33_7 := fun hh => getq q33_7 hh
    have q34_7 : T7[34]? = some (.int .i64 tb) := by subst hT; exact (by first | (simp only [↓Array.getElem?_setIfInBounds_ne, ne_eq, Nat.reduceEqDiff, not_false_eq_true]; done) | simp [hs6, f1_6, f18_6, f19_6, f20_6, f21_6, f22_6, f23_6, f24_6, f25_6, f26_6, f27_6, f28_6, f29_6, f30_6, f31_6, f32_6])
    have f34_7 := fun hh => getq q34_7 hh
    have q35_7 : T7[35]? = some (.int .i64 nb) := by subst hT; exact (by first | (simp only [↓Array.getElem?_setIfInBounds_ne, ne_eq, Nat.reduceEqDiff, not_false_eq_true]; done) | simp [hs6, f1_6, f18_6, f19_6, f20_6, f21_6, f22_6, f23_6, f24_6, f25_6, f26_6, f27_6, f28_6, f29_6, f30_6, f31_6, f32_6])
    have f35_7 := fun hh => getq q35_7 hh
    have q36_7 : T7[36]? = some (.int .i64 fb) := by subst hT; exact (by first | (simp only [↓Array.getElem?_setIfInBounds_ne, ne_eq, Nat.reduceEqDiff, not_false_eq_true]; done) | simp [hs6, f1_6, f18_6, f19_6, f20_6, f21_6, f22_6, f23_6, f24_6, f25_6, f26_6, f27_6, f28_6, f29_6, f30_6, f31_6, f32_6])
    have f36_7 := fun hh => getq q36_7 hh
    clear hT f32_6 f31_6 f30_6 f29_6 f28_6 f27_6 f26_6 f25_6 f24_6 f23_6 f22_6 f21_6 f20_6 f19_6 f18_6 f1_6 hs6 q1_6 q18_6 q19_6 q20_6 q21_6 q22_6 q23_6 q24_6 q25_6 q26_6 q27_6 q28_6 q29_6 q30_6 q31_6 q32_6
    go_wp2_with fail
    refine ((P1 _).out).mono ?_
    rintro e w14 ⟨rfl, hb14⟩
    have HB14 := Lib.hid (show Below w.heap.size w w14 from bl_trans hb14 (by repeat (first | exact HB13.out | exact Below.refl _ _ | refine bl_drewN ?_ _)))
    clear hb14
    go_wp2_with fail
    refine ((P2 _).out).mono ?_
    rintro e w15 ⟨rfl, hb15⟩
    have HB15 := Lib.hid (show Below w.heap.size w w15 from bl_trans hb15 (by repeat (first | exact HB14.out | exact Below.refl _ _ | refine bl_drewN ?_ _)))
    clear hb15
    go_upto_region 23 with fail
    refine reframe fun T8 hT => ?_
    have hs8 : T8.size = 540 := by subst hT; simp [hs7]
    have q1_8 : T8[1]? = some (v1) := by subst hT; exact (by first | (simp only [↓Array.getElem?_setIfInBounds_ne, ne_eq, Nat.reduceEqDiff, not_false_eq_true, q1_7]; done) | simp [hs7, f1_7, f18_7, f19_7, f20_7, f21_7, f22_7, f23_7, f24_7, f25_7, f26_7, f27_7, f28_7, f29_7, f30_7, f31_7, f32_7, f33_7, f34_7, f35_7, f36_7])
    have f1_8 := fun hh => getq q1_8 hh
    have q18_8 : T8[18]? = some (.int .i64 pa) := by subst hT; exact (by first | (simp only [↓Array.getElem?_setIfInBounds_ne, ne_eq, Nat.reduceEqDiff, not_false_eq_true, q18_7]; done) | simp [hs7, f1_7, f18_7, f19_7, f20_7, f21_7, f22_7, f23_7, f24_7, f25_7, f26_7, f27_7, f28_7, f29_7, f30_7, f31_7, f32_7, f33_7, f34_7, f35_7, f36_7])
    have f18_8 := fun hh => getq q18_8 hh
    have q19_8 : T8[19]? = some (.int .i64 ha) := by subst hT; exact (by first | (simp only [↓Array.getElem?_setIfInBounds_ne, ne_eq, Nat.reduceEqDiff, not_false_eq_true, q19_7]; done) | simp [hs7, f1_7, f18_7, f19_7, f20_7, f21_7, f22_7, f23_7, f24_7, f25_7, f26_7, f27_7, f28_7, f29_7, f30_7, f31_7, f32_7, f33_7, f34_7, f35_7, f36_7])
    have f19_8 := fun hh => getq q19_8 hh
    have q20_8 : T8[20]? = some (.int .i64 ta) := by subst hT; exact (by first | (simp only [↓Array.getElem?_setIfInBounds_ne, ne_eq, Nat.reduceEqDiff, not_false_eq_true, q20_7]; done) | simp [hs7, f1_7, f18_7, f19_7, f20_7, f21_7, f22_7, f23_7, f24_7, f25_7, f26_7, f27_7, f28_7, f29_7, f30_7, f31_7, f32_7, f33_7, f34_7, f35_7, f36_7])
    have f20_8 := fun hh => getq q20_8 hh
    have q21_8 : T8[21]? = some (.int .i64 X1) := by subst hT; exact (by first | (simp only [↓Array.getElem?_setIfInBounds_ne, ne_eq, Nat.reduceEqDiff, not_false_eq_true, q21_7]; done) | simp [hs7, f1_7, f18_7, f19_7, f20_7, f21_7, f22_7, f23_7, f24_7, f25_7, f26_7, f27_7, f28_7, f29_7, f30_7, f31_7, f32_7, f33_7, f34_7, f35_7, f36_7])
    have f21_8 := fun hh => getq q21_8 hh
    have q22_8 : T8[22]? = some (.int .i64 Y1) := by subst hT; exact (by first | (simp only [↓Array.getElem?_setIfInBounds_ne, ne_eq, Nat.reduceEqDiff, not_false_eq_true, q22_7]; done) | simp [hs7, f1_7, f18_7, f19_7, f20_7, f21_7, f22_7, f23_7, f24_7, f25_7, f26_7, f27_7, f28_7, f29_7, f30_7, f31_7, f32_7, f33_7, f34_7, f35_7, f36_7])
    have f22_8 := fun hh => getq q22_8 hh
    have q23_8 : T8[23]? = some (.bool O1) := by subst hT; exact (by first | (simp only [↓Array.getElem?_setIfInBounds_ne, ne_eq, Nat.reduceEqDiff, not_false_eq_true, q23_7]; done) | simp [hs7, f1_7, f18_7, f19_7, f20_7, f21_7, f22_7, f23_7, f24_7, f25_7, f26_7, f27_7, f28_7, f29_7, f30_7, f31_7, f32_7, f33_7, f34_7, f35_7, f36_7])
    have f23_8 := fun hh => getq q23_8 hh
    have q24_8 : T8[24]? = some (.int .i64 X1) := by subst hT; exact (by first | (simp only [↓Array.getElem?_setIfInBounds_ne, ne_eq, Nat.reduceEqDiff, not_false_eq_true, q24_7]; done) | simp [hs7, f1_7, f18_7, f19_7, f20_7, f21_7, f22_7, f23_7, f24_7, f25_7, f26_7, f27_7, f28_7, f29_7, f30_7, f31_7, f32_7, f33_7, f34_7, f35_7, f36_7])
    have f24_8 := fun hh => getq q24_8 hh
    have q25_8 : T8[25]? = some (.int .i64 Y1) := by subst hT; exact (by first | (simp only [↓Array.getElem?_setIfInBounds_ne, ne_eq, Nat.reduceEqDiff, not_false_eq_true, q25_7]; done) | simp [hs7, f1_7, f18_7, f19_7, f20_7, f21_7, f22_7, f23_7, f24_7, f25_7, f26_7, f27_7, f28_7, f29_7, f30_7, f31_7, f32_7, f33_7, f34_7, f35_7, f36_7])
    have f25_8 := fun hh => getq q25_8 hh
    have q26_8 : T8[26]? = some (.bool O1) := by subst hT; exact (by first | (simp only [↓Array.getElem?_setIfInBounds_ne, ne_eq, Nat.reduceEqDiff, not_false_eq_true, q26_7]; done) | simp [hs7, f1_7, f18_7, f19_7, f20_7, f21_7, f22_7, f23_7, f24_7, f25_7, f26_7, f27_7, f28_7, f29_7, f30_7, f31_7, f32_7, f33_7, f34_7, f35_7, f36_7])
    have f26_8 := fun hh => getq q26_8 hh
    have q27_8 : T8[27]? = some (.int .i64 X1) := by subst hT; exact (by first | (simp only [↓Array.getElem?_setIfInBounds_ne, ne_eq, Nat.reduceEqDiff, not_false_eq_true, q27_7]; done) | simp [hs7, f1_7, f18_7, f19_7, f20_7, f21_7, f22_7, f23_7, f24_7, f25_7, f26_7, f27_7, f28_7, f29_7, f30_7, f31_7, f32_7, f33_7, f34_7, f35_7, f36_7])
    have f27_8 := fun hh => getq q27_8 hh
    have q28_8 : T8[28]? = some (.int .i64 Y1) := by subst hT; exact (by first | (simp only [↓Array.getElem?_setIfInBounds_ne, ne_eq, Nat.reduceEqDiff, not_false_eq_true, q28_7]; done) | simp [hs7, f1_7, f18_7, f19_7, f20_7, f21_7, f22_7, f23_7, f24_7, f25_7, f26_7, f27_7, f28_7, f29_7, f30_7, f31_7, f32_7, f33_7, f34_7, f35_7, f36_7])
    have f28_8 := fun hh => getq q28_8 hh
    have q29_8 : T8[29]? = some (.bool O1) := by subst hT; exact (by first | (simp only [↓Array.getElem?_setIfInBounds_ne, ne_eq, Nat.reduceEqDiff, not_false_eq_true, q29_7]; done) | simp [hs7, f1_7, f18_7, f19_7, f20_7, f21_7, f22_7, f23_7, f24_7, f25_7, f26_7, f27_7, f28_7, f29_7, f30_7, f31_7, f32_7, f33_7, f34_7, f35_7, f36_7])
    have f29_8 := fun hh => getq q29_8 hh
    have q30_8 : T8[30]? = some (.int .i64 X1) := by subst hT; exact (by first | (simp only [↓Array.getElem?_setIfInBounds_ne, ne_eq, Nat.reduceEqDiff, not_false_eq_true, q30_7]; done) | simp [hs7, f1_7, f18_7, f19_7, f20_7, f21_7, f22_7, f23_7, f24_7, f25_7, f26_7, f27_7, f28_7, f29_7, f30_7, f31_7, f32_7, f33_7, f34_7, f35_7, f36_7])
    have f30_8 := fun hh => getq q30_8 hh
    have q31_8 : T8[31]? = some (.int .i64 Y1) := by subst hT; exact (by first | (simp only [↓Array.getElem?_setIfInBounds_ne, ne_eq, Nat.reduceEqDiff, not_false_eq_true, q31_7]; done) | simp [hs7, f1_7, f18_7, f19_7, f20_7, f21_7, f22_7, f23_7, f24_7, f25_7, f26_7, f27_7, f28_7, f29_7, f30_7, f31_7, f32_7, f33_7, f34_7, f35_7, f36_7])
    have f31_8 := fun hh => getq q31_8 hh
    have q32_8 : T8[32]? = some (.bool O1) := by subst hT; exact (by first | (simp only [↓Array.getElem?_setIfInBounds_ne, ne_eq, Nat.reduceEqDiff, not_false_eq_true, q32_7]; done) | simp [hs7, f1_7, f18_7, f19_7, f20_7, f21_7, f22_7, f23_7, f24_7, f25_7, f26_7, f27_7, f28_7, f29_7, f30_7, f31_7, f32_7, f33_7, f34_7, f35_7, f36_7])
    have f32_8 := fun hh => getq q32_8 hh
    have q33_8 : T8[33]? = some (.int .i64 eb) := by subst hT; exact (by first | (simp only [↓Array.getElem?_setIfInBounds_ne, ne_eq, Nat.reduceEqDiff, not_false_eq_true, q33_7]; done) | simp [hs7, f1_7, f18_7, f19_7, f20_7, f21_7, f22_7, f23_7, f24_7, f25_7, f26_7, f27_7, f28_7, f29_7, f30_7, f31_7, f32_7, f33_7, f34_7, f35_7, f36_7])
    have f33_8 := fun hh => getq q33_8 hh
    have q34_8 : T8[34]? = some (.int .i64 tb) := by subst hT; exact (by first | (simp only [↓Array.getElem?_setIfInBounds_ne, ne_eq, Nat.reduceEqDiff, not_false_eq_true, q34_7]; done) | simp [hs7, f1_7, f18_7, f19_7, f20_7, f21_7, f22_7, f23_7, f24_7, f25_7, f26_7, f27_7, f28_7, f29_7, f30_7, f31_7, f32_7, f33_7, f34_7, f35_7, f36_7])
    have f34_8 := fun hh => getq q34_8 hh
    have q35_8 : T8[35]? = some (.int .i64 nb) := by subst hT; exact (by first | (simp only [↓Array.getElem?_setIfInBounds_ne, ne_eq, Nat.reduceEqDiff, not_false_eq_true, q35_7]; done) | simp [hs7, f1_7, f18_7, f19_7, f20_7, f21_7, f22_7, f23_7, f24_7, f25_7, f26_7, f27_7, f28_7, f29_7, f30_7, f31_7, f32_7, f33_7, f34_7, f35_7, f36_7])
    have f35_8 := fun hh => getq q35_8 hh
    have q36_8 : T8[36]? = some (.int .i64 fb) := by subst hT; exact (by first | (simp only [↓Array.getElem?_setIfInBounds_ne, ne_eq, Nat.reduceEqDiff, not_false_eq_true, q36_7]; done) | simp [hs7, f1_7, f18_7, f19_7, f20_7, f21_7, f22_7, f23_7, f24_7, f25_7, f26_7, f27_7, f28_7, f29_7, f30_7, f31_7, f32_7, f33_7, f34_7, f35_7, f36_7])
    have f36_8 := fun hh => getq q36_8 hh
    have q37_8 : T8[37]? = some (.int .i64 X2) := by subst hT; exact (by first | (simp only [↓Array.getElem?_setIfInBounds_ne, ne_eq, Nat.reduceEqDiff, not_false_eq_true]; done) | simp [hs7, f1_7, f18_7, f19_7, f20_7, f21_7, f22_7, f23_7, f24_7, f25_7, f26_7, f27_7, f28_7, f29_7, f30_7, f31_7, f32_7, f33_7, f34_7, f35_7, f36_7])
    have f37_8 := fun hh => getq q37_8 hh
    have q38_8 : T8[38]? = some (.int .i64 Y2) := by subst hT; exact (by first | (simp only [↓Array.getElem?_setIfInBounds_ne, ne_eq, Nat.reduceEqDiff, not_false_eq_true]; done) | simp [hs7, f1_7, f18_7, f19_7, f20_7, f21_7, f22_7, f23_7, f24_7, f25_7, f26_7, f27_7, f28_7, f29_7, f30_7, f31_7, f32_7, f33_7, f34_7, f35_7, f36_7])
    have f38_8 := fun hh => getq q38_8 hh
    have q39_8 : T8[39]? = some (.bool O2) := by subst hT; exact (by first | (simp only [↓Array.getElem?_setIfInBounds_ne, ne_eq, Nat.reduceEqDiff, not_false_eq_true]; done) | simp [hs7, f1_7, f18_7, f19_7, f20_7, f21_7, f22_7, f23_7, f24_7, f25_7, f26_7, f27_7, f28_7, f29_7, f30_7, f31_7, f32_7, f33_7, f34_7, f35_7, f36_7])
    have f39_8 := fun hh => getq q39_8 hh
    have q40_8 : T8[40]? = some (.int .i64 X2) := by subst hT; exact (by first | (simp only [↓Array.getElem?_setIfInBounds_ne, ne_eq, Nat.reduceEqDiff, not_false_eq_true]; done) | simp [hs7, f1_7, f18_7, f19_7, f20_7, f21_7, f22_7, f23_7, f24_7, f25_7, f26_7, f27_7, f28_7, f29_7, f30_7, f31_7, f32_7, f33_7, f34_7, f35_7, f36_7])
    have f40_8 := fun hh => getq q40_8 hh
    have q41_8 : T8[41]? = some (.int .i64 Y2) := by subst hT; exact (by first | (simp only [↓Array.getElem?_setIfInBounds_ne, ne_eq, Nat.reduceEqDiff, not_false_eq_true]; done) | simp [hs7, f1_7, f18_7, f19_7, f20_7, f21_7, f22_7, f23_7, f24_7, f25_7, f26_7, f27_7, f28_7, f29_7, f30_7, f31_7, f32_7, f33_7, f34_7, f35_7, f36_7])
    have f41_8 := fun hh => getq q41_8 hh
    have q42_8 : T8[42]? = some (.bool O2) := by subst hT; exact (by first | (simp only [↓Array.getElem?_setIfInBounds_ne, ne_eq, Nat.reduceEqDiff, not_false_eq_true]; done) | simp [hs7, f1_7, f18_7, f19_7, f20_7, f21_7, f22_7, f23_7, f24_7, f25_7, f26_7, f27_7, f28_7, f29_7, f30_7, f31_7, f32_7, f33_7, f34_7, f35_7, f36_7])
    have f42_8 := fun hh => getq q42_8 hh
    clear hT f36_7 f35_7 f34_7 f33_7 f32_7 f31_7 f30_7 f29_7 f28_7 f27_7 f26_7 f25_7 f24_7 f23_7 f22_7 f21_7 f20_7 f19_7 f18_7 f1_7 hs7 q1_7 q18_7 q19_7 q20_7 q21_7 q22_7 q23_7 q24_7 q25_7 q26_7 q27_7 q28_7 q29_7 q30_7 q31_7 q32_7 q33_7 q34_7 q35_7 q36_7
    go_wp2_with fail
    refine (DrawWellDepth_any v1 _ (H1.out.later (by repeat (first | exact HB15.out | exact Below.refl _ _ | refine bl_drewN ?_ _)))).mono ?_
    rintro e w16 ⟨ac, sc, ic, rfl, hb16⟩
    have HB16 := Lib.hid (show Below w.heap.size w w16 from bl_trans hb16 (by repeat (first | exact HB15.out | exact Below.refl _ _ | refine bl_drewN ?_ _)))
    clear hb16
    clear P1 P2
    obtain ⟨X3, Y3, O3, P1, P2, F3⟩ := well_pack ac sc ic
    go_upto_region 24 with fail
    refine reframe fun T9 hT => ?_
    have hs9 : T9.size = 540 := by subst hT; simp [hs8]
    have q1_9 : T9[1]? = some (v1) := by subst hT; exact (by first | (simp only [↓Array.getElem?_setIfInBounds_ne, ne_eq, Nat.reduceEqDiff, not_false_eq_true, q1_8]; done) | simp [hs8, f1_8, f18_8, f19_8, f20_8, f21_8, f22_8, f23_8, f24_8, f25_8, f26_8, f27_8, f28_8, f29_8, f30_8, f31_8, f32_8, f33_8, f34_8, f35_8, f36_8, f37_8, f38_8, f39_8, f40_8, f41_8, f42_8])
    have f1_9 := fun hh => getq q1_9 hh
    have q18_9 : T9[18]? = some (.int .i64 pa) := by subst hT; exact (by first | (simp only [↓Array.getElem?_setIfInBounds_ne, ne_eq, Nat.reduceEqDiff, not_false_eq_true, q18_8]; done) | simp [hs8, f1_8, f18_8, f19_8, f20_8, f21_8, f22_8, f23_8, f24_8, f25_8, f26_8, f27_8, f28_8, f29_8, f30_8, f31_8, f32_8, f33_8, f34_8, f35_8, f36_8, f37_8, f38_8, f39_8, f40_8, f41_8, f42_8])
    have f18_9 := fun hh => getq q18_9 hh
    have q19_9 : T9[19]? = some (.int .i64 ha) := by subst hT; exact (by first | (simp only [↓Array.getElem?_setIfInBounds_ne, ne_eq, Nat.reduceEqDiff, not_false_eq_true, q19_8]; done) | simp [hs8, f1_8, f18_8, f19_8, f20_8, f21_8, f22_8, f23_8, f24_8, f25_8, f26_8, f27_8, f28_8, f29_8, f30_8, f31_8, f32_8, f33_8, f34_8, f35_8, f36_8, f37_8, f38_8, f39_8, f40_8, f41_8, f42_8])
    have f19_9 := fun hh => getq q19_9 hh
    have q20_9 : T9[20]? = some (.int .i64 ta) := by subst hT; exact (by first | (simp only [↓Array.getElem?_setIfInBounds_ne, ne_eq, Nat.reduceEqDiff, not_false_eq_true, q20_8]; done) | simp [hs8, f1_8, f18_8, f19_8, f20_8, f21_8, f22_8, f23_8, f24_8, f25_8, f26_8, f27_8, f28_8, f29_8, f30_8, f31_8, f32_8, f33_8, f34_8, f35_8, f36_8, f37_8, f38_8, f39_8, f40_8, f41_8, f42_8])
    have f20_9 := fun hh => getq q20_9 hh
    have q21_9 : T9[21]? = some (.int .i64 X1) := by subst hT; exact (by first | (simp only [↓Array.getElem?_setIfInBounds_ne, ne_eq, Nat.reduceEqDiff, not_false_eq_true, q21_8]; done) | simp [hs8, f1_8, f18_8, f19_8, f20_8, f21_8, f22_8, f23_8, f24_8, f25_8, f26_8, f27_8, f28_8, f29_8, f30_8, f31_8, f32_8, f33_8, f34_8, f35_8, f36_8, f37_8, f38_8, f39_8, f40_8, f41_8, f42_8])
    have f21_9 := fun hh => getq q21_9 hh
    have q22_9 : T9[22]? = some (.int .i64 Y1) := by subst hT; exact (by first | (simp only [↓Array.getElem?_setIfInBounds_ne, ne_eq, Nat.reduceEqDiff, not_false_eq_true, q22_8]; done) | simp [hs8, f1_8, f18_8, f19_8, f20_8, f21_8, f22_8, f23_8, f24_8, f25_8, f26_8, f27_8, f28_8, f29_8, f30_8, f31_8, f32_8, f33_8, f34_8, f35_8, f36_8, f37_8, f38_8, f39_8, f40_8, f41_8, f42_8])
    have f22_9 := fun hh => getq q22_9 hh
    have q23_9 : T9[23]? = some (.bool O1) := by subst hT; exact (by first | (simp only [↓Array.getElem?_setIfInBounds_ne, ne_eq, Nat.reduceEqDiff, not_false_eq_true, q23_8]; done) | simp [hs8, f1_8, f18_8, f19_8, f20_8, f21_8, f22_8, f23_8, f24_8, f25_8, f26_8, f27_8, f28_8, f29_8, f30_8, f31_8, f32_8, f33_8, f34_8, f35_8, f36_8, f37_8, f38_8, f39_8, f40_8, f41_8, f42_8])
    have f23_9 := fun hh => getq q23_9 hh
    have q24_9 : T9[24]? = some (.int .i64 X1) := by subst hT; exact (by first | (simp only [↓Array.getElem?_setIfInBounds_ne, ne_eq, Nat.reduceEqDiff, not_false_eq_true, q24_8]; done) | simp [hs8, f1_8, f18_8, f19_8, f20_8, f21_8, f22_8, f23_8, f24_8, f25_8, f26_8, f27_8, f28_8, f29_8, f30_8, f31_8, f32_8, f33_8, f34_8, f35_8, f36_8, f37_8, f38_8, f39_8, f40_8, f41_8, f42_8])
    have f24_9 := fun hh => getq q24_9 hh
    have q25_9 : T9[25]? = some (.int .i64 Y1) := by subst hT; exact (by first | (simp only [↓Array.getElem?_setIfInBounds_ne, ne_eq, Nat.reduceEqDiff, not_false_eq_true, q25_8]; done) | simp [hs8, f1_8, f18_8, f19_8, f20_8, f21_8, f22_8, f23_8, f24_8, f25_8, f26_8, f27_8, f28_8, f29_8, f30_8, f31_8, f32_8, f33_8, f34_8, f35_8, f36_8, f37_8, f38_8, f39_8, f40_8, f41_8, f42_8])
    have f25_9 := fun hh => getq q25_9 hh
    have q26_9 : T9[26]? = some (.bool O1) := by subst hT; exact (by first | (simp only [↓Array.getElem?_setIfInBounds_ne, ne_eq, Nat.reduceEqDiff, not_false_eq_true, q26_8]; done) | simp [hs8, f1_8, f18_8, f19_8, f20_8, f21_8, f22_8, f23_8, f24_8, f25_8, f26_8, f27_8, f28_8, f29_8, f30_8, f31_8, f32_8, f33_8, f34_8, f35_8, f36_8, f37_8, f38_8, f39_8, f40_8, f41_8, f42_8])
    have f26_9 := fun hh => getq q26_9 hh
    have q27_9 : T9[27]? = some (.int .i64 X1) := by subst hT; exact (by first | (simp only [↓Array.getElem?_setIfInBounds_ne, ne_eq, Nat.reduceEqDiff, not_false_eq_true, q27_8]; done) | simp [hs8, f1_8, f18_8, f19_8, f20_8, f21_8, f22_8, f23_8, f24_8, f25_8, f26_8, f27_8, f28_8, f29_8, f30_8, f31_8, f32_8, f33_8, f34_8, f35_8, f36_8, f37_8, f38_8, f39_8, f40_8, f41_8, f42_8])
    have f27_9 := fun hh => getq q27_9 hh
    have q28_9 : T9[28]? = some (.int .i64 Y1) := by subst hT; exact (by first | (simp only [↓Array.getElem?_setIfInBounds_ne, ne_eq, Nat.reduceEqDiff, not_false_eq_true, q28_8]; done) | simp [hs8, f1_8, f18_8, f19_8, f20_8, f21_8, f22_8, f23_8, f24_8, f25_8, f26_8, f27_8, f28_8, f29_8, f30_8, f31_8, f32_8, f33_8, f34_8, f35_8, f36_8, f37_8, f38_8, f39_8, f40_8, f41_8, f42_8])
    have f28_9 := fun hh => getq q28_9 hh
    have q29_9 : T9[29]? = some (.bool O1) := by subst hT; exact (by first | (simp only [↓Array.getElem?_setIfInBounds_ne, ne_eq, Nat.reduceEqDiff, not_false_eq_true, q29_8]; done) | simp [hs8, f1_8, f18_8, f19_8, f20_8, f21_8, f22_8, f23_8, f24_8, f25_8, f26_8, f27_8, f28_8, f29_8, f30_8, f31_8, f32_8, f33_8, f34_8, f35_8, f36_8, f37_8, f38_8, f39_8, f40_8, f41_8, f42_8])
    have f29_9 := fun hh => getq q29_9 hh
    have q30_9 : T9[30]? = some (.int .i64 X1) := by subst hT; exact (by first | (simp only [↓Array.getElem?_setIfInBounds_ne, ne_eq, Nat.reduceEqDiff, not_false_eq_true, q30_8]; done) | simp [hs8, f1_8, f18_8, f19_8, f20_8, f21_8, f22_8, f23_8, f24_8, f25_8, f26_8, f27_8, f28_8, f29_8, f30_8, f31_8, f32_8, f33_8, f34_8, f35_8, f36_8, f37_8, f38_8, f39_8, f40_8, f41_8, f42_8])
    have f30_9 := fun hh => getq q30_9 hh
    have q31_9 : T9[31]? = some (.int .i64 Y1) := by subst hT; exact (by first | (simp only [↓Array.getElem?_setIfInBounds_ne, ne_eq, Nat.reduceEqDiff, not_false_eq_true, q31_8]; done) | simp [hs8, f1_8, f18_8, f19_8, f20_8, f21_8, f22_8, f23_8, f24_8, f25_8, f26_8, f27_8, f28_8, f29_8, f30_8, f31_8, f32_8, f33_8, f34_8, f35_8, f36_8, f37_8, f38_8, f39_8, f40_8, f41_8, f42_8])
    have f31_9 := fun hh => getq q31_9 hh
    have q32_9 : T9[32]? = some (.bool O1) := by subst hT; exact (by first | (simp only [↓Array.getElem?_setIfInBounds_ne, ne_eq, Nat.reduceEqDiff, not_false_eq_true, q32_8]; done) | simp [hs8, f1_8, f18_8, f19_8, f20_8, f21_8, f22_8, f23_8, f24_8, f25_8, f26_8, f27_8, f28_8, f29_8, f30_8, f31_8, f32_8, f33_8, f34_8, f35_8, f36_8, f37_8, f38_8, f39_8, f40_8, f41_8, f42_8])
    have f32_9 := fun hh => getq q32_9 hh
    have q33_9 : T9[33]? = some (.int .i64 eb) := by subst hT; exact (by first | (simp only [↓Array.getElem?_setIfInBounds_ne, ne_eq, Nat.reduceEqDiff, not_false_eq_true, q33_8]; done) | simp [hs8, f1_8, f18_8, f19_8, f20_8, f21_8, f22_8, f23_8, f24_8, f25_8, f26_8, f27_8, f28_8, f29_8, f30_8, f31_8, f32_8, f33_8, f34_8, f35_8, f36_8, f37_8, f38_8, f39_8, f40_8, f41_8, f42_8])
    have f33_9 := fun hh => getq q33_9 hh
    have q34_9 : T9[34]? = some (.int .i64 tb) := by subst hT; exact (by first | (simp only [↓Array.getElem?_setIfInBounds_ne, ne_eq, Nat.reduceEqDiff, not_false_eq_true, q34_8]; done) | simp [hs8, f1_8, f18_8, f19_8, f20_8, f21_8, f22_8, f23_8, f24_8, f25_8, f26_8, f27_8, f28_8, f29_8, f30_8, f31_8, f32_8, f33_8, f34_8, f35_8, f36_8, f37_8, f38_8, f39_8, f40_8, f41_8, f42_8])
    have f34_9 := fun hh => getq q34_9 hh
    have q35_9 : T9[35]? = some (.int .i64 nb) := by subst hT; exact (by first | (simp only [↓Array.getElem?_setIfInBounds_ne, ne_eq, Nat.reduceEqDiff, not_false_eq_true, q35_8]; done) | simp [hs8, f1_8, f18_8, f19_8, f20_8, f21_8, f22_8, f23_8, f24_8, f25_8, f26_8, f27_8, f28_8, f29_8, f30_8, f31_8, f32_8, f33_8, f34_8, f35_8, f36_8, f37_8, f38_8, f39_8, f40_8, f41_8, f42_8])
    have f35_9 := fun hh => getq q35_9 hh
    have q36_9 : T9[36]? = some (.int .i64 fb) := by subst hT; exact (by first | (simp only [↓Array.getElem?_setIfInBounds_ne, ne_eq, Nat.reduceEqDiff, not_false_eq_true, q36_8]; done) | simp [hs8, f1_8, f18_8, f19_8, f20_8, f21_8, f22_8, f23_8, f24_8, f25_8, f26_8, f27_8, f28_8, f29_8, f30_8, f31_8, f32_8, f33_8, f34_8, f35_8, f36_8, f37_8, f38_8, f39_8, f40_8, f41_8, f42_8])
    have f36_9 := fun hh => getq q36_9 hh
    have q37_9 : T9[37]? = some (.int .i64 X2) := by subst hT; exact (by first | (simp only [↓Array.getElem?_setIfInBounds_ne, ne_eq, Nat.reduceEqDiff, not_false_eq_true, q37_8]; done) | simp [hs8, f1_8, f18_8, f19_8, f20_8, f21_8, f22_8, f23_8, f24_8, f25_8, f26_8, f27_8, f28_8, f29_8, f30_8, f31_8, f32_8, f33_8, f34_8, f35_8, f36_8, f37_8, f38_8, f39_8, f40_8, f41_8, f42_8])
    have f37_9 := fun hh => getq q37_9 hh
    have q38_9 : T9[38]? = some (.int .i64 Y2) := by subst hT; exact (by first | (simp only [↓Array.getElem?_setIfInBounds_ne, ne_eq, Nat.reduceEqDiff, not_false_eq_true, q38_8]; done) | simp [hs8, f1_8, f18_8, f19_8, f20_8, f21_8, f22_8, f23_8, f24_8, f25_8, f26_8, f27_8, f28_8, f29_8, f30_8, f31_8, f32_8, f33_8, f34_8, f35_8, f36_8, f37_8, f38_8, f39_8, f40_8, f41_8, f42_8])
    have f38_9 := fun hh => getq q38_9 hh
    have q39_9 : T9[39]? = some (.bool O2) := by subst hT; exact (by first | (simp only [↓Array.getElem?_setIfInBounds_ne, ne_eq, Nat.reduceEqDiff, not_false_eq_true, q39_8]; done) | simp [hs8, f1_8, f18_8, f19_8, f20_8, f21_8, f22_8, f23_8, f24_8, f25_8, f26_8, f27_8, f28_8, f29_8, f30_8, f31_8, f32_8, f33_8, f34_8, f35_8, f36_8, f37_8, f38_8, f39_8, f40_8, f41_8, f42_8])
    have f39_9 := fun hh => getq q39_9 hh
    have q40_9 : T9[40]? = some (.int .i64 X2) := by subst hT; exact (by first | (simp only [↓Array.getElem?_setIfInBounds_ne, ne_eq, Nat.reduceEqDiff, not_false_eq_true, q40_8]; done) | simp [hs8, f1_8, f18_8, f19_8, f20_8, f21_8, f22_8, f23_8, f24_8, f25_8, f26_8, f27_8, f28_8, f29_8, f30_8, f31_8, f32_8, f33_8, f34_8, f35_8, f36_8, f37_8, f38_8, f39_8, f40_8, f41_8, f42_8])
    have f40_9 := fun hh => getq q40_9 hh
    have q41_9 : T9[41]? = some (.int .i64 Y2) := by subst hT; exact (by first | (simp only [↓Array.getElem?_setIfInBounds_ne, ne_eq, Nat.reduceEqDiff, not_false_eq_true, q41_8]; done) | simp [hs8, f1_8, f18_8, f19_8, f20_8, f21_8, f22_8, f23_8, f24_8, f25_8, f26_8, f27_8, f28_8, f29_8, f30_8, f31_8, f32_8, f33_8, f34_8, f35_8, f36_8, f37_8, f38_8, f39_8, f40_8, f41_8, f42_8])
    have f41_9 := fun hh => getq q41_9 hh
    have q42_9 : T9[42]? = some (.bool O2) := by subst hT; exact (by first | (simp only [↓Array.getElem?_setIfInBounds_ne, ne_eq, Nat.reduceEqDiff, not_false_eq_true, q42_8]; done) | simp [hs8, f1_8, f18_8, f19_8, f20_8, f21_8, f22_8, f23_8, f24_8, f25_8, f26_8, f27_8, f28_8, f29_8, f30_8, f31_8, f32_8, f33_8, f34_8, f35_8, f36_8, f37_8, f38_8, f39_8, f40_8, f41_8, f42_8])
    have f42_9 := fun hh => getq q42_9 hh
    have q43_9 : T9[43]? = some (.int .i64 ac) := by subst hT; exact (by first | (simp only [↓Array.getElem?_setIfInBounds_ne, ne_eq, Nat.reduceEqDiff, not_false_eq_true]; done) | simp [hs8, f1_8, f18_8, f19_8, f20_8, f21_8, f22_8, f23_8, f24_8, f25_8, f26_8, f27_8, f28_8, f29_8, f30_8, f31_8, f32_8, f33_8, f34_8, f35_8, f36_8, f37_8, f38_8, f39_8, f40_8, f41_8, f42_8])
    have f43_9 := fun hh => getq q43_9 hh
    have q44_9 : T9[44]? = some (.int .i64 sc) := by subst hT; exact (by first | (simp only [↓Array.getElem?_setIfInBounds_ne, ne_eq, Nat.reduceEqDiff, not_false_eq_true]; done) | simp [hs8, f1_8, f18_8, f19_8, f20_8, f21_8, f22_8, f23_8, f24_8, f25_8, f26_8, f27_8, f28_8, f29_8, f30_8, f31_8, f32_8, f33_8, f34_8, f35_8, f36_8, f37_8, f38_8, f39_8, f40_8, f41_8, f42_8])
    have f44_9 := fun hh => getq q44_9 hh
    have q45_9 : T9[45]? = some (.int .i64 ic) := by subst hT; exact (by first | (simp only [↓Array.getElem?_setIfInBounds_ne, ne_eq, Nat.reduceEqDiff, not_false_eq_true]; done) | simp [hs8, f1_8, f18_8, f19_8, f20_8, f21_8, f22_8, f23_8, f24_8, f25_8, f26_8, f27_8, f28_8, f29_8, f30_8, f31_8, f32_8, f33_8, f34_8, f35_8, f36_8, f37_8, f38_8, f39_8, f40_8, f41_8, f42_8])
    have f45_9 := fun hh => getq q45_9 hh
    clear hT f42_8 f41_8 f40_8 f39_8 f38_8 f37_8 f36_8 f35_8 f34_8 f33_8 f32_8 f31_8 f30_8 f29_8 f28_8 f27_8 f26_8 f25_8 f24_8 f23_8 f22_8 f21_8 f20_8 f19_8 f18_8 f1_8 hs8 q1_8 q18_8 q19_8 q20_8 q21_8 q22_8 q23_8 q24_8 q25_8 q26_8 q27_8 q28_8 q29_8 q30_8 q31_8 q32_8 q33_8 q34_8 q35_8 q36_8 q37_8 q38_8 q39_8 q40_8 q41_8 q42_8
    go_wp2_with fail
    refine ((P1 _).out).mono ?_
    rintro e w17 ⟨rfl, hb17⟩
    have HB17 := Lib.hid (show Below w.heap.size w w17 from bl_trans hb17 (by repeat (first | exact HB16.out | exact Below.refl _ _ | refine bl_drewN ?_ _)))
    clear hb17
    go_wp2_with fail
    refine ((P2 _).out).mono ?_
    rintro e w18 ⟨rfl, hb18⟩
    have HB18 := Lib.hid (show Below w.heap.size w w18 from bl_trans hb18 (by repeat (first | exact HB17.out | exact Below.refl _ _ | refine bl_drewN ?_ _)))
    clear hb18
    go_upto_region 26 with fail
    refine reframe fun T10 hT => ?_
    have hs10 : T10.size = 540 := by subst hT; simp [hs9]
    have q1_10 : T10[1]? = some (v1) := by subst hT; exact (by first | (simp only [↓Array.getElem?_setIfInBounds_ne, ne_eq, Nat.reduceEqDiff, not_false_eq_true, q1_9]; done) | simp [hs9, f1_9, f18_9, f19_9, f20_9, f21_9, f22_9, f23_9, f24_9, f25_9, f26_9, f27_9, f28_9, f29_9, f30_9, f31_9, f32_9, f33_9, f34_9, f35_9, f36_9, f37_9, f38_9, f39_9, f40_9, f41_9, f42_9, f43_9, f44_9, f45_9])
    have f1_10 := fun hh => getq q1_10 hh
    have q18_10 : T10[18]? = some (.int .i64 pa) := by subst hT; exact (by first | (simp only [↓Array.getElem?_setIfInBounds_ne, ne_eq, Nat.reduceEqDiff, not_false_eq_true, q18_9]; done) | simp [hs9, f1_9, f18_9, f19_9, f20_9, f21_9, f22_9, f23_9, f24_9, f25_9, f26_9, f27_9, f28_9, f29_9, f30_9, f31_9, f32_9, f33_9, f34_9, f35_9, f36_9, f37_9, f38_9, f39_9, f40_9, f41_9, f42_9, f43_9, f44_9, f45_9])
    have f18_10 := fun hh => getq q18_10 hh
    have q19_10 : T10[19]? = some (.int .i64 ha) := by subst hT; exact (by first | (simp only [↓Array.getElem?_setIfInBounds_ne, ne_eq, Nat.reduceEqDiff, not_false_eq_true, q19_9]; done) | simp [hs9, f1_9, f18_9, f19_9, f20_9, f21_9, f22_9, f23_9, f24_9, f25_9, f26_9, f27_9, f28_9, f29_9, f30_9, f31_9, f32_9, f33_9, f34_9, f35_9, f36_9, f37_9, f38_9, f39_9, f40_9, f41_9, f42_9, f43_9, f44_9, f45_9])
    have f19_10 := fun hh => getq q19_10 hh
    have q20_10 : T10[20]? = some (.int .i64 ta) := by subst hT; exact (by first | (simp only [↓Array.getElem?_setIfInBounds_ne, ne_eq, Nat.reduceEqDiff, not_false_eq_true, q20_9]; done) | simp [hs9, f1_9, f18_9, f19_9, f20_9, f21_9, f22_9, f23_9, f24_9, f25_9, f26_9, f27_9, f28_9, f29_9, f30_9, f31_9, f32_9, f33_9, f34_9, f35_9, f36_9, f37_9, f38_9, f39_9, f40_9, f41_9, f42_9, f43_9, f44_9, f45_9])
    have f20_10 := fun hh => getq q20_10 hh
    have q21_10 : T10[21]? = some (.int .i64 X1) := by subst hT; exact (by first | (simp only [↓Array.getElem?_setIfInBounds_ne, ne_eq, Nat.reduceEqDiff, not_false_eq_true, q21_9]; done) | simp [hs9, f1_9, f18_9, f19_9, f20_9, f21_9, f22_9, f23_9, f24_9, f25_9, f26_9, f27_9, f28_9, f29_9, f30_9, f31_9, f32_9, f33_9, f34_9, f35_9, f36_9, f37_9, f38_9, f39_9, f40_9, f41_9, f42_9, f43_9, f44_9, f45_9])
    have f21_10 := fun hh => getq q21_10 hh
    have q22_10 : T10[22]? = some (.int .i64 Y1) := by subst hT; exact (by first | (simp only [↓Array.getElem?_setIfInBounds_ne, ne_eq, Nat.reduceEqDiff, not_false_eq_true, q22_9]; done) | simp [hs9, f1_9, f18_9, f19_9, f20_9, f21_9, f22_9, f23_9, f24_9, f25_9, f26_9, f27_9, f28_9, f29_9, f30_9, f31_9, f32_9, f33_9, f34_9, f35_9, f36_9, f37_9, f38_9, f39_9, f40_9, f41_9, f42_9, f43_9, f44_9, f45_9])
    have f22_10 := fun hh => getq q22_10 hh
    have q23_10 : T10[23]? = some (.bool O1) := by subst hT; exact (by first | (simp only [↓Array.getElem?_setIfInBounds_ne, ne_eq, Nat.reduceEqDiff, not_false_eq_true, q23_9]; done) | simp [hs9, f1_9, f18_9, f19_9, f20_9, f21_9, f22_9, f23_9, f24_9, f25_9, f26_9, f27_9, f28_9, f29_9, f30_9, f31_9, f32_9, f33_9, f34_9, f35_9, f36_9, f37_9, f38_9, f39_9, f40_9, f41_9, f42_9, f43_9, f44_9, f45_9])
    have f23_10 := fun hh => getq q23_10 hh
    have q24_10 : T10[24]? = some (.int .i64 X1) := by subst hT; exact (by first | (simp only [↓Array.getElem?_setIfInBounds_ne, ne_eq, Nat.reduceEqDiff, not_false_eq_true, q24_9]; done) | simp [hs9, f1_9, f18_9, f19_9, f20_9, f21_9, f22_9, f23_9, f24_9, f25_9, f26_9, f27_9, f28_9, f29_9, f30_9, f31_9, f32_9, f33_9, f34_9, f35_9, f36_9, f37_9, f38_9, f39_9, f40_9, f41_9, f42_9, f43_9, f44_9, f45_9])
    have f24_10 := fun hh => getq q24_10 hh
    have q25_10 : T10[25]? = some (.int .i64 Y1) := by subst hT; exact (by first | (simp only [↓Array.getElem?_setIfInBounds_ne, ne_eq, Nat.reduceEqDiff, not_false_eq_true, q25_9]; done) | simp [hs9, f1_9, f18_9, f19_9, f20_9, f21_9, f22_9, f23_9, f24_9, f25_9, f26_9, f27_9, f28_9, f29_9, f30_9, f31_9, f32_9, f33_9, f34_9, f35_9, f36_9, f37_9, f38_9, f39_9, f40_9, f41_9, f42_9, f43_9, f44_9, f45_9])
    have f25_10 := fun hh => getq q25_10 hh
    have q26_10 : T10[26]? = some (.bool O1) := by subst hT; exact (by first | (simp only [↓Array.getElem?_setIfInBounds_ne, ne_eq, Nat.reduceEqDiff, not_false_eq_true, q26_9]; done) | simp [hs9, f1_9, f18_9, f19_9, f20_9, f21_9, f22_9, f23_9, f24_9, f25_9, f26_9, f27_9, f28_9, f29_9, f30_9, f31_9, f32_9, f33_9, f34_9, f35_9, f36_9, f37_9, f38_9, f39_9, f40_9, f41_9, f42_9, f43_9, f44_9, f45_9])
    have f26_10 := fun hh => getq q26_10 hh
    have q27_10 : T10[27]? = some (.int .i64 X1) := by subst hT; exact (by first | (simp only [↓Array.getElem?_setIfInBounds_ne, ne_eq, Nat.reduceEqDiff, not_false_eq_true, q27_9]; done) | simp [hs9, f1_9, f18_9, f19_9, f20_9, f21_9, f22_9, f23_9, f24_9, f25_9, f26_9, f27_9, f28_9, f29_9, f30_9, f31_9, f32_9, f33_9, f34_9, f35_9, f36_9, f37_9, f38_9, f39_9, f40_9, f41_9, f42_9, f43_9, f44_9, f45_9])
    have f27_10 := fun hh => getq q27_10 hh
    have q28_10 : T10[28]? = some (.int .i64 Y1) := by subst hT; exact (by first | (simp only [↓Array.getElem?_setIfInBounds_ne, ne_eq, Nat.reduceEqDiff, not_false_eq_true, q28_9]; done) | simp [hs9, f1_9, f18_9, f19_9, f20_9, f21_9, f22_9, f23_9, f24_9, f25_9, f26_9, f27_9, f28_9, f29_9, f30_9, f31_9, f32_9, f33_9, f34_9, f35_9, f36_9, f37_9, f38_9, f39_9, f40_9, f41_9, f42_9, f43_9, f44_9, f45_9])
    have f28_10 := fun hh => getq q28_10 hh
    have q29_10 : T10[29]? = some (.bool O1) := by subst hT; exact (by first | (simp only [↓Array.getElem?_setIfInBounds_ne, ne_eq, Nat.reduceEqDiff, not_false_eq_true, q29_9]; done) | simp [hs9, f1_9, f18_9, f19_9, f20_9, f21_9, f22_9, f23_9, f24_9, f25_9, f26_9, f27_9, f28_9, f29_9, f30_9, f31_9, f32_9, f33_9, f34_9, f35_9, f36_9, f37_9, f38_9, f39_9, f40_9, f41_9, f42_9, f43_9, f44_9, f45_9])
    have f29_10 := fun hh => getq q29_10 hh
    have q30_10 : T10[30]? = some (.int .i64 X1) := by subst hT; exact (by first | (simp only [↓Array.getElem?_setIfInBounds_ne, ne_eq, Nat.reduceEqDiff, not_false_eq_true, q30_9]; done) | simp [hs9, f1_9, f18_9, f19_9, f20_9, f21_9, f22_9, f23_9, f24_9, f25_9, f26_9, f27_9, f28_9, f29_9, f30_9, f31_9, f32_9, f33_9, f34_9, f35_9, f36_9, f37_9, f38_9, f39_9, f40_9, f41_9, f42_9, f43_9, f44_9, f45_9])
    have f30_10 := fun hh => getq q30_10 hh
    have q31_10 : T10[31]? = some (.int .i64 Y1) := by subst hT; exact (by first | (simp only [↓Array.getElem?_setIfInBounds_ne, ne_eq, Nat.reduceEqDiff, not_false_eq_true, q31_9]; done) | simp [hs9, f1_9, f18_9, f19_9, f20_9, f21_9, f22_9, f23_9, f24_9, f25_9, f26_9, f27_9, f28_9, f29_9, f30_9, f31_9, f32_9, f33_9, f34_9, f35_9, f36_9, f37_9, f38_9, f39_9, f40_9, f41_9, f42_9, f43_9, f44_9, f45_9])
    have f31_10 := fun hh => getq q31_10 hh
    have q32_10 : T10[32]? = some (.bool O1) := by subst hT; exact (by first | (simp only [↓Array.getElem?_setIfInBounds_ne, ne_eq, Nat.reduceEqDiff, not_false_eq_true, q32_9]; done) | simp [hs9, f1_9, f18_9, f19_9, f20_9, f21_9, f22_9, f23_9, f24_9, f25_9, f26_9, f27_9, f28_9, f29_9, f30_9, f31_9, f32_9, f33_9, f34_9, f35_9, f36_9, f37_9, f38_9, f39_9, f40_9, f41_9, f42_9, f43_9, f44_9, f45_9])
    have f32_10 := fun hh => getq q32_10 hh
    have q33_10 : T10[33]? = some (.int .i64 eb) := by subst hT; exact (by first | (simp only [↓Array.getElem?_setIfInBounds_ne, ne_eq, Nat.reduceEqDiff, not_false_eq_true, q33_9]; done) | simp [hs9, f1_9, f18_9, f19_9, f20_9, f21_9, f22_9, f23_9, f24_9, f25_9, f26_9, f27_9, f28_9, f29_9, f30_9, f31_9, f32_9, f33_9, f34_9, f35_9, f36_9, f37_9, f38_9, f39_9, f40_9, f41_9, f42_9, f43_9, f44_9, f45_9])
    have f33_10 := fun hh => getq q33_10 hh
    have q34_10 : T10[34]? = some (.int .i64 tb) := by subst hT; exact (by first | (simp only [↓Array.getElem?_setIfInBounds_ne, ne_eq, Nat.reduceEqDiff, not_false_eq_true, q34_9]; done) | simp [hs9, f1_9, f18_9, f19_9, f20_9, f21_9, f22_9, f23_9, f24_9, f25_9, f26_9, f27_9, f28_9, f29_9, f30_9, f31_9, f32_9, f33_9, f34_9, f35_9, f36_9, f37_9, f38_9, f39_9, f40_9, f41_9, f42_9, f43_9, f44_9, f45_9])
    have f34_10 := fun hh => getq q34_10 hh
    have q35_10 : T10[35]? = some (.int .i64 nb) := by subst hT; exact (by first | (simp only [↓Array.getElem?_setIfInBounds_ne, ne_eq, Nat.reduceEqDiff, not_false_eq_true, q35_9]; done) | simp [hs9, f1_9, f18_9, f19_9, f20_9, f21_9, f22_9, f23_9, f24_9, f25_9, f26_9, f27_9, f28_9, f29_9, f30_9, f31_9, f32_9, f33_9, f34_9, f35_9, f36_9, f37_9, f38_9, f39_9, f40_9, f41_9, f42_9, f43_9, f44_9, f45_9])
    have f35_10 := fun hh => getq q35_10 hh
    have q36_10 : T10[36]? = some (.int .i64 fb) := by subst hT; exact (by first | (simp only [↓Array.getElem?_setIfInBounds_ne, ne_eq, Nat.reduceEqDiff, not_false_eq_true, q36_9]; done) | simp [hs9, f1_9, f18_9, f19_9, f20_9, f21_9, f22_9, f23_9, f24_9, f25_9, f26_9, f27_9, f28_9, f29_9, f30_9, f31_9, f32_9, f33_9, f34_9, f35_9, f36_9, f37_9, f38_9, f39_9, f40_9, f41_9, f42_9, f43_9, f44_9, f45_9])
    have f36_10 := fun hh => getq q36_10 hh
    have q37_10 : T10[37]? = some (.int .i64 X2) := by subst hT; exact (by first | (simp only [↓Array.getElem?_setIfInBounds_ne, ne_eq, Nat.reduceEqDiff, not_false_eq_true, q37_9]; done) | simp [hs9, f1_9, f18_9, f19_9, f20_9, f21_9, f22_9, f23_9, f24_9, f25_9, f26_9, f27_9, f28_9, f29_9, f30_9, f31_9, f32_9, f33_9, f34_9, f35_9, f36_9, f37_9, f38_9, f39_9, f40_9, f41_9, f42_9, f43_9, f44_9, f45_9])
    have f37_10 := fun hh => getq q37_10 hh
    have q38_10 : T10[38]? = some (.int .i64 Y2) := by subst hT; exact (by first | (simp only [↓Array.getElem?_setIfInBounds_ne, ne_eq, Nat.reduceEqDiff, not_false_eq_true, q38_9]; done) | simp [hs9, f1_9, f18_9, f19_9, f20_9, f21_9, f22_9, f23_9, f24_9, f25_9, f26_9, f27_9, f28_9, f29_9, f30_9, f31_9, f32_9, f33_9, f34_9, f35_9, f36_9, f37_9, f38_9, f39_9, f40_9, f41_9, f42_9, f43_9, f44_9, f45_9])
    have f38_10 := fun hh => getq q38_10 hh
    have q39_10 : T10[39]? = some (.bool O2) := by subst hT; exact (by first | (simp only [↓Array.getElem?_setIfInBounds_ne, ne_eq, Nat.reduceEqDiff, not_false_eq_true, q39_9]; done) | simp [hs9, f1_9, f18_9, f19_9, f20_9, f21_9, f22_9, f23_9, f24_9, f25_9, f26_9, f27_9, f28_9, f29_9, f30_9, f31_9, f32_9, f33_9, f34_9, f35_9, f36_9, f37_9, f38_9, f39_9, f40_9, f41_9, f42_9, f43_9, f44_9, f45_9])
    have f39_10 := fun hh => getq q39_10 hh
    have q40_10 : T10[40]? = some (.int .i64 X2) := by subst hT; exact (by first | (simp only [↓Array.getElem?_setIfInBounds_ne, ne_eq, Nat.reduceEqDiff, not_false_eq_true, q40_9]; done) | simp [hs9, f1_9, f18_9, f19_9, f20_9, f21_9, f22_9, f23_9, f24_9, f25_9, f26_9, f27_9, f28_9, f29_9, f30_9, f31_9, f32_9, f33_9, f34_9, f35_9, f36_9, f37_9, f38_9, f39_9, f40_9, f41_9, f42_9, f43_9, f44_9, f45_9])
    have f40_10 := fun hh => getq q40_10 hh
    have q41_10 : T10[41]? = some (.int .i64 Y2) := by subst hT; exact (by first | (simp only [↓Array.getElem?_setIfInBounds_ne, ne_eq, Nat.reduceEqDiff, not_false_eq_true, q41_9]; done) | simp [hs9, f1_9, f18_9, f19_9, f20_9, f21_9, f22_9, f23_9, f24_9, f25_9, f26_9, f27_9, f28_9, f29_9, f30_9, f31_9, f32_9, f33_9, f34_9, f35_9, f36_9, f37_9, f38_9, f39_9, f40_9, f41_9, f42_9, f43_9, f44_9, f45_9])
    have f41_10 := fun hh => getq q41_10 hh
    have q42_10 : T10[42]? = some (.bool O2) := by subst hT; exact (by first | (simp only [↓Array.getElem?_setIfInBounds_ne, ne_eq, Nat.reduceEqDiff, not_false_eq_true, q42_9]; done) | simp [hs9, f1_9, f18_9, f19_9, f20_9, f21_9, f22_9, f23_9, f24_9, f25_9, f26_9, f27_9, f28_9, f29_9, f30_9, f31_9, f32_9, f33_9, f34_9, f35_9, f36_9, f37_9, f38_9, f39_9, f40_9, f41_9, f42_9, f43_9, f44_9, f45_9])
    have f42_10 := fun hh => getq q42_10 hh
    have q43_10 : T10[43]? = some (.int .i64 ac) := by subst hT; exact (by first | (simp only [↓Array.getElem?_setIfInBounds_ne, ne_eq, Nat.reduceEqDiff, not_false_eq_true, q43_9]; done) | simp [hs9, f1_9, f18_9, f19_9, f20_9, f21_9, f22_9, f23_9, f24_9, f25_9, f26_9, f27_9, f28_9, f29_9, f30_9, f31_9, f32_9, f33_9, f34_9, f35_9, f36_9, f37_9, f38_9, f39_9, f40_9, f41_9, f42_9, f43_9, f44_9, f45_9])
    have f43_10 := fun hh => getq q43_10 hh
    have q44_10 : T10[44]? = some (.int .i64 sc) := by subst hT; exact (by first | (simp only [↓Array.getElem?_setIfInBounds_ne, ne_eq, Nat.reduceEqDiff, not_false_eq_true, q44_9]; done) | simp [hs9, f1_9, f18_9, f19_9, f20_9, f21_9, f22_9, f23_9, f24_9, f25_9, f26_9, f27_9, f28_9, f29_9, f30_9, f31_9, f32_9, f33_9, f34_9, f35_9, f36_9, f37_9, f38_9, f39_9, f40_9, f41_9, f42_9, f43_9, f44_9, f45_9])
    have f44_10 := fun hh => getq q44_10 hh
    have q45_10 : T10[45]? = some (.int .i64 ic) := by subst hT; exact (by first | (simp only [↓Array.getElem?_setIfInBounds_ne, ne_eq, Nat.reduceEqDiff, not_false_eq_true, q45_9]; done) | simp [hs9, f1_9, f18_9, f19_9, f20_9, f21_9, f22_9, f23_9, f24_9, f25_9, f26_9, f27_9, f28_9, f29_9, f30_9, f31_9, f32_9, f33_9, f34_9, f35_9, f36_9, f37_9, f38_9, f39_9, f40_9, f41_9, f42_9, f43_9, f44_9, f45_9])
    have f45_10 := fun hh => getq q45_10 hh
    have q46_10 : T10[46]? = some (.int .i64 X3) := by subst hT; exact (by first | (simp only [↓Array.getElem?_setIfInBounds_ne, ne_eq, Nat.reduceEqDiff, not_false_eq_true]; done) | simp [hs9, f1_9, f18_9, f19_9, f20_9, f21_9, f22_9, f23_9, f24_9, f25_9, f26_9, f27_9, f28_9, f29_9, f30_9, f31_9, f32_9, f33_9, f34_9, f35_9, f36_9, f37_9, f38_9, f39_9, f40_9, f41_9, f42_9, f43_9, f44_9, f45_9])
    have f46_10 := fun hh => getq q46_10 hh
    have q47_10 : T10[47]? = some (.int .i64 Y3) := by subst hT; exact (by first | (simp only [↓Array.getElem?_setIfInBounds_ne, ne_eq, Nat.reduceEqDiff, not_false_eq_true]; done) | simp [hs9, f1_9, f18_9, f19_9, f20_9, f21_9, f22_9, f23_9, f24_9, f25_9, f26_9, f27_9, f28_9, f29_9, f30_9, f31_9, f32_9, f33_9, f34_9, f35_9, f36_9, f37_9, f38_9, f39_9, f40_9, f41_9, f42_9, f43_9, f44_9, f45_9])
    have f47_10 := fun hh => getq q47_10 hh
    have q48_10 : T10[48]? = some (.bool O3) := by subst hT; exact (by first | (simp only [↓Array.getElem?_setIfInBounds_ne, ne_eq, Nat.reduceEqDiff, not_false_eq_true]; done) | simp [hs9, f1_9, f18_9, f19_9, f20_9, f21_9, f22_9, f23_9, f24_9, f25_9, f26_9, f27_9, f28_9, f29_9, f30_9, f31_9, f32_9, f33_9, f34_9, f35_9, f36_9, f37_9, f38_9, f39_9, f40_9, f41_9, f42_9, f43_9, f44_9, f45_9])
    have f48_10 := fun hh => getq q48_10 hh
    have q49_10 : T10[49]? = some (.int .i64 X3) := by subst hT; exact (by first | (simp only [↓Array.getElem?_setIfInBounds_ne, ne_eq, Nat.reduceEqDiff, not_false_eq_true]; done) | simp [hs9, f1_9, f18_9, f19_9, f20_9, f21_9, f22_9, f23_9, f24_9, f25_9, f26_9, f27_9, f28_9, f29_9, f30_9, f31_9, f32_9, f33_9, f34_9, f35_9, f36_9, f37_9, f38_9, f39_9, f40_9, f41_9, f42_9, f43_9, f44_9, f45_9])
    have f49_10 := fun hh => getq q49_10 hh
    have q50_10 : T10[50]? = some (.int .i64 Y3) := by subst hT; exact (by first | (simp only [↓Array.getElem?_setIfInBounds_ne, ne_eq, Nat.reduceEqDiff, not_false_eq_true]; done) | simp [hs9, f1_9, f18_9, f19_9, f20_9, f21_9, f22_9, f23_9, f24_9, f25_9, f26_9, f27_9, f28_9, f29_9, f30_9, f31_9, f32_9, f33_9, f34_9, f35_9, f36_9, f37_9, f38_9, f39_9, f40_9, f41_9, f42_9, f43_9, f44_9, f45_9])
    have f50_10 := fun hh => getq q50_10 hh
    have q51_10 : T10[51]? = some (.bool O3) := by subst hT; exact (by first | (simp only [↓Array.getElem?_setIfInBounds_ne, ne_eq, Nat.reduceEqDiff, not_false_eq_true]; done) | simp [hs9, f1_9, f18_9, f19_9, f20_9, f21_9, f22_9, f23_9, f24_9, f25_9, f26_9, f27_9, f28_9, f29_9, f30_9, f31_9, f32_9, f33_9, f34_9, f35_9, f36_9, f37_9, f38_9, f39_9, f40_9, f41_9, f42_9, f43_9, f44_9, f45_9])
    have f51_10 := fun hh => getq q51_10 hh
    clear hT f45_9 f44_9 f43_9 f42_9 f41_9 f40_9 f39_9 f38_9 f37_9 f36_9 f35_9 f34_9 f33_9 f32_9 f31_9 f30_9 f29_9 f28_9 f27_9 f26_9 f25_9 f24_9 f23_9 f22_9 f21_9 f20_9 f19_9 f18_9 f1_9 hs9 q1_9 q18_9 q19_9 q20_9 q21_9 q22_9 q23_9 q24_9 q25_9 q26_9 q27_9 q28_9 q29_9 q30_9 q31_9 q32_9 q33_9 q34_9 q35_9 q36_9 q37_9 q38_9 q39_9 q40_9 q41_9 q42_9 q43_9 q44_9 q45_9
    go_wp2_with fail
    refine (DrawRiverWide_any v1 _ (H1.out.later (by repeat (first | exact HB18.out | exact Below.refl _ _ | refine bl_drewN ?_ _)))).mono ?_
    rintro e w19 ⟨ad, bd, cd, rfl, hb19⟩
    have HB19 := Lib.hid (show Below w.heap.size w w19 from bl_trans hb19 (by repeat (first | exact HB18.out | exact Below.refl _ _ | refine bl_drewN ?_ _)))
    clear hb19
    clear P1 P2 H1
    obtain ⟨X4, Y4, O4, P1, P2, F4⟩ := river_pack ad bd cd
    obtain ⟨X5, Y5, U5, V5, O5, P3, P4, P5, P6, F5⟩ := sights_pack ad bd cd
    go_upto_region 27 with fail
    refine reframe fun T11 hT => ?_
    have hs11 : T11.size = 540 := by subst hT; simp [hs10]
    have q18_11 : T11[18]? = some (.int .i64 pa) := by subst hT; exact (by first | (simp only [↓Array.getElem?_setIfInBounds_ne, ne_eq, Nat.reduceEqDiff, not_false_eq_true, q18_10]; done) | simp [hs10, f1_10, f18_10, f19_10, f20_10, f21_10, f22_10, f23_10, f24_10, f25_10, f26_10, f27_10, f28_10, f29_10, f30_10, f31_10, f32_10, f33_10, f34_10, f35_10, f36_10, f37_10, f38_10, f39_10, f40_10, f41_10, f42_10, f43_10, f44_10, f45_10, f46_10, f47_10, f48_10, f49_10, f50_10, f51_10])
    have f18_11 := fun hh => getq q18_11 hh
    have q19_11 : T11[19]? = some (.int .i64 ha) := by subst hT; exact (by first | (simp only [↓Array.getElem?_setIfInBounds_ne, ne_eq, Nat.reduceEqDiff, not_false_eq_true, q19_10]; done) | simp [hs10, f1_10, f18_10, f19_10, f20_10, f21_10, f22_10, f23_10, f24_10, f25_10, f26_10, f27_10, f28_10, f29_10, f30_10, f31_10, f32_10, f33_10, f34_10, f35_10, f36_10, f37_10, f38_10, f39_10, f40_10, f41_10, f42_10, f43_10, f44_10, f45_10, f46_10, f47_10, f48_10, f49_10, f50_10, f51_10])
    have f19_11 := fun hh => getq q19_11 hh
    have q20_11 : T11[20]? = some (.int .i64 ta) := by subst hT; exact (by first | (simp only [↓Array.getElem?_setIfInBounds_ne, ne_eq, Nat.reduceEqDiff, not_false_eq_true, q20_10]; done) | simp [hs10, f1_10, f18_10, f19_10, f20_10, f21_10, f22_10, f23_10, f24_10, f25_10, f26_10, f27_10, f28_10, f29_10, f30_10, f31_10, f32_10, f33_10, f34_10, f35_10, f36_10, f37_10, f38_10, f39_10, f40_10, f41_10, f42_10, f43_10, f44_10, f45_10, f46_10, f47_10, f48_10, f49_10, f50_10, f51_10])
    have f20_11 := fun hh => getq q20_11 hh
    have q21_11 : T11[21]? = some (.int .i64 X1) := by subst hT; exact (by first | (simp only [↓Array.getElem?_setIfInBounds_ne, ne_eq, Nat.reduceEqDiff, not_false_eq_true, q21_10]; done) | simp [hs10, f1_10, f18_10, f19_10, f20_10, f21_10, f22_10, f23_10, f24_10, f25_10, f26_10, f27_10, f28_10, f29_10, f30_10, f31_10, f32_10, f33_10, f34_10, f35_10, f36_10, f37_10, f38_10, f39_10, f40_10, f41_10, f42_10, f43_10, f44_10, f45_10, f46_10, f47_10, f48_10, f49_10, f50_10, f51_10])
    have f21_11 := fun hh => getq q21_11 hh
    have q22_11 : T11[22]? = some (.int .i64 Y1) := by subst hT; exact (by first | (simp only [↓Array.getElem?_setIfInBounds_ne, ne_eq, Nat.reduceEqDiff, not_false_eq_true, q22_10]; done) | simp [hs10, f1_10, f18_10, f19_10, f20_10, f21_10, f22_10, f23_10, f24_10, f25_10, f26_10, f27_10, f28_10, f29_10, f30_10, f31_10, f32_10, f33_10, f34_10, f35_10, f36_10, f37_10, f38_10, f39_10, f40_10, f41_10, f42_10, f43_10, f44_10, f45_10, f46_10, f47_10, f48_10, f49_10, f50_10, f51_10])
    have f22_11 := fun hh => getq q22_11 hh
    have q23_11 : T11[23]? = some (.bool O1) := by subst hT; exact (by first | (simp only [↓Array.getElem?_setIfInBounds_ne, ne_eq, Nat.reduceEqDiff, not_false_eq_true, q23_10]; done) | simp [hs10, f1_10, f18_10, f19_10, f20_10, f21_10, f22_10, f23_10, f24_10, f25_10, f26_10, f27_10, f28_10, f29_10, f30_10, f31_10, f32_10, f33_10, f34_10, f35_10, f36_10, f37_10, f38_10, f39_10, f40_10, f41_10, f42_10, f43_10, f44_10, f45_10, f46_10, f47_10, f48_10, f49_10, f50_10, f51_10])
    have f23_11 := fun hh => getq q23_11 hh
    have q24_11 : T11[24]? = some (.int .i64 X1) := by subst hT; exact (by first | (simp only [↓Array.getElem?_setIfInBounds_ne, ne_eq, Nat.reduceEqDiff, not_false_eq_true, q24_10]; done) | simp [hs10, f1_10, f18_10, f19_10, f20_10, f21_10, f22_10, f23_10, f24_10, f25_10, f26_10, f27_10, f28_10, f29_10, f30_10, f31_10, f32_10, f33_10, f34_10, f35_10, f36_10, f37_10, f38_10, f39_10, f40_10, f41_10, f42_10, f43_10, f44_10, f45_10, f46_10, f47_10, f48_10, f49_10, f50_10, f51_10])
    have f24_11 := fun hh => getq q24_11 hh
    have q25_11 : T11[25]? = some (.int .i64 Y1) := by subst hT; exact (by first | (simp only [↓Array.getElem?_setIfInBounds_ne, ne_eq, Nat.reduceEqDiff, not_false_eq_true, q25_10]; done) | simp [hs10, f1_10, f18_10, f19_10, f20_10, f21_10, f22_10, f23_10, f24_10, f25_10, f26_10, f27_10, f28_10, f29_10, f30_10, f31_10, f32_10, f33_10, f34_10, f35_10, f36_10, f37_10, f38_10, f39_10, f40_10, f41_10, f42_10, f43_10, f44_10, f45_10, f46_10, f47_10, f48_10, f49_10, f50_10, f51_10])
    have f25_11 := fun hh => getq q25_11 hh
    have q26_11 : T11[26]? = some (.bool O1) := by subst hT; exact (by first | (simp only [↓Array.getElem?_setIfInBounds_ne, ne_eq, Nat.reduceEqDiff, not_false_eq_true, q26_10]; done) | simp [hs10, f1_10, f18_10, f19_10, f20_10, f21_10, f22_10, f23_10, f24_10, f25_10, f26_10, f27_10, f28_10, f29_10, f30_10, f31_10, f32_10, f33_10, f34_10, f35_10, f36_10, f37_10, f38_10, f39_10, f40_10, f41_10, f42_10, f43_10, f44_10, f45_10, f46_10, f47_10, f48_10, f49_10, f50_10, f51_10])
    have f26_11 := fun hh => getq q26_11 hh
    have q27_11 : T11[27]? = some (.int .i64 X1) := by subst hT; exact (by first | (simp only [↓Array.getElem?_setIfInBounds_ne, ne_eq, Nat.reduceEqDiff, not_false_eq_true, q27_10]; done) | simp [hs10, f1_10, f18_10, f19_10, f20_10, f21_10, f22_10, f23_10, f24_10, f25_10, f26_10, f27_10, f28_10, f29_10, f30_10, f31_10, f32_10, f33_10, f34_10, f35_10, f36_10, f37_10, f38_10, f39_10, f40_10, f41_10, f42_10, f43_10, f44_10, f45_10, f46_10, f47_10, f48_10, f49_10, f50_10, f51_10])
    have f27_11 := fun hh => getq q27_11 hh
    have q28_11 : T11[28]? = some (.int .i64 Y1) := by subst hT; exact (by first | (simp only [↓Array.getElem?_setIfInBounds_ne, ne_eq, Nat.reduceEqDiff, not_false_eq_true, q28_10]; done) | simp [hs10, f1_10, f18_10, f19_10, f20_10, f21_10, f22_10, f23_10, f24_10, f25_10, f26_10, f27_10, f28_10, f29_10, f30_10, f31_10, f32_10, f33_10, f34_10, f35_10, f36_10, f37_10, f38_10, f39_10, f40_10, f41_10, f42_10, f43_10, f44_10, f45_10, f46_10, f47_10, f48_10, f49_10, f50_10, f51_10])
    have f28_11 := fun hh => getq q28_11 hh
    have q29_11 : T11[29]? = some (.bool O1) := by subst hT; exact (by first | (simp only [↓Array.getElem?_setIfInBounds_ne, ne_eq, Nat.reduceEqDiff, not_false_eq_true, q29_10]; done) | simp [hs10, f1_10, f18_10, f19_10, f20_10, f21_10, f22_10, f23_10, f24_10, f25_10, f26_10, f27_10, f28_10, f29_10, f30_10, f31_10, f32_10, f33_10, f34_10, f35_10, f36_10, f37_10, f38_10, f39_10, f40_10, f41_10, f42_10, f43_10, f44_10, f45_10, f46_10, f47_10, f48_10, f49_10, f50_10, f51_10])
    have f29_11 := fun hh => getq q29_11 hh
    have q30_11 : T11[30]? = some (.int .i64 X1) := by subst hT; exact (by first | (simp only [↓Array.getElem?_setIfInBounds_ne, ne_eq, Nat.reduceEqDiff, not_false_eq_true, q30_10]; done) | simp [hs10, f1_10, f18_10, f19_10, f20_10, f21_10, f22_10, f23_10, f24_10, f25_10, f26_10, f27_10, f28_10, f29_10, f30_10, f31_10, f32_10, f33_10, f34_10, f35_10, f36_10, f37_10, f38_10, f39_10, f40_10, f41_10, f42_10, f43_10, f44_10, f45_10, f46_10, f47_10, f48_10, f49_10, f50_10, f51_10])
    have f30_11 := fun hh => getq q30_11 hh
    have q31_11 : T11[31]? = some (.int .i64 Y1) := by subst hT; exact (by first | (simp only [↓Array.getElem?_setIfInBounds_ne, ne_eq, Nat.reduceEqDiff, not_false_eq_true, q31_10]; done) | simp [hs10, f1_10, f18_10, f19_10, f20_10, f21_10, f22_10, f23_10, f24_10, f25_10, f26_10, f27_10, f28_10, f29_10, f30_10, f31_10, f32_10, f33_10, f34_10, f35_10, f36_10, f37_10, f38_10, f39_10, f40_10, f41_10, f42_10, f43_10, f44_10, f45_10, f46_10, f47_10, f48_10, f49_10, f50_10, f51_10])
    have f31_11 := fun hh => getq q31_11 hh
    have q32_11 : T11[32]? = some (.bool O1) := by subst hT; exact (by first | (simp only [↓Array.getElem?_setIfInBounds_ne, ne_eq, Nat.reduceEqDiff, not_false_eq_true, q32_10]; done) | simp [hs10, f1_10, f18_10, f19_10, f20_10, f21_10, f22_10, f23_10, f24_10, f25_10, f26_10, f27_10, f28_10, f29_10, f30_10, f31_10, f32_10, f33_10, f34_10, f35_10, f36_10, f37_10, f38_10, f39_10, f40_10, f41_10, f42_10, f43_10, f44_10, f45_10, f46_10, f47_10, f48_10, f49_10, f50_10, f51_10])
    have f32_11 := fun hh => getq q32_11 hh
    have q33_11 : T11[33]? = some (.int .i64 eb) := by subst hT; exact (by first | (simp only [↓Array.getElem?_setIfInBounds_ne, ne_eq, Nat.reduceEqDiff, not_false_eq_true, q33_10]; done) | simp [hs10, f1_10, f18_10, f19_10, f20_10, f21_10, f22_10, f23_10, f24_10, f25_10, f26_10, f27_10, f28_10, f29_10, f30_10, f31_10, f32_10, f33_10, f34_10, f35_10, f36_10, f37_10, f38_10, f39_10, f40_10, f41_10, f42_10, f43_10, f44_10, f45_10, f46_10, f47_10, f48_10, f49_10, f50_10, f51_10])
    have f33_11 := fun hh => getq q33_11 hh
    have q34_11 : T11[34]? = some (.int .i64 tb) := by subst hT; exact (by first | (simp only [↓Array.getElem?_setIfInBounds_ne, ne_eq, Nat.reduceEqDiff, not_false_eq_true, q34_10]; done) | simp [hs10, f1_10, f18_10, f19_10, f20_10, f21_10, f22_10, f23_10, f24_10, f25_10, f26_10, f27_10, f28_10, f29_10, f30_10, f31_10, f32_10, f33_10, f34_10, f35_10, f36_10, f37_10, f38_10, f39_10, f40_10, f41_10, f42_10, f43_10, f44_10, f45_10, f46_10, f47_10, f48_10, f49_10, f50_10, f51_10])
    have f34_11 := fun hh => getq q34_11 hh
    have q35_11 : T11[35]? = some (.int .i64 nb) := by subst hT; exact (by first | (simp only [↓Array.getElem?_setIfInBounds_ne, ne_eq, Nat.reduceEqDiff, not_false_eq_true, q35_10]; done) | simp [hs10, f1_10, f18_10, f19_10, f20_10, f21_10, f22_10, f23_10, f24_10, f25_10, f26_10, f27_10, f28_10, f29_10, f30_10, f31_10, f32_10, f33_10, f34_10, f35_10, f36_10, f37_10, f38_10, f39_10, f40_10, f41_10, f42_10, f43_10, f44_10, f45_10, f46_10, f47_10, f48_10, f49_10, f50_10, f51_10])
    have f35_11 := fun hh => getq q35_11 hh
    have q36_11 : T11[36]? = some (.int .i64 fb) := by subst hT; exact (by first | (simp only [↓Array.getElem?_setIfInBounds_ne, ne_eq, Nat.reduceEqDiff, not_false_eq_true, q36_10]; done) | simp [hs10, f1_10, f18_10, f19_10, f20_10, f21_10, f22_10, f23_10, f24_10, f25_10, f26_10, f27_10, f28_10, f29_10, f30_10, f31_10, f32_10, f33_10, f34_10, f35_10, f36_10, f37_10, f38_10, f39_10, f40_10, f41_10, f42_10, f43_10, f44_10, f45_10, f46_10, f47_10, f48_10, f49_10, f50_10, f51_10])
    have f36_11 := fun hh => getq q36_11 hh
    have q37_11 : T11[37]? = some (.int .i64 X2) := by subst hT; exact (by first | (simp only [↓Array.getElem?_setIfInBounds_ne, ne_eq, Nat.reduceEqDiff, not_false_eq_true, q37_10]; done) | simp [hs10, f1_10, f18_10, f19_10, f20_10, f21_10, f22_10, f23_10, f24_10, f25_10, f26_10, f27_10, f28_10, f29_10, f30_10, f31_10, f32_10, f33_10, f34_10, f35_10, f36_10, f37_10, f38_10, f39_10, f40_10, f41_10, f42_10, f43_10, f44_10, f45_10, f46_10, f47_10, f48_10, f49_10, f50_10, f51_10])
    have f37_11 := fun hh => getq q37_11 hh
    have q38_11 : T11[38]? = some (.int .i64 Y2) := by subst hT; exact (by first | (simp only [↓Array.getElem?_setIfInBounds_ne, ne_eq, Nat.reduceEqDiff, not_false_eq_true, q38_10]; done) | simp [hs10, f1_10, f18_10, f19_10, f20_10, f21_10, f22_10, f23_10, f24_10, f25_10, f26_10, f27_10, f28_10, f29_10, f30_10, f31_10, f32_10, f33_10, f34_10, f35_10, f36_10, f37_10, f38_10, f39_10, f40_10, f41_10, f42_10, f43_10, f44_10, f45_10, f46_10, f47_10, f48_10, f49_10, f50_10, f51_10])
    have f38_11 := fun hh => getq q38_11 hh
    have q39_11 : T11[39]? = some (.bool O2) := by subst hT; exact (by first | (simp only [↓Array.getElem?_setIfInBounds_ne, ne_eq, Nat.reduceEqDiff, not_false_eq_true, q39_10]; done) | simp [hs10, f1_10, f18_10, f19_10, f20_10, f21_10, f22_10, f23_10, f24_10, f25_10, f26_10, f27_10, f28_10, f29_10, f30_10, f31_10, f32_10, f33_10, f34_10, f35_10, f36_10, f37_10, f38_10, f39_10, f40_10, f41_10, f42_10, f43_10, f44_10, f45_10, f46_10, f47_10, f48_10, f49_10, f50_10, f51_10])
    have f39_11 := fun hh => getq q39_11 hh
    have q40_11 : T11[40]? = some (.int .i64 X2) := by subst hT; exact (by first | (simp only [↓Array.getElem?_setIfInBounds_ne, ne_eq, Nat.reduceEqDiff, not_false_eq_true, q40_10]; done) | simp [hs10, f1_10, f18_10, f19_10, f20_10, f21_10, f22_10, f23_10, f24_10, f25_10, f26_10, f27_10, f28_10, f29_10, f30_10, f31_10, f32_10, f33_10, f34_10, f35_10, f36_10, f37_10, f38_10, f39_10, f40_10, f41_10, f42_10, f43_10, f44_10, f45_10, f46_10, f47_10, f48_10, f49_10, f50_10, f51_10])
    have f40_11 := fun hh => getq q40_11 hh
    have q41_11 : T11[41]? = some (.int .i64 Y2) := by subst hT; exact (by first | (simp only [↓Array.getElem?_setIfInBounds_ne, ne_eq, Nat.reduceEqDiff, not_false_eq_true, q41_10]; done) | simp [hs10, f1_10, f18_10, f19_10, f20_10, f21_10, f22_10, f23_10, f24_10, f25_10, f26_10, f27_10, f28_10, f29_10, f30_10, f31_10, f32_10, f33_10, f34_10, f35_10, f36_10, f37_10, f38_10, f39_10, f40_10, f41_10, f42_10, f43_10, f44_10, f45_10, f46_10, f47_10, f48_10, f49_10, f50_10, f51_10])
    have f41_11 := fun hh => getq q41_11 hh
    have q42_11 : T11[42]? = some (.bool O2) := by subst hT; exact (by first | (simp only [↓Array.getElem?_setIfInBounds_ne, ne_eq, Nat.reduceEqDiff, not_false_eq_true, q42_10]; done) | simp [hs10, f1_10, f18_10, f19_10, f20_10, f21_10, f22_10, f23_10, f24_10, f25_10, f26_10, f27_10, f28_10, f29_10, f30_10, f31_10, f32_10, f33_10, f34_10, f35_10, f36_10, f37_10, f38_10, f39_10, f40_10, f41_10, f42_10, f43_10, f44_10, f45_10, f46_10, f47_10, f48_10, f49_10, f50_10, f51_10])
    have f42_11 := fun hh => getq q42_11 hh
    have q43_11 : T11[43]? = some (.int .i64 ac) := by subst hT; exact (by first | (simp only [↓Array.getElem?_setIfInBounds_ne, ne_eq, Nat.reduceEqDiff, not_false_eq_true, q43_10]; done) | simp [hs10, f1_10, f18_10, f19_10, f20_10, f21_10, f22_10, f23_10, f24_10, f25_10, f26_10, f27_10, f28_10, f29_10, f30_10, f31_10, f32_10, f33_10, f34_10, f35_10, f36_10, f37_10, f38_10, f39_10, f40_10, f41_10, f42_10, f43_10, f44_10, f45_10, f46_10, f47_10, f48_10, f49_10, f50_10, f51_10])
    have f43_11 := fun hh => getq q43_11 hh
    have q44_11 : T11[44]? = some (.int .i64 sc) := by subst hT; exact (by first | (simp only [↓Array.getElem?_setIfInBounds_ne, ne_eq, Nat.reduceEqDiff, not_false_eq_true, q44_10]; done) | simp [hs10, f1_10, f18_10, f19_10, f20_10, f21_10, f22_10, f23_10, f24_10, f25_10, f26_10, f27_10, f28_10, f29_10, f30_10, f31_10, f32_10, f33_10, f34_10, f35_10, f36_10, f37_10, f38_10, f39_10, f40_10, f41_10, f42_10, f43_10, f44_10, f45_10, f46_10, f47_10, f48_10, f49_10, f50_10, f51_10])
    have f44_11 := fun hh => getq q44_11 hh
    have q45_11 : T11[45]? = some (.int .i64 ic) := by subst hT; exact (by first | (simp only [↓Array.getElem?_setIfInBounds_ne, ne_eq, Nat.reduceEqDiff, not_false_eq_true, q45_10]; done) | simp [hs10, f1_10, f18_10, f19_10, f20_10, f21_10, f22_10, f23_10, f24_10, f25_10, f26_10, f27_10, f28_10, f29_10, f30_10, f31_10, f32_10, f33_10, f34_10, f35_10, f36_10, f37_10, f38_10, f39_10, f40_10, f41_10, f42_10, f43_10, f44_10, f45_10, f46_10, f47_10, f48_10, f49_10, f50_10, f51_10])
    have f45_11 := fun hh => getq q45_11 hh
    have q46_11 : T11[46]? = some (.int .i64 X3) := by subst hT; exact (by first | (simp only [↓Array.getElem?_setIfInBounds_ne, ne_eq, Nat.reduceEqDiff, not_false_eq_true, q46_10]; done) | simp [hs10, f1_10, f18_10, f19_10, f20_10, f21_10, f22_10, f23_10, f24_10, f25_10, f26_10, f27_10, f28_10, f29_10, f30_10, f31_10, f32_10, f33_10, f34_10, f35_10, f36_10, f37_10, f38_10, f39_10, f40_10, f41_10, f42_10, f43_10, f44_10, f45_10, f46_10, f47_10, f48_10, f49_10, f50_10, f51_10])
    have f46_11 := fun hh => getq q46_11 hh
    have q47_11 : T11[47]? = some (.int .i64 Y3) := by subst hT; exact (by first | (simp only [↓Array.getElem?_setIfInBounds_ne, ne_eq, Nat.reduceEqDiff, not_false_eq_true, q47_10]; done) | simp [hs10, f1_10, f18_10, f19_10, f20_10, f21_10, f22_10, f23_10, f24_10, f25_10, f26_10, f27_10, f28_10, f29_10, f30_10, f31_10, f32_10, f33_10, f34_10, f35_10, f36_10, f37_10, f38_10, f39_10, f40_10, f41_10, f42_10, f43_10, f44_10, f45_10, f46_10, f47_10, f48_10, f49_10, f50_10, f51_10])
    have f47_11 := fun hh => getq q47_11 hh
    have q48_11 : T11[48]? = some (.bool O3) := by subst hT; exact (by first | (simp only [↓Array.getElem?_setIfInBounds_ne, ne_eq, Nat.reduceEqDiff, not_false_eq_true, q48_10]; done) | simp [hs10, f1_10, f18_10, f19_10, f20_10, f21_10, f22_10, f23_10, f24_10, f25_10, f26_10, f27_10, f28_10, f29_10, f30_10, f31_10, f32_10, f33_10, f34_10, f35_10, f36_10, f37_10, f38_10, f39_10, f40_10, f41_10, f42_10, f43_10, f44_10, f45_10, f46_10, f47_10, f48_10, f49_10, f50_10, f51_10])
    have f48_11 := fun hh => getq q48_11 hh
    have q49_11 : T11[49]? = some (.int .i64 X3) := by subst hT; exact (by first | (simp only [↓Array.getElem?_setIfInBounds_ne, ne_eq, Nat.reduceEqDiff, not_false_eq_true, q49_10]; done) | simp [hs10, f1_10, f18_10, f19_10, f20_10, f21_10, f22_10, f23_10, f24_10, f25_10, f26_10, f27_10, f28_10, f29_10, f30_10, f31_10, f32_10, f33_10, f34_10, f35_10, f36_10, f37_10, f38_10, f39_10, f40_10, f41_10, f42_10, f43_10, f44_10, f45_10, f46_10, f47_10, f48_10, f49_10, f50_10, f51_10])
    have f49_11 := fun hh => getq q49_11 hh
    have q50_11 : T11[50]? = some (.int .i64 Y3) := by subst hT; exact (by first | (simp only [↓Array.getElem?_setIfInBounds_ne, ne_eq, Nat.reduceEqDiff, not_false_eq_true, q50_10]; done) | simp [hs10, f1_10, f18_10, f19_10, f20_10, f21_10, f22_10, f23_10, f24_10, f25_10, f26_10, f27_10, f28_10, f29_10, f30_10, f31_10, f32_10, f33_10, f34_10, f35_10, f36_10, f37_10, f38_10, f39_10, f40_10, f41_10, f42_10, f43_10, f44_10, f45_10, f46_10, f47_10, f48_10, f49_10, f50_10, f51_10])
    have f50_11 := fun hh => getq q50_11 hh
    have q51_11 : T11[51]? = some (.bool O3) := by subst hT; exact (by first | (simp only [↓Array.getElem?_setIfInBounds_ne, ne_eq, Nat.reduceEqDiff, not_false_eq_true, q51_10]; done) | simp [hs10, f1_10, f18_10, f19_10, f20_10, f21_10, f22_10, f23_10, f24_10, f25_10, f26_10, f27_10, f28_10, f29_10, f30_10, f31_10, f32_10, f33_10, f34_10, f35_10, f36_10, f37_10, f38_10, f39_10, f40_10, f41_10, f42_10, f43_10, f44_10, f45_10, f46_10, f47_10, f48_10, f49_10, f50_10, f51_10])
    have f51_11 := fun hh => getq q51_11 hh
    have q52_11 : T11[52]? = some (.int .i64 ad) := by subst hT; exact (by first | (simp only [↓Array.getElem?_setIfInBounds_ne, ne_eq, Nat.reduceEqDiff, not_false_eq_true]; done) | simp [hs10, f1_10, f18_10, f19_10, f20_10, f21_10, f22_10, f23_10, f24_10, f25_10, f26_10, f27_10, f28_10, f29_10, f30_10, f31_10, f32_10, f33_10, f34_10, f35_10, f36_10, f37_10, f38_10, f39_10, f40_10, f41_10, f42_10, f43_10, f44_10, f45_10, f46_10, f47_10, f48_10, f49_10, f50_10, f51_10])
    have f52_11 := fun hh => getq q52_11 hh
    have q53_11 : T11[53]? = some (.int .i64 bd) := by subst hT; exact (by first | (simp only [↓Array.getElem?_setIfInBounds_ne, ne_eq, Nat.reduceEqDiff, not_false_eq_true]; done) | simp [hs10, f1_10, f18_10, f19_10, f20_10, f21_10, f22_10, f23_10, f24_10, f25_10, f26_10, f27_10, f28_10, f29_10, f30_10, f31_10, f32_10, f33_10, f34_10, f35_10, f36_10, f37_10, f38_10, f39_10, f40_10, f41_10, f42_10, f43_10, f44_10, f45_10, f46_10, f47_10, f48_10, f49_10, f50_10, f51_10])
    have f53_11 := fun hh => getq q53_11 hh
    have q54_11 : T11[54]? = some (.int .i64 cd) := by subst hT; exact (by first | (simp only [↓Array.getElem?_setIfInBounds_ne, ne_eq, Nat.reduceEqDiff, not_false_eq_true]; done) | simp [hs10, f1_10, f18_10, f19_10, f20_10, f21_10, f22_10, f23_10, f24_10, f25_10, f26_10, f27_10, f28_10, f29_10, f30_10, f31_10, f32_10, f33_10, f34_10, f35_10, f36_10, f37_10, f38_10, f39_10, f40_10, f41_10, f42_10, f43_10, f44_10, f45_10, f46_10, f47_10, f48_10, f49_10, f50_10, f51_10])
    have f54_11 := fun hh => getq q54_11 hh
    clear hT f51_10 f50_10 f49_10 f48_10 f47_10 f46_10 f45_10 f44_10 f43_10 f42_10 f41_10 f40_10 f39_10 f38_10 f37_10 f36_10 f35_10 f34_10 f33_10 f32_10 f31_10 f30_10 f29_10 f28_10 f27_10 f26_10 f25_10 f24_10 f23_10 f22_10 f21_10 f20_10 f19_10 f18_10 f1_10 hs10 q1_10 q18_10 q19_10 q20_10 q21_10 q22_10 q23_10 q24_10 q25_10 q26_10 q27_10 q28_10 q29_10 q30_10 q31_10 q32_10 q33_10 q34_10 q35_10 q36_10 q37_10 q38_10 q39_10 q40_10 q41_10 q42_10 q43_10 q44_10 q45_10 q46_10 q47_10 q48_10 q49_10 q50_10 q51_10
    go_wp2_with fail
    refine ((P1 _).out).mono ?_
    rintro e w20 ⟨rfl, hb20⟩
    have HB20 := Lib.hid (show Below w.heap.size w w20 from bl_trans hb20 (by repeat (first | exact HB19.out | exact Below.refl _ _ | refine bl_drewN ?_ _)))
    clear hb20
    go_wp2_with fail
    refine ((P2 _).out).mono ?_
    rintro e w21 ⟨rfl, hb21⟩
    have HB21 := Lib.hid (show Below w.heap.size w w21 from bl_trans hb21 (by repeat (first | exact HB20.out | exact Below.refl _ _ | refine bl_drewN ?_ _)))
    clear hb21
    go_upto_region 29 with fail
    refine reframe fun T12 hT => ?_
    have hs12 : T12.size = 540 := by subst hT; simp [hs11]
    have q18_12 : T12[18]? = some (.int .i64 pa) := by subst hT; exact (by first | (simp only [↓Array.getElem?_setIfInBounds_ne, ne_eq, Nat.reduceEqDiff, not_false_eq_true, q18_11]; done) | simp [hs11, f18_11, f19_11, f20_11, f21_11, f22_11, f23_11, f24_11, f25_11, f26_11, f27_11, f28_11, f29_11, f30_11, f31_11, f32_11, f33_11, f34_11, f35_11, f36_11, f37_11, f38_11, f39_11, f40_11, f41_11, f42_11, f43_11, f44_11, f45_11, f46_11, f47_11, f48_11, f49_11, f50_11, f51_11, f52_11, f53_11, f54_11])
    have f18_12 := fun hh => getq q18_12 hh
    have q19_12 : T12[19]? = some (.int .i64 ha) := by subst hT; exact (by first | (simp only [↓Array.getElem?_setIfInBounds_ne, ne_eq, Nat.reduceEqDiff, not_false_eq_true, q19_11]; done) | simp [hs11, f18_11, f19_11, f20_11, f21_11, f22_11, f23_11, f24_11, f25_11, f26_11, f27_11, f28_11, f29_11, f30_11, f31_11, f32_11, f33_11, f34_11, f35_11, f36_11, f37_11, f38_11, f39_11, f40_11, f41_11, f42_11, f43_11, f44_11, f45_11, f46_11, f47_11, f48_11, f49_11, f50_11, f51_11, f52_11, f53_11, f54_11])
    have f19_12 := fun hh => getq q19_12 hh
    have q20_12 : T12[20]? = some (.int .i64 ta) := by subst hT; exact (by first | (simp only [↓Array.getElem?_setIfInBounds_ne, ne_eq, Nat.reduceEqDiff, not_false_eq_true, q20_11]; done) | simp [hs11, f18_11, f19_11, f20_11, f21_11, f22_11, f23_11, f24_11, f25_11, f26_11, f27_11, f28_11, f29_11, f30_11, f31_11, f32_11, f33_11, f34_11, f35_11, f36_11, f37_11, f38_11, f39_11, f40_11, f41_11, f42_11, f43_11, f44_11, f45_11, f46_11, f47_11, f48_11, f49_11, f50_11, f51_11, f52_11, f53_11, f54_11])
    have f20_12 := fun hh => getq q20_12 hh
    have q21_12 : T12[21]? = some (.int .i64 X1) := by subst hT; exact (by first | (simp only [↓Array.getElem?_setIfInBounds_ne, ne_eq, Nat.reduceEqDiff, not_false_eq_true, q21_11]; done) | simp [hs11, f18_11, f19_11, f20_11, f21_11, f22_11, f23_11, f24_11, f25_11, f26_11, f27_11, f28_11, f29_11, f30_11, f31_11, f32_11, f33_11, f34_11, f35_11, f36_11, f37_11, f38_11, f39_11, f40_11, f41_11, f42_11, f43_11, f44_11, f45_11, f46_11, f47_11, f48_11, f49_11, f50_11, f51_11, f52_11, f53_11, f54_11])
    have f21_12 := fun hh => getq q21_12 hh
    have q22_12 : T12[22]? = some (.int .i64 Y1) := by subst hT; exact (by first | (simp only [↓Array.getElem?_setIfInBounds_ne, ne_eq, Nat.reduceEqDiff, not_false_eq_true, q22_11]; done) | simp [hs11, f18_11, f19_11, f20_11, f21_11, f22_11, f23_11, f24_11, f25_11, f26_11, f27_11, f28_11, f29_11, f30_11, f31_11, f32_11, f33_11, f34_11, f35_11, f36_11, f37_11, f38_11, f39_11, f40_11, f41_11, f42_11, f43_11, f44_11, f45_11, f46_11, f47_11, f48_11, f49_11, f50_11, f51_11, f52_11, f53_11, f54_11])
    have f22_12 := fun hh => getq q22_12 hh
    have q23_12 : T12[23]? = some (.bool O1) := by subst hT; exact (by first | (simp only [↓Array.getElem?_setIfInBounds_ne, ne_eq, Nat.reduceEqDiff, not_false_eq_true, q23_11]; done) | simp [hs11, f18_11, f19_11, f20_11, f21_11, f22_11, f23_11, f24_11, f25_11, f26_11, f27_11, f28_11, f29_11, f30_11, f31_11, f32_11, f33_11, f34_11, f35_11, f36_11, f37_11, f38_11, f39_11, f40_11, f41_11, f42_11, f43_11, f44_11, f45_11, f46_11, f47_11, f48_11, f49_11, f50_11, f51_11, f52_11, f53_11, f54_11])
    have f23_12 := fun hh => getq q23_12 hh
    have q24_12 : T12[24]? = some (.int .i64 X1) := by subst hT; exact (by first | (simp only [↓Array.getElem?_setIfInBounds_ne, ne_eq, Nat.reduceEqDiff, not_false_eq_true, q24_11]; done) | simp [hs11, f18_11, f19_11, f20_11, f21_11, f22_11, f23_11, f24_11, f25_11, f26_11, f27_11, f28_11, f29_11, f30_11, f31_11, f32_11, f33_11, f34_11, f35_11, f36_11, f37_11, f38_11, f39_11, f40_11, f41_11, f42_11, f43_11, f44_11, f45_11, f46_11, f47_11, f48_11, f49_11, f50_11, f51_11, f52_11, f53_11, f54_11])
    have f24_12 := fun hh => getq q24_12 hh
    have q25_12 : T12[25]? = some (.int .i64 Y1) := by subst hT; exact (by first | (simp only [↓Array.getElem?_setIfInBounds_ne, ne_eq, Nat.reduceEqDiff, not_false_eq_true, q25_11]; done) | simp [hs11, f18_11, f19_11, f20_11, f21_11, f22_11, f23_11, f24_11, f25_11, f26_11, f27_11, f28_11, f29_11, f30_11, f31_11, f32_11, f33_11, f34_11, f35_11, f36_11, f37_11, f38_11, f39_11, f40_11, f41_11, f42_11, f43_11, f44_11, f45_11, f46_11, f47_11, f48_11, f49_11, f50_11, f51_11, f52_11, f53_11, f54_11])
    have f25_12 := fun hh => getq q25_12 hh
    have q26_12 : T12[26]? = some (.bool O1) := by subst hT; exact (by first | (simp only [↓Array.getElem?_setIfInBounds_ne, ne_eq, Nat.reduceEqDiff, not_false_eq_true, q26_11]; done) | simp [hs11, f18_11, f19_11, f20_11, f21_11, f22_11, f23_11, f24_11, f25_11, f26_11, f27_11, f28_11, f29_11, f30_11, f31_11, f32_11, f33_11, f34_11, f35_11, f36_11, f37_11, f38_11, f39_11, f40_11, f41_11, f42_11, f43_11, f44_11, f45_11, f46_11, f47_11, f48_11, f49_11, f50_11, f51_11, f52_11, f53_11, f54_11])
    have f26_12 := fun hh => getq q26_12 hh
    have q27_12 : T12[27]? = some (.int .i64 X1) := by subst hT; exact (by first | (simp only [↓Array.getElem?_setIfInBounds_ne, ne_eq, Nat.reduceEqDiff, not_false_eq_true, q27_11]; done) | simp [hs11, f18_11, f19_11, f20_11, f21_11, f22_11, f23_11, f24_11, f25_11, f26_11, f27_11, f28_11, f29_11, f30_11, f31_11, f32_11, f33_11, f34_11, f35_11, f36_11, f37_11, f38_11, f39_11, f40_11, f41_11, f42_11, f43_11, f44_11, f45_11, f46_11, f47_11, f48_11, f49_11, f50_11, f51_11, f52_11, f53_11, f54_11])
    have f27_12 := fun hh => getq q27_12 hh
    have q28_12 : T12[28]? = some (.int .i64 Y1) := by subst hT; exact (by first | (simp only [↓Array.getElem?_setIfInBounds_ne, ne_eq, Nat.reduceEqDiff, not_false_eq_true, q28_11]; done) | simp [hs11, f18_11, f19_11, f20_11, f21_11, f22_11, f23_11, f24_11, f25_11, f26_11, f27_11, f28_11, f29_11, f30_11, f31_11, f32_11, f33_11, f34_11, f35_11, f36_11, f37_11, f38_11, f39_11, f40_11, f41_11, f42_11, f43_11, f44_11, f45_11, f46_11, f47_11, f48_11, f49_11, f50_11, f51_11, f52_11, f53_11, f54_11])
    have f28_12 := fun hh => getq q28_12 hh
    have q29_12 : T12[29]? = some (.bool O1) := by subst hT; exact (by first | (simp only [↓Array.getElem?_setIfInBounds_ne, ne_eq, Nat.reduceEqDiff, not_false_eq_true, q29_11]; done) | simp [hs11, f18_11, f19_11, f20_11, f21_11, f22_11, f23_11, f24_11, f25_11, f26_11, f27_11, f28_11, f29_11, f30_11, f31_11, f32_11, f33_11, f34_11, f35_11, f36_11, f37_11, f38_11, f39_11, f40_11, f41_11, f42_11, f43_11, f44_11, f45_11, f46_11, f47_11, f48_11, f49_11, f50_11, f51_11, f52_11, f53_11, f54_11])
    have f29_12 := fun hh => getq q29_12 hh
    have q30_12 : T12[30]? = some (.int .i64 X1) := by subst hT; exact (by first | (simp only [↓Array.getElem?_setIfInBounds_ne, ne_eq, Nat.reduceEqDiff, not_false_eq_true, q30_11]; done) | simp [hs11, f18_11, f19_11, f20_11, f21_11, f22_11, f23_11, f24_11, f25_11, f26_11, f27_11, f28_11, f29_11, f30_11, f31_11, f32_11, f33_11, f34_11, f35_11, f36_11, f37_11, f38_11, f39_11, f40_11, f41_11, f42_11, f43_11, f44_11, f45_11, f46_11, f47_11, f48_11, f49_11, f50_11, f51_11, f52_11, f53_11, f54_11])
    have f30_12 := fun hh => getq q30_12 hh
    have q31_12 : T12[31]? = some (.int .i64 Y1) := by subst hT; exact (by first | (simp only [↓Array.getElem?_setIfInBounds_ne, ne_eq, Nat.reduceEqDiff, not_false_eq_true, q31_11]; done) | simp [hs11, f18_11, f19_11, f20_11, f21_11, f22_11, f23_11, f24_11, f25_11, f26_11, f27_11, f28_11, f29_11, f30_11, f31_11, f32_11, f33_11, f34_11, f35_11, f36_11, f37_11, f38_11, f39_11, f40_11, f41_11, f42_11, f43_11, f44_11, f45_11, f46_11, f47_11, f48_11, f49_11, f50_11, f51_11, f52_11, f53_11, f54_11])
    have f31_12 := fun hh => getq q31_12 hh
    have q32_12 : T12[32]? = some (.bool O1) := by subst hT; exact (by first | (simp only [↓Array.getElem?_setIfInBounds_ne, ne_eq, Nat.reduceEqDiff, not_false_eq_true, q32_11]; done) | simp [hs11, f18_11, f19_11, f20_11, f21_11, f22_11, f23_11, f24_11, f25_11, f26_11, f27_11, f28_11, f29_11, f30_11, f31_11, f32_11, f33_11, f34_11, f35_11, f36_11, f37_11, f38_11, f39_11, f40_11, f41_11, f42_11, f43_11, f44_11, f45_11, f46_11, f47_11, f48_11, f49_11, f50_11, f51_11, f52_11, f53_11, f54_11])
    have f32_12 := fun hh => getq q32_12 hh
    have q33_12 : T12[33]? = some (.int .i64 eb) := by subst hT; exact (by first | (simp only [↓Array.getElem?_setIfInBounds_ne, ne_eq, Nat.reduceEqDiff, not_false_eq_true, q33_11]; done) | simp [hs11, f18_11, f19_11, f20_11, f21_11, f22_11, f23_11, f24_11, f25_11, f26_11, f27_11, f28_11, f29_11, f30_11, f31_11, f32_11, f33_11, f34_11, f35_11, f36_11, f37_11, f38_11, f39_11, f40_11, f41_11, f42_11, f43_11, f44_11, f45_11, f46_11, f47_11, f48_11, f49_11, f50_11, f51_11, f52_11, f53_11, f54_11])
    have f33_12 := fun hh => getq q33_12 hh
    have q34_12 : T12[34]? = some (.int .i64 tb) := by subst hT; exact (by first | (simp only [↓Array.getElem?_setIfInBounds_ne, ne_eq, Nat.reduceEqDiff, not_false_eq_true, q34_11]; done) | simp [hs11, f18_11, f19_11, f20_11, f21_11, f22_11, f23_11, f24_11, f25_11, f26_11, f27_11, f28_11, f29_11, f30_11, f31_11, f32_11, f33_11, f34_11, f35_11, f36_11, f37_11, f38_11, f39_11, f40_11, f41_11, f42_11, f43_11, f44_11, f45_11, f46_11, f47_11, f48_11, f49_11, f50_11, f51_11, f52_11, f53_11, f54_11])
    have f34_12 := fun hh => getq q34_12 hh
    have q35_12 : T12[35]? = some (.int .i64 nb) := by subst hT; exact (by first | (simp only [↓Array.getElem?_setIfInBounds_ne, ne_eq, Nat.reduceEqDiff, not_false_eq_true, q35_11]; done) | simp [hs11, f18_11, f19_11, f20_11, f21_11, f22_11, f23_11, f24_11, f25_11, f26_11, f27_11, f28_11, f29_11, f30_11, f31_11, f32_11, f33_11, f34_11, f35_11, f36_11, f37_11, f38_11, f39_11, f40_11, f41_11, f42_11, f43_11, f44_11, f45_11, f46_11, f47_11, f48_11, f49_11, f50_11, f51_11, f52_11, f53_11, f54_11])
    have f35_12 := fun hh => getq q35_12 hh
    have q36_12 : T12[36]? = some (.int .i64 fb) := by subst hT; exact (by first | (simp only [↓Array.getElem?_setIfInBounds_ne, ne_eq, Nat.reduceEqDiff, not_false_eq_true, q36_11]; done) | simp [hs11, f18_11, f19_11, f20_11, f21_11, f22_11, f23_11, f24_11, f25_11, f26_11, f27_11, f28_11, f29_11, f30_11, f31_11, f32_11, f33_11, f34_11, f35_11, f36_11, f37_11, f38_11, f39_11, f40_11, f41_11, f42_11, f43_11, f44_11, f45_11, f46_11, f47_11, f48_11, f49_11, f50_11, f51_11, f52_11, f53_11, f54_11])
    have f36_12 := fun hh => getq q36_12 hh
    have q37_12 : T12[37]? = some (.int .i64 X2) := by subst hT; exact (by first | (simp only [↓Array.getElem?_setIfInBounds_ne, ne_eq, Nat.reduceEqDiff, not_false_eq_true, q37_11]; done) | simp [hs11, f18_11, f19_11, f20_11, f21_11, f22_11, f23_11, f24_11, f25_11, f26_11, f27_11, f28_11, f29_11, f30_11, f31_11, f32_11, f33_11, f34_11, f35_11, f36_11, f37_11, f38_11, f39_11, f40_11, f41_11, f42_11, f43_11, f44_11, f45_11, f46_11, f47_11, f48_11, f49_11, f50_11, f51_11, f52_11, f53_11, f54_11])
    have f37_12 := fun hh => getq q37_12 hh
    have q38_12 : T12[38]? = some (.int .i64 Y2) := by subst hT; exact (by first | (simp only [↓Array.getElem?_setIfInBounds_ne, ne_eq, Nat.reduceEqDiff, not_false_eq_true, q38_11]; done) | simp [hs11, f18_11, f19_11, f20_11, f21_11, f22_11, f23_11, f24_11, f25_11, f26_11, f27_11, f28_11, f29_11, f30_11, f31_11, f32_11, f33_11, f34_11, f35_11, f36_11, f37_11, f38_11, f39_11, f40_11, f41_11, f42_11, f43_11, f44_11, f45_11, f46_11, f47_11, f48_11, f49_11, f50_11, f51_11, f52_11, f53_11, f54_11])
    have f38_12 := fun hh => getq q38_12 hh
    have q39_12 : T12[39]? = some (.bool O2) := by subst hT; exact (by first | (simp only [↓Array.getElem?_setIfInBounds_ne, ne_eq, Nat.reduceEqDiff, not_false_eq_true, q39_11]; done) | simp [hs11, f18_11, f19_11, f20_11, f21_11, f22_11, f23_11, f24_11, f25_11, f26_11, f27_11, f28_11, f29_11, f30_11, f31_11, f32_11, f33_11, f34_11, f35_11, f36_11, f37_11, f38_11, f39_11, f40_11, f41_11, f42_11, f43_11, f44_11, f45_11, f46_11, f47_11, f48_11, f49_11, f50_11, f51_11, f52_11, f53_11, f54_11])
    have f39_12 := fun hh => getq q39_12 hh
    have q40_12 : T12[40]? = some (.int .i64 X2) := by subst hT; exact (by first | (simp only [↓Array.getElem?_setIfInBounds_ne, ne_eq, Nat.reduceEqDiff, not_false_eq_true, q40_11]; done) | simp [hs11, f18_11, f19_11, f20_11, f21_11, f22_11, f23_11, f24_11, f25_11, f26_11, f27_11, f28_11, f29_11, f30_11, f31_11, f32_11, f33_11, f34_11, f35_11, f36_11, f37_11, f38_11, f39_11, f40_11, f41_11, f42_11, f43_11, f44_11, f45_11, f46_11, f47_11, f48_11, f49_11, f50_11, f51_11, f52_11, f53_11, f54_11])
    have f40_12 := fun hh => getq q40_12 hh
    have q41_12 : T12[41]? = some (.int .i64 Y2) := by subst hT; exact (by first | (simp only [↓Array.getElem?_setIfInBounds_ne, ne_eq, Nat.reduceEqDiff, not_false_eq_true, q41_11]; done) | simp [hs11, f18_11, f19_11, f20_11, f21_11, f22_11, f23_11, f24_11, f25_11, f26_11, f27_11, f28_11, f29_11, f30_11, f31_11, f32_11, f33_11, f34_11, f35_11, f36_11, f37_11, f38_11, f39_11, f40_11, f41_11, f42_11, f43_11, f44_11, f45_11, f46_11, f47_11, f48_11, f49_11, f50_11, f51_11, f52_11, f53_11, f54_11])
    have f41_12 := fun hh => getq q41_12 hh
    have q42_12 : T12[42]? = some (.bool O2) := by subst hT; exact (by first | (simp only [↓Array.getElem?_setIfInBounds_ne, ne_eq, Nat.reduceEqDiff, not_false_eq_true, q42_11]; done) | simp [hs11, f18_11, f19_11, f20_11, f21_11, f22_11, f23_11, f24_11, f25_11, f26_11, f27_11, f28_11, f29_11, f30_11, f31_11, f32_11, f33_11, f34_11, f35_11, f36_11, f37_11, f38_11, f39_11, f40_11, f41_11, f42_11, f43_11, f44_11, f45_11, f46_11, f47_11, f48_11, f49_11, f50_11, f51_11, f52_11, f53_11, f54_11])
    have f42_12 := fun hh => getq q42_12 hh
    have q43_12 : T12[43]? = some (.int .i64 ac) := by subst hT; exact (by first | (simp only [↓Array.getElem?_setIfInBounds_ne, ne_eq, Nat.reduceEqDiff, not_false_eq_true, q43_11]; done) | simp [hs11, f18_11, f19_11, f20_11, f21_11, f22_11, f23_11, f24_11, f25_11, f26_11, f27_11, f28_11, f29_11, f30_11, f31_11, f32_11, f33_11, f34_11, f35_11, f36_11, f37_11, f38_11, f39_11, f40_11, f41_11, f42_11, f43_11, f44_11, f45_11, f46_11, f47_11, f48_11, f49_11, f50_11, f51_11, f52_11, f53_11, f54_11])
    have f43_12 := fun hh => getq q43_12 hh
    have q44_12 : T12[44]? = some (.int .i64 sc) := by subst hT; exact (by first | (simp only [↓Array.getElem?_setIfInBounds_ne, ne_eq, Nat.reduceEqDiff, not_false_eq_true, q44_11]; done) | simp [hs11, f18_11, f19_11, f20_11, f21_11, f22_11, f23_11, f24_11, f25_11, f26_11, f27_11, f28_11, f29_11, f30_11, f31_11, f32_11, f33_11, f34_11, f35_11, f36_11, f37_11, f38_11, f39_11, f40_11, f41_11, f42_11, f43_11, f44_11, f45_11, f46_11, f47_11, f48_11, f49_11, f50_11, f51_11, f52_11, f53_11, f54_11])
    have f44_12 := fun hh => getq q44_12 hh
    have q45_12 : T12[45]? = some (.int .i64 ic) := by subst hT; exact (by first | (simp only [↓Array.getElem?_setIfInBounds_ne, ne_eq, Nat.reduceEqDiff, not_false_eq_true, q45_11]; done) | simp [hs11, f18_11, f19_11, f20_11, f21_11, f22_11, f23_11, f24_11, f25_11, f26_11, f27_11, f28_11, f29_11, f30_11, f31_11, f32_11, f33_11, f34_11, f35_11, f36_11, f37_11, f38_11, f39_11, f40_11, f41_11, f42_11, f43_11, f44_11, f45_11, f46_11, f47_11, f48_11, f49_11, f50_11, f51_11, f52_11, f53_11, f54_11])
    have f45_12 := fun hh => getq q45_12 hh
    have q46_12 : T12[46]? = some (.int .i64 X3) := by subst hT; exact (by first | (simp only [↓Array.getElem?_setIfInBounds_ne, ne_eq, Nat.reduceEqDiff, not_false_eq_true, q46_11]; done) | simp [hs11, f18_11, f19_11, f20_11, f21_11, f22_11, f23_11, f24_11, f25_11, f26_11, f27_11, f28_11, f29_11, f30_11, f31_11, f32_11, f33_11, f34_11, f35_11, f36_11, f37_11, f38_11, f39_11, f40_11, f41_11, f42_11, f43_11, f44_11, f45_11, f46_11, f47_11, f48_11, f49_11, f50_11, f51_11, f52_11, f53_11, f54_11])
    have f46_12 := fun hh => getq q46_12 hh
    have q47_12 : T12[47]? = some (.int .i64 Y3) := by subst hT; exact (by first | (simp only [↓Array.getElem?_setIfInBounds_ne, ne_eq, Nat.reduceEqDiff, not_false_eq_true, q47_11]; done) | simp [hs11, f18_11, f19_11, f20_11, f21_11, f22_11, f23_11, f24_11, f25_11, f26_11, f27_11, f28_11, f29_11, f30_11, f31_11, f32_11, f33_11, f34_11, f35_11, f36_11, f37_11, f38_11, f39_11, f40_11, f41_11, f42_11, f43_11, f44_11, f45_11, f46_11, f47_11, f48_11, f49_11, f50_11, f51_11, f52_11, f53_11, f54_11])
    have f47_12 := fun hh => getq q47_12 hh
    have q48_12 : T12[48]? = some (.bool O3) := by subst hT; exact (by first | (simp only [↓Array.getElem?_setIfInBounds_ne, ne_eq, Nat.reduceEqDiff, not_false_eq_true, q48_11]; done) | simp [hs11, f18_11, f19_11, f20_11, f21_11, f22_11, f23_11, f24_11, f25_11, f26_11, f27_11, f28_11, f29_11, f30_11, f31_11, f32_11, f33_11, f34_11, f35_11, f36_11, f37_11, f38_11, f39_11, f40_11, f41_11, f42_11, f43_11, f44_11, f45_11, f46_11, f47_11, f48_11, f49_11, f50_11, f51_11, f52_11, f53_11, f54_11])
    have f48_12 := fun hh => getq q48_12 hh
    have q49_12 : T12[49]? = some (.int .i64 X3) := by subst hT; exact (by first | (simp only [↓Array.getElem?_setIfInBounds_ne, ne_eq, Nat.reduceEqDiff, not_false_eq_true, q49_11]; done) | simp [hs11, f18_11, f19_11, f20_11, f21_11, f22_11, f23_11, f24_11, f25_11, f26_11, f27_11, f28_11, f29_11, f30_11, f31_11, f32_11, f33_11, f34_11, f35_11, f36_11, f37_11, f38_11, f39_11, f40_11, f41_11, f42_11, f43_11, f44_11, f45_11, f46_11, f47_11, f48_11, f49_11, f50_11, f51_11, f52_11, f53_11, f54_11])
    have f49_12 := fun hh => getq q49_12 hh
    have q50_12 : T12[50]? = some (.int .i64 Y3) := by subst hT; exact (by first | (simp only [↓Array.getElem?_setIfInBounds_ne, ne_eq, Nat.reduceEqDiff, not_false_eq_true, q50_11]; done) | simp [hs11, f18_11, f19_11, f20_11, f21_11, f22_11, f23_11, f24_11, f25_11, f26_11, f27_11, f28_11, f29_11, f30_11, f31_11, f32_11, f33_11, f34_11, f35_11, f36_11, f37_11, f38_11, f39_11, f40_11, f41_11, f42_11, f43_11, f44_11, f45_11, f46_11, f47_11, f48_11, f49_11, f50_11, f51_11, f52_11, f53_11, f54_11])
    have f50_12 := fun hh => getq q50_12 hh
    have q51_12 : T12[51]? = some (.bool O3) := by subst hT; exact (by first | (simp only [↓Array.getElem?_setIfInBounds_ne, ne_eq, Nat.reduceEqDiff, not_false_eq_true, q51_11]; done) | simp [hs11, f18_11, f19_11, f20_11, f21_11, f22_11, f23_11, f24_11, f25_11, f26_11, f27_11, f28_11, f29_11, f30_11, f31_11, f32_11, f33_11, f34_11, f35_11, f36_11, f37_11, f38_11, f39_11, f40_11, f41_11, f42_11, f43_11, f44_11, f45_11, f46_11, f47_11, f48_11, f49_11, f50_11, f51_11, f52_11, f53_11, f54_11])
    have f51_12 := fun hh => getq q51_12 hh
    have q52_12 : T12[52]? = some (.int .i64 ad) := by subst hT; exact (by first | (simp only [↓Array.getElem?_setIfInBounds_ne, ne_eq, Nat.reduceEqDiff, not_false_eq_true, q52_11]; done) | simp [hs11, f18_11, f19_11, f20_11, f21_11, f22_11, f23_11, f24_11, f25_11, f26_11, f27_11, f28_11, f29_11, f30_11, f31_11, f32_11, f33_11, f34_11, f35_11, f36_11, f37_11, f38_11, f39_11, f40_11, f41_11, f42_11, f43_11, f44_11, f45_11, f46_11, f47_11, f48_11, f49_11, f50_11, f51_11, f52_11, f53_11, f54_11])
    have f52_12 := fun hh => getq q52_12 hh
    have q53_12 : T12[53]? = some (.int .i64 bd) := by subst hT; exact (by first | (simp only [↓Array.getElem?_setIfInBounds_ne, ne_eq, Nat.reduceEqDiff, not_false_eq_true, q53_11]; done) | simp [hs11, f18_11, f19_11, f20_11, f21_11, f22_11, f23_11, f24_11, f25_11, f26_11, f27_11, f28_11, f29_11, f30_11, f31_11, f32_11, f33_11, f34_11, f35_11, f36_11, f37_11, f38_11, f39_11, f40_11, f41_11, f42_11, f43_11, f44_11, f45_11, f46_11, f47_11, f48_11, f49_11, f50_11, f51_11, f52_11, f53_11, f54_11])
    have f53_12 := fun hh => getq q53_12 hh
    have q54_12 : T12[54]? = some (.int .i64 cd) := by subst hT; exact (by first | (simp only [↓Array.getElem?_setIfInBounds_ne, ne_eq, Nat.reduceEqDiff, not_false_eq_true, q54_11]; done) | simp [hs11, f18_11, f19_11, f20_11, f21_11, f22_11, f23_11, f24_11, f25_11, f26_11, f27_11, f28_11, f29_11, f30_11, f31_11, f32_11, f33_11, f34_11, f35_11, f36_11, f37_11, f38_11, f39_11, f40_11, f41_11, f42_11, f43_11, f44_11, f45_11, f46_11, f47_11, f48_11, f49_11, f50_11, f51_11, f52_11, f53_11, f54_11])
    have f54_12 := fun hh => getq q54_12 hh
    have q55_12 : T12[55]? = some (.int .i64 X4) := by subst hT; exact (by first | (simp only [↓Array.getElem?_setIfInBounds_ne, ne_eq, Nat.reduceEqDiff, not_false_eq_true]; done) | simp [hs11, f18_11, f19_11, f20_11, f21_11, f22_11, f23_11, f24_11, f25_11, f26_11, f27_11, f28_11, f29_11, f30_11, f31_11, f32_11, f33_11, f34_11, f35_11, f36_11, f37_11, f38_11, f39_11, f40_11, f41_11, f42_11, f43_11, f44_11, f45_11, f46_11, f47_11, f48_11, f49_11, f50_11, f51_11, f52_11, f53_11, f54_11])
    have f55_12 := fun hh => getq q55_12 hh
    have q56_12 : T12[56]? = some (.int .i64 Y4) := by subst hT; exact (by first | (simp only [↓Array.getElem?_setIfInBounds_ne, ne_eq, Nat.reduceEqDiff, not_false_eq_true]; done) | simp [hs11, f18_11, f19_11, f20_11, f21_11, f22_11, f23_11, f24_11, f25_11, f26_11, f27_11, f28_11, f29_11, f30_11, f31_11, f32_11, f33_11, f34_11, f35_11, f36_11, f37_11, f38_11, f39_11, f40_11, f41_11, f42_11, f43_11, f44_11, f45_11, f46_11, f47_11, f48_11, f49_11, f50_11, f51_11, f52_11, f53_11, f54_11])
    have f56_12 := fun hh => getq q56_12 hh
    have q57_12 : T12[57]? = some (.bool O4) := by subst hT; exact (by first | (simp only [↓Array.getElem?_setIfInBounds_ne, ne_eq, Nat.reduceEqDiff, not_false_eq_true]; done) | simp [hs11, f18_11, f19_11, f20_11, f21_11, f22_11, f23_11, f24_11, f25_11, f26_11, f27_11, f28_11, f29_11, f30_11, f31_11, f32_11, f33_11, f34_11, f35_11, f36_11, f37_11, f38_11, f39_11, f40_11, f41_11, f42_11, f43_11, f44_11, f45_11, f46_11, f47_11, f48_11, f49_11, f50_11, f51_11, f52_11, f53_11, f54_11])
    have f57_12 := fun hh => getq q57_12 hh
    have q58_12 : T12[58]? = some (.int .i64 X4) := by subst hT; exact (by first | (simp only [↓Array.getElem?_setIfInBounds_ne, ne_eq, Nat.reduceEqDiff, not_false_eq_true]; done) | simp [hs11, f18_11, f19_11, f20_11, f21_11, f22_11, f23_11, f24_11, f25_11, f26_11, f27_11, f28_11, f29_11, f30_11, f31_11, f32_11, f33_11, f34_11, f35_11, f36_11, f37_11, f38_11, f39_11, f40_11, f41_11, f42_11, f43_11, f44_11, f45_11, f46_11, f47_11, f48_11, f49_11, f50_11, f51_11, f52_11, f53_11, f54_11])
    have f58_12 := fun hh => getq q58_12 hh
    have q59_12 : T12[59]? = some (.int .i64 Y4) := by subst hT; exact (by first | (simp only [↓Array.getElem?_setIfInBounds_ne, ne_eq, Nat.reduceEqDiff, not_false_eq_true]; done) | simp [hs11, f18_11, f19_11, f20_11, f21_11, f22_11, f23_11, f24_11, f25_11, f26_11, f27_11, f28_11, f29_11, f30_11, f31_11, f32_11, f33_11, f34_11, f35_11, f36_11, f37_11, f38_11, f39_11, f40_11, f41_11, f42_11, f43_11, f44_11, f45_11, f46_11, f47_11, f48_11, f49_11, f50_11, f51_11, f52_11, f53_11, f54_11])
    have f59_12 := fun hh => getq q59_12 hh
    have q60_12 : T12[60]? = some (.bool O4) := by subst hT; exact (by first | (simp only [↓Array.getElem?_setIfInBounds_ne, ne_eq, Nat.reduceEqDiff, not_false_eq_true]; done) | simp [hs11, f18_11, f19_11, f20_11, f21_11, f22_11, f23_11, f24_11, f25_11, f26_11, f27_11, f28_11, f29_11, f30_11, f31_11, f32_11, f33_11, f34_11, f35_11, f36_11, f37_11, f38_11, f39_11, f40_11, f41_11, f42_11, f43_11, f44_11, f45_11, f46_11, f47_11, f48_11, f49_11, f50_11, f51_11, f52_11, f53_11, f54_11])
    have f60_12 := fun hh => getq q60_12 hh
    clear hT f54_11 f53_11 f52_11 f51_11 f50_11 f49_11 f48_11 f47_11 f46_11 f45_11 f44_11 f43_11 f42_11 f41_11 f40_11 f39_11 f38_11 f37_11 f36_11 f35_11 f34_11 f33_11 f32_11 f31_11 f30_11 f29_11 f28_11 f27_11 f26_11 f25_11 f24_11 f23_11 f22_11 f21_11 f20_11 f19_11 f18_11 hs11 q18_11 q19_11 q20_11 q21_11 q22_11 q23_11 q24_11 q25_11 q26_11 q27_11 q28_11 q29_11 q30_11 q31_11 q32_11 q33_11 q34_11 q35_11 q36_11 q37_11 q38_11 q39_11 q40_11 q41_11 q42_11 q43_11 q44_11 q45_11 q46_11 q47_11 q48_11 q49_11 q50_11 q51_11 q52_11 q53_11 q54_11
    go_wp2_with fail
    refine ((P3 _).out).mono ?_
    rintro e w22 ⟨rfl, hb22⟩
    have HB22 := Lib.hid (show Below w.heap.size w w22 from bl_trans hb22 (by repeat (first | exact HB21.out | exact Below.refl _ _ | refine bl_drewN ?_ _)))
    clear hb22
    go_wp2_with fail
    refine ((P4 _).out).mono ?_
    rintro e w23 ⟨rfl, hb23⟩
    have HB23 := Lib.hid (show Below w.heap.size w w23 from bl_trans hb23 (by repeat (first | exact HB22.out | exact Below.refl _ _ | refine bl_drewN ?_ _)))
    clear hb23
    go_wp2_with fail
    refine ((P5 _).out).mono ?_
    rintro e w24 ⟨rfl, hb24⟩
    have HB24 := Lib.hid (show Below w.heap.size w w24 from bl_trans hb24 (by repeat (first | exact HB23.out | exact Below.refl _ _ | refine bl_drewN ?_ _)))
    clear hb24
    go_upto_region 32 with fail
    refine reframe fun T13 hT => ?_
    have hs13 : T13.size = 540 := by subst hT; simp [hs12]
    have q18_13 : T13[18]? = some (.int .i64 pa) := by subst hT; exact (by first | (simp only [↓Array.getElem?_setIfInBounds_ne, ne_eq, Nat.reduceEqDiff, not_false_eq_true, q18_12]; done) | simp [hs12, f18_12, f19_12, f20_12, f21_12, f22_12, f23_12, f24_12, f25_12, f26_12, f27_12, f28_12, f29_12, f30_12, f31_12, f32_12, f33_12, f34_12, f35_12, f36_12, f37_12, f38_12, f39_12, f40_12, f41_12, f42_12, f43_12, f44_12, f45_12, f46_12, f47_12, f48_12, f49_12, f50_12, f51_12, f52_12, f53_12, f54_12, f55_12, f56_12, f57_12, f58_12, f59_12, f60_12])
    have f18_13 := fun hh => getq q18_13 hh
    have q19_13 : T13[19]? = some (.int .i64 ha) := by subst hT; exact (by first | (simp only [↓Array.getElem?_setIfInBounds_ne, ne_eq, Nat.reduceEqDiff, not_false_eq_true, q19_12]; done) | simp [hs12, f18_12, f19_12, f20_12, f21_12, f22_12, f23_12, f24_12, f25_12, f26_12, f27_12, f28_12, f29_12, f30_12, f31_12, f32_12, f33_12, f34_12, f35_12, f36_12, f37_12, f38_12, f39_12, f40_12, f41_12, f42_12, f43_12, f44_12, f45_12, f46_12, f47_12, f48_12, f49_12, f50_12, f51_12, f52_12, f53_12, f54_12, f55_12, f56_12, f57_12, f58_12, f59_12, f60_12])
    have f19_13 := fun hh => getq q19_13 hh
    have q20_13 : T13[20]? = some (.int .i64 ta) := by subst hT; exact (by first | (simp only [↓Array.getElem?_setIfInBounds_ne, ne_eq, Nat.reduceEqDiff, not_false_eq_true, q20_12]; done) | simp [hs12, f18_12, f19_12, f20_12, f21_12, f22_12, f23_12, f24_12, f25_12, f26_12, f27_12, f28_12, f29_12, f30_12, f31_12, f32_12, f33_12, f34_12, f35_12, f36_12, f37_12, f38_12, f39_12, f40_12, f41_12, f42_12, f43_12, f44_12, f45_12, f46_12, f47_12, f48_12, f49_12, f50_12, f51_12, f52_12, f53_12, f54_12, f55_12, f56_12, f57_12, f58_12, f59_12, f60_12])
    have f20_13 := fun hh => getq q20_13 hh
    have q21_13 : T13[21]? = some (.int .i64 X1) := by subst hT; exact (by first | (simp only [↓Array.getElem?_setIfInBounds_ne, ne_eq, Nat.reduceEqDiff, not_false_eq_true, q21_12]; done) | simp [hs12, f18_12, f19_12, f20_12, f21_12, f22_12, f23_12, f24_12, f25_12, f26_12, f27_12, f28_12, f29_12, f30_12, f31_12, f32_12, f33_12, f34_12, f35_12, f36_12, f37_12, f38_12, f39_12, f40_12, f41_12, f42_12, f43_12, f44_12, f45_12, f46_12, f47_12, f48_12, f49_12, f50_12, f51_12, f52_12, f53_12, f54_12, f55_12, f56_12, f57_12, f58_12, f59_12, f60_12])
    have f21_13 := fun hh => getq q21_13 hh
    have q22_13 : T13[22]? = some (.int .i64 Y1) := by subst hT; exact (by first | (simp only [↓Array.getElem?_setIfInBounds_ne, ne_eq, Nat.reduceEqDiff, not_false_eq_true, q22_12]; done) | simp [hs12, f18_12, f19_12, f20_12, f21_12, f22_12, f23_12, f24_12, f25_12, f26_12, f27_12, f28_12, f29_12, f30_12, f31_12, f32_12, f33_12, f34_12, f35_12, f36_12, f37_12, f38_12, f39_12, f40_12, f41_12, f42_12, f43_12, f44_12, f45_12, f46_12, f47_12, f48_12, f49_12, f50_12, f51_12, f52_12, f53_12, f54_12, f55_12, f56_12, f57_12, f58_12, f59_12, f60_12])
    have f22_13 := fun hh => getq q22_13 hh
    have q23_13 : T13[23]? = some (.bool O1) := by subst hT; exact (by first | (simp only [↓Array.getElem?_setIfInBounds_ne, ne_eq, Nat.reduceEqDiff, not_false_eq_true, q23_12]; done) | simp [hs12, f18_12, f19_12, f20_12, f21_12, f22_12, f23_12, f24_12, f25_12, f26_12, f27_12, f28_12, f29_12, f30_12, f31_12, f32_12, f33_12, f34_12, f35_12, f36_12, f37_12, f38_12, f39_12, f40_12, f41_12, f42_12, f43_12, f44_12, f45_12, f46_12, f47_12, f48_12, f49_12, f50_12, f51_12, f52_12, f53_12, f54_12, f55_12, f56_12, f57_12, f58_12, f59_12, f60_12])
    have f23_13 := fun hh => getq q23_13 hh
    have q24_13 : T13[24]? = some (.int .i64 X1) := by subst hT; exact (by first | (simp only [↓Array.getElem?_setIfInBounds_ne, ne_eq, Nat.reduceEqDiff, not_false_eq_true, q24_12]; done) | simp [hs12, f18_12, f19_12, f20_12, f21_12, f22_12, f23_12, f24_12, f25_12, f26_12, f27_12, f28_12, f29_12, f30_12, f31_12, f32_12, f33_12, f34_12, f35_12, f36_12, f37_12, f38_12, f39_12, f40_12, f41_12, f42_12, f43_12, f44_12, f45_12, f46_12, f47_12, f48_12, f49_12, f50_12, f51_12, f52_12, f53_12, f54_12, f55_12, f56_12, f57_12, f58_12, f59_12, f60_12])
    have f24_13 := fun hh => getq q24_13 hh
    have q25_13 : T13[25]? = some (.int .i64 Y1) := by subst hT; exact (by first | (simp only [↓Array.getElem?_setIfInBounds_ne, ne_eq, Nat.reduceEqDiff, not_false_eq_true, q25_12]; done) | simp [hs12, f18_12, f19_12, f20_12, f21_12, f22_12, f23_12, f24_12, f25_12, f26_12, f27_12, f28_12, f29_12, f30_12, f31_12, f32_12, f33_12, f34_12, f35_12, f36_12, f37_12, f38_12, f39_12, f40_12, f41_12, f42_12, f43_12, f44_12, f45_12, f46_12, f47_12, f48_12, f49_12, f50_12, f51_12, f52_12, f53_12, f54_12, f55_12, f56_12, f57_12, f58_12, f59_12, f60_12])
    have f25_13 := fun hh => getq q25_13 hh
    have q26_13 : T13[26]? = some (.bool O1) := by subst hT; exact (by first | (simp only [↓Array.getElem?_setIfInBounds_ne, ne_eq, Nat.reduceEqDiff, not_false_eq_true, q26_12]; done) | simp [hs12, f18_12, f19_12, f20_12, f21_12, f22_12, f23_12, f24_12, f25_12, f26_12, f27_12, f28_12, f29_12, f30_12, f31_12, f32_12, f33_12, f34_12, f35_12, f36_12, f37_12, f38_12, f39_12, f40_12, f41_12, f42_12, f43_12, f44_12, f45_12, f46_12, f47_12, f48_12, f49_12, f50_12, f51_12, f52_12, f53_12, f54_12, f55_12, f56_12, f57_12, f58_12, f59_12, f60_12])
    have f26_13 := fun hh => getq q26_13 hh
    have q27_13 : T13[27]? = some (.int .i64 X1) := by subst hT; exact (by first | (simp only [↓Array.getElem?_setIfInBounds_ne, ne_eq, Nat.reduceEqDiff, not_false_eq_true, q27_12]; done) | simp [hs12, f18_12, f19_12, f20_12, f21_12, f22_12, f23_12, f24_12, f25_12, f26_12, f27_12, f28_12, f29_12, f30_12, f31_12, f32_12, f33_12, f34_12, f35_12, f36_12, f37_12, f38_12, f39_12, f40_12, f41_12, f42_12, f43_12, f44_12, f45_12, f46_12, f47_12, f48_12, f49_12, f50_12, f51_12, f52_12, f53_12, f54_12, f55_12, f56_12, f57_12, f58_12, f59_12, f60_12])
    have f27_13 := fun hh => getq q27_13 hh
    have q28_13 : T13[28]? = some (.int .i64 Y1) := by subst hT; exact (by first | (simp only [↓Array.getElem?_setIfInBounds_ne, ne_eq, Nat.reduceEqDiff, not_false_eq_true, q28_12]; done) | simp [hs12, f18_12, f19_12, f20_12, f21_12, f22_12, f23_12, f24_12, f25_12, f26_12, f27_12, f28_12, f29_12, f30_12, f31_12, f32_12, f33_12, f34_12, f35_12, f36_12, f37_12, f38_12, f39_12, f40_12, f41_12, f42_12, f43_12, f44_12, f45_12, f46_12, f47_12, f48_12, f49_12, f50_12, f51_12, f52_12, f53_12, f54_12, f55_12, f56_12, f57_12, f58_12, f59_12, f60_12])
    have f28_13 := fun hh => getq q28_13 hh
    have q29_13 : T13[29]? = some (.bool O1) := by subst hT; exact (by first | (simp only [↓Array.getElem?_setIfInBounds_ne, ne_eq, Nat.reduceEqDiff, not_false_eq_true, q29_12]; done) | simp [hs12, f18_12, f19_12, f20_12, f21_12, f22_12, f23_12, f24_12, f25_12, f26_12, f27_12, f28_12, f29_12, f30_12, f31_12, f32_12, f33_12, f34_12, f35_12, f36_12, f37_12, f38_12, f39_12, f40_12, f41_12, f42_12, f43_12, f44_12, f45_12, f46_12, f47_12, f48_12, f49_12, f50_12, f51_12, f52_12, f53_12, f54_12, f55_12, f56_12, f57_12, f58_12, f59_12, f60_12])
    have f29_13 := fun hh => getq q29_13 hh
    have q30_13 : T13[30]? = some (.int .i64 X1) := by subst hT; exact (by first | (simp only [↓Array.getElem?_setIfInBounds_ne, ne_eq, Nat.reduceEqDiff, not_false_eq_true, q30_12]; done) | simp [hs12, f18_12, f19_12, f20_12, f21_12, f22_12, f23_12, f24_12, f25_12, f26_12, f27_12, f28_12, f29_12, f30_12, f31_12, f32_12, f33_12, f34_12, f35_12, f36_12, f37_12, f38_12, f39_12, f40_12, f41_12, f42_12, f43_12, f44_12, f45_12, f46_12, f47_12, f48_12, f49_12, f50_12, f51_12, f52_12, f53_12, f54_12, f55_12, f56_12, f57_12, f58_12, f59_12, f60_12])
    have f30_13 := fun hh => getq q30_13 hh
    have q31_13 : T13[31]? = some (.int .i64 Y1) := by subst hT; exact (by first | (simp only [↓Array.getElem?_setIfInBounds_ne, ne_eq, Nat.reduceEqDiff, not_false_eq_true, q31_12]; done) | simp [hs12, f18_12, f19_12, f20_12, f21_12, f22_12, f23_12, f24_12, f25_12, f26_12, f27_12, f28_12, f29_12, f30_12, f31_12, f32_12, f33_12, f34_12, f35_12, f36_12, f37_12, f38_12, f39_12, f40_12, f41_12, f42_12, f43_12, f44_12, f45_12, f46_12, f47_12, f48_12, f49_12, f50_12, f51_12, f52_12, f53_12, f54_12, f55_12, f56_12, f57_12, f58_12, f59_12, f60_12])
    have f31_13 := fun hh => getq q31_13 hh
    have q32_13 : T13[32]? = some (.bool O1) := by subst hT; exact (by first | (simp only [↓Array.getElem?_setIfInBounds_ne, ne_eq, Nat.reduceEqDiff, not_false_eq_true, q32_12]; done) | simp [hs12, f18_12, f19_12, f20_12, f21_12, f22_12, f23_12, f24_12, f25_12, f26_12, f27_12, f28_12, f29_12, f30_12, f31_12, f32_12, f33_12, f34_12, f35_12, f36_12, f37_12, f38_12, f39_12, f40_12, f41_12, f42_12, f43_12, f44_12, f45_12, f46_12, f47_12, f48_12, f49_12, f50_12, f51_12, f52_12, f53_12, f54_12, f55_12, f56_12, f57_12, f58_12, f59_12, f60_12])
    have f32_13 := fun hh => getq q32_13 hh
    have q33_13 : T13[33]? = some (.int .i64 eb) := by subst hT; exact (by first | (simp only [↓Array.getElem?_setIfInBounds_ne, ne_eq, Nat.reduceEqDiff, not_false_eq_true, q33_12]; done) | simp [hs12, f18_12, f19_12, f20_12, f21_12, f22_12, f23_12, f24_12, f25_12, f26_12, f27_12, f28_12, f29_12, f30_12, f31_12, f32_12, f33_12, f34_12, f35_12, f36_12, f37_12, f38_12, f39_12, f40_12, f41_12, f42_12, f43_12, f44_12, f45_12, f46_12, f47_12, f48_12, f49_12, f50_12, f51_12, f52_12, f53_12, f54_12, f55_12, f56_12, f57_12, f58_12, f59_12, f60_12])
    have f33_13 := fun hh => getq q33_13 hh
    have q34_13 : T13[34]? = some (.int .i64 tb) := by subst hT; exact (by first | (simp only [↓Array.getElem?_setIfInBounds_ne, ne_eq, Nat.reduceEqDiff, not_false_eq_true, q34_12]; done) | simp [hs12, f18_12, f19_12, f20_12, f21_12, f22_12, f23_12, f24_12, f25_12, f26_12, f27_12, f28_12, f29_12, f30_12, f31_12, f32_12, f33_12, f34_12, f35_12, f36_12, f37_12, f38_12, f39_12, f40_12, f41_12, f42_12, f43_12, f44_12, f45_12, f46_12, f47_12, f48_12, f49_12, f50_12, f51_12, f52_12, f53_12, f54_12, f55_12, f56_12, f57_12, f58_12, f59_12, f60_12])
    have f34_13 := fun hh => getq q34_13 hh
    have q35_13 : T13[35]? = some (.int .i64 nb) := by subst hT; exact (by first | (simp only [↓Array.getElem?_setIfInBounds_ne, ne_eq, Nat.reduceEqDiff, not_false_eq_true, q35_12]; done) | simp [hs12, f18_12, f19_12, f20_12, f21_12, f22_12, f23_12, f24_12, f25_12, f26_12, f27_12, f28_12, f29_12, f30_12, f31_12, f32_12, f33_12, f34_12, f35_12, f36_12, f37_12, f38_12, f39_12, f40_12, f41_12, f42_12, f43_12, f44_12, f45_12, f46_12, f47_12, f48_12, f49_12, f50_12, f51_12, f52_12, f53_12, f54_12, f55_12, f56_12, f57_12, f58_12, f59_12, f60_12])
    have f35_13 := fun hh => getq q35_13 hh
    have q36_13 : T13[36]? = some (.int .i64 fb) := by subst hT; exact (by first | (simp only [↓Array.getElem?_setIfInBounds_ne, ne_eq, Nat.reduceEqDiff, not_false_eq_true, q36_12]; done) | simp [hs12, f18_12, f19_12, f20_12, f21_12, f22_12, f23_12, f24_12, f25_12, f26_12, f27_12, f28_12, f29_12, f30_12, f31_12, f32_12, f33_12, f34_12, f35_12, f36_12, f37_12, f38_12, f39_12, f40_12, f41_12, f42_12, f43_12, f44_12, f45_12, f46_12, f47_12, f48_12, f49_12, f50_12, f51_12, f52_12, f53_12, f54_12, f55_12, f56_12, f57_12, f58_12, f59_12, f60_12])
    have f36_13 := fun hh => getq q36_13 hh
    have q37_13 : T13[37]? = some (.int .i64 X2) := by subst hT; exact (by first | (simp only [↓Array.getElem?_setIfInBounds_ne, ne_eq, Nat.reduceEqDiff, not_false_eq_true, q37_12]; done) | simp [hs12, f18_12, f19_12, f20_12, f21_12, f22_12, f23_12, f24_12, f25_12, f26_12, f27_12, f28_12, f29_12, f30_12, f31_12, f32_12, f33_12, f34_12, f35_12, f36_12, f37_12, f38_12, f39_12, f40_12, f41_12, f42_12, f43_12, f44_12, f45_12, f46_12, f47_12, f48_12, f49_12, f50_12, f51_12, f52_12, f53_12, f54_12, f55_12, f56_12, f57_12, f58_12, f59_12, f60_12])
    have f37_13 := fun hh => getq q37_13 hh
    have q38_13 : T13[38]? = some (.int .i64 Y2) := by subst hT; exact (by first | (simp only [↓Array.getElem?_setIfInBounds_ne, ne_eq, Nat.reduceEqDiff, not_false_eq_true, q38_12]; done) | simp [hs12, f18_12, f19_12, f20_12, f21_12, f22_12, f23_12, f24_12, f25_12, f26_12, f27_12, f28_12, f29_12, f30_12, f31_12, f32_12, f33_12, f34_12, f35_12, f36_12, f37_12, f38_12, f39_12, f40_12, f41_12, f42_12, f43_12, f44_12, f45_12, f46_12, f47_12, f48_12, f49_12, f50_12, f51_12, f52_12, f53_12, f54_12, f55_12, f56_12, f57_12, f58_12, f59_12, f60_12])
    have f38_13 := fun hh => getq q38_13 hh
    have q39_13 : T13[39]? = some (.bool O2) := by subst hT; exact (by first | (simp only [↓Array.getElem?_setIfInBounds_ne, ne_eq, Nat.reduceEqDiff, not_false_eq_true, q39_12]; done) | simp [hs12, f18_12, f19_12, f20_12, f21_12, f22_12, f23_12, f24_12, f25_12, f26_12, f27_12, f28_12, f29_12, f30_12, f31_12, f32_12, f33_12, f34_12, f35_12, f36_12, f37_12, f38_12, f39_12, f40_12, f41_12, f42_12, f43_12, f44_12, f45_12, f46_12, f47_12, f48_12, f49_12, f50_12, f51_12, f52_12, f53_12, f54_12, f55_12, f56_12, f57_12, f58_12, f59_12, f60_12])
    have f39_13 := fun hh => getq q39_13 hh
    have q40_13 : T13[40]? = some (.int .i64 X2) := by subst hT; exact (by first | (simp only [↓Array.getElem?_setIfInBounds_ne, ne_eq, Nat.reduceEqDiff, not_false_eq_true, q40_12]; done) | simp [hs12, f18_12, f19_12, f20_12, f21_12, f22_12, f23_12, f24_12, f25_12, f26_12, f27_12, f28_12, f29_12, f30_12, f31_12, f32_12, f33_12, f34_12, f35_12, f36_12, f37_12, f38_12, f39_12, f40_12, f41_12, f42_12, f43_12, f44_12, f45_12, f46_12, f47_12, f48_12, f49_12, f50_12, f51_12, f52_12, f53_12, f54_12, f55_12, f56_12, f57_12, f58_12, f59_12, f60_12])
    have f40_13 := fun hh => getq q40_13 hh
    have q41_13 : T13[41]? = some (.int .i64 Y2) := by subst hT; exact (by first | (simp only [↓Array.getElem?_setIfInBounds_ne, ne_eq, Nat.reduceEqDiff, not_false_eq_true, q41_12]; done) | simp [hs12, f18_12, f19_12, f20_12, f21_12, f22_12, f23_12, f24_12, f25_12, f26_12, f27_12, f28_12, f29_12, f30_12, f31_12, f32_12, f33_12, f34_12, f35_12, f36_12, f37_12, f38_12, f39_12, f40_12, f41_12, f42_12, f43_12, f44_12, f45_12, f46_12, f47_12, f48_12, f49_12, f50_12, f51_12, f52_12, f53_12, f54_12, f55_12, f56_12, f57_12, f58_12, f59_12, f60_12])
    have f41_13 := fun hh => getq q41_13 hh
    have q42_13 : T13[42]? = some (.bool O2) := by subst hT; exact (by first | (simp only [↓Array.getElem?_setIfInBounds_ne, ne_eq, Nat.reduceEqDiff, not_false_eq_true, q42_12]; done) | simp [hs12, f18_12, f19_12, f20_12, f21_12, f22_12, f23_12, f24_12, f25_12, f26_12, f27_12, f28_12, f29_12, f30_12, f31_12, f32_12, f33_12, f34_12, f35_12, f36_12, f37_12, f38_12, f39_12, f40_12, f41_12, f42_12, f43_12, f44_12, f45_12, f46_12, f47_12, f48_12, f49_12, f50_12, f51_12, f52_12, f53_12, f54_12, f55_12, f56_12, f57_12, f58_12, f59_12, f60_12])
    have f42_13 := fun hh => getq q42_13 hh
    have q43_13 : T13[43]? = some (.int .i64 ac) := by subst hT; exact (by first | (simp only [↓Array.getElem?_setIfInBounds_ne, ne_eq, Nat.reduceEqDiff, not_false_eq_true, q43_12]; done) | simp [hs12, f18_12, f19_12, f20_12, f21_12, f22_12, f23_12, f24_12, f25_12, f26_12, f27_12, f28_12, f29_12, f30_12, f31_12, f32_12, f33_12, f34_12, f35_12, f36_12, f37_12, f38_12, f39_12, f40_12, f41_12, f42_12, f43_12, f44_12, f45_12, f46_12, f47_12, f48_12, f49_12, f50_12, f51_12, f52_12, f53_12, f54_12, f55_12, f56_12, f57_12, f58_12, f59_12, f60_12])
    have f43_13 := fun hh => getq q43_13 hh
    have q44_13 : T13[44]? = some (.int .i64 sc) := by subst hT; exact (by first | (simp only [↓Array.getElem?_setIfInBounds_ne, ne_eq, Nat.reduceEqDiff, not_false_eq_true, q44_12]; done) | simp [hs12, f18_12, f19_12, f20_12, f21_12, f22_12, f23_12, f24_12, f25_12, f26_12, f27_12, f28_12, f29_12, f30_12, f31_12, f32_12, f33_12, f34_12, f35_12, f36_12, f37_12, f38_12, f39_12, f40_12, f41_12, f42_12, f43_12, f44_12, f45_12, f46_12, f47_12, f48_12, f49_12, f50_12, f51_12, f52_12, f53_12, f54_12, f55_12, f56_12, f57_12, f58_12, f59_12, f60_12])
    have f44_13 := fun hh => getq q44_13 hh
    have q45_13 : T13[45]? = some (.int .i64 ic) := by subst hT; exact (by first | (simp only [↓Array.getElem?_setIfInBounds_ne, ne_eq, Nat.reduceEqDiff, not_false_eq_true, q45_12]; done) | simp [hs12, f18_12, f19_12, f20_12, f21_12, f22_12, f23_12, f24_12, f25_12, f26_12, f27_12, f28_12, f29_12, f30_12, f31_12, f32_12, f33_12, f34_12, f35_12, f36_12, f37_12, f38_12, f39_12, f40_12, f41_12, f42_12, f43_12, f44_12, f45_12, f46_12, f47_12, f48_12, f49_12, f50_12, f51_12, f52_12, f53_12, f54_12, f55_12, f56_12, f57_12, f58_12, f59_12, f60_12])
    have f45_13 := fun hh => getq q45_13 hh
    have q46_13 : T13[46]? = some (.int .i64 X3) := by subst hT; exact (by first | (simp only [↓Array.getElem?_setIfInBounds_ne, ne_eq, Nat.reduceEqDiff, not_false_eq_true, q46_12]; done) | simp [hs12, f18_12, f19_12, f20_12, f21_12, f22_12, f23_12, f24_12, f25_12, f26_12, f27_12, f28_12, f29_12, f30_12, f31_12, f32_12, f33_12, f34_12, f35_12, f36_12, f37_12, f38_12, f39_12, f40_12, f41_12, f42_12, f43_12, f44_12, f45_12, f46_12, f47_12, f48_12, f49_12, f50_12, f51_12, f52_12, f53_12, f54_12, f55_12, f56_12, f57_12, f58_12, f59_12, f60_12])
    have f46_13 := fun hh => getq q46_13 hh
    have q47_13 : T13[47]? = some (.int .i64 Y3) := by subst hT; exact (by first | (simp only [↓Array.getElem?_setIfInBounds_ne, ne_eq, Nat.reduceEqDiff, not_false_eq_true, q47_12]; done) | simp [hs12, f18_12, f19_12, f20_12, f21_12, f22_12, f23_12, f24_12, f25_12, f26_12, f27_12, f28_12, f29_12, f30_12, f31_12, f32_12, f33_12, f34_12, f35_12, f36_12, f37_12, f38_12, f39_12, f40_12, f41_12, f42_12, f43_12, f44_12, f45_12, f46_12, f47_12, f48_12, f49_12, f50_12, f51_12, f52_12, f53_12, f54_12, f55_12, f56_12, f57_12, f58_12, f59_12, f60_12])
    have f47_13 := fun hh => getq q47_13 hh
    have q48_13 : T13[48]? = some (.bool O3) := by subst hT; exact (by first | (simp only [↓Array.getElem?_setIfInBounds_ne, ne_eq, Nat.reduceEqDiff, not_false_eq_true, q48_12]; done) | simp [hs12, f18_12, f19_12, f20_12, f21_12, f22_12, f23_12, f24_12, f25_12, f26_12, f27_12, f28_12, f29_12, f30_12, f31_12, f32_12, f33_12, f34_12, f35_12, f36_12, f37_12, f38_12, f39_12, f40_12, f41_12, f42_12, f43_12, f44_12, f45_12, f46_12, f47_12, f48_12, f49_12, f50_12, f51_12, f52_12, f53_12, f54_12, f55_12, f56_12, f57_12, f58_12, f59_12, f60_12])
    have f48_13 := fun hh => getq q48_13 hh
    have q49_13 : T13[49]? = some (.int .i64 X3) := by subst hT; exact (by first | (simp only [↓Array.getElem?_setIfInBounds_ne, ne_eq, Nat.reduceEqDiff, not_false_eq_true, q49_12]; done) | simp [hs12, f18_12, f19_12, f20_12, f21_12, f22_12, f23_12, f24_12, f25_12, f26_12, f27_12, f28_12, f29_12, f30_12, f31_12, f32_12, f33_12, f34_12, f35_12, f36_12, f37_12, f38_12, f39_12, f40_12, f41_12, f42_12, f43_12, f44_12, f45_12, f46_12, f47_12, f48_12, f49_12, f50_12, f51_12, f52_12, f53_12, f54_12, f55_12, f56_12, f57_12, f58_12, f59_12, f60_12])
    have f49_13 := fun hh => getq q49_13 hh
    have q50_13 : T13[50]? = some (.int .i64 Y3) := by subst hT; exact (by first | (simp only [↓Array.getElem?_setIfInBounds_ne, ne_eq, Nat.reduceEqDiff, not_false_eq_true, q50_12]; done) | simp [hs12, f18_12, f19_12, f20_12, f21_12, f22_12, f23_12, f24_12, f25_12, f26_12, f27_12, f28_12, f29_12, f30_12, f31_12, f32_12, f33_12, f34_12, f35_12, f36_12, f37_12, f38_12, f39_12, f40_12, f41_12, f42_12, f43_12, f44_12, f45_12, f46_12, f47_12, f48_12, f49_12, f50_12, f51_12, f52_12, f53_12, f54_12, f55_12, f56_12, f57_12, f58_12, f59_12, f60_12])
    have f50_13 := fun hh => getq q50_13 hh
    have q51_13 : T13[51]? = some (.bool O3) := by subst hT; exact (by first | (simp only [↓Array.getElem?_setIfInBounds_ne, ne_eq, Nat.reduceEqDiff, not_false_eq_true, q51_12]; done) | simp [hs12, f18_12, f19_12, f20_12, f21_12, f22_12, f23_12, f24_12, f25_12, f26_12, f27_12, f28_12, f29_12, f30_12, f31_12, f32_12, f33_12, f34_12, f35_12, f36_12, f37_12, f38_12, f39_12, f40_12, f41_12, f42_12, f43_12, f44_12, f45_12, f46_12, f47_12, f48_12, f49_12, f50_12, f51_12, f52_12, f53_12, f54_12, f55_12, f56_12, f57_12, f58_12, f59_12, f60_12])
    have f51_13 := fun hh => getq q51_13 hh
    have q52_13 : T13[52]? = some (.int .i64 ad) := by subst hT; exact (by first | (simp only [↓Array.getElem?_setIfInBounds_ne, ne_eq, Nat.reduceEqDiff, not_false_eq_true, q52_12]; done) | simp [hs12, f18_12, f19_12, f20_12, f21_12, f22_12, f23_12, f24_12, f25_12, f26_12, f27_12, f28_12, f29_12, f30_12, f31_12, f32_12, f33_12, f34_12, f35_12, f36_12, f37_12, f38_12, f39_12, f40_12, f41_12, f42_12, f43_12, f44_12, f45_12, f46_12, f47_12, f48_12, f49_12, f50_12, f51_12, f52_12, f53_12, f54_12, f55_12, f56_12, f57_12, f58_12, f59_12, f60_12])
    have f52_13 := fun hh => getq q52_13 hh
    have q53_13 : T13[53]? = some (.int .i64 bd) := by subst hT; exact (by first | (simp only [↓Array.getElem?_setIfInBounds_ne, ne_eq, Nat.reduceEqDiff, not_false_eq_true, q53_12]; done) | simp [hs12, f18_12, f19_12, f20_12, f21_12, f22_12, f23_12, f24_12, f25_12, f26_12, f27_12, f28_12, f29_12, f30_12, f31_12, f32_12, f33_12, f34_12, f35_12, f36_12, f37_12, f38_12, f39_12, f40_12, f41_12, f42_12, f43_12, f44_12, f45_12, f46_12, f47_12, f48_12, f49_12, f50_12, f51_12, f52_12, f53_12, f54_12, f55_12, f56_12, f57_12, f58_12, f59_12, f60_12])
    have f53_13 := fun hh => getq q53_13 hh
    have q54_13 : T13[54]? = some (.int .i64 cd) := by subst hT; exact (by first | (simp only [↓Array.getElem?_setIfInBounds_ne, ne_eq, Nat.reduceEqDiff, not_false_eq_true, q54_12]; done) | simp [hs12, f18_12, f19_12, f20_12, f21_12, f22_12, f23_12, f24_12, f25_12, f26_12, f27_12, f28_12, f29_12, f30_12, f31_12, f32_12, f33_12, f34_12, f35_12, f36_12, f37_12, f38_12, f39_12, f40_12, f41_12, f42_12, f43_12, f44_12, f45_12, f46_12, f47_12, f48_12, f49_12, f50_12, f51_12, f52_12, f53_12, f54_12, f55_12, f56_12, f57_12, f58_12, f59_12, f60_12])
    have f54_13 := fun hh => getq q54_13 hh
    have q55_13 : T13[55]? = some (.int .i64 X4) := by subst hT; exact (by first | (simp only [↓Array.getElem?_setIfInBounds_ne, ne_eq, Nat.reduceEqDiff, not_false_eq_true, q55_12]; done) | simp [hs12, f18_12, f19_12, f20_12, f21_12, f22_12, f23_12, f24_12, f25_12, f26_12, f27_12, f28_12, f29_12, f30_12, f31_12, f32_12, f33_12, f34_12, f35_12, f36_12, f37_12, f38_12, f39_12, f40_12, f41_12, f42_12, f43_12, f44_12, f45_12, f46_12, f47_12, f48_12, f49_12, f50_12, f51_12, f52_12, f53_12, f54_12, f55_12, f56_12, f57_12, f58_12, f59_12, f60_12])
    have f55_13 := fun hh => getq q55_13 hh
    have q56_13 : T13[56]? = some (.int .i64 Y4) := by subst hT; exact (by first | (simp only [↓Array.getElem?_setIfInBounds_ne, ne_eq, Nat.reduceEqDiff, not_false_eq_true, q56_12]; done) | simp [hs12, f18_12, f19_12, f20_12, f21_12, f22_12, f23_12, f24_12, f25_12, f26_12, f27_12, f28_12, f29_12, f30_12, f31_12, f32_12, f33_12, f34_12, f35_12, f36_12, f37_12, f38_12, f39_12, f40_12, f41_12, f42_12, f43_12, f44_12, f45_12, f46_12, f47_12, f48_12, f49_12, f50_12, f51_12, f52_12, f53_12, f54_12, f55_12, f56_12, f57_12, f58_12, f59_12, f60_12])
    have f56_13 := fun hh => getq q56_13 hh
    have q57_13 : T13[57]? = some (.bool O4) := by subst hT; exact (by first | (simp only [↓Array.getElem?_setIfInBounds_ne, ne_eq, Nat.reduceEqDiff, not_false_eq_true, q57_12]; done) | simp [hs12, f18_12, f19_12, f20_12, f21_12, f22_12, f23_12, f24_12, f25_12, f26_12, f27_12, f28_12, f29_12, f30_12, f31_12, f32_12, f33_12, f34_12, f35_12, f36_12, f37_12, f38_12, f39_12, f40_12, f41_12, f42_12, f43_12, f44_12, f45_12, f46_12, f47_12, f48_12, f49_12, f50_12, f51_12, f52_12, f53_12, f54_12, f55_12, f56_12, f57_12, f58_12, f59_12, f60_12])
    have f57_13 := fun hh => getq q57_13 hh
    have q58_13 : T13[58]? = some (.int .i64 X4) := by subst hT; exact (by first | (simp only [↓Array.getElem?_setIfInBounds_ne, ne_eq, Nat.reduceEqDiff, not_false_eq_true, q58_12]; done) | simp [hs12, f18_12, f19_12, f20_12, f21_12, f22_12, f23_12, f24_12, f25_12, f26_12, f27_12, f28_12, f29_12, f30_12, f31_12, f32_12, f33_12, f34_12, f35_12, f36_12, f37_12, f38_12, f39_12, f40_12, f41_12, f42_12, f43_12, f44_12, f45_12, f46_12, f47_12, f48_12, f49_12, f50_12, f51_12, f52_12, f53_12, f54_12, f55_12, f56_12, f57_12, f58_12, f59_12, f60_12])
    have f58_13 := fun hh => getq q58_13 hh
    have q59_13 : T13[59]? = some (.int .i64 Y4) := by subst hT; exact (by first | (simp only [↓Array.getElem?_setIfInBounds_ne, ne_eq, Nat.reduceEqDiff, not_false_eq_true, q59_12]; done) | simp [hs12, f18_12, f19_12, f20_12, f21_12, f22_12, f23_12, f24_12, f25_12, f26_12, f27_12, f28_12, f29_12, f30_12, f31_12, f32_12, f33_12, f34_12, f35_12, f36_12, f37_12, f38_12, f39_12, f40_12, f41_12, f42_12, f43_12, f44_12, f45_12, f46_12, f47_12, f48_12, f49_12, f50_12, f51_12, f52_12, f53_12, f54_12, f55_12, f56_12, f57_12, f58_12, f59_12, f60_12])
    have f59_13 := fun hh => getq q59_13 hh
    have q60_13 : T13[60]? = some (.bool O4) := by subst hT; exact (by first | (simp only [↓Array.getElem?_setIfInBounds_ne, ne_eq, Nat.reduceEqDiff, not_false_eq_true, q60_12]; done) | simp [hs12, f18_12, f19_12, f20_12, f21_12, f22_12, f23_12, f24_12, f25_12, f26_12, f27_12, f28_12, f29_12, f30_12, f31_12, f32_12, f33_12, f34_12, f35_12, f36_12, f37_12, f38_12, f39_12, f40_12, f41_12, f42_12, f43_12, f44_12, f45_12, f46_12, f47_12, f48_12, f49_12, f50_12, f51_12, f52_12, f53_12, f54_12, f55_12, f56_12, f57_12, f58_12, f59_12, f60_12])
    have f60_13 := fun hh => getq q60_13 hh
    have q61_13 : T13[61]? = some (.int .i64 X5) := by subst hT; exact (by first | (simp only [↓Array.getElem?_setIfInBounds_ne, ne_eq, Nat.reduceEqDiff, not_false_eq_true]; done) | simp [hs12, f18_12, f19_12, f20_12, f21_12, f22_12, f23_12, f24_12, f25_12, f26_12, f27_12, f28_12, f29_12, f30_12, f31_12, f32_12, f33_12, f34_12, f35_12, f36_12, f37_12, f38_12, f39_12, f40_12, f41_12, f42_12, f43_12, f44_12, f45_12, f46_12, f47_12, f48_12, f49_12, f50_12, f51_12, f52_12, f53_12, f54_12, f55_12, f56_12, f57_12, f58_12, f59_12, f60_12])
    have f61_13 := fun hh => getq q61_13 hh
    have q62_13 : T13[62]? = some (.int .i64 Y5) := by subst hT; exact (by first | (simp only [↓Array.getElem?_setIfInBounds_ne, ne_eq, Nat.reduceEqDiff, not_false_eq_true]; done) | simp [hs12, f18_12, f19_12, f20_12, f21_12, f22_12, f23_12, f24_12, f25_12, f26_12, f27_12, f28_12, f29_12, f30_12, f31_12, f32_12, f33_12, f34_12, f35_12, f36_12, f37_12, f38_12, f39_12, f40_12, f41_12, f42_12, f43_12, f44_12, f45_12, f46_12, f47_12, f48_12, f49_12, f50_12, f51_12, f52_12, f53_12, f54_12, f55_12, f56_12, f57_12, f58_12, f59_12, f60_12])
    have f62_13 := fun hh => getq q62_13 hh
    have q63_13 : T13[63]? = some (.bool O5) := by subst hT; exact (by first | (simp only [↓Array.getElem?_setIfInBounds_ne, ne_eq, Nat.reduceEqDiff, not_false_eq_true]; done) | simp [hs12, f18_12, f19_12, f20_12, f21_12, f22_12, f23_12, f24_12, f25_12, f26_12, f27_12, f28_12, f29_12, f30_12, f31_12, f32_12, f33_12, f34_12, f35_12, f36_12, f37_12, f38_12, f39_12, f40_12, f41_12, f42_12, f43_12, f44_12, f45_12, f46_12, f47_12, f48_12, f49_12, f50_12, f51_12, f52_12, f53_12, f54_12, f55_12, f56_12, f57_12, f58_12, f59_12, f60_12])
    have f63_13 := fun hh => getq q63_13 hh
    have q64_13 : T13[64]? = some (.int .i64 X5) := by subst hT; exact (by first | (simp only [↓Array.getElem?_setIfInBounds_ne, ne_eq, Nat.reduceEqDiff, not_false_eq_true]; done) | simp [hs12, f18_12, f19_12, f20_12, f21_12, f22_12, f23_12, f24_12, f25_12, f26_12, f27_12, f28_12, f29_12, f30_12, f31_12, f32_12, f33_12, f34_12, f35_12, f36_12, f37_12, f38_12, f39_12, f40_12, f41_12, f42_12, f43_12, f44_12, f45_12, f46_12, f47_12, f48_12, f49_12, f50_12, f51_12, f52_12, f53_12, f54_12, f55_12, f56_12, f57_12, f58_12, f59_12, f60_12])
    have f64_13 := fun hh => getq q64_13 hh
    have q65_13 : T13[65]? = some (.int .i64 Y5) := by subst hT; exact (by first | (simp only [↓Array.getElem?_setIfInBounds_ne, ne_eq, Nat.reduceEqDiff, not_false_eq_true]; done) | simp [hs12, f18_12, f19_12, f20_12, f21_12, f22_12, f23_12, f24_12, f25_12, f26_12, f27_12, f28_12, f29_12, f30_12, f31_12, f32_12, f33_12, f34_12, f35_12, f36_12, f37_12, f38_12, f39_12, f40_12, f41_12, f42_12, f43_12, f44_12, f45_12, f46_12, f47_12, f48_12, f49_12, f50_12, f51_12, f52_12, f53_12, f54_12, f55_12, f56_12, f57_12, f58_12, f59_12, f60_12])
    have f65_13 := fun hh => getq q65_13 hh
    have q66_13 : T13[66]? = some (.bool O5) := by subst hT; exact (by first | (simp only [↓Array.getElem?_setIfInBounds_ne, ne_eq, Nat.reduceEqDiff, not_false_eq_true]; done) | simp [hs12, f18_12, f19_12, f20_12, f21_12, f22_12, f23_12, f24_12, f25_12, f26_12, f27_12, f28_12, f29_12, f30_12, f31_12, f32_12, f33_12, f34_12, f35_12, f36_12, f37_12, f38_12, f39_12, f40_12, f41_12, f42_12, f43_12, f44_12, f45_12, f46_12, f47_12, f48_12, f49_12, f50_12, f51_12, f52_12, f53_12, f54_12, f55_12, f56_12, f57_12, f58_12, f59_12, f60_12])
    have f66_13 := fun hh => getq q66_13 hh
    have q67_13 : T13[67]? = some (.int .i64 U5) := by subst hT; exact (by first | (simp only [↓Array.getElem?_setIfInBounds_ne, ne_eq, Nat.reduceEqDiff, not_false_eq_true]; done) | simp [hs12, f18_12, f19_12, f20_12, f21_12, f22_12, f23_12, f24_12, f25_12, f26_12, f27_12, f28_12, f29_12, f30_12, f31_12, f32_12, f33_12, f34_12, f35_12, f36_12, f37_12, f38_12, f39_12, f40_12, f41_12, f42_12, f43_12, f44_12, f45_12, f46_12, f47_12, f48_12, f49_12, f50_12, f51_12, f52_12, f53_12, f54_12, f55_12, f56_12, f57_12, f58_12, f59_12, f60_12])
    have f67_13 := fun hh => getq q67_13 hh
    have q68_13 : T13[68]? = some (.int .i64 V5) := by subst hT; exact (by first | (simp only [↓Array.getElem?_setIfInBounds_ne, ne_eq, Nat.reduceEqDiff, not_false_eq_true]; done) | simp [hs12, f18_12, f19_12, f20_12, f21_12, f22_12, f23_12, f24_12, f25_12, f26_12, f27_12, f28_12, f29_12, f30_12, f31_12, f32_12, f33_12, f34_12, f35_12, f36_12, f37_12, f38_12, f39_12, f40_12, f41_12, f42_12, f43_12, f44_12, f45_12, f46_12, f47_12, f48_12, f49_12, f50_12, f51_12, f52_12, f53_12, f54_12, f55_12, f56_12, f57_12, f58_12, f59_12, f60_12])
    have f68_13 := fun hh => getq q68_13 hh
    have q69_13 : T13[69]? = some (.bool O5) := by subst hT; exact (by first | (simp only [↓Array.getElem?_setIfInBounds_ne, ne_eq, Nat.reduceEqDiff, not_false_eq_true]; done) | simp [hs12, f18_12, f19_12, f20_12, f21_12, f22_12, f23_12, f24_12, f25_12, f26_12, f27_12, f28_12, f29_12, f30_12, f31_12, f32_12, f33_12, f34_12, f35_12, f36_12, f37_12, f38_12, f39_12, f40_12, f41_12, f42_12, f43_12, f44_12, f45_12, f46_12, f47_12, f48_12, f49_12, f50_12, f51_12, f52_12, f53_12, f54_12, f55_12, f56_12, f57_12, f58_12, f59_12, f60_12])
    have f69_13 := fun hh => getq q69_13 hh
    clear hT f60_12 f59_12 f58_12 f57_12 f56_12 f55_12 f54_12 f53_12 f52_12 f51_12 f50_12 f49_12 f48_12 f47_12 f46_12 f45_12 f44_12 f43_12 f42_12 f41_12 f40_12 f39_12 f38_12 f37_12 f36_12 f35_12 f34_12 f33_12 f32_12 f31_12 f30_12 f29_12 f28_12 f27_12 f26_12 f25_12 f24_12 f23_12 f22_12 f21_12 f20_12 f19_12 f18_12 hs12 q18_12 q19_12 q20_12 q21_12 q22_12 q23_12 q24_12 q25_12 q26_12 q27_12 q28_12 q29_12 q30_12 q31_12 q32_12 q33_12 q34_12 q35_12 q36_12 q37_12 q38_12 q39_12 q40_12 q41_12 q42_12 q43_12 q44_12 q45_12 q46_12 q47_12 q48_12 q49_12 q50_12 q51_12 q52_12 q53_12 q54_12 q55_12 q56_12 q57_12 q58_12 q59_12 q60_12
    go_wp2_with fail
    refine ((P6 _).out).mono ?_
    rintro e w25 ⟨rfl, hb25⟩
    have HB25 := Lib.hid (show Below w.heap.size w w25 from bl_trans hb25 (by repeat (first | exact HB24.out | exact Below.refl _ _ | refine bl_drewN ?_ _)))
    clear hb25
    clear P1 P2 P3 P4 P5 P6
    go_wp2_with fail
    refine wp_cond_f ?_ ?_
    · (go_simp <;> omega)
    go_upto_region 35 with fail
    refine reframe fun T14 hT => ?_
    have hs14 : T14.size = 540 := by subst hT; simp [hs13]
    have q18_14 : T14[18]? = some (.int .i64 pa) := by subst hT; exact (by first | (simp only [↓Array.getElem?_setIfInBounds_ne, ne_eq, Nat.reduceEqDiff, not_false_eq_true, q18_13]; done) | simp [hs13, f18_13, f19_13, f20_13, f21_13, f22_13, f23_13, f24_13, f25_13, f26_13, f27_13, f28_13, f29_13, f30_13, f31_13, f32_13, f33_13, f34_13, f35_13, f36_13, f37_13, f38_13, f39_13, f40_13, f41_13, f42_13, f43_13, f44_13, f45_13, f46_13, f47_13, f48_13, f49_13, f50_13, f51_13, f52_13, f53_13, f54_13, f55_13, f56_13, f57_13, f58_13, f59_13, f60_13, f61_13, f62_13, f63_13, f64_13, f65_13, f66_13, f67_13, f68_13, f69_13])
    have f18_14 := fun hh => getq q18_14 hh
    have q19_14 : T14[19]? = some (.int .i64 ha) := by subst hT; exact (by first | (simp only [↓Array.getElem?_setIfInBounds_ne, ne_eq, Nat.reduceEqDiff, not_false_eq_true, q19_13]; done) | simp [hs13, f18_13, f19_13, f20_13, f21_13, f22_13, f23_13, f24_13, f25_13, f26_13, f27_13, f28_13, f29_13, f30_13, f31_13, f32_13, f33_13, f34_13, f35_13, f36_13, f37_13, f38_13, f39_13, f40_13, f41_13, f42_13, f43_13, f44_13, f45_13, f46_13, f47_13, f48_13, f49_13, f50_13, f51_13, f52_13, f53_13, f54_13, f55_13, f56_13, f57_13, f58_13, f59_13, f60_13, f61_13, f62_13, f63_13, f64_13, f65_13, f66_13, f67_13, f68_13, f69_13])
    have f19_14 := fun hh => getq q19_14 hh
    have q20_14 : T14[20]? = some (.int .i64 ta) := by subst hT; exact (by first | (simp only [↓Array.getElem?_setIfInBounds_ne, ne_eq, Nat.reduceEqDiff, not_false_eq_true, q20_13]; done) | simp [hs13, f18_13, f19_13, f20_13, f21_13, f22_13, f23_13, f24_13, f25_13, f26_13, f27_13, f28_13, f29_13, f30_13, f31_13, f32_13, f33_13, f34_13, f35_13, f36_13, f37_13, f38_13, f39_13, f40_13, f41_13, f42_13, f43_13, f44_13, f45_13, f46_13, f47_13, f48_13, f49_13, f50_13, f51_13, f52_13, f53_13, f54_13, f55_13, f56_13, f57_13, f58_13, f59_13, f60_13, f61_13, f62_13, f63_13, f64_13, f65_13, f66_13, f67_13, f68_13, f69_13])
    have f20_14 := fun hh => getq q20_14 hh
    have q21_14 : T14[21]? = some (.int .i64 X1) := by subst hT; exact (by first | (simp only [↓Array.getElem?_setIfInBounds_ne, ne_eq, Nat.reduceEqDiff, not_false_eq_true, q21_13]; done) | simp [hs13, f18_13, f19_13, f20_13, f21_13, f22_13, f23_13, f24_13, f25_13, f26_13, f27_13, f28_13, f29_13, f30_13, f31_13, f32_13, f33_13, f34_13, f35_13, f36_13, f37_13, f38_13, f39_13, f40_13, f41_13, f42_13, f43_13, f44_13, f45_13, f46_13, f47_13, f48_13, f49_13, f50_13, f51_13, f52_13, f53_13, f54_13, f55_13, f56_13, f57_13, f58_13, f59_13, f60_13, f61_13, f62_13, f63_13, f64_13, f65_13, f66_13, f67_13, f68_13, f69_13])
    have f21_14 := fun hh => getq q21_14 hh
    have q22_14 : T14[22]? = some (.int .i64 Y1) := by subst hT; exact (by first | (simp only [↓Array.getElem?_setIfInBounds_ne, ne_eq, Nat.reduceEqDiff, not_false_eq_true, q22_13]; done) | simp [hs13, f18_13, f19_13, f20_13, f21_13, f22_13, f23_13, f24_13, f25_13, f26_13, f27_13, f28_13, f29_13, f30_13, f31_13, f32_13, f33_13, f34_13, f35_13, f36_13, f37_13, f38_13, f39_13, f40_13, f41_13, f42_13, f43_13, f44_13, f45_13, f46_13, f47_13, f48_13, f49_13, f50_13, f51_13, f52_13, f53_13, f54_13, f55_13, f56_13, f57_13, f58_13, f59_13, f60_13, f61_13, f62_13, f63_13, f64_13, f65_13, f66_13, f67_13, f68_13, f69_13])
    have f22_14 := fun hh => getq q22_14 hh
    have q23_14 : T14[23]? = some (.bool O1) := by subst hT; exact (by first | (simp only [↓Array.getElem?_setIfInBounds_ne, ne_eq, Nat.reduceEqDiff, not_false_eq_true, q23_13]; done) | simp [hs13, f18_13, f19_13, f20_13, f21_13, f22_13, f23_13, f24_13, f25_13, f26_13, f27_13, f28_13, f29_13, f30_13, f31_13, f32_13, f33_13, f34_13, f35_13, f36_13, f37_13, f38_13, f39_13, f40_13, f41_13, f42_13, f43_13, f44_13, f45_13, f46_13, f47_13, f48_13, f49_13, f50_13, f51_13, f52_13, f53_13, f54_13, f55_13, f56_13, f57_13, f58_13, f59_13, f60_13, f61_13, f62_13, f63_13, f64_13, f65_13, f66_13, f67_13, f68_13, f69_13])
    have f23_14 := fun hh => getq q23_14 hh
    have q33_14 : T14[33]? = some (.int .i64 eb) := by subst hT; exact (by first | (simp only [↓Array.getElem?_setIfInBounds_ne, ne_eq, Nat.reduceEqDiff, not_false_eq_true, q33_13]; done) | simp [hs13, f18_13, f19_13, f20_13, f21_13, f22_13, f23_13, f24_13, f25_13, f26_13, f27_13, f28_13, f29_13, f30_13, f31_13, f32_13, f33_13, f34_13, f35_13, f36_13, f37_13, f38_13, f39_13, f40_13, f41_13, f42_13, f43_13, f44_13, f45_13, f46_13, f47_13, f48_13, f49_13, f50_13, f51_13, f52_13, f53_13, f54_13, f55_13, f56_13, f57_13, f58_13, f59_13, f60_13, f61_13, f62_13, f63_13, f64_13, f65_13, f66_13, f67_13, f68_13, f69_13])
    have f33_14 := fun hh => getq q33_14 hh
    have q34_14 : T14[34]? = some (.int .i64 tb) := by subst hT; exact (by first | (simp only [↓Array.getElem?_setIfInBounds_ne, ne_eq, Nat.reduceEqDiff, not_false_eq_true, q34_13]; done) | simp [hs13, f18_13, f19_13, f20_13, f21_13, f22_13, f23_13, f24_13, f25_13, f26_13, f27_13, f28_13, f29_13, f30_13, f31_13, f32_13, f33_13, f34_13, f35_13, f36_13, f37_13, f38_13, f39_13, f40_13, f41_13, f42_13, f43_13, f44_13, f45_13, f46_13, f47_13, f48_13, f49_13, f50_13, f51_13, f52_13, f53_13, f54_13, f55_13, f56_13, f57_13, f58_13, f59_13, f60_13, f61_13, f62_13, f63_13, f64_13, f65_13, f66_13, f67_13, f68_13, f69_13])
    have f34_14 := fun hh => getq q34_14 hh
    have q35_14 : T14[35]? = some (.int .i64 nb) := by subst hT; exact (by first | (simp only [↓Array.getElem?_setIfInBounds_ne, ne_eq, Nat.reduceEqDiff, not_false_eq_true, q35_13]; done) | simp [hs13, f18_13, f19_13, f20_13, f21_13, f22_13, f23_13, f24_13, f25_13, f26_13, f27_13, f28_13, f29_13, f30_13, f31_13, f32_13, f33_13, f34_13, f35_13, f36_13, f37_13, f38_13, f39_13, f40_13, f41_13, f42_13, f43_13, f44_13, f45_13, f46_13, f47_13, f48_13, f49_13, f50_13, f51_13, f52_13, f53_13, f54_13, f55_13, f56_13, f57_13, f58_13, f59_13, f60_13, f61_13, f62_13, f63_13, f64_13, f65_13, f66_13, f67_13, f68_13, f69_13])
    have f35_14 := fun hh => getq q35_14 hh
    have q36_14 : T14[36]? = some (.int .i64 fb) := by subst hT; exact (by first | (simp only [↓Array.getElem?_setIfInBounds_ne, ne_eq, Nat.reduceEqDiff, not_false_eq_true, q36_13]; done) | simp [hs13, f18_13, f19_13, f20_13, f21_13, f22_13, f23_13, f24_13, f25_13, f26_13, f27_13, f28_13, f29_13, f30_13, f31_13, f32_13, f33_13, f34_13, f35_13, f36_13, f37_13, f38_13, f39_13, f40_13, f41_13, f42_13, f43_13, f44_13, f45_13, f46_13, f47_13, f48_13, f49_13, f50_13, f51_13, f52_13, f53_13, f54_13, f55_13, f56_13, f57_13, f58_13, f59_13, f60_13, f61_13, f62_13, f63_13, f64_13, f65_13, f66_13, f67_13, f68_13, f69_13])
    have f36_14 := fun hh => getq q36_14 hh
    have q37_14 : T14[37]? = some (.int .i64 X2) := by subst hT; exact (by first | (simp only [↓Array.getElem?_setIfInBounds_ne, ne_eq, Nat.reduceEqDiff, not_false_eq_true, q37_13]; done) | simp [hs13, f18_13, f19_13, f20_13, f21_13, f22_13, f23_13, f24_13, f25_13, f26_13, f27_13, f28_13, f29_13, f30_13, f31_13, f32_13, f33_13, f34_13, f35_13, f36_13, f37_13, f38_13, f39_13, f40_13, f41_13, f42_13, f43_13, f44_13, f45_13, f46_13, f47_13, f48_13, f49_13, f50_13, f51_13, f52_13, f53_13, f54_13, f55_13, f56_13, f57_13, f58_13, f59_13, f60_13, f61_13, f62_13, f63_13, f64_13, f65_13, f66_13, f67_13, f68_13, f69_13])
    have f37_14 := fun hh => getq q37_14 hh
    have q38_14 : T14[38]? = some (.int .i64 Y2) := by subst hT; exact (by first | (simp only [↓Array.getElem?_setIfInBounds_ne, ne_eq, Nat.reduceEqDiff, not_false_eq_true, q38_13]; done) | simp [hs13, f18_13, f19_13, f20_13, f21_13, f22_13, f23_13, f24_13, f25_13, f26_13, f27_13, f28_13, f29_13, f30_13, f31_13, f32_13, f33_13, f34_13, f35_13, f36_13, f37_13, f38_13, f39_13, f40_13, f41_13, f42_13, f43_13, f44_13, f45_13, f46_13, f47_13, f48_13, f49_13, f50_13, f51_13, f52_13, f53_13, f54_13, f55_13, f56_13, f57_13, f58_13, f59_13, f60_13, f61_13, f62_13, f63_13, f64_13, f65_13, f66_13, f67_13, f68_13, f69_13])
    have f38_14 := fun hh => getq q38_14 hh
    have q39_14 : T14[39]? = some (.bool O2) := by subst hT; exact (by first | (simp only [↓Array.getElem?_setIfInBounds_ne, ne_eq, Nat.reduceEqDiff, not_false_eq_true, q39_13]; done) | simp [hs13, f18_13, f19_13, f20_13, f21_13, f22_13, f23_13, f24_13, f25_13, f26_13, f27_13, f28_13, f29_13, f30_13, f31_13, f32_13, f33_13, f34_13, f35_13, f36_13, f37_13, f38_13, f39_13, f40_13, f41_13, f42_13, f43_13, f44_13, f45_13, f46_13, f47_13, f48_13, f49_13, f50_13, f51_13, f52_13, f53_13, f54_13, f55_13, f56_13, f57_13, f58_13, f59_13, f60_13, f61_13, f62_13, f63_13, f64_13, f65_13, f66_13, f67_13, f68_13, f69_13])
    have f39_14 := fun hh => getq q39_14 hh
    have q43_14 : T14[43]? = some (.int .i64 ac) := by subst hT; exact (by first | (simp only [↓Array.getElem?_setIfInBounds_ne, ne_eq, Nat.reduceEqDiff, not_false_eq_true, q43_13]; done) | simp [hs13, f18_13, f19_13, f20_13, f21_13, f22_13, f23_13, f24_13, f25_13, f26_13, f27_13, f28_13, f29_13, f30_13, f31_13, f32_13, f33_13, f34_13, f35_13, f36_13, f37_13, f38_13, f39_13, f40_13, f41_13, f42_13, f43_13, f44_13, f45_13, f46_13, f47_13, f48_13, f49_13, f50_13, f51_13, f52_13, f53_13, f54_13, f55_13, f56_13, f57_13, f58_13, f59_13, f60_13, f61_13, f62_13, f63_13, f64_13, f65_13, f66_13, f67_13, f68_13, f69_13])
    have f43_14 := fun hh => getq q43_14 hh
    have q44_14 : T14[44]? = some (.int .i64 sc) := by subst hT; exact (by first | (simp only [↓Array.getElem?_setIfInBounds_ne, ne_eq, Nat.reduceEqDiff, not_false_eq_true, q44_13]; done) | simp [hs13, f18_13, f19_13, f20_13, f21_13, f22_13, f23_13, f24_13, f25_13, f26_13, f27_13, f28_13, f29_13, f30_13, f31_13, f32_13, f33_13, f34_13, f35_13, f36_13, f37_13, f38_13, f39_13, f40_13, f41_13, f42_13, f43_13, f44_13, f45_13, f46_13, f47_13, f48_13, f49_13, f50_13, f51_13, f52_13, f53_13, f54_13, f55_13, f56_13, f57_13, f58_13, f59_13, f60_13, f61_13, f62_13, f63_13, f64_13, f65_13, f66_13, f67_13, f68_13, f69_13])
    have f44_14 := fun hh => getq q44_14 hh
    have q45_14 : T14[45]? = some (.int .i64 ic) := by subst hT; exact (by first | (simp only [↓Array.getElem?_setIfInBounds_ne, ne_eq, Nat.reduceEqDiff, not_false_eq_true, q45_13]; done) | simp [hs13, f18_13, f19_13, f20_13, f21_13, f22_13, f23_13, f24_13, f25_13, f26_13, f27_13, f28_13, f29_13, f30_13, f31_13, f32_13, f33_13, f34_13, f35_13, f36_13, f37_13, f38_13, f39_13, f40_13, f41_13, f42_13, f43_13, f44_13, f45_13, f46_13, f47_13, f48_13, f49_13, f50_13, f51_13, f52_13, f53_13, f54_13, f55_13, f56_13, f57_13, f58_13, f59_13, f60_13, f61_13, f62_13, f63_13, f64_13, f65_13, f66_13, f67_13, f68_13, f69_13])
    have f45_14 := fun hh => getq q45_14 hh
    have q46_14 : T14[46]? = some (.int .i64 X3) := by subst hT; exact (by first | (simp only [↓Array.getElem?_setIfInBounds_ne, ne_eq, Nat.reduceEqDiff, not_false_eq_true, q46_13]; done) | simp [hs13, f18_13, f19_13, f20_13, f21_13, f22_13, f23_13, f24_13, f25_13, f26_13, f27_13, f28_13, f29_13, f30_13, f31_13, f32_13, f33_13, f34_13, f35_13, f36_13, f37_13, f38_13, f39_13, f40_13, f41_13, f42_13, f43_13, f44_13, f45_13, f46_13, f47_13, f48_13, f49_13, f50_13, f51_13, f52_13, f53_13, f54_13, f55_13, f56_13, f57_13, f58_13, f59_13, f60_13, f61_13, f62_13, f63_13, f64_13, f65_13, f66_13, f67_13, f68_13, f69_13])
    have f46_14 := fun hh => getq q46_14 hh
    have q47_14 : T14[47]? = some (.int .i64 Y3) := by subst hT; exact (by first | (simp only [↓Array.getElem?_setIfInBounds_ne, ne_eq, Nat.reduceEqDiff, not_false_eq_true, q47_13]; done) | simp [hs13, f18_13, f19_13, f20_13, f21_13, f22_13, f23_13, f24_13, f25_13, f26_13, f27_13, f28_13, f29_13, f30_13, f31_13, f32_13, f33_13, f34_13, f35_13, f36_13, f37_13, f38_13, f39_13, f40_13, f41_13, f42_13, f43_13, f44_13, f45_13, f46_13, f47_13, f48_13, f49_13, f50_13, f51_13, f52_13, f53_13, f54_13, f55_13, f56_13, f57_13, f58_13, f59_13, f60_13, f61_13, f62_13, f63_13, f64_13, f65_13, f66_13, f67_13, f68_13, f69_13])
    have f47_14 := fun hh => getq q47_14 hh
    have q48_14 : T14[48]? = some (.bool O3) := by subst hT; exact (by first | (simp only [↓Array.getElem?_setIfInBounds_ne, ne_eq, Nat.reduceEqDiff, not_false_eq_true, q48_13]; done) | simp [hs13, f18_13, f19_13, f20_13, f21_13, f22_13, f23_13, f24_13, f25_13, f26_13, f27_13, f28_13, f29_13, f30_13, f31_13, f32_13, f33_13, f34_13, f35_13, f36_13, f37_13, f38_13, f39_13, f40_13, f41_13, f42_13, f43_13, f44_13, f45_13, f46_13, f47_13, f48_13, f49_13, f50_13, f51_13, f52_13, f53_13, f54_13, f55_13, f56_13, f57_13, f58_13, f59_13, f60_13, f61_13, f62_13, f63_13, f64_13, f65_13, f66_13, f67_13, f68_13, f69_13])
    have f48_14 := fun hh => getq q48_14 hh
    have q52_14 : T14[52]? = some (.int .i64 ad) := by subst hT; exact (by first | (simp only [↓Array.getElem?_setIfInBounds_ne, ne_eq, Nat.reduceEqDiff, not_false_eq_true, q52_13]; done) | simp [hs13, f18_13, f19_13, f20_13, f21_13, f22_13, f23_13, f24_13, f25_13, f26_13, f27_13, f28_13, f29_13, f30_13, f31_13, f32_13, f33_13, f34_13, f35_13, f36_13, f37_13, f38_13, f39_13, f40_13, f41_13, f42_13, f43_13, f44_13, f45_13, f46_13, f47_13, f48_13, f49_13, f50_13, f51_13, f52_13, f53_13, f54_13, f55_13, f56_13, f57_13, f58_13, f59_13, f60_13, f61_13, f62_13, f63_13, f64_13, f65_13, f66_13, f67_13, f68_13, f69_13])
    have f52_14 := fun hh => getq q52_14 hh
    have q53_14 : T14[53]? = some (.int .i64 bd) := by subst hT; exact (by first | (simp only [↓Array.getElem?_setIfInBounds_ne, ne_eq, Nat.reduceEqDiff, not_false_eq_true, q53_13]; done) | simp [hs13, f18_13, f19_13, f20_13, f21_13, f22_13, f23_13, f24_13, f25_13, f26_13, f27_13, f28_13, f29_13, f30_13, f31_13, f32_13, f33_13, f34_13, f35_13, f36_13, f37_13, f38_13, f39_13, f40_13, f41_13, f42_13, f43_13, f44_13, f45_13, f46_13, f47_13, f48_13, f49_13, f50_13, f51_13, f52_13, f53_13, f54_13, f55_13, f56_13, f57_13, f58_13, f59_13, f60_13, f61_13, f62_13, f63_13, f64_13, f65_13, f66_13, f67_13, f68_13, f69_13])
    have f53_14 := fun hh => getq q53_14 hh
    have q54_14 : T14[54]? = some (.int .i64 cd) := by subst hT; exact (by first | (simp only [↓Array.getElem?_setIfInBounds_ne, ne_eq, Nat.reduceEqDiff, not_false_eq_true, q54_13]; done) | simp [hs13, f18_13, f19_13, f20_13, f21_13, f22_13, f23_13, f24_13, f25_13, f26_13, f27_13, f28_13, f29_13, f30_13, f31_13, f32_13, f33_13, f34_13, f35_13, f36_13, f37_13, f38_13, f39_13, f40_13, f41_13, f42_13, f43_13, f44_13, f45_13, f46_13, f47_13, f48_13, f49_13, f50_13, f51_13, f52_13, f53_13, f54_13, f55_13, f56_13, f57_13, f58_13, f59_13, f60_13, f61_13, f62_13, f63_13, f64_13, f65_13, f66_13, f67_13, f68_13, f69_13])
    have f54_14 := fun hh => getq q54_14 hh
    have q55_14 : T14[55]? = some (.int .i64 X4) := by subst hT; exact (by first | (simp only [↓Array.getElem?_setIfInBounds_ne, ne_eq, Nat.reduceEqDiff, not_false_eq_true, q55_13]; done) | simp [hs13, f18_13, f19_13, f20_13, f21_13, f22_13, f23_13, f24_13, f25_13, f26_13, f27_13, f28_13, f29_13, f30_13, f31_13, f32_13, f33_13, f34_13, f35_13, f36_13, f37_13, f38_13, f39_13, f40_13, f41_13, f42_13, f43_13, f44_13, f45_13, f46_13, f47_13, f48_13, f49_13, f50_13, f51_13, f52_13, f53_13, f54_13, f55_13, f56_13, f57_13, f58_13, f59_13, f60_13, f61_13, f62_13, f63_13, f64_13, f65_13, f66_13, f67_13, f68_13, f69_13])
    have f55_14 := fun hh => getq q55_14 hh
    have q56_14 : T14[56]? = some (.int .i64 Y4) := by subst hT; exact (by first | (simp only [↓Array.getElem?_setIfInBounds_ne, ne_eq, Nat.reduceEqDiff, not_false_eq_true, q56_13]; done) | simp [hs13, f18_13, f19_13, f20_13, f21_13, f22_13, f23_13, f24_13, f25_13, f26_13, f27_13, f28_13, f29_13, f30_13, f31_13, f32_13, f33_13, f34_13, f35_13, f36_13, f37_13, f38_13, f39_13, f40_13, f41_13, f42_13, f43_13, f44_13, f45_13, f46_13, f47_13, f48_13, f49_13, f50_13, f51_13, f52_13, f53_13, f54_13, f55_13, f56_13, f57_13, f58_13, f59_13, f60_13, f61_13, f62_13, f63_13, f64_13, f65_13, f66_13, f67_13, f68_13, f69_13])
    have f56_14 := fun hh => getq q56_14 hh
    have q57_14 : T14[57]? = some (.bool O4) := by subst hT; exact (by first | (simp only [↓Array.getElem?_setIfInBounds_ne, ne_eq, Nat.reduceEqDiff, not_false_eq_true, q57_13]; done) | simp [hs13, f18_13, f19_13, f20_13, f21_13, f22_13, f23_13, f24_13, f25_13, f26_13, f27_13, f28_13, f29_13, f30_13, f31_13, f32_13, f33_13, f34_13, f35_13, f36_13, f37_13, f38_13, f39_13, f40_13, f41_13, f42_13, f43_13, f44_13, f45_13, f46_13, f47_13, f48_13, f49_13, f50_13, f51_13, f52_13, f53_13, f54_13, f55_13, f56_13, f57_13, f58_13, f59_13, f60_13, f61_13, f62_13, f63_13, f64_13, f65_13, f66_13, f67_13, f68_13, f69_13])
    have f57_14 := fun hh => getq q57_14 hh
    have q61_14 : T14[61]? = some (.int .i64 X5) := by subst hT; exact (by first | (simp only [↓Array.getElem?_setIfInBounds_ne, ne_eq, Nat.reduceEqDiff, not_false_eq_true, q61_13]; done) | simp [hs13, f18_13, f19_13, f20_13, f21_13, f22_13, f23_13, f24_13, f25_13, f26_13, f27_13, f28_13, f29_13, f30_13, f31_13, f32_13, f33_13, f34_13, f35_13, f36_13, f37_13, f38_13, f39_13, f40_13, f41_13, f42_13, f43_13, f44_13, f45_13, f46_13, f47_13, f48_13, f49_13, f50_13, f51_13, f52_13, f53_13, f54_13, f55_13, f56_13, f57_13, f58_13, f59_13, f60_13, f61_13, f62_13, f63_13, f64_13, f65_13, f66_13, f67_13, f68_13, f69_13])
    have f61_14 := fun hh => getq q61_14 hh
    have q62_14 : T14[62]? = some (.int .i64 Y5) := by subst hT; exact (by first | (simp only [↓Array.getElem?_setIfInBounds_ne, ne_eq, Nat.reduceEqDiff, not_false_eq_true, q62_13]; done) | simp [hs13, f18_13, f19_13, f20_13, f21_13, f22_13, f23_13, f24_13, f25_13, f26_13, f27_13, f28_13, f29_13, f30_13, f31_13, f32_13, f33_13, f34_13, f35_13, f36_13, f37_13, f38_13, f39_13, f40_13, f41_13, f42_13, f43_13, f44_13, f45_13, f46_13, f47_13, f48_13, f49_13, f50_13, f51_13, f52_13, f53_13, f54_13, f55_13, f56_13, f57_13, f58_13, f59_13, f60_13, f61_13, f62_13, f63_13, f64_13, f65_13, f66_13, f67_13, f68_13, f69_13])
    have f62_14 := fun hh => getq q62_14 hh
    have q63_14 : T14[63]? = some (.bool O5) := by subst hT; exact (by first | (simp only [↓Array.getElem?_setIfInBounds_ne, ne_eq, Nat.reduceEqDiff, not_false_eq_true, q63_13]; done) | simp [hs13, f18_13, f19_13, f20_13, f21_13, f22_13, f23_13, f24_13, f25_13, f26_13, f27_13, f28_13, f29_13, f30_13, f31_13, f32_13, f33_13, f34_13, f35_13, f36_13, f37_13, f38_13, f39_13, f40_13, f41_13, f42_13, f43_13, f44_13, f45_13, f46_13, f47_13, f48_13, f49_13, f50_13, f51_13, f52_13, f53_13, f54_13, f55_13, f56_13, f57_13, f58_13, f59_13, f60_13, f61_13, f62_13, f63_13, f64_13, f65_13, f66_13, f67_13, f68_13, f69_13])
    have f63_14 := fun hh => getq q63_14 hh
    have q67_14 : T14[67]? = some (.int .i64 U5) := by subst hT; exact (by first | (simp only [↓Array.getElem?_setIfInBounds_ne, ne_eq, Nat.reduceEqDiff, not_false_eq_true, q67_13]; done) | simp [hs13, f18_13, f19_13, f20_13, f21_13, f22_13, f23_13, f24_13, f25_13, f26_13, f27_13, f28_13, f29_13, f30_13, f31_13, f32_13, f33_13, f34_13, f35_13, f36_13, f37_13, f38_13, f39_13, f40_13, f41_13, f42_13, f43_13, f44_13, f45_13, f46_13, f47_13, f48_13, f49_13, f50_13, f51_13, f52_13, f53_13, f54_13, f55_13, f56_13, f57_13, f58_13, f59_13, f60_13, f61_13, f62_13, f63_13, f64_13, f65_13, f66_13, f67_13, f68_13, f69_13])
    have f67_14 := fun hh => getq q67_14 hh
    have q68_14 : T14[68]? = some (.int .i64 V5) := by subst hT; exact (by first | (simp only [↓Array.getElem?_setIfInBounds_ne, ne_eq, Nat.reduceEqDiff, not_false_eq_true, q68_13]; done) | simp [hs13, f18_13, f19_13, f20_13, f21_13, f22_13, f23_13, f24_13, f25_13, f26_13, f27_13, f28_13, f29_13, f30_13, f31_13, f32_13, f33_13, f34_13, f35_13, f36_13, f37_13, f38_13, f39_13, f40_13, f41_13, f42_13, f43_13, f44_13, f45_13, f46_13, f47_13, f48_13, f49_13, f50_13, f51_13, f52_13, f53_13, f54_13, f55_13, f56_13, f57_13, f58_13, f59_13, f60_13, f61_13, f62_13, f63_13, f64_13, f65_13, f66_13, f67_13, f68_13, f69_13])
    have f68_14 := fun hh => getq q68_14 hh
    clear hT f69_13 f68_13 f67_13 f66_13 f65_13 f64_13 f63_13 f62_13 f61_13 f60_13 f59_13 f58_13 f57_13 f56_13 f55_13 f54_13 f53_13 f52_13 f51_13 f50_13 f49_13 f48_13 f47_13 f46_13 f45_13 f44_13 f43_13 f42_13 f41_13 f40_13 f39_13 f38_13 f37_13 f36_13 f35_13 f34_13 f33_13 f32_13 f31_13 f30_13 f29_13 f28_13 f27_13 f26_13 f25_13 f24_13 f23_13 f22_13 f21_13 f20_13 f19_13 f18_13 hs13 q18_13 q19_13 q20_13 q21_13 q22_13 q23_13 q24_13 q25_13 q26_13 q27_13 q28_13 q29_13 q30_13 q31_13 q32_13 q33_13 q34_13 q35_13 q36_13 q37_13 q38_13 q39_13 q40_13 q41_13 q42_13 q43_13 q44_13 q45_13 q46_13 q47_13 q48_13 q49_13 q50_13 q51_13 q52_13 q53_13 q54_13 q55_13 q56_13 q57_13 q58_13 q59_13 q60_13 q61_13 q62_13 q63_13 q64_13 q65_13 q66_13 q67_13 q68_13 q69_13
    refine wp_cut (fun a' wx => ∃ T : Array Value, a' = ⟨T, []⟩ ∧ T.size = 540 ∧ T[33]? = some (.int .i64 eb) ∧ T[34]? = some (.int .i64 tb) ∧ T[35]? = some (.int .i64 nb) ∧ T[36]? = some (.int .i64 fb) ∧ T[37]? = some (.int .i64 X2) ∧ T[38]? = some (.int .i64 Y2) ∧ T[39]? = some (.bool O2) ∧ T[43]? = some (.int .i64 ac) ∧ T[44]? = some (.int .i64 sc) ∧ T[45]? = some (.int .i64 ic) ∧ T[46]? = some (.int .i64 X3) ∧ T[47]? = some (.int .i64 Y3) ∧ T[48]? = some (.bool O3) ∧ T[52]? = some (.int .i64 ad) ∧ T[53]? = some (.int .i64 bd) ∧ T[54]? = some (.int .i64 cd) ∧ T[55]? = some (.int .i64 X4) ∧ T[56]? = some (.int .i64 Y4) ∧ T[57]? = some (.bool O4) ∧ T[61]? = some (.int .i64 X5) ∧ T[62]? = some (.int .i64 Y5) ∧ T[63]? = some (.bool O5) ∧ T[67]? = some (.int .i64 U5) ∧ T[68]? = some (.int .i64 V5) ∧ T[441]? = some (.bool false) ∧ Below w.heap.size w wx) ?rest35 ?first35
    case first35 =>
      intro J K' hJ hK
      clear F2 F3 F4 F5
      cases O1
      · go_wp2_with fail
        all_goals first | exact undef_no (by assumption) | (refine Met.intro (hJ _ _ ⟨_, rfl, by simp [hs14], by first | (simp only [↓Array.getElem?_setIfInBounds_ne, ne_eq, Nat.reduceEqDiff, not_false_eq_true, q33_14]; done) | simp [hs14, f18_14, f19_14, f20_14, f21_14, f22_14, f23_14, f33_14, f34_14, f35_14, f36_14, f37_14, f38_14, f39_14, f43_14, f44_14, f45_14, f46_14, f47_14, f48_14, f52_14, f53_14, f54_14, f55_14, f56_14, f57_14, f61_14, f62_14, f63_14, f67_14, f68_14], by first | (simp only [↓Array.getElem?_setIfInBounds_ne, ne_eq, Nat.reduceEqDiff, not_false_eq_true, q34_14]; done) | simp [hs14, f18_14, f19_14, f20_14, f21_14, f22_14, f23_14, f33_14, f34_14, f35_14, f36_14, f37_14, f38_14, f39_14, f43_14, f44_14, f45_14, f46_14, f47_14, f48_14, f52_14, f53_14, f54_14, f55_14, f56_14, f57_14, f61_14, f62_14, f63_14, f67_14, f68_14], by first | (simp only [↓Array.getElem?_setIfInBounds_ne, ne_eq, Nat.reduceEqDiff, not_false_eq_true, q35_14]; done) | simp [hs14, f18_14, f19_14, f20_14, f21_14, f22_14, f23_14, f33_14, f34_14, f35_14, f36_14, f37_14, f38_14, f39_14, f43_14, f44_14, f45_14, f46_14, f47_14, f48_14, f52_14, f53_14, f54_14, f55_14, f56_14, f57_14, f61_14, f62_14, f63_14, f67_14, f68_14], by first | (simp only [↓Array.getElem?_setIfInBounds_ne, ne_eq, Nat.reduceEqDiff, not_false_eq_true, q36_14]; done) | simp [hs14, f18_14, f19_14, f20_14, f21_14, f22_14, f23_14, f33_14, f34_14, f35_14, f36_14, f37_14, f38_14, f39_14, f43_14, f44_14, f45_14, f46_14, f47_14, f48_14, f52_14, f53_14, f54_14, f55_14, f56_14, f57_14, f61_14, f62_14, f63_14, f67_14, f68_14], by first | (simp only [↓Array.getElem?_setIfInBounds_ne, ne_eq, Nat.reduceEqDiff, not_false_eq_true, q37_14]; done) | simp [hs14, f18_14, f19_14, f20_14, f21_14, f22_14, f23_14, f33_14, f34_14, f35_14, f36_14, f37_14, f38_14, f39_14, f43_14, f44_14, f45_14, f46_14, f47_14, f48_14, f52_14, f53_14, f54_14, f55_14, f56_14, f57_14, f61_14, f62_14, f63_14, f67_14, f68_14], by first | (simp only [↓Array.getElem?_setIfInBounds_ne, ne_eq, Nat.reduceEqDiff, not_false_eq_true, q38_14]; done) | simp [hs14, f18_14, f19_14, f20_14, f21_14, f22_14, f23_14, f33_14, f34_14, f35_14, f36_14, f37_14, f38_14, f39_14, f43_14, f44_14, f45_14, f46_14, f47_14, f48_14, f52_14, f53_14, f54_14, f55_14, f56_14, f57_14, f61_14, f62_14, f63_14, f67_14, f68_14], by first | (simp only [↓Array.getElem?_setIfInBounds_ne, ne_eq, Nat.reduceEqDiff, not_false_eq_true, q39_14]; done) | simp [hs14, f18_14, f19_14, f20_14, f21_14, f22_14, f23_14, f33_14, f34_14, f35_14, f36_14, f37_14, f38_14, f39_14, f43_14, f44_14, f45_14, f46_14, f47_14, f48_14, f52_14, f53_14, f54_14, f55_14, f56_14, f57_14, f61_14, f62_14, f63_14, f67_14, f68_14], by first | (simp only [↓Array.getElem?_setIfInBounds_ne, ne_eq, Nat.reduceEqDiff, not_false_eq_true, q43_14]; done) | simp [hs14, f18_14, f19_14, f20_14, f21_14, f22_14, f23_14, f33_14, f34_14, f35_14, f36_14, f37_14, f38_14, f39_14, f43_14, f44_14, f45_14, f46_14, f47_14, f48_14, f52_14, f53_14, f54_14, f55_14, f56_14, f57_14, f61_14, f62_14, f63_14, f67_14, f68_14], by first | (simp only [↓Array.getElem?_setIfInBounds_ne, ne_eq, Nat.reduceEqDiff, not_false_eq_true, q44_14]; done) | simp [hs14, f18_14, f19_14, f20_14, f21_14, f22_14, f23_14, f33_14, f34_14, f35_14, f36_14, f37_14, f38_14, f39_14, f43_14, f44_14, f45_14, f46_14, f47_14, f48_14, f52_14, f53_14, f54_14, f55_14, f56_14, f57_14, f61_14, f62_14, f63_14, f67_14, f68_14], by first | (simp only [↓Array.getElem?_setIfInBounds_ne, ne_eq, Nat.reduceEqDiff, not_false_eq_true, q45_14]; done) | simp [hs14, f18_14, f19_14, f20_14, f21_14, f22_14, f23_14, f33_14, f34_14, f35_14, f36_14, f37_14, f38_14, f39_14, f43_14, f44_14, f45_14, f46_14, f47_14, f48_14, f52_14, f53_14, f54_14, f55_14, f56_14, f57_14, f61_14, f62_14, f63_14, f67_14, f68_14], by first | (simp only [↓Array.getElem?_setIfInBounds_ne, ne_eq, Nat.reduceEqDiff, not_false_eq_true, q46_14]; done) | simp [hs14, f18_14, f19_14, f20_14, f21_14, f22_14, f23_14, f33_14, f34_14, f35_14, f36_14, f37_14, f38_14, f39_14, f43_14, f44_14, f45_14, f46_14, f47_14, f48_14, f52_14, f53_14, f54_14, f55_14, f56_14, f57_14, f61_14, f62_14, f63_14, f67_14, f68_14], by first | (simp only [↓Array.getElem?_setIfInBounds_ne, ne_eq, Nat.reduceEqDiff, not_false_eq_true, q47_14]; done) | simp [hs14, f18_14, f19_14, f20_14, f21_14, f22_14, f23_14, f33_14, f34_14, f35_14, f36_14, f37_14, f38_14, f39_14, f43_14, f44_14, f45_14, f46_14, f47_14, f48_14, f52_14, f53_14, f54_14, f55_14, f56_14, f57_14, f61_14, f62_14, f63_14, f67_14, f68_14], by first | (simp only [↓Array.getElem?_setIfInBounds_ne, ne_eq, Nat.reduceEqDiff, not_false_eq_true, q48_14]; done) | simp [hs14, f18_14, f19_14, f20_14, f21_14, f22_14, f23_14, f33_14, f34_14, f35_14, f36_14, f37_14, f38_14, f39_14, f43_14, f44_14, f45_14, f46_14, f47_14, f48_14, f52_14, f53_14, f54_14, f55_14, f56_14, f57_14, f61_14, f62_14, f63_14, f67_14, f68_14], by first | (simp only [↓Array.getElem?_setIfInBounds_ne, ne_eq, Nat.reduceEqDiff, not_false_eq_true, q52_14]; done) | simp [hs14, f18_14, f19_14, f20_14, f21_14, f22_14, f23_14, f33_14, f34_14, f35_14, f36_14, f37_14, f38_14, f39_14, f43_14, f44_14, f45_14, f46_14, f47_14, f48_14, f52_14, f53_14, f54_14, f55_14, f56_14, f57_14, f61_14, f62_14, f63_14, f67_14, f68_14], by first | (simp only [↓Array.getElem?_setIfInBounds_ne, ne_eq, Nat.reduceEqDiff, not_false_eq_true, q53_14]; done) | simp [hs14, f18_14, f19_14, f20_14, f21_14, f22_14, f23_14, f33_14, f34_14, f35_14, f36_14, f37_14, f38_14, f39_14, f43_14, f44_14, f45_14, f46_14, f47_14, f48_14, f52_14, f53_14, f54_14, f55_14, f56_14, f57_14, f61_14, f62_14, f63_14, f67_14, f68_14], by first | (simp only [↓Array.getElem?_setIfInBounds_ne, ne_eq, Nat.reduceEqDiff, not_false_eq_true, q54_14]; done) | simp [hs14, f18_14, f19_14, f20_14, f21_14, f22_14, f23_14, f33_14, f34_14, f35_14, f36_14, f37_14, f38_14, f39_14, f43_14, f44_14, f45_14, f46_14, f47_14, f48_14, f52_14, f53_14, f54_14, f55_14, f56_14, f57_14, f61_14, f62_14, f63_14, f67_14, f68_14], by first | (simp only [↓Array.getElem?_setIfInBounds_ne, ne_eq, Nat.reduceEqDiff, not_false_eq_true, q55_14]; done) | simp [hs14, f18_14, f19_14, f20_14, f21_14, f22_14, f23_14, f33_14, f34_14, f35_14, f36_14, f37_14, f38_14, f39_14, f43_14, f44_14, f45_14, f46_14, f47_14, f48_14, f52_14, f53_14, f54_14, f55_14, f56_14, f57_14, f61_14, f62_14, f63_14, f67_14, f68_14], by first | (simp only [↓Array.getElem?_setIfInBounds_ne, ne_eq, Nat.reduceEqDiff, not_false_eq_true, q56_14]; done) | simp [hs14, f18_14, f19_14, f20_14, f21_14, f22_14, f23_14, f33_14, f34_14, f35_14, f36_14, f37_14, f38_14, f39_14, f43_14, f44_14, f45_14, f46_14, f47_14, f48_14, f52_14, f53_14, f54_14, f55_14, f56_14, f57_14, f61_14, f62_14, f63_14, f67_14, f68_14], by first | (simp only [↓Array.getElem?_setIfInBounds_ne, ne_eq, Nat.reduceEqDiff, not_false_eq_true, q57_14]; done) | simp [hs14, f18_14, f19_14, f20_14, f21_14, f22_14, f23_14, f33_14, f34_14, f35_14, f36_14, f37_14, f38_14, f39_14, f43_14, f44_14, f45_14, f46_14, f47_14, f48_14, f52_14, f53_14, f54_14, f55_14, f56_14, f57_14, f61_14, f62_14, f63_14, f67_14, f68_14], by first | (simp only [↓Array.getElem?_setIfInBounds_ne, ne_eq, Nat.reduceEqDiff, not_false_eq_true, q61_14]; done) | simp [hs14, f18_14, f19_14, f20_14, f21_14, f22_14, f23_14, f33_14, f34_14, f35_14, f36_14, f37_14, f38_14, f39_14, f43_14, f44_14, f45_14, f46_14, f47_14, f48_14, f52_14, f53_14, f54_14, f55_14, f56_14, f57_14, f61_14, f62_14, f63_14, f67_14, f68_14], by first | (simp only [↓Array.getElem?_setIfInBounds_ne, ne_eq, Nat.reduceEqDiff, not_false_eq_true, q62_14]; done) | simp [hs14, f18_14, f19_14, f20_14, f21_14, f22_14, f23_14, f33_14, f34_14, f35_14, f36_14, f37_14, f38_14, f39_14, f43_14, f44_14, f45_14, f46_14, f47_14, f48_14, f52_14, f53_14, f54_14, f55_14, f56_14, f57_14, f61_14, f62_14, f63_14, f67_14, f68_14], by first | (simp only [↓Array.getElem?_setIfInBounds_ne, ne_eq, Nat.reduceEqDiff, not_false_eq_true, q63_14]; done) | simp [hs14, f18_14, f19_14, f20_14, f21_14, f22_14, f23_14, f33_14, f34_14, f35_14, f36_14, f37_14, f38_14, f39_14, f43_14, f44_14, f45_14, f46_14, f47_14, f48_14, f52_14, f53_14, f54_14, f55_14, f56_14, f57_14, f61_14, f62_14, f63_14, f67_14, f68_14], by first | (simp only [↓Array.getElem?_setIfInBounds_ne, ne_eq, Nat.reduceEqDiff, not_false_eq_true, q67_14]; done) | simp [hs14, f18_14, f19_14, f20_14, f21_14, f22_14, f23_14, f33_14, f34_14, f35_14, f36_14, f37_14, f38_14, f39_14, f43_14, f44_14, f45_14, f46_14, f47_14, f48_14, f52_14, f53_14, f54_14, f55_14, f56_14, f57_14, f61_14, f62_14, f63_14, f67_14, f68_14], by first | (simp only [↓Array.getElem?_setIfInBounds_ne, ne_eq, Nat.reduceEqDiff, not_false_eq_true, q68_14]; done) | simp [hs14, f18_14, f19_14, f20_14, f21_14, f22_14, f23_14, f33_14, f34_14, f35_14, f36_14, f37_14, f38_14, f39_14, f43_14, f44_14, f45_14, f46_14, f47_14, f48_14, f52_14, f53_14, f54_14, f55_14, f56_14, f57_14, f61_14, f62_14, f63_14, f67_14, f68_14], by first | (simp only [↓Array.getElem?_setIfInBounds_ne, ne_eq, Nat.reduceEqDiff, not_false_eq_true]; done) | simp [hs14, f18_14, f19_14, f20_14, f21_14, f22_14, f23_14, f33_14, f34_14, f35_14, f36_14, f37_14, f38_14, f39_14, f43_14, f44_14, f45_14, f46_14, f47_14, f48_14, f52_14, f53_14, f54_14, f55_14, f56_14, f57_14, f61_14, f62_14, f63_14, f67_14, f68_14], (by repeat (first | exact HB25.out | exact Below.refl _ _ | refine bl_drewN ?_ _))⟩))
      · obtain ⟨⟨⟨pa0, pa1⟩, ⟨ha0, ha1⟩, ta0, ta1⟩, ⟨x0, x1⟩, ⟨y0, y1⟩, hg, e1⟩ := (F1 rfl).out
        obtain ⟨m0, m1⟩ := mul_bd2 (a := pa) (b := ta) (m := 100) (k := 2000) (by omega) (by omega) (by omega) (by omega)
        obtain ⟨m2, m3⟩ := mul_bd2 (a := X1) (b := ha) (m := 200000) (k := 2000) (by omega) (by omega) (by omega) (by omega)
        have HI := fun W => Lib.hid (yIs_any (n := X1) (d := Y1) (x := pa * ta) (y := ha) x0 (by omega) y0 (by omega) hg m2 (by omega) e1 W)
        clear hg e1 m2 m3
        go_wp2_with fail
        refine ((HI _).out).mono ?_
        rintro e w' ⟨rfl, m26, rfl⟩
        go_wp2_with fail
        refine Met.intro (hJ _ _ ⟨_, rfl, by simp [hs14], by first | (simp only [↓Array.getElem?_setIfInBounds_ne, ne_eq, Nat.reduceEqDiff, not_false_eq_true, q33_14]; done) | simp [hs14, f18_14, f19_14, f20_14, f21_14, f22_14, f23_14, f33_14, f34_14, f35_14, f36_14, f37_14, f38_14, f39_14, f43_14, f44_14, f45_14, f46_14, f47_14, f48_14, f52_14, f53_14, f54_14, f55_14, f56_14, f57_14, f61_14, f62_14, f63_14, f67_14, f68_14], by first | (simp only [↓Array.getElem?_setIfInBounds_ne, ne_eq, Nat.reduceEqDiff, not_false_eq_true, q34_14]; done) | simp [hs14, f18_14, f19_14, f20_14, f21_14, f22_14, f23_14, f33_14, f34_14, f35_14, f36_14, f37_14, f38_14, f39_14, f43_14, f44_14, f45_14, f46_14, f47_14, f48_14, f52_14, f53_14, f54_14, f55_14, f56_14, f57_14, f61_14, f62_14, f63_14, f67_14, f68_14], by first | (simp only [↓Array.getElem?_setIfInBounds_ne, ne_eq, Nat.reduceEqDiff, not_false_eq_true, q35_14]; done) | simp [hs14, f18_14, f19_14, f20_14, f21_14, f22_14, f23_14, f33_14, f34_14, f35_14, f36_14, f37_14, f38_14, f39_14, f43_14, f44_14, f45_14, f46_14, f47_14, f48_14, f52_14, f53_14, f54_14, f55_14, f56_14, f57_14, f61_14, f62_14, f63_14, f67_14, f68_14], by first | (simp only [↓Array.getElem?_setIfInBounds_ne, ne_eq, Nat.reduceEqDiff, not_false_eq_true, q36_14]; done) | simp [hs14, f18_14, f19_14, f20_14, f21_14, f22_14, f23_14, f33_14, f34_14, f35_14, f36_14, f37_14, f38_14, f39_14, f43_14, f44_14, f45_14, f46_14, f47_14, f48_14, f52_14, f53_14, f54_14, f55_14, f56_14, f57_14, f61_14, f62_14, f63_14, f67_14, f68_14], by first | (simp only [↓Array.getElem?_setIfInBounds_ne, ne_eq, Nat.reduceEqDiff, not_false_eq_true, q37_14]; done) | simp [hs14, f18_14, f19_14, f20_14, f21_14, f22_14, f23_14, f33_14, f34_14, f35_14, f36_14, f37_14, f38_14, f39_14, f43_14, f44_14, f45_14, f46_14, f47_14, f48_14, f52_14, f53_14, f54_14, f55_14, f56_14, f57_14, f61_14, f62_14, f63_14, f67_14, f68_14], by first | (simp only [↓Array.getElem?_setIfInBounds_ne, ne_eq, Nat.reduceEqDiff, not_false_eq_true, q38_14]; done) | simp [hs14, f18_14, f19_14, f20_14, f21_14, f22_14, f23_14, f33_14, f34_14, f35_14, f36_14, f37_14, f38_14, f39_14, f43_14, f44_14, f45_14, f46_14, f47_14, f48_14, f52_14, f53_14, f54_14, f55_14, f56_14, f57_14, f61_14, f62_14, f63_14, f67_14, f68_14], by first | (simp only [↓Array.getElem?_setIfInBounds_ne, ne_eq, Nat.reduceEqDiff, not_false_eq_true, q39_14]; done) | simp [hs14, f18_14, f19_14, f20_14, f21_14, f22_14, f23_14, f33_14, f34_14, f35_14, f36_14, f37_14, f38_14, f39_14, f43_14, f44_14, f45_14, f46_14, f47_14, f48_14, f52_14, f53_14, f54_14, f55_14, f56_14, f57_14, f61_14, f62_14, f63_14, f67_14, f68_14], by first | (simp only [↓Array.getElem?_setIfInBounds_ne, ne_eq, Nat.reduceEqDiff, not_false_eq_true, q43_14]; done) | simp [hs14, f18_14, f19_14, f20_14, f21_14, f22_14, f23_14, f33_14, f34_14, f35_14, f36_14, f37_14, f38_14, f39_14, f43_14, f44_14, f45_14, f46_14, f47_14, f48_14, f52_14, f53_14, f54_14, f55_14, f56_14, f57_14, f61_14, f62_14, f63_14, f67_14, f68_14], by first | (simp only [↓Array.getElem?_setIfInBounds_ne, ne_eq, Nat.reduceEqDiff, not_false_eq_true, q44_14]; done) | simp [hs14, f18_14, f19_14, f20_14, f21_14, f22_14, f23_14, f33_14, f34_14, f35_14, f36_14, f37_14, f38_14, f39_14, f43_14, f44_14, f45_14, f46_14, f47_14, f48_14, f52_14, f53_14, f54_14, f55_14, f56_14, f57_14, f61_14, f62_14, f63_14, f67_14, f68_14], by first | (simp only [↓Array.getElem?_setIfInBounds_ne, ne_eq, Nat.reduceEqDiff, not_false_eq_true, q45_14]; done) | simp [hs14, f18_14, f19_14, f20_14, f21_14, f22_14, f23_14, f33_14, f34_14, f35_14, f36_14, f37_14, f38_14, f39_14, f43_14, f44_14, f45_14, f46_14, f47_14, f48_14, f52_14, f53_14, f54_14, f55_14, f56_14, f57_14, f61_14, f62_14, f63_14, f67_14, f68_14], by first | (simp only [↓Array.getElem?_setIfInBounds_ne, ne_eq, Nat.reduceEqDiff, not_false_eq_true, q46_14]; done) | simp [hs14, f18_14, f19_14, f20_14, f21_14, f22_14, f23_14, f33_14, f34_14, f35_14, f36_14, f37_14, f38_14, f39_14, f43_14, f44_14, f45_14, f46_14, f47_14, f48_14, f52_14, f53_14, f54_14, f55_14, f56_14, f57_14, f61_14, f62_14, f63_14, f67_14, f68_14], by first | (simp only [↓Array.getElem?_setIfInBounds_ne, ne_eq, Nat.reduceEqDiff, not_false_eq_true, q47_14]; done) | simp [hs14, f18_14, f19_14, f20_14, f21_14, f22_14, f23_14, f33_14, f34_14, f35_14, f36_14, f37_14, f38_14, f39_14, f43_14, f44_14, f45_14, f46_14, f47_14, f48_14, f52_14, f53_14, f54_14, f55_14, f56_14, f57_14, f61_14, f62_14, f63_14, f67_14, f68_14], by first | (simp only [↓Array.getElem?_setIfInBounds_ne, ne_eq, Nat.reduceEqDiff, not_false_eq_true, q48_14]; done) | simp [hs14, f18_14, f19_14, f20_14, f21_14, f22_14, f23_14, f33_14, f34_14, f35_14, f36_14, f37_14, f38_14, f39_14, f43_14, f44_14, f45_14, f46_14, f47_14, f48_14, f52_14, f53_14, f54_14, f55_14, f56_14, f57_14, f61_14, f62_14, f63_14, f67_14, f68_14], by first | (simp only [↓Array.getElem?_setIfInBounds_ne, ne_eq, Nat.reduceEqDiff, not_false_eq_true, q52_14]; done) | simp [hs14, f18_14, f19_14, f20_14, f21_14, f22_14, f23_14, f33_14, f34_14, f35_14, f36_14, f37_14, f38_14, f39_14, f43_14, f44_14, f45_14, f46_14, f47_14, f48_14, f52_14, f53_14, f54_14, f55_14, f56_14, f57_14, f61_14, f62_14, f63_14, f67_14, f68_14], by first | (simp only [↓Array.getElem?_setIfInBounds_ne, ne_eq, Nat.reduceEqDiff, not_false_eq_true, q53_14]; done) | simp [hs14, f18_14, f19_14, f20_14, f21_14, f22_14, f23_14, f33_14, f34_14, f35_14, f36_14, f37_14, f38_14, f39_14, f43_14, f44_14, f45_14, f46_14, f47_14, f48_14, f52_14, f53_14, f54_14, f55_14, f56_14, f57_14, f61_14, f62_14, f63_14, f67_14, f68_14], by first | (simp only [↓Array.getElem?_setIfInBounds_ne, ne_eq, Nat.reduceEqDiff, not_false_eq_true, q54_14]; done) | simp [hs14, f18_14, f19_14, f20_14, f21_14, f22_14, f23_14, f33_14, f34_14, f35_14, f36_14, f37_14, f38_14, f39_14, f43_14, f44_14, f45_14, f46_14, f47_14, f48_14, f52_14, f53_14, f54_14, f55_14, f56_14, f57_14, f61_14, f62_14, f63_14, f67_14, f68_14], by first | (simp only [↓Array.getElem?_setIfInBounds_ne, ne_eq, Nat.reduceEqDiff, not_false_eq_true, q55_14]; done) | simp [hs14, f18_14, f19_14, f20_14, f21_14, f22_14, f23_14, f33_14, f34_14, f35_14, f36_14, f37_14, f38_14, f39_14, f43_14, f44_14, f45_14, f46_14, f47_14, f48_14, f52_14, f53_14, f54_14, f55_14, f56_14, f57_14, f61_14, f62_14, f63_14, f67_14, f68_14], by first | (simp only [↓Array.getElem?_setIfInBounds_ne, ne_eq, Nat.reduceEqDiff, not_false_eq_true, q56_14]; done) | simp [hs14, f18_14, f19_14, f20_14, f21_14, f22_14, f23_14, f33_14, f34_14, f35_14, f36_14, f37_14, f38_14, f39_14, f43_14, f44_14, f45_14, f46_14, f47_14, f48_14, f52_14, f53_14, f54_14, f55_14, f56_14, f57_14, f61_14, f62_14, f63_14, f67_14, f68_14], by first | (simp only [↓Array.getElem?_setIfInBounds_ne, ne_eq, Nat.reduceEqDiff, not_false_eq_true, q57_14]; done) | simp [hs14, f18_14, f19_14, f20_14, f21_14, f22_14, f23_14, f33_14, f34_14, f35_14, f36_14, f37_14, f38_14, f39_14, f43_14, f44_14, f45_14, f46_14, f47_14, f48_14, f52_14, f53_14, f54_14, f55_14, f56_14, f57_14, f61_14, f62_14, f63_14, f67_14, f68_14], by first | (simp only [↓Array.getElem?_setIfInBounds_ne, ne_eq, Nat.reduceEqDiff, not_false_eq_true, q61_14]; done) | simp [hs14, f18_14, f19_14, f20_14, f21_14, f22_14, f23_14, f33_14, f34_14, f35_14, f36_14, f37_14, f38_14, f39_14, f43_14, f44_14, f45_14, f46_14, f47_14, f48_14, f52_14, f53_14, f54_14, f55_14, f56_14, f57_14, f61_14, f62_14, f63_14, f67_14, f68_14], by first | (simp only [↓Array.getElem?_setIfInBounds_ne, ne_eq, Nat.reduceEqDiff, not_false_eq_true, q62_14]; done) | simp [hs14, f18_14, f19_14, f20_14, f21_14, f22_14, f23_14, f33_14, f34_14, f35_14, f36_14, f37_14, f38_14, f39_14, f43_14, f44_14, f45_14, f46_14, f47_14, f48_14, f52_14, f53_14, f54_14, f55_14, f56_14, f57_14, f61_14, f62_14, f63_14, f67_14, f68_14], by first | (simp only [↓Array.getElem?_setIfInBounds_ne, ne_eq, Nat.reduceEqDiff, not_false_eq_true, q63_14]; done) | simp [hs14, f18_14, f19_14, f20_14, f21_14, f22_14, f23_14, f33_14, f34_14, f35_14, f36_14, f37_14, f38_14, f39_14, f43_14, f44_14, f45_14, f46_14, f47_14, f48_14, f52_14, f53_14, f54_14, f55_14, f56_14, f57_14, f61_14, f62_14, f63_14, f67_14, f68_14], by first | (simp only [↓Array.getElem?_setIfInBounds_ne, ne_eq, Nat.reduceEqDiff, not_false_eq_true, q67_14]; done) | simp [hs14, f18_14, f19_14, f20_14, f21_14, f22_14, f23_14, f33_14, f34_14, f35_14, f36_14, f37_14, f38_14, f39_14, f43_14, f44_14, f45_14, f46_14, f47_14, f48_14, f52_14, f53_14, f54_14, f55_14, f56_14, f57_14, f61_14, f62_14, f63_14, f67_14, f68_14], by first | (simp only [↓Array.getElem?_setIfInBounds_ne, ne_eq, Nat.reduceEqDiff, not_false_eq_true, q68_14]; done) | simp [hs14, f18_14, f19_14, f20_14, f21_14, f22_14, f23_14, f33_14, f34_14, f35_14, f36_14, f37_14, f38_14, f39_14, f43_14, f44_14, f45_14, f46_14, f47_14, f48_14, f52_14, f53_14, f54_14, f55_14, f56_14, f57_14, f61_14, f62_14, f63_14, f67_14, f68_14], by first | (simp only [↓Array.getElem?_setIfInBounds_ne, ne_eq, Nat.reduceEqDiff, not_false_eq_true]; done) | simp [hs14, f18_14, f19_14, f20_14, f21_14, f22_14, f23_14, f33_14, f34_14, f35_14, f36_14, f37_14, f38_14, f39_14, f43_14, f44_14, f45_14, f46_14, f47_14, f48_14, f52_14, f53_14, f54_14, f55_14, f56_14, f57_14, f61_14, f62_14, f63_14, f67_14, f68_14], (by repeat (first | exact HB25.out | exact Below.refl _ _ | refine bl_drewN ?_ _))⟩)
    case rest35 =>
      intro a' wc35 hR35
      obtain ⟨T15, rfl, hs15, q33_15, q34_15, q35_15, q36_15, q37_15, q38_15, q39_15, q43_15, q44_15, q45_15, q46_15, q47_15, q48_15, q52_15, q53_15, q54_15, q55_15, q56_15, q57_15, q61_15, q62_15, q63_15, q67_15, q68_15, q441_15, hbl35⟩ := hR35
      have f33_15 := fun hh => getq q33_15 hh
      have f34_15 := fun hh => getq q34_15 hh
      have f35_15 := fun hh => getq q35_15 hh
      have f36_15 := fun hh => getq q36_15 hh
      have f37_15 := fun hh => getq q37_15 hh
      have f38_15 := fun hh => getq q38_15 hh
      have f39_15 := fun hh => getq q39_15 hh
      have f43_15 := fun hh => getq q43_15 hh
      have f44_15 := fun hh => getq q44_15 hh
      have f45_15 := fun hh => getq q45_15 hh
      have f46_15 := fun hh => getq q46_15 hh
      have f47_15 := fun hh => getq q47_15 hh
      have f48_15 := fun hh => getq q48_15 hh
      have f52_15 := fun hh => getq q52_15 hh
      have f53_15 := fun hh => getq q53_15 hh
      have f54_15 := fun hh => getq q54_15 hh
      have f55_15 := fun hh => getq q55_15 hh
      have f56_15 := fun hh => getq q56_15 hh
      have f57_15 := fun hh => getq q57_15 hh
      have f61_15 := fun hh => getq q61_15 hh
      have f62_15 := fun hh => getq q62_15 hh
      have f63_15 := fun hh => getq q63_15 hh
      have f67_15 := fun hh => getq q67_15 hh
      have f68_15 := fun hh => getq q68_15 hh
      have f441_15 := fun hh => getq q441_15 hh
      have HB27 := Lib.hid (show Below w.heap.size w wc35 from hbl35)
      clear hbl35 F1
      go_wp2_with fail
      refine wp_cond_f ?_ ?_
      · (go_simp <;> omega)
      go_upto_region 37 with fail
      refine wp_cut (fun a' wx => ∃ T : Array Value, a' = ⟨T, []⟩ ∧ T.size = 540 ∧ T[43]? = some (.int .i64 ac) ∧ T[44]? = some (.int .i64 sc) ∧ T[45]? = some (.int .i64 ic) ∧ T[46]? = some (.int .i64 X3) ∧ T[47]? = some (.int .i64 Y3) ∧ T[48]? = some (.bool O3) ∧ T[52]? = some (.int .i64 ad) ∧ T[53]? = some (.int .i64 bd) ∧ T[54]? = some (.int .i64 cd) ∧ T[55]? = some (.int .i64 X4) ∧ T[56]? = some (.int .i64 Y4) ∧ T[57]? = some (.bool O4) ∧ T[61]? = some (.int .i64 X5) ∧ T[62]? = some (.int .i64 Y5) ∧ T[63]? = some (.bool O5) ∧ T[67]? = some (.int .i64 U5) ∧ T[68]? = some (.int .i64 V5) ∧ T[481]? = some (.bool false) ∧ Below w.heap.size w wx) ?rest37 ?first37
      case first37 =>
        intro J K' hJ hK
        clear F3 F4 F5
        cases O2
        · go_wp2_with fail
          all_goals first | exact undef_no (by assumption) | (refine Met.intro (hJ _ _ ⟨_, rfl, by simp [hs15], by first | (simp only [↓Array.getElem?_setIfInBounds_ne, ne_eq, Nat.reduceEqDiff, not_false_eq_true, q43_15]; done) | simp [hs15, f33_15, f34_15, f35_15, f36_15, f37_15, f38_15, f39_15, f43_15, f44_15, f45_15, f46_15, f47_15, f48_15, f52_15, f53_15, f54_15, f55_15, f56_15, f57_15, f61_15, f62_15, f63_15, f67_15, f68_15], by first | (simp only [↓Array.getElem?_setIfInBounds_ne, ne_eq, Nat.reduceEqDiff, not_false_eq_true, q44_15]; done) | simp [hs15, f33_15, f34_15, f35_15, f36_15, f37_15, f38_15, f39_15, f43_15, f44_15, f45_15, f46_15, f47_15, f48_15, f52_15, f53_15, f54_15, f55_15, f56_15, f57_15, f61_15, f62_15, f63_15, f67_15, f68_15], by first | (simp only [↓Array.getElem?_setIfInBounds_ne, ne_eq, Nat.reduceEqDiff, not_false_eq_true, q45_15]; done) | simp [hs15, f33_15, f34_15, f35_15, f36_15, f37_15, f38_15, f39_15, f43_15, f44_15, f45_15, f46_15, f47_15, f48_15, f52_15, f53_15, f54_15, f55_15, f56_15, f57_15, f61_15, f62_15, f63_15, f67_15, f68_15], by first | (simp only [↓Array.getElem?_setIfInBounds_ne, ne_eq, Nat.reduceEqDiff, not_false_eq_true, q46_15]; done) | simp [hs15, f33_15, f34_15, f35_15, f36_15, f37_15, f38_15, f39_15, f43_15, f44_15, f45_15, f46_15, f47_15, f48_15, f52_15, f53_15, f54_15, f55_15, f56_15, f57_15, f61_15, f62_15, f63_15, f67_15, f68_15], by first | (simp only [↓Array.getElem?_setIfInBounds_ne, ne_eq, Nat.reduceEqDiff, not_false_eq_true, q47_15]; done) | simp [hs15, f33_15, f34_15, f35_15, f36_15, f37_15, f38_15, f39_15, f43_15, f44_15, f45_15, f46_15, f47_15, f48_15, f52_15, f53_15, f54_15, f55_15, f56_15, f57_15, f61_15, f62_15, f63_15, f67_15, f68_15], by first | (simp only [↓Array.getElem?_setIfInBounds_ne, ne_eq, Nat.reduceEqDiff, not_false_eq_true, q48_15]; done) | simp [hs15, f33_15, f34_15, f35_15, f36_15, f37_15, f38_15, f39_15, f43_15, f44_15, f45_15, f46_15, f47_15, f48_15, f52_15, f53_15, f54_15, f55_15, f56_15, f57_15, f61_15, f62_15, f63_15, f67_15, f68_15], by first | (simp only [↓Array.getElem?_setIfInBounds_ne, ne_eq, Nat.reduceEqDiff, not_false_eq_true, q52_15]; done) | simp [hs15, f33_15, f34_15, f35_15, f36_15, f37_15, f38_15, f39_15, f43_15, f44_15, f45_15, f46_15, f47_15, f48_15, f52_15, f53_15, f54_15, f55_15, f56_15, f57_15, f61_15, f62_15, f63_15, f67_15, f68_15], by first | (simp only [↓Array.getElem?_setIfInBounds_ne, ne_eq, Nat.reduceEqDiff, not_false_eq_true, q53_15]; done) | simp [hs15, f33_15, f34_15, f35_15, f36_15, f37_15, f38_15, f39_15, f43_15, f44_15, f45_15, f46_15, f47_15, f48_15, f52_15, f53_15, f54_15, f55_15, f56_15, f57_15, f61_15, f62_15, f63_15, f67_15, f68_15], by first | (simp only [↓Array.getElem?_setIfInBounds_ne, ne_eq, Nat.reduceEqDiff, not_false_eq_true, q54_15]; done) | simp [hs15, f33_15, f34_15, f35_15, f36_15, f37_15, f38_15, f39_15, f43_15, f44_15, f45_15, f46_15, f47_15, f48_15, f52_15, f53_15, f54_15, f55_15, f56_15, f57_15, f61_15, f62_15, f63_15, f67_15, f68_15], by first | (simp only [↓Array.getElem?_setIfInBounds_ne, ne_eq, Nat.reduceEqDiff, not_false_eq_true, q55_15]; done) | simp [hs15, f33_15, f34_15, f35_15, f36_15, f37_15, f38_15, f39_15, f43_15, f44_15, f45_15, f46_15, f47_15, f48_15, f52_15, f53_15, f54_15, f55_15, f56_15, f57_15, f61_15, f62_15, f63_15, f67_15, f68_15], by first | (simp only [↓Array.getElem?_setIfInBounds_ne, ne_eq, Nat.reduceEqDiff, not_false_eq_true, q56_15]; done) | simp [hs15, f33_15, f34_15, f35_15, f36_15, f37_15, f38_15, f39_15, f43_15, f44_15, f45_15, f46_15, f47_15, f48_15, f52_15, f53_15, f54_15, f55_15, f56_15, f57_15, f61_15, f62_15, f63_15, f67_15, f68_15], by first | (simp only [↓Array.getElem?_setIfInBounds_ne, ne_eq, Nat.reduceEqDiff, not_false_eq_true, q57_15]; done) | simp [hs15, f33_15, f34_15, f35_15, f36_15, f37_15, f38_15, f39_15, f43_15, f44_15, f45_15, f46_15, f47_15, f48_15, f52_15, f53_15, f54_15, f55_15, f56_15, f57_15, f61_15, f62_15, f63_15, f67_15, f68_15], by first | (simp only [↓Array.getElem?_setIfInBounds_ne, ne_eq, Nat.reduceEqDiff, not_false_eq_true, q61_15]; done) | simp [hs15, f33_15, f34_15, f35_15, f36_15, f37_15, f38_15, f39_15, f43_15, f44_15, f45_15, f46_15, f47_15, f48_15, f52_15, f53_15, f54_15, f55_15, f56_15, f57_15, f61_15, f62_15, f63_15, f67_15, f68_15], by first | (simp only [↓Array.getElem?_setIfInBounds_ne, ne_eq, Nat.reduceEqDiff, not_false_eq_true, q62_15]; done) | simp [hs15, f33_15, f34_15, f35_15, f36_15, f37_15, f38_15, f39_15, f43_15, f44_15, f45_15, f46_15, f47_15, f48_15, f52_15, f53_15, f54_15, f55_15, f56_15, f57_15, f61_15, f62_15, f63_15, f67_15, f68_15], by first | (simp only [↓Array.getElem?_setIfInBounds_ne, ne_eq, Nat.reduceEqDiff, not_false_eq_true, q63_15]; done) | simp [hs15, f33_15, f34_15, f35_15, f36_15, f37_15, f38_15, f39_15, f43_15, f44_15, f45_15, f46_15, f47_15, f48_15, f52_15, f53_15, f54_15, f55_15, f56_15, f57_15, f61_15, f62_15, f63_15, f67_15, f68_15], by first | (simp only [↓Array.getElem?_setIfInBounds_ne, ne_eq, Nat.reduceEqDiff, not_false_eq_true, q67_15]; done) | simp [hs15, f33_15, f34_15, f35_15, f36_15, f37_15, f38_15, f39_15, f43_15, f44_15, f45_15, f46_15, f47_15, f48_15, f52_15, f53_15, f54_15, f55_15, f56_15, f57_15, f61_15, f62_15, f63_15, f67_15, f68_15], by first | (simp only [↓Array.getElem?_setIfInBounds_ne, ne_eq, Nat.reduceEqDiff, not_false_eq_true, q68_15]; done) | simp [hs15, f33_15, f34_15, f35_15, f36_15, f37_15, f38_15, f39_15, f43_15, f44_15, f45_15, f46_15, f47_15, f48_15, f52_15, f53_15, f54_15, f55_15, f56_15, f57_15, f61_15, f62_15, f63_15, f67_15, f68_15], by first | (simp only [↓Array.getElem?_setIfInBounds_ne, ne_eq, Nat.reduceEqDiff, not_false_eq_true]; done) | simp [hs15, f33_15, f34_15, f35_15, f36_15, f37_15, f38_15, f39_15, f43_15, f44_15, f45_15, f46_15, f47_15, f48_15, f52_15, f53_15, f54_15, f55_15, f56_15, f57_15, f61_15, f62_15, f63_15, f67_15, f68_15], (by repeat (first | exact HB27.out | exact Below.refl _ _ | refine bl_drewN ?_ _))⟩))
        · obtain ⟨⟨⟨ea0, ea1⟩, ⟨ta0, ta1⟩, ⟨na0, na1⟩, ⟨fa0, fa1⟩, hlt⟩, ⟨x0, x1⟩, ⟨y0, y1⟩, hg, e1, e2, e3⟩ := (F2 rfl).out
          have HY := fun W => Lib.hid (yLow_int x0 (by omega) y0 (by omega) hg W)
          clear hg
          obtain ⟨m0, m1⟩ := mul_bd2 (a := eb) (b := Y2) (m := 100) (k := 4000) (by omega) (by omega) (by omega) (by omega)
          obtain ⟨m2, m3⟩ := mul_bd2 (a := tb) (b := Y2) (m := 2000) (k := 4000) (by omega) (by omega) (by omega) (by omega)
          obtain ⟨m4, m5⟩ := mul_bd2 (a := tb - eb) (b := nb) (m := 2000) (k := 2000) (by omega) (by omega) (by omega) (by omega)
          obtain ⟨m6, m7⟩ := mul_bd2 (a := (tb - eb) * nb) (b := Y2) (m := 4000000) (k := 4000) (by omega) (by omega) (by omega) (by omega)
          have z1 : ¬ X2 ≤ eb * Y2 := by omega
          have z2 : ¬ tb * Y2 ≤ X2 := by omega
          have z3 : 0 ≤ (X2 - eb * Y2) * (nb + fb) := by omega
          have z4 : (X2 - eb * Y2) * (nb + fb) ≤ 16000000000 := by omega
          have z5 : ((X2 - eb * Y2) * (nb + fb) != (tb - eb) * nb * Y2) = false := by rw [e3]; simp
          clear e3
          go_wp2_with fail
          refine ((HY _).out).mono ?_
          rintro e w' ⟨rfl, m28, rfl⟩
          go_wp2_with fail
          refine Met.intro (hJ _ _ ⟨_, rfl, by simp [hs15], by first | (simp only [↓Array.getElem?_setIfInBounds_ne, ne_eq, Nat.reduceEqDiff, not_false_eq_true, q43_15]; done) | simp [hs15, f33_15, f34_15, f35_15, f36_15, f37_15, f38_15, f39_15, f43_15, f44_15, f45_15, f46_15, f47_15, f48_15, f52_15, f53_15, f54_15, f55_15, f56_15, f57_15, f61_15, f62_15, f63_15, f67_15, f68_15, z1, z2, z5], by first | (simp only [↓Array.getElem?_setIfInBounds_ne, ne_eq, Nat.reduceEqDiff, not_false_eq_true, q44_15]; done) | simp [hs15, f33_15, f34_15, f35_15, f36_15, f37_15, f38_15, f39_15, f43_15, f44_15, f45_15, f46_15, f47_15, f48_15, f52_15, f53_15, f54_15, f55_15, f56_15, f57_15, f61_15, f62_15, f63_15, f67_15, f68_15, z1, z2, z5], by first | (simp only [↓Array.getElem?_setIfInBounds_ne, ne_eq, Nat.reduceEqDiff, not_false_eq_true, q45_15]; done) | simp [hs15, f33_15, f34_15, f35_15, f36_15, f37_15, f38_15, f39_15, f43_15, f44_15, f45_15, f46_15, f47_15, f48_15, f52_15, f53_15, f54_15, f55_15, f56_15, f57_15, f61_15, f62_15, f63_15, f67_15, f68_15, z1, z2, z5], by first | (simp only [↓Array.getElem?_setIfInBounds_ne, ne_eq, Nat.reduceEqDiff, not_false_eq_true, q46_15]; done) | simp [hs15, f33_15, f34_15, f35_15, f36_15, f37_15, f38_15, f39_15, f43_15, f44_15, f45_15, f46_15, f47_15, f48_15, f52_15, f53_15, f54_15, f55_15, f56_15, f57_15, f61_15, f62_15, f63_15, f67_15, f68_15, z1, z2, z5], by first | (simp only [↓Array.getElem?_setIfInBounds_ne, ne_eq, Nat.reduceEqDiff, not_false_eq_true, q47_15]; done) | simp [hs15, f33_15, f34_15, f35_15, f36_15, f37_15, f38_15, f39_15, f43_15, f44_15, f45_15, f46_15, f47_15, f48_15, f52_15, f53_15, f54_15, f55_15, f56_15, f57_15, f61_15, f62_15, f63_15, f67_15, f68_15, z1, z2, z5], by first | (simp only [↓Array.getElem?_setIfInBounds_ne, ne_eq, Nat.reduceEqDiff, not_false_eq_true, q48_15]; done) | simp [hs15, f33_15, f34_15, f35_15, f36_15, f37_15, f38_15, f39_15, f43_15, f44_15, f45_15, f46_15, f47_15, f48_15, f52_15, f53_15, f54_15, f55_15, f56_15, f57_15, f61_15, f62_15, f63_15, f67_15, f68_15, z1, z2, z5], by first | (simp only [↓Array.getElem?_setIfInBounds_ne, ne_eq, Nat.reduceEqDiff, not_false_eq_true, q52_15]; done) | simp [hs15, f33_15, f34_15, f35_15, f36_15, f37_15, f38_15, f39_15, f43_15, f44_15, f45_15, f46_15, f47_15, f48_15, f52_15, f53_15, f54_15, f55_15, f56_15, f57_15, f61_15, f62_15, f63_15, f67_15, f68_15, z1, z2, z5], by first | (simp only [↓Array.getElem?_setIfInBounds_ne, ne_eq, Nat.reduceEqDiff, not_false_eq_true, q53_15]; done) | simp [hs15, f33_15, f34_15, f35_15, f36_15, f37_15, f38_15, f39_15, f43_15, f44_15, f45_15, f46_15, f47_15, f48_15, f52_15, f53_15, f54_15, f55_15, f56_15, f57_15, f61_15, f62_15, f63_15, f67_15, f68_15, z1, z2, z5], by first | (simp only [↓Array.getElem?_setIfInBounds_ne, ne_eq, Nat.reduceEqDiff, not_false_eq_true, q54_15]; done) | simp [hs15, f33_15, f34_15, f35_15, f36_15, f37_15, f38_15, f39_15, f43_15, f44_15, f45_15, f46_15, f47_15, f48_15, f52_15, f53_15, f54_15, f55_15, f56_15, f57_15, f61_15, f62_15, f63_15, f67_15, f68_15, z1, z2, z5], by first | (simp only [↓Array.getElem?_setIfInBounds_ne, ne_eq, Nat.reduceEqDiff, not_false_eq_true, q55_15]; done) | simp [hs15, f33_15, f34_15, f35_15, f36_15, f37_15, f38_15, f39_15, f43_15, f44_15, f45_15, f46_15, f47_15, f48_15, f52_15, f53_15, f54_15, f55_15, f56_15, f57_15, f61_15, f62_15, f63_15, f67_15, f68_15, z1, z2, z5], by first | (simp only [↓Array.getElem?_setIfInBounds_ne, ne_eq, Nat.reduceEqDiff, not_false_eq_true, q56_15]; done) | simp [hs15, f33_15, f34_15, f35_15, f36_15, f37_15, f38_15, f39_15, f43_15, f44_15, f45_15, f46_15, f47_15, f48_15, f52_15, f53_15, f54_15, f55_15, f56_15, f57_15, f61_15, f62_15, f63_15, f67_15, f68_15, z1, z2, z5], by first | (simp only [↓Array.getElem?_setIfInBounds_ne, ne_eq, Nat.reduceEqDiff, not_false_eq_true, q57_15]; done) | simp [hs15, f33_15, f34_15, f35_15, f36_15, f37_15, f38_15, f39_15, f43_15, f44_15, f45_15, f46_15, f47_15, f48_15, f52_15, f53_15, f54_15, f55_15, f56_15, f57_15, f61_15, f62_15, f63_15, f67_15, f68_15, z1, z2, z5], by first | (simp only [↓Array.getElem?_setIfInBounds_ne, ne_eq, Nat.reduceEqDiff, not_false_eq_true, q61_15]; done) | simp [hs15, f33_15, f34_15, f35_15, f36_15, f37_15, f38_15, f39_15, f43_15, f44_15, f45_15, f46_15, f47_15, f48_15, f52_15, f53_15, f54_15, f55_15, f56_15, f57_15, f61_15, f62_15, f63_15, f67_15, f68_15, z1, z2, z5], by first | (simp only [↓Array.getElem?_setIfInBounds_ne, ne_eq, Nat.reduceEqDiff, not_false_eq_true, q62_15]; done) | simp [hs15, f33_15, f34_15, f35_15, f36_15, f37_15, f38_15, f39_15, f43_15, f44_15, f45_15, f46_15, f47_15, f48_15, f52_15, f53_15, f54_15, f55_15, f56_15, f57_15, f61_15, f62_15, f63_15, f67_15, f68_15, z1, z2, z5], by first | (simp only [↓Array.getElem?_setIfInBounds_ne, ne_eq, Nat.reduceEqDiff, not_false_eq_true, q63_15]; done) | simp [hs15, f33_15, f34_15, f35_15, f36_15, f37_15, f38_15, f39_15, f43_15, f44_15, f45_15, f46_15, f47_15, f48_15, f52_15, f53_15, f54_15, f55_15, f56_15, f57_15, f61_15, f62_15, f63_15, f67_15, f68_15, z1, z2, z5], by first | (simp only [↓Array.getElem?_setIfInBounds_ne, ne_eq, Nat.reduceEqDiff, not_false_eq_true, q67_15]; done) | simp [hs15, f33_15, f34_15, f35_15, f36_15, f37_15, f38_15, f39_15, f43_15, f44_15, f45_15, f46_15, f47_15, f48_15, f52_15, f53_15, f54_15, f55_15, f56_15, f57_15, f61_15, f62_15, f63_15, f67_15, f68_15, z1, z2, z5], by first | (simp only [↓Array.getElem?_setIfInBounds_ne, ne_eq, Nat.reduceEqDiff, not_false_eq_true, q68_15]; done) | simp [hs15, f33_15, f34_15, f35_15, f36_15, f37_15, f38_15, f39_15, f43_15, f44_15, f45_15, f46_15, f47_15, f48_15, f52_15, f53_15, f54_15, f55_15, f56_15, f57_15, f61_15, f62_15, f63_15, f67_15, f68_15, z1, z2, z5], by first | (simp only [↓Array.getElem?_setIfInBounds_ne, ne_eq, Nat.reduceEqDiff, not_false_eq_true]; done) | simp [hs15, f33_15, f34_15, f35_15, f36_15, f37_15, f38_15, f39_15, f43_15, f44_15, f45_15, f46_15, f47_15, f48_15, f52_15, f53_15, f54_15, f55_15, f56_15, f57_15, f61_15, f62_15, f63_15, f67_15, f68_15, z1, z2, z5], (by repeat (first | exact HB27.out | exact Below.refl _ _ | refine bl_drewN ?_ _))⟩)
      case rest37 =>
        intro a' wc37 hR37
        obtain ⟨T16, rfl, hs16, q43_16, q44_16, q45_16, q46_16, q47_16, q48_16, q52_16, q53_16, q54_16, q55_16, q56_16, q57_16, q61_16, q62_16, q63_16, q67_16, q68_16, q481_16, hbl37⟩ := hR37
        have f43_16 := fun hh => getq q43_16 hh
        have f44_16 := fun hh => getq q44_16 hh
        have f45_16 := fun hh => getq q45_16 hh
        have f46_16 := fun hh => getq q46_16 hh
        have f47_16 := fun hh => getq q47_16 hh
        have f48_16 := fun hh => getq q48_16 hh
        have f52_16 := fun hh => getq q52_16 hh
        have f53_16 := fun hh => getq q53_16 hh
        have f54_16 := fun hh => getq q54_16 hh
        have f55_16 := fun hh => getq q55_16 hh
        have f56_16 := fun hh => getq q56_16 hh
        have f57_16 := fun hh => getq q57_16 hh
        have f61_16 := fun hh => getq q61_16 hh
        have f62_16 := fun hh => getq q62_16 hh
        have f63_16 := fun hh => getq q63_16 hh
        have f67_16 := fun hh => getq q67_16 hh
        have f68_16 := fun hh => getq q68_16 hh
        have f481_16 := fun hh => getq q481_16 hh
        have HB29 := Lib.hid (show Below w.heap.size w wc37 from hbl37)
        clear hbl37 F2
        go_wp2_with fail
        refine wp_cond_f ?_ ?_
        · (go_simp <;> omega)
        go_upto_region 39 with fail
        refine wp_cut (fun a' wx => ∃ T : Array Value, a' = ⟨T, []⟩ ∧ T.size = 540 ∧ T[52]? = some (.int .i64 ad) ∧ T[53]? = some (.int .i64 bd) ∧ T[54]? = some (.int .i64 cd) ∧ T[55]? = some (.int .i64 X4) ∧ T[56]? = some (.int .i64 Y4) ∧ T[57]? = some (.bool O4) ∧ T[61]? = some (.int .i64 X5) ∧ T[62]? = some (.int .i64 Y5) ∧ T[63]? = some (.bool O5) ∧ T[67]? = some (.int .i64 U5) ∧ T[68]? = some (.int .i64 V5) ∧ T[492]? = some (.bool false) ∧ Below w.heap.size w wx) ?rest39 ?first39
        case first39 =>
          intro J K' hJ hK
          clear F4 F5
          cases O3
          · go_wp2_with fail
            all_goals first | exact undef_no (by assumption) | (refine Met.intro (hJ _ _ ⟨_, rfl, by simp [hs16], by first | (simp only [↓Array.getElem?_setIfInBounds_ne, ne_eq, Nat.reduceEqDiff, not_false_eq_true, q52_16]; done) | simp [hs16, f43_16, f44_16, f45_16, f46_16, f47_16, f48_16, f52_16, f53_16, f54_16, f55_16, f56_16, f57_16, f61_16, f62_16, f63_16, f67_16, f68_16], by first | (simp only [↓Array.getElem?_setIfInBounds_ne, ne_eq, Nat.reduceEqDiff, not_false_eq_true, q53_16]; done) | simp [hs16, f43_16, f44_16, f45_16, f46_16, f47_16, f48_16, f52_16, f53_16, f54_16, f55_16, f56_16, f57_16, f61_16, f62_16, f63_16, f67_16, f68_16], by first | (simp only [↓Array.getElem?_setIfInBounds_ne, ne_eq, Nat.reduceEqDiff, not_false_eq_true, q54_16]; done) | simp [hs16, f43_16, f44_16, f45_16, f46_16, f47_16, f48_16, f52_16, f53_16, f54_16, f55_16, f56_16, f57_16, f61_16, f62_16, f63_16, f67_16, f68_16], by first | (simp only [↓Array.getElem?_setIfInBounds_ne, ne_eq, Nat.reduceEqDiff, not_false_eq_true, q55_16]; done) | simp [hs16, f43_16, f44_16, f45_16, f46_16, f47_16, f48_16, f52_16, f53_16, f54_16, f55_16, f56_16, f57_16, f61_16, f62_16, f63_16, f67_16, f68_16], by first | (simp only [↓Array.getElem?_setIfInBounds_ne, ne_eq, Nat.reduceEqDiff, not_false_eq_true, q56_16]; done) | simp [hs16, f43_16, f44_16, f45_16, f46_16, f47_16, f48_16, f52_16, f53_16, f54_16, f55_16, f56_16, f57_16, f61_16, f62_16, f63_16, f67_16, f68_16], by first | (simp only [↓Array.getElem?_setIfInBounds_ne, ne_eq, Nat.reduceEqDiff, not_false_eq_true, q57_16]; done) | simp [hs16, f43_16, f44_16, f45_16, f46_16, f47_16, f48_16, f52_16, f53_16, f54_16, f55_16, f56_16, f57_16, f61_16, f62_16, f63_16, f67_16, f68_16], by first | (simp only [↓Array.getElem?_setIfInBounds_ne, ne_eq, Nat.reduceEqDiff, not_false_eq_true, q61_16]; done) | simp [hs16, f43_16, f44_16, f45_16, f46_16, f47_16, f48_16, f52_16, f53_16, f54_16, f55_16, f56_16, f57_16, f61_16, f62_16, f63_16, f67_16, f68_16], by first | (simp only [↓Array.getElem?_setIfInBounds_ne, ne_eq, Nat.reduceEqDiff, not_false_eq_true, q62_16]; done) | simp [hs16, f43_16, f44_16, f45_16, f46_16, f47_16, f48_16, f52_16, f53_16, f54_16, f55_16, f56_16, f57_16, f61_16, f62_16, f63_16, f67_16, f68_16], by first | (simp only [↓Array.getElem?_setIfInBounds_ne, ne_eq, Nat.reduceEqDiff, not_false_eq_true, q63_16]; done) | simp [hs16, f43_16, f44_16, f45_16, f46_16, f47_16, f48_16, f52_16, f53_16, f54_16, f55_16, f56_16, f57_16, f61_16, f62_16, f63_16, f67_16, f68_16], by first | (simp only [↓Array.getElem?_setIfInBounds_ne, ne_eq, Nat.reduceEqDiff, not_false_eq_true, q67_16]; done) | simp [hs16, f43_16, f44_16, f45_16, f46_16, f47_16, f48_16, f52_16, f53_16, f54_16, f55_16, f56_16, f57_16, f61_16, f62_16, f63_16, f67_16, f68_16], by first | (simp only [↓Array.getElem?_setIfInBounds_ne, ne_eq, Nat.reduceEqDiff, not_false_eq_true, q68_16]; done) | simp [hs16, f43_16, f44_16, f45_16, f46_16, f47_16, f48_16, f52_16, f53_16, f54_16, f55_16, f56_16, f57_16, f61_16, f62_16, f63_16, f67_16, f68_16], by first | (simp only [↓Array.getElem?_setIfInBounds_ne, ne_eq, Nat.reduceEqDiff, not_false_eq_true]; done) | simp [hs16, f43_16, f44_16, f45_16, f46_16, f47_16, f48_16, f52_16, f53_16, f54_16, f55_16, f56_16, f57_16, f61_16, f62_16, f63_16, f67_16, f68_16], (by repeat (first | exact HB29.out | exact Below.refl _ _ | refine bl_drewN ?_ _))⟩))
          · obtain ⟨⟨⟨ac0, ac1⟩, ⟨sc0, sc1⟩, ic0, ic1⟩, ⟨x0, x1⟩, ⟨y0, y1⟩, hg, e1⟩ := (F3 rfl).out
            obtain ⟨m0, m1⟩ := mul_bd2 (a := sc) (b := ac) (m := 100) (k := 2000) (by omega) (by omega) (by omega) (by omega)
            obtain ⟨m2, m3⟩ := mul_bd2 (a := X3) (b := ic) (m := 200000) (k := 2000) (by omega) (by omega) (by omega) (by omega)
            have HI := fun W => Lib.hid (yIs_any (n := X3) (d := Y3) (x := sc * ac) (y := ic) x0 (by omega) y0 (by omega) hg m2 (by omega) e1 W)
            clear hg e1 m2 m3
            go_wp2_with fail
            refine ((HI _).out).mono ?_
            rintro e w' ⟨rfl, m30, rfl⟩
            go_wp2_with fail
            refine Met.intro (hJ _ _ ⟨_, rfl, by simp [hs16], by first | (simp only [↓Array.getElem?_setIfInBounds_ne, ne_eq, Nat.reduceEqDiff, not_false_eq_true, q52_16]; done) | simp [hs16, f43_16, f44_16, f45_16, f46_16, f47_16, f48_16, f52_16, f53_16, f54_16, f55_16, f56_16, f57_16, f61_16, f62_16, f63_16, f67_16, f68_16], by first | (simp only [↓Array.getElem?_setIfInBounds_ne, ne_eq, Nat.reduceEqDiff, not_false_eq_true, q53_16]; done) | simp [hs16, f43_16, f44_16, f45_16, f46_16, f47_16, f48_16, f52_16, f53_16, f54_16, f55_16, f56_16, f57_16, f61_16, f62_16, f63_16, f67_16, f68_16], by first | (simp only [↓Array.getElem?_setIfInBounds_ne, ne_eq, Nat.reduceEqDiff, not_false_eq_true, q54_16]; done) | simp [hs16, f43_16, f44_16, f45_16, f46_16, f47_16, f48_16, f52_16, f53_16, f54_16, f55_16, f56_16, f57_16, f61_16, f62_16, f63_16, f67_16, f68_16], by first | (simp only [↓Array.getElem?_setIfInBounds_ne, ne_eq, Nat.reduceEqDiff, not_false_eq_true, q55_16]; done) | simp [hs16, f43_16, f44_16, f45_16, f46_16, f47_16, f48_16, f52_16, f53_16, f54_16, f55_16, f56_16, f57_16, f61_16, f62_16, f63_16, f67_16, f68_16], by first | (simp only [↓Array.getElem?_setIfInBounds_ne, ne_eq, Nat.reduceEqDiff, not_false_eq_true, q56_16]; done) | simp [hs16, f43_16, f44_16, f45_16, f46_16, f47_16, f48_16, f52_16, f53_16, f54_16, f55_16, f56_16, f57_16, f61_16, f62_16, f63_16, f67_16, f68_16], by first | (simp only [↓Array.getElem?_setIfInBounds_ne, ne_eq, Nat.reduceEqDiff, not_false_eq_true, q57_16]; done) | simp [hs16, f43_16, f44_16, f45_16, f46_16, f47_16, f48_16, f52_16, f53_16, f54_16, f55_16, f56_16, f57_16, f61_16, f62_16, f63_16, f67_16, f68_16], by first | (simp only [↓Array.getElem?_setIfInBounds_ne, ne_eq, Nat.reduceEqDiff, not_false_eq_true, q61_16]; done) | simp [hs16, f43_16, f44_16, f45_16, f46_16, f47_16, f48_16, f52_16, f53_16, f54_16, f55_16, f56_16, f57_16, f61_16, f62_16, f63_16, f67_16, f68_16], by first | (simp only [↓Array.getElem?_setIfInBounds_ne, ne_eq, Nat.reduceEqDiff, not_false_eq_true, q62_16]; done) | simp [hs16, f43_16, f44_16, f45_16, f46_16, f47_16, f48_16, f52_16, f53_16, f54_16, f55_16, f56_16, f57_16, f61_16, f62_16, f63_16, f67_16, f68_16], by first | (simp only [↓Array.getElem?_setIfInBounds_ne, ne_eq, Nat.reduceEqDiff, not_false_eq_true, q63_16]; done) | simp [hs16, f43_16, f44_16, f45_16, f46_16, f47_16, f48_16, f52_16, f53_16, f54_16, f55_16, f56_16, f57_16, f61_16, f62_16, f63_16, f67_16, f68_16], by first | (simp only [↓Array.getElem?_setIfInBounds_ne, ne_eq, Nat.reduceEqDiff, not_false_eq_true, q67_16]; done) | simp [hs16, f43_16, f44_16, f45_16, f46_16, f47_16, f48_16, f52_16, f53_16, f54_16, f55_16, f56_16, f57_16, f61_16, f62_16, f63_16, f67_16, f68_16], by first | (simp only [↓Array.getElem?_setIfInBounds_ne, ne_eq, Nat.reduceEqDiff, not_false_eq_true, q68_16]; done) | simp [hs16, f43_16, f44_16, f45_16, f46_16, f47_16, f48_16, f52_16, f53_16, f54_16, f55_16, f56_16, f57_16, f61_16, f62_16, f63_16, f67_16, f68_16], by first | (simp only [↓Array.getElem?_setIfInBounds_ne, ne_eq, Nat.reduceEqDiff, not_false_eq_true]; done) | simp [hs16, f43_16, f44_16, f45_16, f46_16, f47_16, f48_16, f52_16, f53_16, f54_16, f55_16, f56_16, f57_16, f61_16, f62_16, f63_16, f67_16, f68_16], (by repeat (first | exact HB29.out | exact Below.refl _ _ | refine bl_drewN ?_ _))⟩)
        case rest39 =>
          intro a' wc39 hR39
          obtain ⟨T17, rfl, hs17, q52_17, q53_17, q54_17, q55_17, q56_17, q57_17, q61_17, q62_17, q63_17, q67_17, q68_17, q492_17, hbl39⟩ := hR39
          have f52_17 := fun hh => getq q52_17 hh
          have f53_17 := fun hh => getq q53_17 hh
          have f54_17 := fun hh => getq q54_17 hh
          have f55_17 := fun hh => getq q55_17 hh
          have f56_17 := fun hh => getq q56_17 hh
          have f57_17 := fun hh => getq q57_17 hh
          have f61_17 := fun hh => getq q61_17 hh
          have f62_17 := fun hh => getq q62_17 hh
          have f63_17 := fun hh => getq q63_17 hh
          have f67_17 := fun hh => getq q67_17 hh
          have f68_17 := fun hh => getq q68_17 hh
          have f492_17 := fun hh => getq q492_17 hh
          have HB31 := Lib.hid (show Below w.heap.size w wc39 from hbl39)
          clear hbl39 F3
          go_wp2_with fail
          refine wp_cond_f ?_ ?_
          · (go_simp <;> omega)
          go_upto_region 41 with fail
          refine wp_cut (fun a' wx => ∃ T : Array Value, a' = ⟨T, []⟩ ∧ T.size = 540 ∧ T[52]? = some (.int .i64 ad) ∧ T[53]? = some (.int .i64 bd) ∧ T[54]? = some (.int .i64 cd) ∧ T[61]? = some (.int .i64 X5) ∧ T[62]? = some (.int .i64 Y5) ∧ T[63]? = some (.bool O5) ∧ T[67]? = some (.int .i64 U5) ∧ T[68]? = some (.int .i64 V5) ∧ T[503]? = some (.bool false) ∧ Below w.heap.size w wx) ?rest41 ?first41
          case first41 =>
            intro J K' hJ hK
            clear F5
            cases O4
            · go_wp2_with fail
              all_goals first | exact undef_no (by assumption) | (refine Met.intro (hJ _ _ ⟨_, rfl, by simp [hs17], by first | (simp only [↓Array.getElem?_setIfInBounds_ne, ne_eq, Nat.reduceEqDiff, not_false_eq_true, q52_17]; done) | simp [hs17, f52_17, f53_17, f54_17, f55_17, f56_17, f57_17, f61_17, f62_17, f63_17, f67_17, f68_17], by first | (simp only [↓Array.getElem?_setIfInBounds_ne, ne_eq, Nat.reduceEqDiff, not_false_eq_true, q53_17]; done) | simp [hs17, f52_17, f53_17, f54_17, f55_17, f56_17, f57_17, f61_17, f62_17, f63_17, f67_17, f68_17], by first | (simp only [↓Array.getElem?_setIfInBounds_ne, ne_eq, Nat.reduceEqDiff, not_false_eq_true, q54_17]; done) | simp [hs17, f52_17, f53_17, f54_17, f55_17, f56_17, f57_17, f61_17, f62_17, f63_17, f67_17, f68_17], by first | (simp only [↓Array.getElem?_setIfInBounds_ne, ne_eq, Nat.reduceEqDiff, not_false_eq_true, q61_17]; done) | simp [hs17, f52_17, f53_17, f54_17, f55_17, f56_17, f57_17, f61_17, f62_17, f63_17, f67_17, f68_17], by first | (simp only [↓Array.getElem?_setIfInBounds_ne, ne_eq, Nat.reduceEqDiff, not_false_eq_true, q62_17]; done) | simp [hs17, f52_17, f53_17, f54_17, f55_17, f56_17, f57_17, f61_17, f62_17, f63_17, f67_17, f68_17], by first | (simp only [↓Array.getElem?_setIfInBounds_ne, ne_eq, Nat.reduceEqDiff, not_false_eq_true, q63_17]; done) | simp [hs17, f52_17, f53_17, f54_17, f55_17, f56_17, f57_17, f61_17, f62_17, f63_17, f67_17, f68_17], by first | (simp only [↓Array.getElem?_setIfInBounds_ne, ne_eq, Nat.reduceEqDiff, not_false_eq_true, q67_17]; done) | simp [hs17, f52_17, f53_17, f54_17, f55_17, f56_17, f57_17, f61_17, f62_17, f63_17, f67_17, f68_17], by first | (simp only [↓Array.getElem?_setIfInBounds_ne, ne_eq, Nat.reduceEqDiff, not_false_eq_true, q68_17]; done) | simp [hs17, f52_17, f53_17, f54_17, f55_17, f56_17, f57_17, f61_17, f62_17, f63_17, f67_17, f68_17], by first | (simp only [↓Array.getElem?_setIfInBounds_ne, ne_eq, Nat.reduceEqDiff, not_false_eq_true]; done) | simp [hs17, f52_17, f53_17, f54_17, f55_17, f56_17, f57_17, f61_17, f62_17, f63_17, f67_17, f68_17], (by repeat (first | exact HB31.out | exact Below.refl _ _ | refine bl_drewN ?_ _))⟩))
            · obtain ⟨⟨⟨ad0, ad1⟩, ⟨bd0, bd1⟩, cd0, cd1⟩, ⟨x0, x1⟩, ⟨y0, y1⟩, hg, e1⟩ := (F4 rfl).out
              obtain ⟨m0, m1⟩ := mul_bd2 (a := ad) (b := cd) (m := 2000) (k := 2000) (by omega) (by omega) (by omega) (by omega)
              obtain ⟨m2, m3⟩ := mul_bd2 (a := X4) (b := bd) (m := 4000000) (k := 2000) (by omega) (by omega) (by omega) (by omega)
              have HI := fun W => Lib.hid (yIs_any (n := X4) (d := Y4) (x := ad * cd) (y := bd) x0 (by omega) y0 (by omega) hg m2 (by omega) e1 W)
              clear hg e1 m2 m3
              go_wp2_with fail
              refine ((HI _).out).mono ?_
              rintro e w' ⟨rfl, m32, rfl⟩
              go_wp2_with fail
              refine Met.intro (hJ _ _ ⟨_, rfl, by simp [hs17], by first | (simp only [↓Array.getElem?_setIfInBounds_ne, ne_eq, Nat.reduceEqDiff, not_false_eq_true, q52_17]; done) | simp [hs17, f52_17, f53_17, f54_17, f55_17, f56_17, f57_17, f61_17, f62_17, f63_17, f67_17, f68_17], by first | (simp only [↓Array.getElem?_setIfInBounds_ne, ne_eq, Nat.reduceEqDiff, not_false_eq_true, q53_17]; done) | simp [hs17, f52_17, f53_17, f54_17, f55_17, f56_17, f57_17, f61_17, f62_17, f63_17, f67_17, f68_17], by first | (simp only [↓Array.getElem?_setIfInBounds_ne, ne_eq, Nat.reduceEqDiff, not_false_eq_true, q54_17]; done) | simp [hs17, f52_17, f53_17, f54_17, f55_17, f56_17, f57_17, f61_17, f62_17, f63_17, f67_17, f68_17], by first | (simp only [↓Array.getElem?_setIfInBounds_ne, ne_eq, Nat.reduceEqDiff, not_false_eq_true, q61_17]; done) | simp [hs17, f52_17, f53_17, f54_17, f55_17, f56_17, f57_17, f61_17, f62_17, f63_17, f67_17, f68_17], by first | (simp only [↓Array.getElem?_setIfInBounds_ne, ne_eq, Nat.reduceEqDiff, not_false_eq_true, q62_17]; done) | simp [hs17, f52_17, f53_17, f54_17, f55_17, f56_17, f57_17, f61_17, f62_17, f63_17, f67_17, f68_17], by first | (simp only [↓Array.getElem?_setIfInBounds_ne, ne_eq, Nat.reduceEqDiff, not_false_eq_true, q63_17]; done) | simp [hs17, f52_17, f53_17, f54_17, f55_17, f56_17, f57_17, f61_17, f62_17, f63_17, f67_17, f68_17], by first | (simp only [↓Array.getElem?_setIfInBounds_ne, ne_eq, Nat.reduceEqDiff, not_false_eq_true, q67_17]; done) | simp [hs17, f52_17, f53_17, f54_17, f55_17, f56_17, f57_17, f61_17, f62_17, f63_17, f67_17, f68_17], by first | (simp only [↓Array.getElem?_setIfInBounds_ne, ne_eq, Nat.reduceEqDiff, not_false_eq_true, q68_17]; done) | simp [hs17, f52_17, f53_17, f54_17, f55_17, f56_17, f57_17, f61_17, f62_17, f63_17, f67_17, f68_17], by first | (simp only [↓Array.getElem?_setIfInBounds_ne, ne_eq, Nat.reduceEqDiff, not_false_eq_true]; done) | simp [hs17, f52_17, f53_17, f54_17, f55_17, f56_17, f57_17, f61_17, f62_17, f63_17, f67_17, f68_17], (by repeat (first | exact HB31.out | exact Below.refl _ _ | refine bl_drewN ?_ _))⟩)
          case rest41 =>
            intro a' wc41 hR41
            obtain ⟨T18, rfl, hs18, q52_18, q53_18, q54_18, q61_18, q62_18, q63_18, q67_18, q68_18, q503_18, hbl41⟩ := hR41
            have f52_18 := fun hh => getq q52_18 hh
            have f53_18 := fun hh => getq q53_18 hh
            have f54_18 := fun hh => getq q54_18 hh
            have f61_18 := fun hh => getq q61_18 hh
            have f62_18 := fun hh => getq q62_18 hh
            have f63_18 := fun hh => getq q63_18 hh
            have f67_18 := fun hh => getq q67_18 hh
            have f68_18 := fun hh => getq q68_18 hh
            have f503_18 := fun hh => getq q503_18 hh
            have HB33 := Lib.hid (show Below w.heap.size w wc41 from hbl41)
            clear hbl41 F4
            go_wp2_with fail
            refine wp_cond_f ?_ ?_
            · (go_simp <;> omega)
            go_upto_region 43 with fail
            refine wp_cut (fun a' wx => ∃ T : Array Value, a' = ⟨T, []⟩ ∧ T.size = 540 ∧ T[539]? = some (.bool false) ∧ Below w.heap.size w wx) ?rest43 ?first43
            case first43 =>
              intro J K' hJ hK
              skip
              cases O5
              · go_wp2_with fail
                all_goals first | exact undef_no (by assumption) | (refine Met.intro (hJ _ _ ⟨_, rfl, by simp [hs18], by first | (simp only [↓Array.getElem?_setIfInBounds_ne, ne_eq, Nat.reduceEqDiff, not_false_eq_true]; done) | simp [hs18, f52_18, f53_18, f54_18, f61_18, f62_18, f63_18, f67_18, f68_18], (by repeat (first | exact HB33.out | exact Below.refl _ _ | refine bl_drewN ?_ _))⟩))
              · obtain ⟨⟨⟨ad0, ad1⟩, ⟨bd0, bd1⟩, ⟨cd0, cd1⟩, hlt⟩, ⟨x0, x1⟩, ⟨y0, y1⟩, ⟨u0, u1⟩, ⟨v0_, v1_⟩, ⟨hg, hg2⟩, e1, e2⟩ := (F5 rfl).out
                have HY := fun W => Lib.hid (yLow_int (x := X5) (y := Y5) (by omega) (by omega) y0 (by omega) hg W)
                obtain ⟨m0, m1⟩ := mul_bd2 (a := U5) (b := Y5) (m := 4000000) (k := 2000) (by omega) (by omega) (by omega) (by omega)
                have HI := fun W => Lib.hid (yIs_any (n := U5) (d := V5) (x := X5 * ad) (y := Y5) u0 (by omega) v0_ (by omega) hg2 m0 (by omega) e1 W)
                clear hg hg2 e1 m0 m1
                obtain ⟨m0, m1⟩ := mul_bd2 (a := X5) (b := ad) (m := 2000) (k := 2000) (by omega) (by omega) (by omega) (by omega)
                obtain ⟨m2, m3⟩ := mul_bd2 (a := cd) (b := V5) (m := 2000) (k := 2000) (by omega) (by omega) (by omega) (by omega)
                obtain ⟨m4, m5⟩ := mul_bd2 (a := U5 + cd * V5) (b := Y5) (m := 8000000) (k := 2000) (by omega) (by omega) (by omega) (by omega)
                obtain ⟨m6, m7⟩ := mul_bd2 (a := X5) (b := bd) (m := 2000) (k := 2000) (by omega) (by omega) (by omega) (by omega)
                obtain ⟨m8, m9⟩ := mul_bd2 (a := X5 * bd) (b := V5) (m := 4000000) (k := 2000) (by omega) (by omega) (by omega) (by omega)
                have z1 : ¬ X5 < 1 := by omega
                have z5 : ((U5 + cd * V5) * Y5 != X5 * bd * V5) = false := by rw [e2]; simp
                clear e2
                go_wp2_with fail
                refine ((HY _).out).mono ?_
                rintro e w' ⟨rfl, m34, rfl⟩
                go_wp2_with fail
                refine ((HI _).out).mono ?_
                rintro e w' ⟨rfl, m35, rfl⟩
                go_wp2_with fail
                refine Met.intro (hJ _ _ ⟨_, rfl, by simp [hs18], by first | (simp only [↓Array.getElem?_setIfInBounds_ne, ne_eq, Nat.reduceEqDiff, not_false_eq_true]; done) | simp [hs18, f52_18, f53_18, f54_18, f61_18, f62_18, f63_18, f67_18, f68_18, z1, z5], (by repeat (first | exact HB33.out | exact Below.refl _ _ | refine bl_drewN ?_ _))⟩)
            case rest43 =>
              intro a' wc43 hR43
              obtain ⟨T19, rfl, hs19, q539_19, hbl43⟩ := hR43
              have f539_19 := fun hh => getq q539_19 hh
              have HB36 := Lib.hid (show Below w.heap.size w wc43 from hbl43)
              clear hbl43 F5
              go_wp2_with fail
              refine wp_cond_f ?_ ?_
              · (go_simp <;> omega)
              go_wp2
              go_ret
              exact ⟨by simp [hs19], HB36.out⟩
end Go.Proofs.Ytggoeaahagelfaa
