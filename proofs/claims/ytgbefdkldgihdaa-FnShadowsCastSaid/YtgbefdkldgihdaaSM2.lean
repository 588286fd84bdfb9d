/- The law FnShadowsCast: its walk. -/
import Derived.Test.YtgbefdkldgihdaaSM1
import Derived.Test.YtgbefdkldgihdaaDR3
import Derived.Test.YtgbefdkldgihdaaDRO
import Derived.Deep.Cut
import Derived.Deep.DeepCutAuto
import Derived.Deep.RegionHeld3
namespace Go.Proofs.Ytgbefdkldgihdaa
open Go.RowKit
set_option linter.unusedVariables false
set_option linter.unusedSimpArgs false
attribute [local irreducible] Array.setIfInBounds
theorem reframe {P : Program} {c : Code} {Q : Exit → Act → World → Prop} {T : Array Value} {w : World} (h : ∀ T' : Array Value, T' = T → c.wp P Q ⟨T', []⟩ w) : c.wp P Q ⟨T, []⟩ w := h T rfl
theorem wp_cond_t {P : Program} {x y : Code} {c : Operand} {Q : Exit → Act → World → Prop} {a : Act} {w : World} (h : a.eval c = .bool true) (hx : x.wp P Q a w) : (Code.cond c x y).wp P Q a w := wp_cond_split h (fun _ => hx) (fun h => by cases h)
theorem wp_cond_f {P : Program} {x y : Code} {c : Operand} {Q : Exit → Act → World → Prop} {a : Act} {w : World} (h : a.eval c = .bool false) (hy : y.wp P Q a w) : (Code.cond c x y).wp P Q a w := wp_cond_split h (fun h => by cases h) (fun _ => hy)
theorem getq {T : Array Value} {k : Nat} {v : Value} (h : T[k]? = some v) (hh : k < T.size) : T[k]'hh = v := by
  rw [Array.getElem?_eq_getElem hh] at h
  exact Option.some.inj h
theorem putq {T : Array Value} {k : Nat} {v : Value} (hk : k < T.size) (h : ∀ hh : k < T.size, T[k]'hh = v) : T[k]? = some v := by
  rw [Array.getElem?_eq_getElem hk, h hk]
theorem undef_no {b : Bool} {G : Prop} (h : some undef = some (Value.bool b)) : G := by simp [undef] at h
theorem Bytes.later {w u : World} {v : Value} (h : Bytes w w.heap.size v) (hb : Below w.heap.size w u) : Bytes u u.heap.size v := by
  rcases h with h | ⟨g, off, n, cap, hv, h0, h1, hg, hx⟩
  · exact .inl h
  · refine .inr ⟨g, off, n, cap, hv, h0, h1, Nat.lt_of_lt_of_le hg hb.size, fun i hi => ?_⟩
    obtain ⟨x, x0, x1, hx⟩ := hx i hi
    exact ⟨x, x0, x1, by rw [(bcell hb).1 _ _ hg]; exact hx⟩
def OneB (e : Ending) : Prop := ∃ r : Bool, e = .returned (.bool r)
set_option maxHeartbeats 400000 in
theorem big_any (v u : Value) (w : World) (h : Bytes w w.heap.size v) (k : Bytes w w.heap.size u) :
    Calls Try.prog 4 #[v, u] w fun e w' => OneB e ∧ w = w' := by
  obtain ⟨a, n, c, rfl, hn⟩ := h.shape
  obtain ⟨a', n', c', rfl, hn'⟩ := k.shape
  clear h k
  go_enter Try.func4, Try.ntmps4
  go_wp2
  all_goals (go_ret; exact ⟨⟨_, rfl⟩, rfl⟩)
set_option maxHeartbeats 100000000 in
set_option maxRecDepth 100000 in
theorem cast_walk (v0 v1 : Value) (w : World) (h0 : Bytes w w.heap.size v0) (h1 : Bytes w w.heap.size v1) :
    Calls Try.prog 3 #[v0, v1] w fun e w' => e = .returned (.bool true) ∧ Below w.heap.size w w' := by
  go_enter Try.func3, Try.ntmps3
  refine reframe fun T1 hT => ?_
  have hs1 : T1.size = 603 := by rw [hT]; rfl
  have f0_1 : ∀ hh : 0 < T1.size, T1[0]'hh = v0 := by subst hT; intro hh; rfl
  have f1_1 : ∀ hh : 1 < T1.size, T1[1]'hh = v1 := by subst hT; intro hh; rfl
  have q0_1 := putq (by rw [hs1]; decide) f0_1
  have q1_1 := putq (by rw [hs1]; decide) f1_1
  clear hT
  have HB0 := Lib.hid (Below.refl w.heap.size w)
  have H0 := Lib.hid h0
  have H1 := Lib.hid h1
  clear h0 h1
  go_wp2_with fail
  refine (big_any _ _ _ H0.out H1.out).mono ?_
  rintro e w' ⟨⟨r, rfl⟩, rfl⟩
  go_wp2_with fail
  cases r
  case true =>
    refine wp_cond_t ?_ ?_
    · (go_simp <;> omega)
    go_wp2
    go_ret
    exact ⟨by simp [hs1], HB0.out⟩
  go_wp2_with fail
  refine wp_cond_f ?_ ?_
  · (go_simp <;> omega)
  go_wp2_with fail
  refine (DrawShadowOnWall_any v0 _ (H0.out.later (by repeat (first | exact HB0.out | exact Below.refl _ _ | refine bl_drewN ?_ _)))).mono ?_
  rintro e w1 ⟨l, x, y, z, rfl, hb1⟩
  have HW := Lib.hid (bl_alloc (show Below w.heap.size w w1 from bl_trans hb1 (by repeat (first | exact HB0.out | exact Below.refl _ _ | refine bl_drewN ?_ _))) (.cells #[.int .i64 x, .int .i64 y] 25))
  clear hb1 HB0
  have p0 : (w1.alloc (.cells #[.int .i64 x, .int .i64 y] 25)).cell? ⟨w1.heap.size, 0, none⟩ = some (.int .i64 x) := by simp
  have p1 : (w1.alloc (.cells #[.int .i64 x, .int .i64 y] 25)).cell? ⟨w1.heap.size, 1, none⟩ = some (.int .i64 y) := by simp
  have t0 : w1.heap.size < (w1.alloc (.cells #[.int .i64 x, .int .i64 y] 25)).heap.size := by simp
  go_upto_region 4 with fail
  refine reframe fun T2 hT => ?_
  have hs2 : T2.size = 603 := by subst hT; simp [hs1]
  have q1_2 : T2[1]? = some (v1) := by subst hT; exact (by first | (simp only [↓Array.getElem?_setIfInBounds_ne, ne_eq, Nat.reduceEqDiff, not_false_eq_true, q1_1]; done) | simp [hs1, f0_1, f1_1])
  have f1_2 := fun hh => getq q1_2 hh
  have q5_2 : T2[5]? = some (.int .i64 l) := by subst hT; exact (by first | (simp only [↓Array.getElem?_setIfInBounds_ne, ne_eq, Nat.reduceEqDiff, not_false_eq_true]; done) | simp [hs1, f0_1, f1_1])
  have f5_2 := fun hh => getq q5_2 hh
  have q6_2 : T2[6]? = some (.pointer (some ⟨w1.heap.size, 0, none⟩)) := by subst hT; exact (by first | (simp only [↓Array.getElem?_setIfInBounds_ne, ne_eq, Nat.reduceEqDiff, not_false_eq_true]; done) | simp [hs1, f0_1, f1_1])
  have f6_2 := fun hh => getq q6_2 hh
  have q7_2 : T2[7]? = some (.int .i64 z) := by subst hT; exact (by first | (simp only [↓Array.getElem?_setIfInBounds_ne, ne_eq, Nat.reduceEqDiff, not_false_eq_true]; done) | simp [hs1, f0_1, f1_1])
  have f7_2 := fun hh => getq q7_2 hh
  clear hT f1_1 f0_1 hs1 q0_1 q1_1
  generalize (w1.alloc (.cells #[.int .i64 x, .int .i64 y] 25)) = wp at *
  have HX := Lib.hid (fun u (h : Below wp.heap.size wp u) => (⟨cell_after h t0 p0, cell_after h t0 p1⟩ : u.cell? ⟨w1.heap.size, 0, none⟩ = some (.int .i64 x) ∧ u.cell? ⟨w1.heap.size, 1, none⟩ = some (.int .i64 y)))
  have HB1 := Lib.hid (Below.refl wp.heap.size wp)
  obtain ⟨N1, D1, N2, D2, N3, D3, OK, TH, P1, P2, P3, P4, P5, P6, P7, P8, FO, FT⟩ := cast_pack l x y z
  clear t0
  go_wp2_with fail
  refine ((P1 _).out).mono ?_
  rintro e w2 ⟨rfl, hb2⟩
  have HB2 := Lib.hid (show Below wp.heap.size wp w2 from bl_trans hb2 (by repeat (first | exact HB1.out | exact Below.refl _ _ | refine bl_drewN ?_ _)))
  clear hb2 p0 p1
  obtain ⟨p0, p1⟩ := HX.out _ HB2.out
  go_wp2_with fail
  refine ((P2 _).out).mono ?_
  rintro e w3 ⟨rfl, hb3⟩
  have HB3 := Lib.hid (show Below wp.heap.size wp w3 from bl_trans hb3 (by repeat (first | exact HB2.out | exact Below.refl _ _ | refine bl_drewN ?_ _)))
  clear hb3 p0 p1
  obtain ⟨p0, p1⟩ := HX.out _ HB3.out
  go_upto_region 6 with fail
  refine reframe fun T3 hT => ?_
  have hs3 : T3.size = 603 := by subst hT; simp [hs2]
  have q1_3 : T3[1]? = some (v1) := by subst hT; exact (by first | (simp only [↓Array.getElem?_setIfInBounds_ne, ne_eq, Nat.reduceEqDiff, not_false_eq_true, q1_2]; done) | simp [hs2, f1_2, f5_2, f6_2, f7_2])
  have f1_3 := fun hh => getq q1_3 hh
  have q5_3 : T3[5]? = some (.int .i64 l) := by subst hT; exact (by first | (simp only [↓Array.getElem?_setIfInBounds_ne, ne_eq, Nat.reduceEqDiff, not_false_eq_true, q5_2]; done) | simp [hs2, f1_2, f5_2, f6_2, f7_2])
  have f5_3 := fun hh => getq q5_3 hh
  have q6_3 : T3[6]? = some (.pointer (some ⟨w1.heap.size, 0, none⟩)) := by subst hT; exact (by first | (simp only [↓Array.getElem?_setIfInBounds_ne, ne_eq, Nat.reduceEqDiff, not_false_eq_true, q6_2]; done) | simp [hs2, f1_2, f5_2, f6_2, f7_2])
  have f6_3 := fun hh => getq q6_3 hh
  have q7_3 : T3[7]? = some (.int .i64 z) := by subst hT; exact (by first | (simp only [↓Array.getElem?_setIfInBounds_ne, ne_eq, Nat.reduceEqDiff, not_false_eq_true, q7_2]; done) | simp [hs2, f1_2, f5_2, f6_2, f7_2])
  have f7_3 := fun hh => getq q7_3 hh
  have q8_3 : T3[8]? = some (.int .i64 N1) := by subst hT; exact (by first | (simp only [↓Array.getElem?_setIfInBounds_ne, ne_eq, Nat.reduceEqDiff, not_false_eq_true]; done) | simp [hs2, f1_2, f5_2, f6_2, f7_2])
  have f8_3 := fun hh => getq q8_3 hh
  have q9_3 : T3[9]? = some (.int .i64 D1) := by subst hT; exact (by first | (simp only [↓Array.getElem?_setIfInBounds_ne, ne_eq, Nat.reduceEqDiff, not_false_eq_true]; done) | simp [hs2, f1_2, f5_2, f6_2, f7_2])
  have f9_3 := fun hh => getq q9_3 hh
  have q10_3 : T3[10]? = some (.bool OK) := by subst hT; exact (by first | (simp only [↓Array.getElem?_setIfInBounds_ne, ne_eq, Nat.reduceEqDiff, not_false_eq_true]; done) | simp [hs2, f1_2, f5_2, f6_2, f7_2])
  have f10_3 := fun hh => getq q10_3 hh
  have q11_3 : T3[11]? = some (.int .i64 N1) := by subst hT; exact (by first | (simp only [↓Array.getElem?_setIfInBounds_ne, ne_eq, Nat.reduceEqDiff, not_false_eq_true]; done) | simp [hs2, f1_2, f5_2, f6_2, f7_2])
  have f11_3 := fun hh => getq q11_3 hh
  have q12_3 : T3[12]? = some (.int .i64 D1) := by subst hT; exact (by first | (simp only [↓Array.getElem?_setIfInBounds_ne, ne_eq, Nat.reduceEqDiff, not_false_eq_true]; done) | simp [hs2, f1_2, f5_2, f6_2, f7_2])
  have f12_3 := fun hh => getq q12_3 hh
  have q13_3 : T3[13]? = some (.bool OK) := by subst hT; exact (by first | (simp only [↓Array.getElem?_setIfInBounds_ne, ne_eq, Nat.reduceEqDiff, not_false_eq_true]; done) | simp [hs2, f1_2, f5_2, f6_2, f7_2])
  have f13_3 := fun hh => getq q13_3 hh
  clear hT f7_2 f6_2 f5_2 f1_2 hs2 q1_2 q5_2 q6_2 q7_2
  go_wp2_with fail
  refine ((P3 _).out).mono ?_
  rintro e w4 ⟨rfl, hb4⟩
  have HB4 := Lib.hid (show Below wp.heap.size wp w4 from bl_trans hb4 (by repeat (first | exact HB3.out | exact Below.refl _ _ | refine bl_drewN ?_ _)))
  clear hb4 p0 p1
  obtain ⟨p0, p1⟩ := HX.out _ HB4.out
  go_wp2_with fail
  refine ((P4 _).out).mono ?_
  rintro e w5 ⟨rfl, hb5⟩
  have HB5 := Lib.hid (show Below wp.heap.size wp w5 from bl_trans hb5 (by repeat (first | exact HB4.out | exact Below.refl _ _ | refine bl_drewN ?_ _)))
  clear hb5 p0 p1
  obtain ⟨p0, p1⟩ := HX.out _ HB5.out
  go_upto_region 8 with fail
  refine reframe fun T4 hT => ?_
  have hs4 : T4.size = 603 := by subst hT; simp [hs3]
  have q1_4 : T4[1]? = some (v1) := by subst hT; exact (by first | (simp only [↓Array.getElem?_setIfInBounds_ne, ne_eq, Nat.reduceEqDiff, not_false_eq_true, q1_3]; done) | simp [hs3, f1_3, f5_3, f6_3, f7_3, f8_3, f9_3, f10_3, f11_3, f12_3, f13_3])
  have f1_4 := fun hh => getq q1_4 hh
  have q5_4 : T4[5]? = some (.int .i64 l) := by subst hT; exact (by first | (simp only [↓Array.getElem?_setIfInBounds_ne, ne_eq, Nat.reduceEqDiff, not_false_eq_true, q5_3]; done) | simp [hs3, f1_3, f5_3, f6_3, f7_3, f8_3, f9_3, f10_3, f11_3, f12_3, f13_3])
  have f5_4 := fun hh => getq q5_4 hh
  have q6_4 : T4[6]? = some (.pointer (some ⟨w1.heap.size, 0, none⟩)) := by subst hT; exact (by first | (simp only [↓Array.getElem?_setIfInBounds_ne, ne_eq, Nat.reduceEqDiff, not_false_eq_true, q6_3]; done) | simp [hs3, f1_3, f5_3, f6_3, f7_3, f8_3, f9_3, f10_3, f11_3, f12_3, f13_3])
  have f6_4 := fun hh => getq q6_4 hh
  have q7_4 : T4[7]? = some (.int .i64 z) := by subst hT; exact (by first | (simp only [↓Array.getElem?_setIfInBounds_ne, ne_eq, Nat.reduceEqDiff, not_false_eq_true, q7_3]; done) | simp [hs3, f1_3, f5_3, f6_3, f7_3, f8_3, f9_3, f10_3, f11_3, f12_3, f13_3])
  have f7_4 := fun hh => getq q7_4 hh
  have q8_4 : T4[8]? = some (.int .i64 N1) := by subst hT; exact (by first | (simp only [↓Array.getElem?_setIfInBounds_ne, ne_eq, Nat.reduceEqDiff, not_false_eq_true, q8_3]; done) | simp [hs3, f1_3, f5_3, f6_3, f7_3, f8_3, f9_3, f10_3, f11_3, f12_3, f13_3])
  have f8_4 := fun hh => getq q8_4 hh
  have q9_4 : T4[9]? = some (.int .i64 D1) := by subst hT; exact (by first | (simp only [↓Array.getElem?_setIfInBounds_ne, ne_eq, Nat.reduceEqDiff, not_false_eq_true, q9_3]; done) | simp [hs3, f1_3, f5_3, f6_3, f7_3, f8_3, f9_3, f10_3, f11_3, f12_3, f13_3])
  have f9_4 := fun hh => getq q9_4 hh
  have q10_4 : T4[10]? = some (.bool OK) := by subst hT; exact (by first | (simp only [↓Array.getElem?_setIfInBounds_ne, ne_eq, Nat.reduceEqDiff, not_false_eq_true, q10_3]; done) | simp [hs3, f1_3, f5_3, f6_3, f7_3, f8_3, f9_3, f10_3, f11_3, f12_3, f13_3])
  have f10_4 := fun hh => getq q10_4 hh
  have q11_4 : T4[11]? = some (.int .i64 N1) := by subst hT; exact (by first | (simp only [↓Array.getElem?_setIfInBounds_ne, ne_eq, Nat.reduceEqDiff, not_false_eq_true, q11_3]; done) | simp [hs3, f1_3, f5_3, f6_3, f7_3, f8_3, f9_3, f10_3, f11_3, f12_3, f13_3])
  have f11_4 := fun hh => getq q11_4 hh
  have q12_4 : T4[12]? = some (.int .i64 D1) := by subst hT; exact (by first | (simp only [↓Array.getElem?_setIfInBounds_ne, ne_eq, Nat.reduceEqDiff, not_false_eq_true, q12_3]; done) | simp [hs3, f1_3, f5_3, f6_3, f7_3, f8_3, f9_3, f10_3, f11_3, f12_3, f13_3])
  have f12_4 := fun hh => getq q12_4 hh
  have q13_4 : T4[13]? = some (.bool OK) := by subst hT; exact (by first | (simp only [↓Array.getElem?_setIfInBounds_ne, ne_eq, Nat.reduceEqDiff, not_false_eq_true, q13_3]; done) | simp [hs3, f1_3, f5_3, f6_3, f7_3, f8_3, f9_3, f10_3, f11_3, f12_3, f13_3])
  have f13_4 := fun hh => getq q13_4 hh
  have q14_4 : T4[14]? = some (.int .i64 N2) := by subst hT; exact (by first | (simp only [↓Array.getElem?_setIfInBounds_ne, ne_eq, Nat.reduceEqDiff, not_false_eq_true]; done) | simp [hs3, f1_3, f5_3, f6_3, f7_3, f8_3, f9_3, f10_3, f11_3, f12_3, f13_3])
  have f14_4 := fun hh => getq q14_4 hh
  have q15_4 : T4[15]? = some (.int .i64 D2) := by subst hT; exact (by first | (simp only [↓Array.getElem?_setIfInBounds_ne, ne_eq, Nat.reduceEqDiff, not_false_eq_true]; done) | simp [hs3, f1_3, f5_3, f6_3, f7_3, f8_3, f9_3, f10_3, f11_3, f12_3, f13_3])
  have f15_4 := fun hh => getq q15_4 hh
  have q16_4 : T4[16]? = some (.bool OK) := by subst hT; exact (by first | (simp only [↓Array.getElem?_setIfInBounds_ne, ne_eq, Nat.reduceEqDiff, not_false_eq_true]; done) | simp [hs3, f1_3, f5_3, f6_3, f7_3, f8_3, f9_3, f10_3, f11_3, f12_3, f13_3])
  have f16_4 := fun hh => getq q16_4 hh
  have q17_4 : T4[17]? = some (.int .i64 N2) := by subst hT; exact (by first | (simp only [↓Array.getElem?_setIfInBounds_ne, ne_eq, Nat.reduceEqDiff, not_false_eq_true]; done) | simp [hs3, f1_3, f5_3, f6_3, f7_3, f8_3, f9_3, f10_3, f11_3, f12_3, f13_3])
  have f17_4 := fun hh => getq q17_4 hh
  have q18_4 : T4[18]? = some (.int .i64 D2) := by subst hT; exact (by first | (simp only [↓Array.getElem?_setIfInBounds_ne, ne_eq, Nat.reduceEqDiff, not_false_eq_true]; done) | simp [hs3, f1_3, f5_3, f6_3, f7_3, f8_3, f9_3, f10_3, f11_3, f12_3, f13_3])
  have f18_4 := fun hh => getq q18_4 hh
  have q19_4 : T4[19]? = some (.bool OK) := by subst hT; exact (by first | (simp only [↓Array.getElem?_setIfInBounds_ne, ne_eq, Nat.reduceEqDiff, not_false_eq_true]; done) | simp [hs3, f1_3, f5_3, f6_3, f7_3, f8_3, f9_3, f10_3, f11_3, f12_3, f13_3])
  have f19_4 := fun hh => getq q19_4 hh
  clear hT f13_3 f12_3 f11_3 f10_3 f9_3 f8_3 f7_3 f6_3 f5_3 f1_3 hs3 q1_3 q5_3 q6_3 q7_3 q8_3 q9_3 q10_3 q11_3 q12_3 q13_3
  go_wp2_with fail
  refine ((P5 _).out).mono ?_
  rintro e w6 ⟨rfl, hb6⟩
  have HB6 := Lib.hid (show Below wp.heap.size wp w6 from bl_trans hb6 (by repeat (first | exact HB5.out | exact Below.refl _ _ | refine bl_drewN ?_ _)))
  clear hb6 p0 p1
  obtain ⟨p0, p1⟩ := HX.out _ HB6.out
  go_wp2_with fail
  refine ((P6 _).out).mono ?_
  rintro e w7 ⟨rfl, hb7⟩
  have HB7 := Lib.hid (show Below wp.heap.size wp w7 from bl_trans hb7 (by repeat (first | exact HB6.out | exact Below.refl _ _ | refine bl_drewN ?_ _)))
  clear hb7 p0 p1
  obtain ⟨p0, p1⟩ := HX.out _ HB7.out
  go_upto_region 10 with fail
  refine reframe fun T5 hT => ?_
  have hs5 : T5.size = 603 := by subst hT; simp [hs4]
  have q1_5 : T5[1]? = some (v1) := by subst hT; exact (by first | (simp only [↓Array.getElem?_setIfInBounds_ne, ne_eq, Nat.reduceEqDiff, not_false_eq_true, q1_4]; done) | simp [hs4, f1_4, f5_4, f6_4, f7_4, f8_4, f9_4, f10_4, f11_4, f12_4, f13_4, f14_4, f15_4, f16_4, f17_4, f18_4, f19_4])
  have f1_5 := fun hh => getq q1_5 hh
  have q5_5 : T5[5]? = some (.int .i64 l) := by subst hT; exact (by first | (simp only [↓Array.getElem?_setIfInBounds_ne, ne_eq, Nat.reduceEqDiff, not_false_eq_true, q5_4]; done) | simp [hs4, f1_4, f5_4, f6_4, f7_4, f8_4, f9_4, f10_4, f11_4, f12_4, f13_4, f14_4, f15_4, f16_4, f17_4, f18_4, f19_4])
  have f5_5 := fun hh => getq q5_5 hh
  have q6_5 : T5[6]? = some (.pointer (some ⟨w1.heap.size, 0, none⟩)) := by subst hT; exact (by first | (simp only [↓Array.getElem?_setIfInBounds_ne, ne_eq, Nat.reduceEqDiff, not_false_eq_true, q6_4]; done) | simp [hs4, f1_4, f5_4, f6_4, f7_4, f8_4, f9_4, f10_4, f11_4, f12_4, f13_4, f14_4, f15_4, f16_4, f17_4, f18_4, f19_4])
  have f6_5 := fun hh => getq q6_5 hh
  have q7_5 : T5[7]? = some (.int .i64 z) := by subst hT; exact (by first | (simp only [↓Array.getElem?_setIfInBounds_ne, ne_eq, Nat.reduceEqDiff, not_false_eq_true, q7_4]; done) | simp [hs4, f1_4, f5_4, f6_4, f7_4, f8_4, f9_4, f10_4, f11_4, f12_4, f13_4, f14_4, f15_4, f16_4, f17_4, f18_4, f19_4])
  have f7_5 := fun hh => getq q7_5 hh
  have q8_5 : T5[8]? = some (.int .i64 N1) := by subst hT; exact (by first | (simp only [↓Array.getElem?_setIfInBounds_ne, ne_eq, Nat.reduceEqDiff, not_false_eq_true, q8_4]; done) | simp [hs4, f1_4, f5_4, f6_4, f7_4, f8_4, f9_4, f10_4, f11_4, f12_4, f13_4, f14_4, f15_4, f16_4, f17_4, f18_4, f19_4])
  have f8_5 := fun hh => getq q8_5 hh
  have q9_5 : T5[9]? = some (.int .i64 D1) := by subst hT; exact (by first | (simp only [↓Array.getElem?_setIfInBounds_ne, ne_eq, Nat.reduceEqDiff, not_false_eq_true, q9_4]; done) | simp [hs4, f1_4, f5_4, f6_4, f7_4, f8_4, f9_4, f10_4, f11_4, f12_4, f13_4, f14_4, f15_4, f16_4, f17_4, f18_4, f19_4])
  have f9_5 := fun hh => getq q9_5 hh
  have q10_5 : T5[10]? = some (.bool OK) := by subst hT; exact (by first | (simp only [↓Array.getElem?_setIfInBounds_ne, ne_eq, Nat.reduceEqDiff, not_false_eq_true, q10_4]; done) | simp [hs4, f1_4, f5_4, f6_4, f7_4, f8_4, f9_4, f10_4, f11_4, f12_4, f13_4, f14_4, f15_4, f16_4, f17_4, f18_4, f19_4])
  have f10_5 := fun hh => getq q10_5 hh
  have q11_5 : T5[11]? = some (.int .i64 N1) := by subst hT; exact (by first | (simp only [↓Array.getElem?_setIfInBounds_ne, ne_eq, Nat.reduceEqDiff, not_false_eq_true, q11_4]; done) | simp [hs4, f1_4, f5_4, f6_4, f7_4, f8_4, f9_4, f10_4, f11_4, f12_4, f13_4, f14_4, f15_4, f16_4, f17_4, f18_4, f19_4])
  have f11_5 := fun hh => getq q11_5 hh
  have q12_5 : T5[12]? = some (.int .i64 D1) := by subst hT; exact (by first | (simp only [↓Array.getElem?_setIfInBounds_ne, ne_eq, Nat.reduceEqDiff, not_false_eq_true, q12_4]; done) | simp [hs4, f1_4, f5_4, f6_4, f7_4, f8_4, f9_4, f10_4, f11_4, f12_4, f13_4, f14_4, f15_4, f16_4, f17_4, f18_4, f19_4])
  have f12_5 := fun hh => getq q12_5 hh
  have q13_5 : T5[13]? = some (.bool OK) := by subst hT; exact (by first | (simp only [↓Array.getElem?_setIfInBounds_ne, ne_eq, Nat.reduceEqDiff, not_false_eq_true, q13_4]; done) | simp [hs4, f1_4, f5_4, f6_4, f7_4, f8_4, f9_4, f10_4, f11_4, f12_4, f13_4, f14_4, f15_4, f16_4, f17_4, f18_4, f19_4])
  have f13_5 := fun hh => getq q13_5 hh
  have q14_5 : T5[14]? = some (.int .i64 N2) := by subst hT; exact (by first | (simp only [↓Array.getElem?_setIfInBounds_ne, ne_eq, Nat.reduceEqDiff, not_false_eq_true, q14_4]; done) | simp [hs4, f1_4, f5_4, f6_4, f7_4, f8_4, f9_4, f10_4, f11_4, f12_4, f13_4, f14_4, f15_4, f16_4, f17_4, f18_4, f19_4])
  have f14_5 := fun hh => getq q14_5 hh
  have q15_5 : T5[15]? = some (.int .i64 D2) := by subst hT; exact (by first | (simp only [↓Array.getElem?_setIfInBounds_ne, ne_eq, Nat.reduceEqDiff, not_false_eq_true, q15_4]; done) | simp [hs4, f1_4, f5_4, f6_4, f7_4, f8_4, f9_4, f10_4, f11_4, f12_4, f13_4, f14_4, f15_4, f16_4, f17_4, f18_4, f19_4])
  have f15_5 := fun hh => getq q15_5 hh
  have q16_5 : T5[16]? = some (.bool OK) := by subst hT; exact (by first | (simp only [↓Array.getElem?_setIfInBounds_ne, ne_eq, Nat.reduceEqDiff, not_false_eq_true, q16_4]; done) | simp [hs4, f1_4, f5_4, f6_4, f7_4, f8_4, f9_4, f10_4, f11_4, f12_4, f13_4, f14_4, f15_4, f16_4, f17_4, f18_4, f19_4])
  have f16_5 := fun hh => getq q16_5 hh
  have q17_5 : T5[17]? = some (.int .i64 N2) := by subst hT; exact (by first | (simp only [↓Array.getElem?_setIfInBounds_ne, ne_eq, Nat.reduceEqDiff, not_false_eq_true, q17_4]; done) | simp [hs4, f1_4, f5_4, f6_4, f7_4, f8_4, f9_4, f10_4, f11_4, f12_4, f13_4, f14_4, f15_4, f16_4, f17_4, f18_4, f19_4])
  have f17_5 := fun hh => getq q17_5 hh
  have q18_5 : T5[18]? = some (.int .i64 D2) := by subst hT; exact (by first | (simp only [↓Array.getElem?_setIfInBounds_ne, ne_eq, Nat.reduceEqDiff, not_false_eq_true, q18_4]; done) | simp [hs4, f1_4, f5_4, f6_4, f7_4, f8_4, f9_4, f10_4, f11_4, f12_4, f13_4, f14_4, f15_4, f16_4, f17_4, f18_4, f19_4])
  have f18_5 := fun hh => getq q18_5 hh
  have q19_5 : T5[19]? = some (.bool OK) := by subst hT; exact (by first | (simp only [↓Array.getElem?_setIfInBounds_ne, ne_eq, Nat.reduceEqDiff, not_false_eq_true, q19_4]; done) | simp [hs4, f1_4, f5_4, f6_4, f7_4, f8_4, f9_4, f10_4, f11_4, f12_4, f13_4, f14_4, f15_4, f16_4, f17_4, f18_4, f19_4])
  have f19_5 := fun hh => getq q19_5 hh
  have q20_5 : T5[20]? = some (.int .i64 N3) := by subst hT; exact (by first | (simp only [↓Array.getElem?_setIfInBounds_ne, ne_eq, Nat.reduceEqDiff, not_false_eq_true]; done) | simp [hs4, f1_4, f5_4, f6_4, f7_4, f8_4, f9_4, f10_4, f11_4, f12_4, f13_4, f14_4, f15_4, f16_4, f17_4, f18_4, f19_4])
  have f20_5 := fun hh => getq q20_5 hh
  have q21_5 : T5[21]? = some (.int .i64 D3) := by subst hT; exact (by first | (simp only [↓Array.getElem?_setIfInBounds_ne, ne_eq, Nat.reduceEqDiff, not_false_eq_true]; done) | simp [hs4, f1_4, f5_4, f6_4, f7_4, f8_4, f9_4, f10_4, f11_4, f12_4, f13_4, f14_4, f15_4, f16_4, f17_4, f18_4, f19_4])
  have f21_5 := fun hh => getq q21_5 hh
  have q22_5 : T5[22]? = some (.bool TH) := by subst hT; exact (by first | (simp only [↓Array.getElem?_setIfInBounds_ne, ne_eq, Nat.reduceEqDiff, not_false_eq_true]; done) | simp [hs4, f1_4, f5_4, f6_4, f7_4, f8_4, f9_4, f10_4, f11_4, f12_4, f13_4, f14_4, f15_4, f16_4, f17_4, f18_4, f19_4])
  have f22_5 := fun hh => getq q22_5 hh
  have q23_5 : T5[23]? = some (.int .i64 N3) := by subst hT; exact (by first | (simp only [↓Array.getElem?_setIfInBounds_ne, ne_eq, Nat.reduceEqDiff, not_false_eq_true]; done) | simp [hs4, f1_4, f5_4, f6_4, f7_4, f8_4, f9_4, f10_4, f11_4, f12_4, f13_4, f14_4, f15_4, f16_4, f17_4, f18_4, f19_4])
  have f23_5 := fun hh => getq q23_5 hh
  have q24_5 : T5[24]? = some (.int .i64 D3) := by subst hT; exact (by first | (simp only [↓Array.getElem?_setIfInBounds_ne, ne_eq, Nat.reduceEqDiff, not_false_eq_true]; done) | simp [hs4, f1_4, f5_4, f6_4, f7_4, f8_4, f9_4, f10_4, f11_4, f12_4, f13_4, f14_4, f15_4, f16_4, f17_4, f18_4, f19_4])
  have f24_5 := fun hh => getq q24_5 hh
  have q25_5 : T5[25]? = some (.bool TH) := by subst hT; exact (by first | (simp only [↓Array.getElem?_setIfInBounds_ne, ne_eq, Nat.reduceEqDiff, not_false_eq_true]; done) | simp [hs4, f1_4, f5_4, f6_4, f7_4, f8_4, f9_4, f10_4, f11_4, f12_4, f13_4, f14_4, f15_4, f16_4, f17_4, f18_4, f19_4])
  have f25_5 := fun hh => getq q25_5 hh
  clear hT f19_4 f18_4 f17_4 f16_4 f15_4 f14_4 f13_4 f12_4 f11_4 f10_4 f9_4 f8_4 f7_4 f6_4 f5_4 f1_4 hs4 q1_4 q5_4 q6_4 q7_4 q8_4 q9_4 q10_4 q11_4 q12_4 q13_4 q14_4 q15_4 q16_4 q17_4 q18_4 q19_4
  go_wp2_with fail
  refine ((P7 _).out).mono ?_
  rintro e w8 ⟨rfl, hb8⟩
  have HB8 := Lib.hid (show Below wp.heap.size wp w8 from bl_trans hb8 (by repeat (first | exact HB7.out | exact Below.refl _ _ | refine bl_drewN ?_ _)))
  clear hb8 p0 p1
  obtain ⟨p0, p1⟩ := HX.out _ HB8.out
  go_wp2_with fail
  refine ((P8 _).out).mono ?_
  rintro e w9 ⟨rfl, hb9⟩
  have HB9 := Lib.hid (show Below wp.heap.size wp w9 from bl_trans hb9 (by repeat (first | exact HB8.out | exact Below.refl _ _ | refine bl_drewN ?_ _)))
  clear hb9 p0 p1
  obtain ⟨p0, p1⟩ := HX.out _ HB9.out
  go_upto_region 12 with fail
  refine reframe fun T6 hT => ?_
  have hs6 : T6.size = 603 := by subst hT; simp [hs5]
  have q1_6 : T6[1]? = some (v1) := by subst hT; exact (by first | (simp only [↓Array.getElem?_setIfInBounds_ne, ne_eq, Nat.reduceEqDiff, not_false_eq_true, q1_5]; done) | simp [hs5, f1_5, f5_5, f6_5, f7_5, f8_5, f9_5, f10_5, f11_5, f12_5, f13_5, f14_5, f15_5, f16_5, f17_5, f18_5, f19_5, f20_5, f21_5, f22_5, f23_5, f24_5, f25_5])
  have f1_6 := fun hh => getq q1_6 hh
  have q5_6 : T6[5]? = some (.int .i64 l) := by subst hT; exact (by first | (simp only [↓Array.getElem?_setIfInBounds_ne, ne_eq, Nat.reduceEqDiff, not_false_eq_true, q5_5]; done) | simp [hs5, f1_5, f5_5, f6_5, f7_5, f8_5, f9_5, f10_5, f11_5, f12_5, f13_5, f14_5, f15_5, f16_5, f17_5, f18_5, f19_5, f20_5, f21_5, f22_5, f23_5, f24_5, f25_5])
  have f5_6 := fun hh => getq q5_6 hh
  have q6_6 : T6[6]? = some (.pointer (some ⟨w1.heap.size, 0, none⟩)) := by subst hT; exact (by first | (simp only [↓Array.getElem?_setIfInBounds_ne, ne_eq, Nat.reduceEqDiff, not_false_eq_true, q6_5]; done) | simp [hs5, f1_5, f5_5, f6_5, f7_5, f8_5, f9_5, f10_5, f11_5, f12_5, f13_5, f14_5, f15_5, f16_5, f17_5, f18_5, f19_5, f20_5, f21_5, f22_5, f23_5, f24_5, f25_5])
  have f6_6 := fun hh => getq q6_6 hh
  have q7_6 : T6[7]? = some (.int .i64 z) := by subst hT; exact (by first | (simp only [↓Array.getElem?_setIfInBounds_ne, ne_eq, Nat.reduceEqDiff, not_false_eq_true, q7_5]; done) | simp [hs5, f1_5, f5_5, f6_5, f7_5, f8_5, f9_5, f10_5, f11_5, f12_5, f13_5, f14_5, f15_5, f16_5, f17_5, f18_5, f19_5, f20_5, f21_5, f22_5, f23_5, f24_5, f25_5])
  have f7_6 := fun hh => getq q7_6 hh
  have q8_6 : T6[8]? = some (.int .i64 N1) := by subst hT; exact (by first | (simp only [↓Array.getElem?_setIfInBounds_ne, ne_eq, Nat.reduceEqDiff, not_false_eq_true, q8_5]; done) | simp [hs5, f1_5, f5_5, f6_5, f7_5, f8_5, f9_5, f10_5, f11_5, f12_5, f13_5, f14_5, f15_5, f16_5, f17_5, f18_5, f19_5, f20_5, f21_5, f22_5, f23_5, f24_5, f25_5])
  have f8_6 := fun hh => getq q8_6 hh
  have q9_6 : T6[9]? = some (.int .i64 D1) := by subst hT; exact (by first | (simp only [↓Array.getElem?_setIfInBounds_ne, ne_eq, Nat.reduceEqDiff, not_false_eq_true, q9_5]; done) | simp [hs5, f1_5, f5_5, f6_5, f7_5, f8_5, f9_5, f10_5, f11_5, f12_5, f13_5, f14_5, f15_5, f16_5, f17_5, f18_5, f19_5, f20_5, f21_5, f22_5, f23_5, f24_5, f25_5])
  have f9_6 := fun hh => getq q9_6 hh
  have q10_6 : T6[10]? = some (.bool OK) := by subst hT; exact (by first | (simp only [↓Array.getElem?_setIfInBounds_ne, ne_eq, Nat.reduceEqDiff, not_false_eq_true, q10_5]; done) | simp [hs5, f1_5, f5_5, f6_5, f7_5, f8_5, f9_5, f10_5, f11_5, f12_5, f13_5, f14_5, f15_5, f16_5, f17_5, f18_5, f19_5, f20_5, f21_5, f22_5, f23_5, f24_5, f25_5])
  have f10_6 := fun hh => getq q10_6 hh
  have q11_6 : T6[11]? = some (.int .i64 N1) := by subst hT; exact (by first | (simp only [↓Array.getElem?_setIfInBounds_ne, ne_eq, Nat.reduceEqDiff, not_false_eq_true, q11_5]; done) | simp [hs5, f1_5, f5_5, f6_5, f7_5, f8_5, f9_5, f10_5, f11_5, f12_5, f13_5, f14_5, f15_5, f16_5, f17_5, f18_5, f19_5, f20_5, f21_5, f22_5, f23_5, f24_5, f25_5])
  have f11_6 := fun hh => getq q11_6 hh
  have q12_6 : T6[12]? = some (.int .i64 D1) := by subst hT; exact (by first | (simp only [↓Array.getElem?_setIfInBounds_ne, ne_eq, Nat.reduceEqDiff, not_false_eq_true, q12_5]; done) | simp [hs5, f1_5, f5_5, f6_5, f7_5, f8_5, f9_5, f10_5, f11_5, f12_5, f13_5, f14_5, f15_5, f16_5, f17_5, f18_5, f19_5, f20_5, f21_5, f22_5, f23_5, f24_5, f25_5])
  have f12_6 := fun hh => getq q12_6 hh
  have q13_6 : T6[13]? = some (.bool OK) := by subst hT; exact (by first | (simp only [↓Array.getElem?_setIfInBounds_ne, ne_eq, Nat.reduceEqDiff, not_false_eq_true, q13_5]; done) | simp [hs5, f1_5, f5_5, f6_5, f7_5, f8_5, f9_5, f10_5, f11_5, f12_5, f13_5, f14_5, f15_5, f16_5, f17_5, f18_5, f19_5, f20_5, f21_5, f22_5, f23_5, f24_5, f25_5])
  have f13_6 := fun hh => getq q13_6 hh
  have q14_6 : T6[14]? = some (.int .i64 N2) := by subst hT; exact (by first | (simp only [↓Array.getElem?_setIfInBounds_ne, ne_eq, Nat.reduceEqDiff, not_false_eq_true, q14_5]; done) | simp [hs5, f1_5, f5_5, f6_5, f7_5, f8_5, f9_5, f10_5, f11_5, f12_5, f13_5, f14_5, f15_5, f16_5, f17_5, f18_5, f19_5, f20_5, f21_5, f22_5, f23_5, f24_5, f25_5])
  have f14_6 := fun hh => getq q14_6 hh
  have q15_6 : T6[15]? = some (.int .i64 D2) := by subst hT; exact (by first | (simp only [↓Array.getElem?_setIfInBounds_ne, ne_eq, Nat.reduceEqDiff, not_false_eq_true, q15_5]; done) | simp [hs5, f1_5, f5_5, f6_5, f7_5, f8_5, f9_5, f10_5, f11_5, f12_5, f13_5, f14_5, f15_5, f16_5, f17_5, f18_5, f19_5, f20_5, f21_5, f22_5, f23_5, f24_5, f25_5])
  have f15_6 := fun hh => getq q15_6 hh
  have q16_6 : T6[16]? = some (.bool OK) := by subst hT; exact (by first | (simp only [↓Array.getElem?_setIfInBounds_ne, ne_eq, Nat.reduceEqDiff, not_false_eq_true, q16_5]; done) | simp [hs5, f1_5, f5_5, f6_5, f7_5, f8_5, f9_5, f10_5, f11_5, f12_5, f13_5, f14_5, f15_5, f16_5, f17_5, f18_5, f19_5, f20_5, f21_5, f22_5, f23_5, f24_5, f25_5])
  have f16_6 := fun hh => getq q16_6 hh
  have q17_6 : T6[17]? = some (.int .i64 N2) := by subst hT; exact (by first | (simp only [↓Array.getElem?_setIfInBounds_ne, ne_eq, Nat.reduceEqDiff, not_false_eq_true, q17_5]; done) | simp [hs5, f1_5, f5_5, f6_5, f7_5, f8_5, f9_5, f10_5, f11_5, f12_5, f13_5, f14_5, f15_5, f16_5, f17_5, f18_5, f19_5, f20_5, f21_5, f22_5, f23_5, f24_5, f25_5])
  have f17_6 := fun hh => getq q17_6 hh
  have q18_6 : T6[18]? = some (.int .i64 D2) := by subst hT; exact (by first | (simp only [↓Array.getElem?_setIfInBounds_ne, ne_eq, Nat.reduceEqDiff, not_false_eq_true, q18_5]; done) | simp [hs5, f1_5, f5_5, f6_5, f7_5, f8_5, f9_5, f10_5, f11_5, f12_5, f13_5, f14_5, f15_5, f16_5, f17_5, f18_5, f19_5, f20_5, f21_5, f22_5, f23_5, f24_5, f25_5])
  have f18_6 := fun hh => getq q18_6 hh
  have q19_6 : T6[19]? = some (.bool OK) := by subst hT; exact (by first | (simp only [↓Array.getElem?_setIfInBounds_ne, ne_eq, Nat.reduceEqDiff, not_false_eq_true, q19_5]; done) | simp [hs5, f1_5, f5_5, f6_5, f7_5, f8_5, f9_5, f10_5, f11_5, f12_5, f13_5, f14_5, f15_5, f16_5, f17_5, f18_5, f19_5, f20_5, f21_5, f22_5, f23_5, f24_5, f25_5])
  have f19_6 := fun hh => getq q19_6 hh
  have q20_6 : T6[20]? = some (.int .i64 N3) := by subst hT; exact (by first | (simp only [↓Array.getElem?_setIfInBounds_ne, ne_eq, Nat.reduceEqDiff, not_false_eq_true, q20_5]; done) | simp [hs5, f1_5, f5_5, f6_5, f7_5, f8_5, f9_5, f10_5, f11_5, f12_5, f13_5, f14_5, f15_5, f16_5, f17_5, f18_5, f19_5, f20_5, f21_5, f22_5, f23_5, f24_5, f25_5])
  have f20_6 := fun hh => getq q20_6 hh
  have q21_6 : T6[21]? = some (.int .i64 D3) := by subst hT; exact (by first | (simp only [↓Array.getElem?_setIfInBounds_ne, ne_eq, Nat.reduceEqDiff, not_false_eq_true, q21_5]; done) | simp [hs5, f1_5, f5_5, f6_5, f7_5, f8_5, f9_5, f10_5, f11_5, f12_5, f13_5, f14_5, f15_5, f16_5, f17_5, f18_5, f19_5, f20_5, f21_5, f22_5, f23_5, f24_5, f25_5])
  have f21_6 := fun hh => getq q21_6 hh
  have q22_6 : T6[22]? = some (.bool TH) := by subst hT; exact (by first | (simp only [↓Array.getElem?_setIfInBounds_ne, ne_eq, Nat.reduceEqDiff, not_false_eq_true, q22_5]; done) | simp [hs5, f1_5, f5_5, f6_5, f7_5, f8_5, f9_5, f10_5, f11_5, f12_5, f13_5, f14_5, f15_5, f16_5, f17_5, f18_5, f19_5, f20_5, f21_5, f22_5, f23_5, f24_5, f25_5])
  have f22_6 := fun hh => getq q22_6 hh
  have q23_6 : T6[23]? = some (.int .i64 N3) := by subst hT; exact (by first | (simp only [↓Array.getElem?_setIfInBounds_ne, ne_eq, Nat.reduceEqDiff, not_false_eq_true, q23_5]; done) | simp [hs5, f1_5, f5_5, f6_5, f7_5, f8_5, f9_5, f10_5, f11_5, f12_5, f13_5, f14_5, f15_5, f16_5, f17_5, f18_5, f19_5, f20_5, f21_5, f22_5, f23_5, f24_5, f25_5])
  have f23_6 := fun hh => getq q23_6 hh
  have q24_6 : T6[24]? = some (.int .i64 D3) := by subst hT; exact (by first | (simp only [↓Array.getElem?_setIfInBounds_ne, ne_eq, Nat.reduceEqDiff, not_false_eq_true, q24_5]; done) | simp [hs5, f1_5, f5_5, f6_5, f7_5, f8_5, f9_5, f10_5, f11_5, f12_5, f13_5, f14_5, f15_5, f16_5, f17_5, f18_5, f19_5, f20_5, f21_5, f22_5, f23_5, f24_5, f25_5])
  have f24_6 := fun hh => getq q24_6 hh
  have q25_6 : T6[25]? = some (.bool TH) := by subst hT; exact (by first | (simp only [↓Array.getElem?_setIfInBounds_ne, ne_eq, Nat.reduceEqDiff, not_false_eq_true, q25_5]; done) | simp [hs5, f1_5, f5_5, f6_5, f7_5, f8_5, f9_5, f10_5, f11_5, f12_5, f13_5, f14_5, f15_5, f16_5, f17_5, f18_5, f19_5, f20_5, f21_5, f22_5, f23_5, f24_5, f25_5])
  have f25_6 := fun hh => getq q25_6 hh
  have q26_6 : T6[26]? = some (.int .i64 N3) := by subst hT; exact (by first | (simp only [↓Array.getElem?_setIfInBounds_ne, ne_eq, Nat.reduceEqDiff, not_false_eq_true]; done) | simp [hs5, f1_5, f5_5, f6_5, f7_5, f8_5, f9_5, f10_5, f11_5, f12_5, f13_5, f14_5, f15_5, f16_5, f17_5, f18_5, f19_5, f20_5, f21_5, f22_5, f23_5, f24_5, f25_5])
  have f26_6 := fun hh => getq q26_6 hh
  have q27_6 : T6[27]? = some (.int .i64 D3) := by subst hT; exact (by first | (simp only [↓Array.getElem?_setIfInBounds_ne, ne_eq, Nat.reduceEqDiff, not_false_eq_true]; done) | simp [hs5, f1_5, f5_5, f6_5, f7_5, f8_5, f9_5, f10_5, f11_5, f12_5, f13_5, f14_5, f15_5, f16_5, f17_5, f18_5, f19_5, f20_5, f21_5, f22_5, f23_5, f24_5, f25_5])
  have f27_6 := fun hh => getq q27_6 hh
  have q28_6 : T6[28]? = some (.bool TH) := by subst hT; exact (by first | (simp only [↓Array.getElem?_setIfInBounds_ne, ne_eq, Nat.reduceEqDiff, not_false_eq_true]; done) | simp [hs5, f1_5, f5_5, f6_5, f7_5, f8_5, f9_5, f10_5, f11_5, f12_5, f13_5, f14_5, f15_5, f16_5, f17_5, f18_5, f19_5, f20_5, f21_5, f22_5, f23_5, f24_5, f25_5])
  have f28_6 := fun hh => getq q28_6 hh
  have q29_6 : T6[29]? = some (.int .i64 N3) := by subst hT; exact (by first | (simp only [↓Array.getElem?_setIfInBounds_ne, ne_eq, Nat.reduceEqDiff, not_false_eq_true]; done) | simp [hs5, f1_5, f5_5, f6_5, f7_5, f8_5, f9_5, f10_5, f11_5, f12_5, f13_5, f14_5, f15_5, f16_5, f17_5, f18_5, f19_5, f20_5, f21_5, f22_5, f23_5, f24_5, f25_5])
  have f29_6 := fun hh => getq q29_6 hh
  have q30_6 : T6[30]? = some (.int .i64 D3) := by subst hT; exact (by first | (simp only [↓Array.getElem?_setIfInBounds_ne, ne_eq, Nat.reduceEqDiff, not_false_eq_true]; done) | simp [hs5, f1_5, f5_5, f6_5, f7_5, f8_5, f9_5, f10_5, f11_5, f12_5, f13_5, f14_5, f15_5, f16_5, f17_5, f18_5, f19_5, f20_5, f21_5, f22_5, f23_5, f24_5, f25_5])
  have f30_6 := fun hh => getq q30_6 hh
  have q31_6 : T6[31]? = some (.bool TH) := by subst hT; exact (by first | (simp only [↓Array.getElem?_setIfInBounds_ne, ne_eq, Nat.reduceEqDiff, not_false_eq_true]; done) | simp [hs5, f1_5, f5_5, f6_5, f7_5, f8_5, f9_5, f10_5, f11_5, f12_5, f13_5, f14_5, f15_5, f16_5, f17_5, f18_5, f19_5, f20_5, f21_5, f22_5, f23_5, f24_5, f25_5])
  have f31_6 := fun hh => getq q31_6 hh
  clear hT f25_5 f24_5 f23_5 f22_5 f21_5 f20_5 f19_5 f18_5 f17_5 f16_5 f15_5 f14_5 f13_5 f12_5 f11_5 f10_5 f9_5 f8_5 f7_5 f6_5 f5_5 f1_5 hs5 q1_5 q5_5 q6_5 q7_5 q8_5 q9_5 q10_5 q11_5 q12_5 q13_5 q14_5 q15_5 q16_5 q17_5 q18_5 q19_5 q20_5 q21_5 q22_5 q23_5 q24_5 q25_5
  clear P1 P2 P3 P4 P5 P6 P7 P8
  refine wp_cut (fun a' wx => ∃ T : Array Value, a' = ⟨T, []⟩ ∧ T.size = 603 ∧ T[1]? = some (v1) ∧ T[5]? = some (.int .i64 l) ∧ T[6]? = some (.pointer (some ⟨w1.heap.size, 0, none⟩)) ∧ T[7]? = some (.int .i64 z) ∧ T[8]? = some (.int .i64 N1) ∧ T[9]? = some (.int .i64 D1) ∧ T[10]? = some (.bool OK) ∧ T[14]? = some (.int .i64 N2) ∧ T[15]? = some (.int .i64 D2) ∧ T[20]? = some (.int .i64 N3) ∧ T[21]? = some (.int .i64 D3) ∧ T[22]? = some (.bool TH) ∧ T[243]? = some (.bool false) ∧ Below wp.heap.size wp wx) ?rest ?first
  case first =>
    intro J K' hJ hK
    clear H1
    cases OK <;> cases TH
    all_goals first
      | exact absurd (FT rfl).out.1 (by decide)
      | (go_wp2_with fail
         refine Met.intro (hJ _ _ ⟨_, rfl, by simp [hs6], by first | (simp only [↓Array.getElem?_setIfInBounds_ne, ne_eq, Nat.reduceEqDiff, not_false_eq_true, q1_6]; done) | simp [hs6, f1_6, f5_6, f6_6, f7_6, f8_6, f9_6, f10_6, f11_6, f12_6, f13_6, f14_6, f15_6, f16_6, f17_6, f18_6, f19_6, f20_6, f21_6, f22_6, f23_6, f24_6, f25_6, f26_6, f27_6, f28_6, f29_6, f30_6, f31_6], by first | (simp only [↓Array.getElem?_setIfInBounds_ne, ne_eq, Nat.reduceEqDiff, not_false_eq_true, q5_6]; done) | simp [hs6, f1_6, f5_6, f6_6, f7_6, f8_6, f9_6, f10_6, f11_6, f12_6, f13_6, f14_6, f15_6, f16_6, f17_6, f18_6, f19_6, f20_6, f21_6, f22_6, f23_6, f24_6, f25_6, f26_6, f27_6, f28_6, f29_6, f30_6, f31_6], by first | (simp only [↓Array.getElem?_setIfInBounds_ne, ne_eq, Nat.reduceEqDiff, not_false_eq_true, q6_6]; done) | simp [hs6, f1_6, f5_6, f6_6, f7_6, f8_6, f9_6, f10_6, f11_6, f12_6, f13_6, f14_6, f15_6, f16_6, f17_6, f18_6, f19_6, f20_6, f21_6, f22_6, f23_6, f24_6, f25_6, f26_6, f27_6, f28_6, f29_6, f30_6, f31_6], by first | (simp only [↓Array.getElem?_setIfInBounds_ne, ne_eq, Nat.reduceEqDiff, not_false_eq_true, q7_6]; done) | simp [hs6, f1_6, f5_6, f6_6, f7_6, f8_6, f9_6, f10_6, f11_6, f12_6, f13_6, f14_6, f15_6, f16_6, f17_6, f18_6, f19_6, f20_6, f21_6, f22_6, f23_6, f24_6, f25_6, f26_6, f27_6, f28_6, f29_6, f30_6, f31_6], by first | (simp only [↓Array.getElem?_setIfInBounds_ne, ne_eq, Nat.reduceEqDiff, not_false_eq_true, q8_6]; done) | simp [hs6, f1_6, f5_6, f6_6, f7_6, f8_6, f9_6, f10_6, f11_6, f12_6, f13_6, f14_6, f15_6, f16_6, f17_6, f18_6, f19_6, f20_6, f21_6, f22_6, f23_6, f24_6, f25_6, f26_6, f27_6, f28_6, f29_6, f30_6, f31_6], by first | (simp only [↓Array.getElem?_setIfInBounds_ne, ne_eq, Nat.reduceEqDiff, not_false_eq_true, q9_6]; done) | simp [hs6, f1_6, f5_6, f6_6, f7_6, f8_6, f9_6, f10_6, f11_6, f12_6, f13_6, f14_6, f15_6, f16_6, f17_6, f18_6, f19_6, f20_6, f21_6, f22_6, f23_6, f24_6, f25_6, f26_6, f27_6, f28_6, f29_6, f30_6, f31_6], by first | (simp only [↓Array.getElem?_setIfInBounds_ne, ne_eq, Nat.reduceEqDiff, not_false_eq_true, q10_6]; done) | simp [hs6, f1_6, f5_6, f6_6, f7_6, f8_6, f9_6, f10_6, f11_6, f12_6, f13_6, f14_6, f15_6, f16_6, f17_6, f18_6, f19_6, f20_6, f21_6, f22_6, f23_6, f24_6, f25_6, f26_6, f27_6, f28_6, f29_6, f30_6, f31_6], by first | (simp only [↓Array.getElem?_setIfInBounds_ne, ne_eq, Nat.reduceEqDiff, not_false_eq_true, q14_6]; done) | simp [hs6, f1_6, f5_6, f6_6, f7_6, f8_6, f9_6, f10_6, f11_6, f12_6, f13_6, f14_6, f15_6, f16_6, f17_6, f18_6, f19_6, f20_6, f21_6, f22_6, f23_6, f24_6, f25_6, f26_6, f27_6, f28_6, f29_6, f30_6, f31_6], by first | (simp only [↓Array.getElem?_setIfInBounds_ne, ne_eq, Nat.reduceEqDiff, not_false_eq_true, q15_6]; done) | simp [hs6, f1_6, f5_6, f6_6, f7_6, f8_6, f9_6, f10_6, f11_6, f12_6, f13_6, f14_6, f15_6, f16_6, f17_6, f18_6, f19_6, f20_6, f21_6, f22_6, f23_6, f24_6, f25_6, f26_6, f27_6, f28_6, f29_6, f30_6, f31_6], by first | (simp only [↓Array.getElem?_setIfInBounds_ne, ne_eq, Nat.reduceEqDiff, not_false_eq_true, q20_6]; done) | simp [hs6, f1_6, f5_6, f6_6, f7_6, f8_6, f9_6, f10_6, f11_6, f12_6, f13_6, f14_6, f15_6, f16_6, f17_6, f18_6, f19_6, f20_6, f21_6, f22_6, f23_6, f24_6, f25_6, f26_6, f27_6, f28_6, f29_6, f30_6, f31_6], by first | (simp only [↓Array.getElem?_setIfInBounds_ne, ne_eq, Nat.reduceEqDiff, not_false_eq_true, q21_6]; done) | simp [hs6, f1_6, f5_6, f6_6, f7_6, f8_6, f9_6, f10_6, f11_6, f12_6, f13_6, f14_6, f15_6, f16_6, f17_6, f18_6, f19_6, f20_6, f21_6, f22_6, f23_6, f24_6, f25_6, f26_6, f27_6, f28_6, f29_6, f30_6, f31_6], by first | (simp only [↓Array.getElem?_setIfInBounds_ne, ne_eq, Nat.reduceEqDiff, not_false_eq_true, q22_6]; done) | simp [hs6, f1_6, f5_6, f6_6, f7_6, f8_6, f9_6, f10_6, f11_6, f12_6, f13_6, f14_6, f15_6, f16_6, f17_6, f18_6, f19_6, f20_6, f21_6, f22_6, f23_6, f24_6, f25_6, f26_6, f27_6, f28_6, f29_6, f30_6, f31_6], by first | (simp only [↓Array.getElem?_setIfInBounds_ne, ne_eq, Nat.reduceEqDiff, not_false_eq_true]; done) | simp [hs6, f1_6, f5_6, f6_6, f7_6, f8_6, f9_6, f10_6, f11_6, f12_6, f13_6, f14_6, f15_6, f16_6, f17_6, f18_6, f19_6, f20_6, f21_6, f22_6, f23_6, f24_6, f25_6, f26_6, f27_6, f28_6, f29_6, f30_6, f31_6], (by repeat (first | exact HB9.out | exact Below.refl _ _ | refine bl_drewN ?_ _))⟩))
  case rest =>
    intro a' wc1 hR1
    obtain ⟨T7, rfl, hs7, q1_7, q5_7, q6_7, q7_7, q8_7, q9_7, q10_7, q14_7, q15_7, q20_7, q21_7, q22_7, q243_7, hbl1⟩ := hR1
    have f1_7 := fun hh => getq q1_7 hh
    have f5_7 := fun hh => getq q5_7 hh
    have f6_7 := fun hh => getq q6_7 hh
    have f7_7 := fun hh => getq q7_7 hh
    have f8_7 := fun hh => getq q8_7 hh
    have f9_7 := fun hh => getq q9_7 hh
    have f10_7 := fun hh => getq q10_7 hh
    have f14_7 := fun hh => getq q14_7 hh
    have f15_7 := fun hh => getq q15_7 hh
    have f20_7 := fun hh => getq q20_7 hh
    have f21_7 := fun hh => getq q21_7 hh
    have f22_7 := fun hh => getq q22_7 hh
    have f243_7 := fun hh => getq q243_7 hh
    have HB10 := Lib.hid (show Below wp.heap.size wp wc1 from hbl1)
    clear hbl1 p0 p1
    obtain ⟨p0, p1⟩ := HX.out _ HB10.out
    go_wp2_with fail
    refine wp_cond_f ?_ ?_
    · (go_simp <;> omega)
    go_wp2_with fail
    refine wp_cut (fun a' wx => ∃ T : Array Value, a' = ⟨T, []⟩ ∧ T.size = 603 ∧ T[1]? = some (v1) ∧ T[5]? = some (.int .i64 l) ∧ T[6]? = some (.pointer (some ⟨w1.heap.size, 0, none⟩)) ∧ T[7]? = some (.int .i64 z) ∧ T[14]? = some (.int .i64 N2) ∧ T[15]? = some (.int .i64 D2) ∧ T[20]? = some (.int .i64 N3) ∧ T[21]? = some (.int .i64 D3) ∧ T[22]? = some (.bool TH) ∧ Below wp.heap.size wp wx) ?rest2 ?first2
    case first2 =>
      intro J K' hJ hK
      clear H1 FT
      cases OK
      · refine wp_cond_f ?_ ?_
        · (go_simp <;> omega)
        go_wp2_with fail
        refine Met.intro (hJ _ _ ⟨_, rfl, by simp [hs7], by first | (simp only [↓Array.getElem?_setIfInBounds_ne, ne_eq, Nat.reduceEqDiff, not_false_eq_true, q1_7]; done) | simp [hs7, f1_7, f5_7, f6_7, f7_7, f8_7, f9_7, f10_7, f14_7, f15_7, f20_7, f21_7, f22_7, f243_7], by first | (simp only [↓Array.getElem?_setIfInBounds_ne, ne_eq, Nat.reduceEqDiff, not_false_eq_true, q5_7]; done) | simp [hs7, f1_7, f5_7, f6_7, f7_7, f8_7, f9_7, f10_7, f14_7, f15_7, f20_7, f21_7, f22_7, f243_7], by first | (simp only [↓Array.getElem?_setIfInBounds_ne, ne_eq, Nat.reduceEqDiff, not_false_eq_true, q6_7]; done) | simp [hs7, f1_7, f5_7, f6_7, f7_7, f8_7, f9_7, f10_7, f14_7, f15_7, f20_7, f21_7, f22_7, f243_7], by first | (simp only [↓Array.getElem?_setIfInBounds_ne, ne_eq, Nat.reduceEqDiff, not_false_eq_true, q7_7]; done) | simp [hs7, f1_7, f5_7, f6_7, f7_7, f8_7, f9_7, f10_7, f14_7, f15_7, f20_7, f21_7, f22_7, f243_7], by first | (simp only [↓Array.getElem?_setIfInBounds_ne, ne_eq, Nat.reduceEqDiff, not_false_eq_true, q14_7]; done) | simp [hs7, f1_7, f5_7, f6_7, f7_7, f8_7, f9_7, f10_7, f14_7, f15_7, f20_7, f21_7, f22_7, f243_7], by first | (simp only [↓Array.getElem?_setIfInBounds_ne, ne_eq, Nat.reduceEqDiff, not_false_eq_true, q15_7]; done) | simp [hs7, f1_7, f5_7, f6_7, f7_7, f8_7, f9_7, f10_7, f14_7, f15_7, f20_7, f21_7, f22_7, f243_7], by first | (simp only [↓Array.getElem?_setIfInBounds_ne, ne_eq, Nat.reduceEqDiff, not_false_eq_true, q20_7]; done) | simp [hs7, f1_7, f5_7, f6_7, f7_7, f8_7, f9_7, f10_7, f14_7, f15_7, f20_7, f21_7, f22_7, f243_7], by first | (simp only [↓Array.getElem?_setIfInBounds_ne, ne_eq, Nat.reduceEqDiff, not_false_eq_true, q21_7]; done) | simp [hs7, f1_7, f5_7, f6_7, f7_7, f8_7, f9_7, f10_7, f14_7, f15_7, f20_7, f21_7, f22_7, f243_7], by first | (simp only [↓Array.getElem?_setIfInBounds_ne, ne_eq, Nat.reduceEqDiff, not_false_eq_true, q22_7]; done) | simp [hs7, f1_7, f5_7, f6_7, f7_7, f8_7, f9_7, f10_7, f14_7, f15_7, f20_7, f21_7, f22_7, f243_7], (by repeat (first | exact HB10.out | exact Below.refl _ _ | refine bl_drewN ?_ _))⟩)
      · obtain ⟨⟨⟨l0, l1⟩, ⟨a0, a1⟩, ⟨b0, b1⟩, bl⟩, ⟨n10, n11⟩, ⟨d10, d11⟩, ⟨n20, n21⟩, ⟨d20, d21⟩, ⟨g1, g2⟩, e1, e2, e3, HK⟩ := (FO rfl).out
        clear FO
        obtain ⟨m0, m1⟩ := mul_bd2 (a := x) (b := y) (m := 500) (k := 200) (by omega) (by omega) (by omega) (by omega)
        obtain ⟨m2, m3⟩ := mul_bd2 (a := x) (b := D1) (m := 500) (k := 200) (by omega) (by omega) (by omega) (by omega)
        obtain ⟨m4, m5⟩ := mul_bd2 (a := N1) (b := (l - y)) (m := 100000) (k := 200) (by omega) (by omega) (by omega) (by omega)
        obtain ⟨m6, m7⟩ := mul_bd2 (a := N2) (b := D1) (m := 100000) (k := 200) (by omega) (by omega) (by omega) (by omega)
        have HI1 := fun W => Lib.hid (yIs_any (n := N1) (d := D1) (x := x * y) (y := l - y) (by omega) (by omega) (by omega) (by omega) g1 m4 (by omega) e1 W)
        have HI2 := fun W => Lib.hid (yIs_any (n := N2) (d := D2) (x := x * D1 + N1) (y := D1) (by omega) (by omega) (by omega) (by omega) g2 m6 (by omega) e2 W)
        clear e1 e2 e3 g1 g2
        go_wp2_with fail
        refine wp_cond_t ?_ ?_
        · (go_simp <;> omega)
        go_wp2_with fail
        refine ((HI1 _).out).mono ?_
        rintro e w' ⟨rfl, m11, rfl⟩
        go_wp2_with fail
        refine ((HI2 _).out).mono ?_
        rintro e w' ⟨rfl, m12, rfl⟩
        go_wp2_with fail
        refine wp_cond_f ?_ ?_
        · (go_simp <;> omega)
        by_cases hY : D1 = 1
        · by_cases hX : N1 ≤ 500
          · subst hY
            obtain ⟨Q1, Q2, Q3⟩ := HK rfl hX
            clear HK HI1 HI2
            have HJ1 := fun W => Lib.hid (yIs_any (n := l) (d := 1) (x := l) (y := 1) (by omega) (by omega) (by omega) (by omega) (by simp) (by omega) (by omega) rfl W)
            have HJ2 := fun W => Lib.hid (yIs_any (n := y) (d := 1) (x := y) (y := 1) (by omega) (by omega) (by omega) (by omega) (by simp) (by omega) (by omega) rfl W)
            have HJ3 := fun W => Lib.hid (yIs_any (n := x) (d := 1) (x := x) (y := 1) (by omega) (by omega) (by omega) (by omega) (by simp) (by omega) (by omega) rfl W)
            go_wp2_with fail
            refine wp_cond_t ?_ ?_
            · (go_simp <;> omega)
            go_wp2_with fail
            refine ((Q1 _).out).mono ?_
            rintro e w13 ⟨rfl, hb13⟩
            have HB13 := Lib.hid (show Below wp.heap.size wp w13 from bl_trans hb13 (by repeat (first | exact HB10.out | exact Below.refl _ _ | refine bl_drewN ?_ _)))
            clear hb13 p0 p1
            obtain ⟨p0, p1⟩ := HX.out _ HB13.out
            go_wp2_with fail
            refine ((Q2 _).out).mono ?_
            rintro e w14 ⟨rfl, hb14⟩
            have HB14 := Lib.hid (show Below wp.heap.size wp w14 from bl_trans hb14 (by repeat (first | exact HB13.out | exact Below.refl _ _ | refine bl_drewN ?_ _)))
            clear hb14 p0 p1
            obtain ⟨p0, p1⟩ := HX.out _ HB14.out
            go_wp2_with fail
            refine ((Q3 _).out).mono ?_
            rintro e w15 ⟨rfl, hb15⟩
            have HB15 := Lib.hid (show Below wp.heap.size wp w15 from bl_trans hb15 (by repeat (first | exact HB14.out | exact Below.refl _ _ | refine bl_drewN ?_ _)))
            clear hb15 p0 p1
            obtain ⟨p0, p1⟩ := HX.out _ HB15.out
            go_wp2_with fail
            refine ((HJ1 _).out).mono ?_
            rintro e w' ⟨rfl, m16, rfl⟩
            go_wp2_with fail
            refine ((HJ2 _).out).mono ?_
            rintro e w' ⟨rfl, m17, rfl⟩
            go_wp2_with fail
            refine ((HJ3 _).out).mono ?_
            rintro e w' ⟨rfl, m18, rfl⟩
            go_wp2_with fail
            refine wp_cond_f ?_ ?_
            · (go_simp <;> omega)
            go_wp2_with fail
            refine Met.intro (hJ _ _ ⟨_, rfl, by simp [hs7], by first | (simp only [↓Array.getElem?_setIfInBounds_ne, ne_eq, Nat.reduceEqDiff, not_false_eq_true, q1_7]; done) | simp [hs7, f1_7, f5_7, f6_7, f7_7, f8_7, f9_7, f10_7, f14_7, f15_7, f20_7, f21_7, f22_7, f243_7], by first | (simp only [↓Array.getElem?_setIfInBounds_ne, ne_eq, Nat.reduceEqDiff, not_false_eq_true, q5_7]; done) | simp [hs7, f1_7, f5_7, f6_7, f7_7, f8_7, f9_7, f10_7, f14_7, f15_7, f20_7, f21_7, f22_7, f243_7], by first | (simp only [↓Array.getElem?_setIfInBounds_ne, ne_eq, Nat.reduceEqDiff, not_false_eq_true, q6_7]; done) | simp [hs7, f1_7, f5_7, f6_7, f7_7, f8_7, f9_7, f10_7, f14_7, f15_7, f20_7, f21_7, f22_7, f243_7], by first | (simp only [↓Array.getElem?_setIfInBounds_ne, ne_eq, Nat.reduceEqDiff, not_false_eq_true, q7_7]; done) | simp [hs7, f1_7, f5_7, f6_7, f7_7, f8_7, f9_7, f10_7, f14_7, f15_7, f20_7, f21_7, f22_7, f243_7], by first | (simp only [↓Array.getElem?_setIfInBounds_ne, ne_eq, Nat.reduceEqDiff, not_false_eq_true, q14_7]; done) | simp [hs7, f1_7, f5_7, f6_7, f7_7, f8_7, f9_7, f10_7, f14_7, f15_7, f20_7, f21_7, f22_7, f243_7], by first | (simp only [↓Array.getElem?_setIfInBounds_ne, ne_eq, Nat.reduceEqDiff, not_false_eq_true, q15_7]; done) | simp [hs7, f1_7, f5_7, f6_7, f7_7, f8_7, f9_7, f10_7, f14_7, f15_7, f20_7, f21_7, f22_7, f243_7], by first | (simp only [↓Array.getElem?_setIfInBounds_ne, ne_eq, Nat.reduceEqDiff, not_false_eq_true, q20_7]; done) | simp [hs7, f1_7, f5_7, f6_7, f7_7, f8_7, f9_7, f10_7, f14_7, f15_7, f20_7, f21_7, f22_7, f243_7], by first | (simp only [↓Array.getElem?_setIfInBounds_ne, ne_eq, Nat.reduceEqDiff, not_false_eq_true, q21_7]; done) | simp [hs7, f1_7, f5_7, f6_7, f7_7, f8_7, f9_7, f10_7, f14_7, f15_7, f20_7, f21_7, f22_7, f243_7], by first | (simp only [↓Array.getElem?_setIfInBounds_ne, ne_eq, Nat.reduceEqDiff, not_false_eq_true, q22_7]; done) | simp [hs7, f1_7, f5_7, f6_7, f7_7, f8_7, f9_7, f10_7, f14_7, f15_7, f20_7, f21_7, f22_7, f243_7], (by repeat (first | exact HB15.out | exact Below.refl _ _ | refine bl_drewN ?_ _))⟩)
          · subst hY
            go_wp2_with fail
            refine wp_cond_f ?_ ?_
            · (go_simp <;> omega)
            go_wp2_with fail
            refine Met.intro (hJ _ _ ⟨_, rfl, by simp [hs7], by first | (simp only [↓Array.getElem?_setIfInBounds_ne, ne_eq, Nat.reduceEqDiff, not_false_eq_true, q1_7]; done) | simp [hs7, f1_7, f5_7, f6_7, f7_7, f8_7, f9_7, f10_7, f14_7, f15_7, f20_7, f21_7, f22_7, f243_7], by first | (simp only [↓Array.getElem?_setIfInBounds_ne, ne_eq, Nat.reduceEqDiff, not_false_eq_true, q5_7]; done) | simp [hs7, f1_7, f5_7, f6_7, f7_7, f8_7, f9_7, f10_7, f14_7, f15_7, f20_7, f21_7, f22_7, f243_7], by first | (simp only [↓Array.getElem?_setIfInBounds_ne, ne_eq, Nat.reduceEqDiff, not_false_eq_true, q6_7]; done) | simp [hs7, f1_7, f5_7, f6_7, f7_7, f8_7, f9_7, f10_7, f14_7, f15_7, f20_7, f21_7, f22_7, f243_7], by first | (simp only [↓Array.getElem?_setIfInBounds_ne, ne_eq, Nat.reduceEqDiff, not_false_eq_true, q7_7]; done) | simp [hs7, f1_7, f5_7, f6_7, f7_7, f8_7, f9_7, f10_7, f14_7, f15_7, f20_7, f21_7, f22_7, f243_7], by first | (simp only [↓Array.getElem?_setIfInBounds_ne, ne_eq, Nat.reduceEqDiff, not_false_eq_true, q14_7]; done) | simp [hs7, f1_7, f5_7, f6_7, f7_7, f8_7, f9_7, f10_7, f14_7, f15_7, f20_7, f21_7, f22_7, f243_7], by first | (simp only [↓Array.getElem?_setIfInBounds_ne, ne_eq, Nat.reduceEqDiff, not_false_eq_true, q15_7]; done) | simp [hs7, f1_7, f5_7, f6_7, f7_7, f8_7, f9_7, f10_7, f14_7, f15_7, f20_7, f21_7, f22_7, f243_7], by first | (simp only [↓Array.getElem?_setIfInBounds_ne, ne_eq, Nat.reduceEqDiff, not_false_eq_true, q20_7]; done) | simp [hs7, f1_7, f5_7, f6_7, f7_7, f8_7, f9_7, f10_7, f14_7, f15_7, f20_7, f21_7, f22_7, f243_7], by first | (simp only [↓Array.getElem?_setIfInBounds_ne, ne_eq, Nat.reduceEqDiff, not_false_eq_true, q21_7]; done) | simp [hs7, f1_7, f5_7, f6_7, f7_7, f8_7, f9_7, f10_7, f14_7, f15_7, f20_7, f21_7, f22_7, f243_7], by first | (simp only [↓Array.getElem?_setIfInBounds_ne, ne_eq, Nat.reduceEqDiff, not_false_eq_true, q22_7]; done) | simp [hs7, f1_7, f5_7, f6_7, f7_7, f8_7, f9_7, f10_7, f14_7, f15_7, f20_7, f21_7, f22_7, f243_7], (by repeat (first | exact HB10.out | exact Below.refl _ _ | refine bl_drewN ?_ _))⟩)
        · have hY' : (D1 == 1) = false := beq_eq_false_iff_ne.2 hY
          go_wp2_with fail
          refine wp_cond_f ?_ ?_
          · (go_simp <;> omega)
          go_wp2_with fail
          refine Met.intro (hJ _ _ ⟨_, rfl, by simp [hs7], by first | (simp only [↓Array.getElem?_setIfInBounds_ne, ne_eq, Nat.reduceEqDiff, not_false_eq_true, q1_7]; done) | simp [hs7, f1_7, f5_7, f6_7, f7_7, f8_7, f9_7, f10_7, f14_7, f15_7, f20_7, f21_7, f22_7, f243_7], by first | (simp only [↓Array.getElem?_setIfInBounds_ne, ne_eq, Nat.reduceEqDiff, not_false_eq_true, q5_7]; done) | simp [hs7, f1_7, f5_7, f6_7, f7_7, f8_7, f9_7, f10_7, f14_7, f15_7, f20_7, f21_7, f22_7, f243_7], by first | (simp only [↓Array.getElem?_setIfInBounds_ne, ne_eq, Nat.reduceEqDiff, not_false_eq_true, q6_7]; done) | simp [hs7, f1_7, f5_7, f6_7, f7_7, f8_7, f9_7, f10_7, f14_7, f15_7, f20_7, f21_7, f22_7, f243_7], by first | (simp only [↓Array.getElem?_setIfInBounds_ne, ne_eq, Nat.reduceEqDiff, not_false_eq_true, q7_7]; done) | simp [hs7, f1_7, f5_7, f6_7, f7_7, f8_7, f9_7, f10_7, f14_7, f15_7, f20_7, f21_7, f22_7, f243_7], by first | (simp only [↓Array.getElem?_setIfInBounds_ne, ne_eq, Nat.reduceEqDiff, not_false_eq_true, q14_7]; done) | simp [hs7, f1_7, f5_7, f6_7, f7_7, f8_7, f9_7, f10_7, f14_7, f15_7, f20_7, f21_7, f22_7, f243_7], by first | (simp only [↓Array.getElem?_setIfInBounds_ne, ne_eq, Nat.reduceEqDiff, not_false_eq_true, q15_7]; done) | simp [hs7, f1_7, f5_7, f6_7, f7_7, f8_7, f9_7, f10_7, f14_7, f15_7, f20_7, f21_7, f22_7, f243_7], by first | (simp only [↓Array.getElem?_setIfInBounds_ne, ne_eq, Nat.reduceEqDiff, not_false_eq_true, q20_7]; done) | simp [hs7, f1_7, f5_7, f6_7, f7_7, f8_7, f9_7, f10_7, f14_7, f15_7, f20_7, f21_7, f22_7, f243_7], by first | (simp only [↓Array.getElem?_setIfInBounds_ne, ne_eq, Nat.reduceEqDiff, not_false_eq_true, q21_7]; done) | simp [hs7, f1_7, f5_7, f6_7, f7_7, f8_7, f9_7, f10_7, f14_7, f15_7, f20_7, f21_7, f22_7, f243_7], by first | (simp only [↓Array.getElem?_setIfInBounds_ne, ne_eq, Nat.reduceEqDiff, not_false_eq_true, q22_7]; done) | simp [hs7, f1_7, f5_7, f6_7, f7_7, f8_7, f9_7, f10_7, f14_7, f15_7, f20_7, f21_7, f22_7, f243_7], (by repeat (first | exact HB10.out | exact Below.refl _ _ | refine bl_drewN ?_ _))⟩)
    case rest2 =>
      intro a' wc2 hR2
      obtain ⟨T8, rfl, hs8, q1_8, q5_8, q6_8, q7_8, q14_8, q15_8, q20_8, q21_8, q22_8, hbl2⟩ := hR2
      have f1_8 := fun hh => getq q1_8 hh
      have f5_8 := fun hh => getq q5_8 hh
      have f6_8 := fun hh => getq q6_8 hh
      have f7_8 := fun hh => getq q7_8 hh
      have f14_8 := fun hh => getq q14_8 hh
      have f15_8 := fun hh => getq q15_8 hh
      have f20_8 := fun hh => getq q20_8 hh
      have f21_8 := fun hh => getq q21_8 hh
      have f22_8 := fun hh => getq q22_8 hh
      have HB19 := Lib.hid (show Below wp.heap.size wp wc2 from hbl2)
      clear hbl2 p0 p1
      obtain ⟨p0, p1⟩ := HX.out _ HB19.out
      go_wp2_with fail
      refine wp_cut (fun a' wx => ∃ T : Array Value, a' = ⟨T, []⟩ ∧ T.size = 603 ∧ T[1]? = some (v1) ∧ Below wp.heap.size wp wx) ?rest3 ?first3
      case first3 =>
        intro J K' hJ hK
        clear H1
        cases TH
        · refine wp_cond_f ?_ ?_
          · (go_simp <;> omega)
          go_wp2_with fail
          refine Met.intro (hJ _ _ ⟨_, rfl, by simp [hs8], by first | (simp only [↓Array.getElem?_setIfInBounds_ne, ne_eq, Nat.reduceEqDiff, not_false_eq_true, q1_8]; done) | simp [hs8, f1_8, f5_8, f6_8, f7_8, f14_8, f15_8, f20_8, f21_8, f22_8], (by repeat (first | exact HB19.out | exact Below.refl _ _ | refine bl_drewN ?_ _))⟩)
        · obtain ⟨hOK, ⟨zx0, zx1⟩, ⟨n30, n31⟩, ⟨d30, d31⟩, hg, hlt, hiff, hex⟩ := (FT rfl).out
          obtain ⟨⟨⟨l0, l1⟩, ⟨a0, a1⟩, ⟨b0, b1⟩, bl⟩, ⟨n10, n11⟩, ⟨d10, d11⟩, ⟨n20, n21⟩, ⟨d20, d21⟩, -⟩ := (FO hOK).out
          clear FO FT hOK
          obtain ⟨m0, m1⟩ := mul_bd2 (a := y) (b := D3) (m := 200) (k := 500) (by omega) (by omega) (by omega) (by omega)
          obtain ⟨m2, m3⟩ := mul_bd2 (a := z) (b := D2) (m := 500) (k := 200) (by omega) (by omega) (by omega) (by omega)
          obtain ⟨m4, m5⟩ := mul_bd2 (a := N3) (b := x) (m := 100000) (k := 500) (by omega) (by omega) (by omega) (by omega)
          obtain ⟨m6, m7⟩ := mul_bd2 (a := l) (b := x) (m := 200) (k := 500) (by omega) (by omega) (by omega) (by omega)
          obtain ⟨m8, m9⟩ := mul_bd2 (a := (l - y)) (b := z) (m := 200) (k := 500) (by omega) (by omega) (by omega) (by omega)
          have HY := fun W => Lib.hid (yLow_int n30 (by omega) (by omega) (by omega) hg W)
          clear hg
          have hge : ¬ y * D3 ≤ N3 := by omega
          by_cases hN : N3 = 0
          · have hw : N2 ≤ z * D2 := hiff.1 hN
            subst hN
            clear hiff hex
            go_wp2_with fail
            refine wp_cond_t ?_ ?_
            · (go_simp <;> omega)
            go_wp2_with fail
            refine ((HY _).out).mono ?_
            rintro e w' ⟨rfl, m20, rfl⟩
            go_wp2_with fail
            refine wp_cond_f ?_ ?_
            · (go_simp <;> omega)
            go_wp2_with fail
            refine wp_cond_f ?_ ?_
            · (go_simp <;> omega)
            go_wp2_with fail
            refine Met.intro (hJ _ _ ⟨_, rfl, by simp [hs8], by first | (simp only [↓Array.getElem?_setIfInBounds_ne, ne_eq, Nat.reduceEqDiff, not_false_eq_true, q1_8]; done) | simp [hs8, f1_8, f5_8, f6_8, f7_8, f14_8, f15_8, f20_8, f21_8, f22_8], (by repeat (first | exact HB19.out | exact Below.refl _ _ | refine bl_drewN ?_ _))⟩)
          · have hw : ¬ N2 ≤ z * D2 := fun h => hN (hiff.2 h)
            have hex := hex (by omega)
            have hN' : (N3 == 0) = false := beq_eq_false_iff_ne.2 hN
            have hp : 0 < N3 := by omega
            have z0 : 0 ≤ D3 * (l * x - (l - y) * z) := by rw [← hex]; omega
            have z1 : D3 * (l * x - (l - y) * z) ≤ 50000000 := by rw [← hex]; omega
            have z5 : (N3 * x != D3 * (l * x - (l - y) * z)) = false := by rw [hex]; simp
            clear hiff hex
            go_wp2_with fail
            refine wp_cond_t ?_ ?_
            · (go_simp <;> omega)
            go_wp2_with fail
            refine ((HY _).out).mono ?_
            rintro e w' ⟨rfl, m21, rfl⟩
            go_wp2_with fail
            refine wp_cond_f ?_ ?_
            · (go_simp <;> omega)
            go_wp2_with fail
            refine wp_cond_f ?_ ?_
            · (go_simp <;> omega)
            go_wp2_with fail
            refine Met.intro (hJ _ _ ⟨_, rfl, by simp [hs8], by first | (simp only [↓Array.getElem?_setIfInBounds_ne, ne_eq, Nat.reduceEqDiff, not_false_eq_true, q1_8]; done) | simp [hs8, f1_8, f5_8, f6_8, f7_8, f14_8, f15_8, f20_8, f21_8, f22_8], (by repeat (first | exact HB19.out | exact Below.refl _ _ | refine bl_drewN ?_ _))⟩)
      case rest3 =>
        intro a' wc3 hR3
        obtain ⟨T9, rfl, hs9, q1_9, hbl3⟩ := hR3
        have f1_9 := fun hh => getq q1_9 hh
        have HB22 := Lib.hid (show Below wp.heap.size wp wc3 from hbl3)
        clear hbl3 p0 p1
        obtain ⟨p0, p1⟩ := HX.out _ HB22.out
        clear p0 p1 HX FO FT
        go_wp2_with fail
        refine (DrawSunShadow_any v1 _ (H1.out.later (bl_trans (u := wp) (by repeat (first | exact HB22.out | exact Below.refl _ _ | refine bl_drewN ?_ _)) HW.out))).mono ?_
        rintro e w23 ⟨ta, ri, ru, rfl, hb23⟩
        have HB23 := Lib.hid (show Below wp.heap.size wp w23 from bl_trans hb23 (by repeat (first | exact HB22.out | exact Below.refl _ _ | refine bl_drewN ?_ _)))
        clear hb23
        obtain ⟨X1, Y1, O1, P1, P2, F1⟩ := sun_pack ta ri ru
        go_upto_region 29 with fail
        refine reframe fun T10 hT => ?_
        have hs10 : T10.size = 603 := by subst hT; simp [hs9]
        have q1_10 : T10[1]? = some (v1) := by subst hT; exact (by first | (simp only [↓Array.getElem?_setIfInBounds_ne, ne_eq, Nat.reduceEqDiff, not_false_eq_true, q1_9]; done) | simp [hs9, f1_9])
        have f1_10 := fun hh => getq q1_10 hh
        have q41_10 : T10[41]? = some (.int .i64 ta) := by subst hT; exact (by first | (simp only [↓Array.getElem?_setIfInBounds_ne, ne_eq, Nat.reduceEqDiff, not_false_eq_true]; done) | simp [hs9, f1_9])
        have f41_10 := fun hh => getq q41_10 hh
        have q42_10 : T10[42]? = some (.int .i64 ri) := by subst hT; exact (by first | (simp only [↓Array.getElem?_setIfInBounds_ne, ne_eq, Nat.reduceEqDiff, not_false_eq_true]; done) | simp [hs9, f1_9])
        have f42_10 := fun hh => getq q42_10 hh
        have q43_10 : T10[43]? = some (.int .i64 ru) := by subst hT; exact (by first | (simp only [↓Array.getElem?_setIfInBounds_ne, ne_eq, Nat.reduceEqDiff, not_false_eq_true]; done) | simp [hs9, f1_9])
        have f43_10 := fun hh => getq q43_10 hh
        clear hT f1_9 hs9 q1_9
        go_wp2_with fail
        refine ((P1 _).out).mono ?_
        rintro e w24 ⟨rfl, hb24⟩
        have HB24 := Lib.hid (show Below wp.heap.size wp w24 from bl_trans hb24 (by repeat (first | exact HB23.out | exact Below.refl _ _ | refine bl_drewN ?_ _)))
        clear hb24
        go_wp2_with fail
        refine ((P2 _).out).mono ?_
        rintro e w25 ⟨rfl, hb25⟩
        have HB25 := Lib.hid (show Below wp.heap.size wp w25 from bl_trans hb25 (by repeat (first | exact HB24.out | exact Below.refl _ _ | refine bl_drewN ?_ _)))
        clear hb25
        go_upto_region 31 with fail
        refine reframe fun T11 hT => ?_
        have hs11 : T11.size = 603 := by subst hT; simp [hs10]
        have q1_11 : T11[1]? = some (v1) := by subst hT; exact (by first | (simp only [↓Array.getElem?_setIfInBounds_ne, ne_eq, Nat.reduceEqDiff, not_false_eq_true, q1_10]; done) | simp [hs10, f1_10, f41_10, f42_10, f43_10])
        have f1_11 := fun hh => getq q1_11 hh
        have q41_11 : T11[41]? = some (.int .i64 ta) := by subst hT; exact (by first | (simp only [↓Array.getElem?_setIfInBounds_ne, ne_eq, Nat.reduceEqDiff, not_false_eq_true, q41_10]; done) | simp [hs10, f1_10, f41_10, f42_10, f43_10])
        have f41_11 := fun hh => getq q41_11 hh
        have q42_11 : T11[42]? = some (.int .i64 ri) := by subst hT; exact (by first | (simp only [↓Array.getElem?_setIfInBounds_ne, ne_eq, Nat.reduceEqDiff, not_false_eq_true, q42_10]; done) | simp [hs10, f1_10, f41_10, f42_10, f43_10])
        have f42_11 := fun hh => getq q42_11 hh
        have q43_11 : T11[43]? = some (.int .i64 ru) := by subst hT; exact (by first | (simp only [↓Array.getElem?_setIfInBounds_ne, ne_eq, Nat.reduceEqDiff, not_false_eq_true, q43_10]; done) | simp [hs10, f1_10, f41_10, f42_10, f43_10])
        have f43_11 := fun hh => getq q43_11 hh
        have q44_11 : T11[44]? = some (.int .i64 X1) := by subst hT; exact (by first | (simp only [↓Array.getElem?_setIfInBounds_ne, ne_eq, Nat.reduceEqDiff, not_false_eq_true]; done) | simp [hs10, f1_10, f41_10, f42_10, f43_10])
        have f44_11 := fun hh => getq q44_11 hh
        have q45_11 : T11[45]? = some (.int .i64 Y1) := by subst hT; exact (by first | (simp only [↓Array.getElem?_setIfInBounds_ne, ne_eq, Nat.reduceEqDiff, not_false_eq_true]; done) | simp [hs10, f1_10, f41_10, f42_10, f43_10])
        have f45_11 := fun hh => getq q45_11 hh
        have q46_11 : T11[46]? = some (.bool O1) := by subst hT; exact (by first | (simp only [↓Array.getElem?_setIfInBounds_ne, ne_eq, Nat.reduceEqDiff, not_false_eq_true]; done) | simp [hs10, f1_10, f41_10, f42_10, f43_10])
        have f46_11 := fun hh => getq q46_11 hh
        have q47_11 : T11[47]? = some (.int .i64 X1) := by subst hT; exact (by first | (simp only [↓Array.getElem?_setIfInBounds_ne, ne_eq, Nat.reduceEqDiff, not_false_eq_true]; done) | simp [hs10, f1_10, f41_10, f42_10, f43_10])
        have f47_11 := fun hh => getq q47_11 hh
        have q48_11 : T11[48]? = some (.int .i64 Y1) := by subst hT; exact (by first | (simp only [↓Array.getElem?_setIfInBounds_ne, ne_eq, Nat.reduceEqDiff, not_false_eq_true]; done) | simp [hs10, f1_10, f41_10, f42_10, f43_10])
        have f48_11 := fun hh => getq q48_11 hh
        have q49_11 : T11[49]? = some (.bool O1) := by subst hT; exact (by first | (simp only [↓Array.getElem?_setIfInBounds_ne, ne_eq, Nat.reduceEqDiff, not_false_eq_true]; done) | simp [hs10, f1_10, f41_10, f42_10, f43_10])
        have f49_11 := fun hh => getq q49_11 hh
        clear hT f43_10 f42_10 f41_10 f1_10 hs10 q1_10 q41_10 q42_10 q43_10
        go_wp2_with fail
        refine (DrawLampOfShadow_any v1 _ (H1.out.later (bl_trans (u := wp) (by repeat (first | exact HB25.out | exact Below.refl _ _ | refine bl_drewN ?_ _)) HW.out))).mono ?_
        rintro e w26 ⟨qa, qb, qs, rfl, hb26⟩
        have HC := Lib.hid (show Below wp.heap.size wp w26 from bl_trans hb26 (by repeat (first | exact HB25.out | exact Below.refl _ _ | refine bl_drewN ?_ _)))
        have HB26 := Lib.hid (bl_alloc HC.out (.cells #[.int .i64 qa, .int .i64 qb] 25))
        clear hb26 HC P1 P2
        have p0 : (w26.alloc (.cells #[.int .i64 qa, .int .i64 qb] 25)).cell? ⟨w26.heap.size, 0, none⟩ = some (.int .i64 qa) := by simp
        have p1 : (w26.alloc (.cells #[.int .i64 qa, .int .i64 qb] 25)).cell? ⟨w26.heap.size, 1, none⟩ = some (.int .i64 qb) := by simp
        have t0 : w26.heap.size < (w26.alloc (.cells #[.int .i64 qa, .int .i64 qb] 25)).heap.size := by simp
        obtain ⟨X2, Y2, O2, P1, P2⟩ := lamp_pack qa qb qs
        go_upto_region 32 with fail
        refine reframe fun T12 hT => ?_
        have hs12 : T12.size = 603 := by subst hT; simp [hs11]
        have q1_12 : T12[1]? = some (v1) := by subst hT; exact (by first | (simp only [↓Array.getElem?_setIfInBounds_ne, ne_eq, Nat.reduceEqDiff, not_false_eq_true, q1_11]; done) | simp [hs11, f1_11, f41_11, f42_11, f43_11, f44_11, f45_11, f46_11, f47_11, f48_11, f49_11])
        have f1_12 := fun hh => getq q1_12 hh
        have q41_12 : T12[41]? = some (.int .i64 ta) := by subst hT; exact (by first | (simp only [↓Array.getElem?_setIfInBounds_ne, ne_eq, Nat.reduceEqDiff, not_false_eq_true, q41_11]; done) | simp [hs11, f1_11, f41_11, f42_11, f43_11, f44_11, f45_11, f46_11, f47_11, f48_11, f49_11])
        have f41_12 := fun hh => getq q41_12 hh
        have q42_12 : T12[42]? = some (.int .i64 ri) := by subst hT; exact (by first | (simp only [↓Array.getElem?_setIfInBounds_ne, ne_eq, Nat.reduceEqDiff, not_false_eq_true, q42_11]; done) | simp [hs11, f1_11, f41_11, f42_11, f43_11, f44_11, f45_11, f46_11, f47_11, f48_11, f49_11])
        have f42_12 := fun hh => getq q42_12 hh
        have q43_12 : T12[43]? = some (.int .i64 ru) := by subst hT; exact (by first | (simp only [↓Array.getElem?_setIfInBounds_ne, ne_eq, Nat.reduceEqDiff, not_false_eq_true, q43_11]; done) | simp [hs11, f1_11, f41_11, f42_11, f43_11, f44_11, f45_11, f46_11, f47_11, f48_11, f49_11])
        have f43_12 := fun hh => getq q43_12 hh
        have q44_12 : T12[44]? = some (.int .i64 X1) := by subst hT; exact (by first | (simp only [↓Array.getElem?_setIfInBounds_ne, ne_eq, Nat.reduceEqDiff, not_false_eq_true, q44_11]; done) | simp [hs11, f1_11, f41_11, f42_11, f43_11, f44_11, f45_11, f46_11, f47_11, f48_11, f49_11])
        have f44_12 := fun hh => getq q44_12 hh
        have q45_12 : T12[45]? = some (.int .i64 Y1) := by subst hT; exact (by first | (simp only [↓Array.getElem?_setIfInBounds_ne, ne_eq, Nat.reduceEqDiff, not_false_eq_true, q45_11]; done) | simp [hs11, f1_11, f41_11, f42_11, f43_11, f44_11, f45_11, f46_11, f47_11, f48_11, f49_11])
        have f45_12 := fun hh => getq q45_12 hh
        have q46_12 : T12[46]? = some (.bool O1) := by subst hT; exact (by first | (simp only [↓Array.getElem?_setIfInBounds_ne, ne_eq, Nat.reduceEqDiff, not_false_eq_true, q46_11]; done) | simp [hs11, f1_11, f41_11, f42_11, f43_11, f44_11, f45_11, f46_11, f47_11, f48_11, f49_11])
        have f46_12 := fun hh => getq q46_12 hh
        have q47_12 : T12[47]? = some (.int .i64 X1) := by subst hT; exact (by first | (simp only [↓Array.getElem?_setIfInBounds_ne, ne_eq, Nat.reduceEqDiff, not_false_eq_true, q47_11]; done) | simp [hs11, f1_11, f41_11, f42_11, f43_11, f44_11, f45_11, f46_11, f47_11, f48_11, f49_11])
        have f47_12 := fun hh => getq q47_12 hh
        have q48_12 : T12[48]? = some (.int .i64 Y1) := by subst hT; exact (by first | (simp only [↓Array.getElem?_setIfInBounds_ne, ne_eq, Nat.reduceEqDiff, not_false_eq_true, q48_11]; done) | simp [hs11, f1_11, f41_11, f42_11, f43_11, f44_11, f45_11, f46_11, f47_11, f48_11, f49_11])
        have f48_12 := fun hh => getq q48_12 hh
        have q49_12 : T12[49]? = some (.bool O1) := by subst hT; exact (by first | (simp only [↓Array.getElem?_setIfInBounds_ne, ne_eq, Nat.reduceEqDiff, not_false_eq_true, q49_11]; done) | simp [hs11, f1_11, f41_11, f42_11, f43_11, f44_11, f45_11, f46_11, f47_11, f48_11, f49_11])
        have f49_12 := fun hh => getq q49_12 hh
        have q50_12 : T12[50]? = some (.pointer (some ⟨w26.heap.size, 0, none⟩)) := by subst hT; exact (by first | (simp only [↓Array.getElem?_setIfInBounds_ne, ne_eq, Nat.reduceEqDiff, not_false_eq_true]; done) | simp [hs11, f1_11, f41_11, f42_11, f43_11, f44_11, f45_11, f46_11, f47_11, f48_11, f49_11])
        have f50_12 := fun hh => getq q50_12 hh
        have q51_12 : T12[51]? = some (.int .i64 qs) := by subst hT; exact (by first | (simp only [↓Array.getElem?_setIfInBounds_ne, ne_eq, Nat.reduceEqDiff, not_false_eq_true]; done) | simp [hs11, f1_11, f41_11, f42_11, f43_11, f44_11, f45_11, f46_11, f47_11, f48_11, f49_11])
        have f51_12 := fun hh => getq q51_12 hh
        clear hT f49_11 f48_11 f47_11 f46_11 f45_11 f44_11 f43_11 f42_11 f41_11 f1_11 hs11 q1_11 q41_11 q42_11 q43_11 q44_11 q45_11 q46_11 q47_11 q48_11 q49_11
        generalize (w26.alloc (.cells #[.int .i64 qa, .int .i64 qb] 25)) = wq at *
        go_wp2_with fail
        refine ((P1 _).out).mono ?_
        rintro e w27 ⟨rfl, hb27⟩
        have HB27 := Lib.hid (show Below wp.heap.size wp w27 from bl_trans hb27 (by repeat (first | exact HB26.out | exact Below.refl _ _ | refine bl_drewN ?_ _)))
        have p0 := cell_after hb27 t0 p0
        have p1 := cell_after hb27 t0 p1
        clear hb27 t0
        go_wp2_with fail
        refine ((P2 _).out).mono ?_
        rintro e w28 ⟨rfl, hb28⟩
        have HB28 := Lib.hid (show Below wp.heap.size wp w28 from bl_trans hb28 (by repeat (first | exact HB27.out | exact Below.refl _ _ | refine bl_drewN ?_ _)))
        clear hb28
        go_upto_region 34 with fail
        refine reframe fun T13 hT => ?_
        have hs13 : T13.size = 603 := by subst hT; simp [hs12]
        have q1_13 : T13[1]? = some (v1) := by subst hT; exact (by first | (simp only [↓Array.getElem?_setIfInBounds_ne, ne_eq, Nat.reduceEqDiff, not_false_eq_true, q1_12]; done) | simp [hs12, f1_12, f41_12, f42_12, f43_12, f44_12, f45_12, f46_12, f47_12, f48_12, f49_12, f50_12, f51_12])
        have f1_13 := fun hh => getq q1_13 hh
        have q41_13 : T13[41]? = some (.int .i64 ta) := by subst hT; exact (by first | (simp only [↓Array.getElem?_setIfInBounds_ne, ne_eq, Nat.reduceEqDiff, not_false_eq_true, q41_12]; done) | simp [hs12, f1_12, f41_12, f42_12, f43_12, f44_12, f45_12, f46_12, f47_12, f48_12, f49_12, f50_12, f51_12])
        have f41_13 := fun hh => getq q41_13 hh
        have q42_13 : T13[42]? = some (.int .i64 ri) := by subst hT; exact (by first | (simp only [↓Array.getElem?_setIfInBounds_ne, ne_eq, Nat.reduceEqDiff, not_false_eq_true, q42_12]; done) | simp [hs12, f1_12, f41_12, f42_12, f43_12, f44_12, f45_12, f46_12, f47_12, f48_12, f49_12, f50_12, f51_12])
        have f42_13 := fun hh => getq q42_13 hh
        have q43_13 : T13[43]? = some (.int .i64 ru) := by subst hT; exact (by first | (simp only [↓Array.getElem?_setIfInBounds_ne, ne_eq, Nat.reduceEqDiff, not_false_eq_true, q43_12]; done) | simp [hs12, f1_12, f41_12, f42_12, f43_12, f44_12, f45_12, f46_12, f47_12, f48_12, f49_12, f50_12, f51_12])
        have f43_13 := fun hh => getq q43_13 hh
        have q44_13 : T13[44]? = some (.int .i64 X1) := by subst hT; exact (by first | (simp only [↓Array.getElem?_setIfInBounds_ne, ne_eq, Nat.reduceEqDiff, not_false_eq_true, q44_12]; done) | simp [hs12, f1_12, f41_12, f42_12, f43_12, f44_12, f45_12, f46_12, f47_12, f48_12, f49_12, f50_12, f51_12])
        have f44_13 := fun hh => getq q44_13 hh
        have q45_13 : T13[45]? = some (.int .i64 Y1) := by subst hT; exact (by first | (simp only [↓Array.getElem?_setIfInBounds_ne, ne_eq, Nat.reduceEqDiff, not_false_eq_true, q45_12]; done) | simp [hs12, f1_12, f41_12, f42_12, f43_12, f44_12, f45_12, f46_12, f47_12, f48_12, f49_12, f50_12, f51_12])
        have f45_13 := fun hh => getq q45_13 hh
        have q46_13 : T13[46]? = some (.bool O1) := by subst hT; exact (by first | (simp only [↓Array.getElem?_setIfInBounds_ne, ne_eq, Nat.reduceEqDiff, not_false_eq_true, q46_12]; done) | simp [hs12, f1_12, f41_12, f42_12, f43_12, f44_12, f45_12, f46_12, f47_12, f48_12, f49_12, f50_12, f51_12])
        have f46_13 := fun hh => getq q46_13 hh
        have q47_13 : T13[47]? = some (.int .i64 X1) := by subst hT; exact (by first | (simp only [↓Array.getElem?_setIfInBounds_ne, ne_eq, Nat.reduceEqDiff, not_false_eq_true, q47_12]; done) | simp [hs12, f1_12, f41_12, f42_12, f43_12, f44_12, f45_12, f46_12, f47_12, f48_12, f49_12, f50_12, f51_12])
        have f47_13 := fun hh => getq q47_13 hh
        have q48_13 : T13[48]? = some (.int .i64 Y1) := by subst hT; exact (by first | (simp only [↓Array.getElem?_setIfInBounds_ne, ne_eq, Nat.reduceEqDiff, not_false_eq_true, q48_12]; done) | simp [hs12, f1_12, f41_12, f42_12, f43_12, f44_12, f45_12, f46_12, f47_12, f48_12, f49_12, f50_12, f51_12])
        have f48_13 := fun hh => getq q48_13 hh
        have q49_13 : T13[49]? = some (.bool O1) := by subst hT; exact (by first | (simp only [↓Array.getElem?_setIfInBounds_ne, ne_eq, Nat.reduceEqDiff, not_false_eq_true, q49_12]; done) | simp [hs12, f1_12, f41_12, f42_12, f43_12, f44_12, f45_12, f46_12, f47_12, f48_12, f49_12, f50_12, f51_12])
        have f49_13 := fun hh => getq q49_13 hh
        have q52_13 : T13[52]? = some (.int .i64 X2) := by subst hT; exact (by first | (simp only [↓Array.getElem?_setIfInBounds_ne, ne_eq, Nat.reduceEqDiff, not_false_eq_true]; done) | simp [hs12, f1_12, f41_12, f42_12, f43_12, f44_12, f45_12, f46_12, f47_12, f48_12, f49_12, f50_12, f51_12])
        have f52_13 := fun hh => getq q52_13 hh
        have q53_13 : T13[53]? = some (.int .i64 Y2) := by subst hT; exact (by first | (simp only [↓Array.getElem?_setIfInBounds_ne, ne_eq, Nat.reduceEqDiff, not_false_eq_true]; done) | simp [hs12, f1_12, f41_12, f42_12, f43_12, f44_12, f45_12, f46_12, f47_12, f48_12, f49_12, f50_12, f51_12])
        have f53_13 := fun hh => getq q53_13 hh
        have q54_13 : T13[54]? = some (.bool O2) := by subst hT; exact (by first | (simp only [↓Array.getElem?_setIfInBounds_ne, ne_eq, Nat.reduceEqDiff, not_false_eq_true]; done) | simp [hs12, f1_12, f41_12, f42_12, f43_12, f44_12, f45_12, f46_12, f47_12, f48_12, f49_12, f50_12, f51_12])
        have f54_13 := fun hh => getq q54_13 hh
        have q55_13 : T13[55]? = some (.int .i64 X2) := by subst hT; exact (by first | (simp only [↓Array.getElem?_setIfInBounds_ne, ne_eq, Nat.reduceEqDiff, not_false_eq_true]; done) | simp [hs12, f1_12, f41_12, f42_12, f43_12, f44_12, f45_12, f46_12, f47_12, f48_12, f49_12, f50_12, f51_12])
        have f55_13 := fun hh => getq q55_13 hh
        have q56_13 : T13[56]? = some (.int .i64 Y2) := by subst hT; exact (by first | (simp only [↓Array.getElem?_setIfInBounds_ne, ne_eq, Nat.reduceEqDiff, not_false_eq_true]; done) | simp [hs12, f1_12, f41_12, f42_12, f43_12, f44_12, f45_12, f46_12, f47_12, f48_12, f49_12, f50_12, f51_12])
        have f56_13 := fun hh => getq q56_13 hh
        have q57_13 : T13[57]? = some (.bool O2) := by subst hT; exact (by first | (simp only [↓Array.getElem?_setIfInBounds_ne, ne_eq, Nat.reduceEqDiff, not_false_eq_true]; done) | simp [hs12, f1_12, f41_12, f42_12, f43_12, f44_12, f45_12, f46_12, f47_12, f48_12, f49_12, f50_12, f51_12])
        have f57_13 := fun hh => getq q57_13 hh
        clear hT f51_12 f50_12 f49_12 f48_12 f47_12 f46_12 f45_12 f44_12 f43_12 f42_12 f41_12 f1_12 hs12 q1_12 q41_12 q42_12 q43_12 q44_12 q45_12 q46_12 q47_12 q48_12 q49_12 q50_12 q51_12
        go_wp2_with fail
        refine (DrawPoleOfShadow_any v1 _ (H1.out.later (bl_trans (u := wp) (by repeat (first | exact HB28.out | exact Below.refl _ _ | refine bl_drewN ?_ _)) HW.out))).mono ?_
        rintro e w29 ⟨la, pa, fa, rfl, hb29⟩
        have HB29 := Lib.hid (show Below wp.heap.size wp w29 from bl_trans hb29 (by repeat (first | exact HB28.out | exact Below.refl _ _ | refine bl_drewN ?_ _)))
        clear hb29
        clear P1 P2 p0 p1
        obtain ⟨X3, Y3, O3, P1, P2⟩ := pole_pack la pa fa
        go_upto_region 35 with fail
        refine reframe fun T14 hT => ?_
        have hs14 : T14.size = 603 := by subst hT; simp [hs13]
        have q1_14 : T14[1]? = some (v1) := by subst hT; exact (by first | (simp only [↓Array.getElem?_setIfInBounds_ne, ne_eq, Nat.reduceEqDiff, not_false_eq_true, q1_13]; done) | simp [hs13, f1_13, f41_13, f42_13, f43_13, f44_13, f45_13, f46_13, f47_13, f48_13, f49_13, f52_13, f53_13, f54_13, f55_13, f56_13, f57_13])
        have f1_14 := fun hh => getq q1_14 hh
        have q41_14 : T14[41]? = some (.int .i64 ta) := by subst hT; exact (by first | (simp only [↓Array.getElem?_setIfInBounds_ne, ne_eq, Nat.reduceEqDiff, not_false_eq_true, q41_13]; done) | simp [hs13, f1_13, f41_13, f42_13, f43_13, f44_13, f45_13, f46_13, f47_13, f48_13, f49_13, f52_13, f53_13, f54_13, f55_13, f56_13, f57_13])
        have f41_14 := fun hh => getq q41_14 hh
        have q42_14 : T14[42]? = some (.int .i64 ri) := by subst hT; exact (by first | (simp only [↓Array.getElem?_setIfInBounds_ne, ne_eq, Nat.reduceEqDiff, not_false_eq_true, q42_13]; done) | simp [hs13, f1_13, f41_13, f42_13, f43_13, f44_13, f45_13, f46_13, f47_13, f48_13, f49_13, f52_13, f53_13, f54_13, f55_13, f56_13, f57_13])
        have f42_14 := fun hh => getq q42_14 hh
        have q43_14 : T14[43]? = some (.int .i64 ru) := by subst hT; exact (by first | (simp only [↓Array.getElem?_setIfInBounds_ne, ne_eq, Nat.reduceEqDiff, not_false_eq_true, q43_13]; done) | simp [hs13, f1_13, f41_13, f42_13, f43_13, f44_13, f45_13, f46_13, f47_13, f48_13, f49_13, f52_13, f53_13, f54_13, f55_13, f56_13, f57_13])
        have f43_14 := fun hh => getq q43_14 hh
        have q44_14 : T14[44]? = some (.int .i64 X1) := by subst hT; exact (by first | (simp only [↓Array.getElem?_setIfInBounds_ne, ne_eq, Nat.reduceEqDiff, not_false_eq_true, q44_13]; done) | simp [hs13, f1_13, f41_13, f42_13, f43_13, f44_13, f45_13, f46_13, f47_13, f48_13, f49_13, f52_13, f53_13, f54_13, f55_13, f56_13, f57_13])
        have f44_14 := fun hh => getq q44_14 hh
        have q45_14 : T14[45]? = some (.int .i64 Y1) := by subst hT; exact (by first | (simp only [↓Array.getElem?_setIfInBounds_ne, ne_eq, Nat.reduceEqDiff, not_false_eq_true, q45_13]; done) | simp [hs13, f1_13, f41_13, f42_13, f43_13, f44_13, f45_13, f46_13, f47_13, f48_13, f49_13, f52_13, f53_13, f54_13, f55_13, f56_13, f57_13])
        have f45_14 := fun hh => getq q45_14 hh
        have q46_14 : T14[46]? = some (.bool O1) := by subst hT; exact (by first | (simp only [↓Array.getElem?_setIfInBounds_ne, ne_eq, Nat.reduceEqDiff, not_false_eq_true, q46_13]; done) | simp [hs13, f1_13, f41_13, f42_13, f43_13, f44_13, f45_13, f46_13, f47_13, f48_13, f49_13, f52_13, f53_13, f54_13, f55_13, f56_13, f57_13])
        have f46_14 := fun hh => getq q46_14 hh
        have q47_14 : T14[47]? = some (.int .i64 X1) := by subst hT; exact (by first | (simp only [↓Array.getElem?_setIfInBounds_ne, ne_eq, Nat.reduceEqDiff, not_false_eq_true, q47_13]; done) | simp [hs13, f1_13, f41_13, f42_13, f43_13, f44_13, f45_13, f46_13, f47_13, f48_13, f49_13, f52_13, f53_13, f54_13, f55_13, f56_13, f57_13])
        have f47_14 := fun hh => getq q47_14 hh
        have q48_14 : T14[48]? = some (.int .i64 Y1) := by subst hT; exact (by first | (simp only [↓Array.getElem?_setIfInBounds_ne, ne_eq, Nat.reduceEqDiff, not_false_eq_true, q48_13]; done) | simp [hs13, f1_13, f41_13, f42_13, f43_13, f44_13, f45_13, f46_13, f47_13, f48_13, f49_13, f52_13, f53_13, f54_13, f55_13, f56_13, f57_13])
        have f48_14 := fun hh => getq q48_14 hh
        have q49_14 : T14[49]? = some (.bool O1) := by subst hT; exact (by first | (simp only [↓Array.getElem?_setIfInBounds_ne, ne_eq, Nat.reduceEqDiff, not_false_eq_true, q49_13]; done) | simp [hs13, f1_13, f41_13, f42_13, f43_13, f44_13, f45_13, f46_13, f47_13, f48_13, f49_13, f52_13, f53_13, f54_13, f55_13, f56_13, f57_13])
        have f49_14 := fun hh => getq q49_14 hh
        have q52_14 : T14[52]? = some (.int .i64 X2) := by subst hT; exact (by first | (simp only [↓Array.getElem?_setIfInBounds_ne, ne_eq, Nat.reduceEqDiff, not_false_eq_true, q52_13]; done) | simp [hs13, f1_13, f41_13, f42_13, f43_13, f44_13, f45_13, f46_13, f47_13, f48_13, f49_13, f52_13, f53_13, f54_13, f55_13, f56_13, f57_13])
        have f52_14 := fun hh => getq q52_14 hh
        have q53_14 : T14[53]? = some (.int .i64 Y2) := by subst hT; exact (by first | (simp only [↓Array.getElem?_setIfInBounds_ne, ne_eq, Nat.reduceEqDiff, not_false_eq_true, q53_13]; done) | simp [hs13, f1_13, f41_13, f42_13, f43_13, f44_13, f45_13, f46_13, f47_13, f48_13, f49_13, f52_13, f53_13, f54_13, f55_13, f56_13, f57_13])
        have f53_14 := fun hh => getq q53_14 hh
        have q54_14 : T14[54]? = some (.bool O2) := by subst hT; exact (by first | (simp only [↓Array.getElem?_setIfInBounds_ne, ne_eq, Nat.reduceEqDiff, not_false_eq_true, q54_13]; done) | simp [hs13, f1_13, f41_13, f42_13, f43_13, f44_13, f45_13, f46_13, f47_13, f48_13, f49_13, f52_13, f53_13, f54_13, f55_13, f56_13, f57_13])
        have f54_14 := fun hh => getq q54_14 hh
        have q55_14 : T14[55]? = some (.int .i64 X2) := by subst hT; exact (by first | (simp only [↓Array.getElem?_setIfInBounds_ne, ne_eq, Nat.reduceEqDiff, not_false_eq_true, q55_13]; done) | simp [hs13, f1_13, f41_13, f42_13, f43_13, f44_13, f45_13, f46_13, f47_13, f48_13, f49_13, f52_13, f53_13, f54_13, f55_13, f56_13, f57_13])
        have f55_14 := fun hh => getq q55_14 hh
        have q56_14 : T14[56]? = some (.int .i64 Y2) := by subst hT; exact (by first | (simp only [↓Array.getElem?_setIfInBounds_ne, ne_eq, Nat.reduceEqDiff, not_false_eq_true, q56_13]; done) | simp [hs13, f1_13, f41_13, f42_13, f43_13, f44_13, f45_13, f46_13, f47_13, f48_13, f49_13, f52_13, f53_13, f54_13, f55_13, f56_13, f57_13])
        have f56_14 := fun hh => getq q56_14 hh
        have q57_14 : T14[57]? = some (.bool O2) := by subst hT; exact (by first | (simp only [↓Array.getElem?_setIfInBounds_ne, ne_eq, Nat.reduceEqDiff, not_false_eq_true, q57_13]; done) | simp [hs13, f1_13, f41_13, f42_13, f43_13, f44_13, f45_13, f46_13, f47_13, f48_13, f49_13, f52_13, f53_13, f54_13, f55_13, f56_13, f57_13])
        have f57_14 := fun hh => getq q57_14 hh
        have q58_14 : T14[58]? = some (.int .i64 la) := by subst hT; exact (by first | (simp only [↓Array.getElem?_setIfInBounds_ne, ne_eq, Nat.reduceEqDiff, not_false_eq_true]; done) | simp [hs13, f1_13, f41_13, f42_13, f43_13, f44_13, f45_13, f46_13, f47_13, f48_13, f49_13, f52_13, f53_13, f54_13, f55_13, f56_13, f57_13])
        have f58_14 := fun hh => getq q58_14 hh
        have q59_14 : T14[59]? = some (.int .i64 pa) := by subst hT; exact (by first | (simp only [↓Array.getElem?_setIfInBounds_ne, ne_eq, Nat.reduceEqDiff, not_false_eq_true]; done) | simp [hs13, f1_13, f41_13, f42_13, f43_13, f44_13, f45_13, f46_13, f47_13, f48_13, f49_13, f52_13, f53_13, f54_13, f55_13, f56_13, f57_13])
        have f59_14 := fun hh => getq q59_14 hh
        have q60_14 : T14[60]? = some (.int .i64 fa) := by subst hT; exact (by first | (simp only [↓Array.getElem?_setIfInBounds_ne, ne_eq, Nat.reduceEqDiff, not_false_eq_true]; done) | simp [hs13, f1_13, f41_13, f42_13, f43_13, f44_13, f45_13, f46_13, f47_13, f48_13, f49_13, f52_13, f53_13, f54_13, f55_13, f56_13, f57_13])
        have f60_14 := fun hh => getq q60_14 hh
        clear hT f57_13 f56_13 f55_13 f54_13 f53_13 f52_13 f49_13 f48_13 f47_13 f46_13 f45_13 f44_13 f43_13 f42_13 f41_13 f1_13 hs13 q1_13 q41_13 q42_13 q43_13 q44_13 q45_13 q46_13 q47_13 q48_13 q49_13 q52_13 q53_13 q54_13 q55_13 q56_13 q57_13
        go_wp2_with fail
        refine ((P1 _).out).mono ?_
        rintro e w30 ⟨rfl, hb30⟩
        have HB30 := Lib.hid (show Below wp.heap.size wp w30 from bl_trans hb30 (by repeat (first | exact HB29.out | exact Below.refl _ _ | refine bl_drewN ?_ _)))
        clear hb30
        go_wp2_with fail
        refine ((P2 _).out).mono ?_
        rintro e w31 ⟨rfl, hb31⟩
        have HB31 := Lib.hid (show Below wp.heap.size wp w31 from bl_trans hb31 (by repeat (first | exact HB30.out | exact Below.refl _ _ | refine bl_drewN ?_ _)))
        clear hb31
        go_upto_region 37 with fail
        refine reframe fun T15 hT => ?_
        have hs15 : T15.size = 603 := by subst hT; simp [hs14]
        have q1_15 : T15[1]? = some (v1) := by subst hT; exact (by first | (simp only [↓Array.getElem?_setIfInBounds_ne, ne_eq, Nat.reduceEqDiff, not_false_eq_true, q1_14]; done) | simp [hs14, f1_14, f41_14, f42_14, f43_14, f44_14, f45_14, f46_14, f47_14, f48_14, f49_14, f52_14, f53_14, f54_14, f55_14, f56_14, f57_14, f58_14, f59_14, f60_14])
        have f1_15 := fun hh => getq q1_15 hh
        have q41_15 : T15[41]? = some (.int .i64 ta) := by subst hT; exact (by first | (simp only [↓Array.getElem?_setIfInBounds_ne, ne_eq, Nat.reduceEqDiff, not_false_eq_true, q41_14]; done) | simp [hs14, f1_14, f41_14, f42_14, f43_14, f44_14, f45_14, f46_14, f47_14, f48_14, f49_14, f52_14, f53_14, f54_14, f55_14, f56_14, f57_14, f58_14, f59_14, f60_14])
        have f41_15 := fun hh => getq q41_15 hh
        have q42_15 : T15[42]? = some (.int .i64 ri) := by subst hT; exact (by first | (simp only [↓Array.getElem?_setIfInBounds_ne, ne_eq, Nat.reduceEqDiff, not_false_eq_true, q42_14]; done) | simp [hs14, f1_14, f41_14, f42_14, f43_14, f44_14, f45_14, f46_14, f47_14, f48_14, f49_14, f52_14, f53_14, f54_14, f55_14, f56_14, f57_14, f58_14, f59_14, f60_14])
        have f42_15 := fun hh => getq q42_15 hh
        have q43_15 : T15[43]? = some (.int .i64 ru) := by subst hT; exact (by first | (simp only [↓Array.getElem?_setIfInBounds_ne, ne_eq, Nat.reduceEqDiff, not_false_eq_true, q43_14]; done) | simp [hs14, f1_14, f41_14, f42_14, f43_14, f44_14, f45_14, f46_14, f47_14, f48_14, f49_14, f52_14, f53_14, f54_14, f55_14, f56_14, f57_14, f58_14, f59_14, f60_14])
        have f43_15 := fun hh => getq q43_15 hh
        have q44_15 : T15[44]? = some (.int .i64 X1) := by subst hT; exact (by first | (simp only [↓Array.getElem?_setIfInBounds_ne, ne_eq, Nat.reduceEqDiff, not_false_eq_true, q44_14]; done) | simp [hs14, f1_14, f41_14, f42_14, f43_14, f44_14, f45_14, f46_14, f47_14, f48_14, f49_14, f52_14, f53_14, f54_14, f55_14, f56_14, f57_14, f58_14, f59_14, f60_14])
        have f44_15 := fun hh => getq q44_15 hh
        have q45_15 : T15[45]? = some (.int .i64 Y1) := by subst hT; exact (by first | (simp only [↓Array.getElem?_setIfInBounds_ne, ne_eq, Nat.reduceEqDiff, not_false_eq_true, q45_14]; done) | simp [hs14, f1_14, f41_14, f42_14, f43_14, f44_14, f45_14, f46_14, f47_14, f48_14, f49_14, f52_14, f53_14, f54_14, f55_14, f56_14, f57_14, f58_14, f59_14, f60_14])
        have f45_15 := fun hh => getq q45_15 hh
        have q46_15 : T15[46]? = some (.bool O1) := by subst hT; exact (by first | (simp only [↓Array.getElem?_setIfInBounds_ne, ne_eq, Nat.reduceEqDiff, not_false_eq_true, q46_14]; done) | simp [hs14, f1_14, f41_14, f42_14, f43_14, f44_14, f45_14, f46_14, f47_14, f48_14, f49_14, f52_14, f53_14, f54_14, f55_14, f56_14, f57_14, f58_14, f59_14, f60_14])
        have f46_15 := fun hh => getq q46_15 hh
        have q47_15 : T15[47]? = some (.int .i64 X1) := by subst hT; exact (by first | (simp only [↓Array.getElem?_setIfInBounds_ne, ne_eq, Nat.reduceEqDiff, not_false_eq_true, q47_14]; done) | simp [hs14, f1_14, f41_14, f42_14, f43_14, f44_14, f45_14, f46_14, f47_14, f48_14, f49_14, f52_14, f53_14, f54_14, f55_14, f56_14, f57_14, f58_14, f59_14, f60_14])
        have f47_15 := fun hh => getq q47_15 hh
        have q48_15 : T15[48]? = some (.int .i64 Y1) := by subst hT; exact (by first | (simp only [↓Array.getElem?_setIfInBounds_ne, ne_eq, Nat.reduceEqDiff, not_false_eq_true, q48_14]; done) | simp [hs14, f1_14, f41_14, f42_14, f43_14, f44_14, f45_14, f46_14, f47_14, f48_14, f49_14, f52_14, f53_14, f54_14, f55_14, f56_14, f57_14, f58_14, f59_14, f60_14])
        have f48_15 := fun hh => getq q48_15 hh
        have q49_15 : T15[49]? = some (.bool O1) := by subst hT; exact (by first | (simp only [↓Array.getElem?_setIfInBounds_ne, ne_eq, Nat.reduceEqDiff, not_false_eq_true, q49_14]; done) | simp [hs14, f1_14, f41_14, f42_14, f43_14, f44_14, f45_14, f46_14, f47_14, f48_14, f49_14, f52_14, f53_14, f54_14, f55_14, f56_14, f57_14, f58_14, f59_14, f60_14])
        have f49_15 := fun hh => getq q49_15 hh
        have q52_15 : T15[52]? = some (.int .i64 X2) := by subst hT; exact (by first | (simp only [↓Array.getElem?_setIfInBounds_ne, ne_eq, Nat.reduceEqDiff, not_false_eq_true, q52_14]; done) | simp [hs14, f1_14, f41_14, f42_14, f43_14, f44_14, f45_14, f46_14, f47_14, f48_14, f49_14, f52_14, f53_14, f54_14, f55_14, f56_14, f57_14, f58_14, f59_14, f60_14])
        have f52_15 := fun hh => getq q52_15 hh
        have q53_15 : T15[53]? = some (.int .i64 Y2) := by subst hT; exact (by first | (simp only [↓Array.getElem?_setIfInBounds_ne, ne_eq, Nat.reduceEqDiff, not_false_eq_true, q53_14]; done) | simp [hs14, f1_14, f41_14, f42_14, f43_14, f44_14, f45_14, f46_14, f47_14, f48_14, f49_14, f52_14, f53_14, f54_14, f55_14, f56_14, f57_14, f58_14, f59_14, f60_14])
        have f53_15 := fun hh => getq q53_15 hh
        have q54_15 : T15[54]? = some (.bool O2) := by subst hT; exact (by first | (simp only [↓Array.getElem?_setIfInBounds_ne, ne_eq, Nat.reduceEqDiff, not_false_eq_true, q54_14]; done) | simp [hs14, f1_14, f41_14, f42_14, f43_14, f44_14, f45_14, f46_14, f47_14, f48_14, f49_14, f52_14, f53_14, f54_14, f55_14, f56_14, f57_14, f58_14, f59_14, f60_14])
        have f54_15 := fun hh => getq q54_15 hh
        have q55_15 : T15[55]? = some (.int .i64 X2) := by subst hT; exact (by first | (simp only [↓Array.getElem?_setIfInBounds_ne, ne_eq, Nat.reduceEqDiff, not_false_eq_true, q55_14]; done) | simp [hs14, f1_14, f41_14, f42_14, f43_14, f44_14, f45_14, f46_14, f47_14, f48_14, f49_14, f52_14, f53_14, f54_14, f55_14, f56_14, f57_14, f58_14, f59_14, f60_14])
        have f55_15 := fun hh => getq q55_15 hh
        have q56_15 : T15[56]? = some (.int .i64 Y2) := by subst hT; exact (by first | (simp only [↓Array.getElem?_setIfInBounds_ne, ne_eq, Nat.reduceEqDiff, not_false_eq_true, q56_14]; done) | simp [hs14, f1_14, f41_14, f42_14, f43_14, f44_14, f45_14, f46_14, f47_14, f48_14, f49_14, f52_14, f53_14, f54_14, f55_14, f56_14, f57_14, f58_14, f59_14, f60_14])
        have f56_15 := fun hh => getq q56_15 hh
        have q57_15 : T15[57]? = some (.bool O2) := by subst hT; exact (by first | (simp only [↓Array.getElem?_setIfInBounds_ne, ne_eq, Nat.reduceEqDiff, not_false_eq_true, q57_14]; done) | simp [hs14, f1_14, f41_14, f42_14, f43_14, f44_14, f45_14, f46_14, f47_14, f48_14, f49_14, f52_14, f53_14, f54_14, f55_14, f56_14, f57_14, f58_14, f59_14, f60_14])
        have f57_15 := fun hh => getq q57_15 hh
        have q58_15 : T15[58]? = some (.int .i64 la) := by subst hT; exact (by first | (simp only [↓Array.getElem?_setIfInBounds_ne, ne_eq, Nat.reduceEqDiff, not_false_eq_true, q58_14]; done) | simp [hs14, f1_14, f41_14, f42_14, f43_14, f44_14, f45_14, f46_14, f47_14, f48_14, f49_14, f52_14, f53_14, f54_14, f55_14, f56_14, f57_14, f58_14, f59_14, f60_14])
        have f58_15 := fun hh => getq q58_15 hh
        have q59_15 : T15[59]? = some (.int .i64 pa) := by subst hT; exact (by first | (simp only [↓Array.getElem?_setIfInBounds_ne, ne_eq, Nat.reduceEqDiff, not_false_eq_true, q59_14]; done) | simp [hs14, f1_14, f41_14, f42_14, f43_14, f44_14, f45_14, f46_14, f47_14, f48_14, f49_14, f52_14, f53_14, f54_14, f55_14, f56_14, f57_14, f58_14, f59_14, f60_14])
        have f59_15 := fun hh => getq q59_15 hh
        have q60_15 : T15[60]? = some (.int .i64 fa) := by subst hT; exact (by first | (simp only [↓Array.getElem?_setIfInBounds_ne, ne_eq, Nat.reduceEqDiff, not_false_eq_true, q60_14]; done) | simp [hs14, f1_14, f41_14, f42_14, f43_14, f44_14, f45_14, f46_14, f47_14, f48_14, f49_14, f52_14, f53_14, f54_14, f55_14, f56_14, f57_14, f58_14, f59_14, f60_14])
        have f60_15 := fun hh => getq q60_15 hh
        have q61_15 : T15[61]? = some (.int .i64 X3) := by subst hT; exact (by first | (simp only [↓Array.getElem?_setIfInBounds_ne, ne_eq, Nat.reduceEqDiff, not_false_eq_true]; done) | simp [hs14, f1_14, f41_14, f42_14, f43_14, f44_14, f45_14, f46_14, f47_14, f48_14, f49_14, f52_14, f53_14, f54_14, f55_14, f56_14, f57_14, f58_14, f59_14, f60_14])
        have f61_15 := fun hh => getq q61_15 hh
        have q62_15 : T15[62]? = some (.int .i64 Y3) := by subst hT; exact (by first | (simp only [↓Array.getElem?_setIfInBounds_ne, ne_eq, Nat.reduceEqDiff, not_false_eq_true]; done) | simp [hs14, f1_14, f41_14, f42_14, f43_14, f44_14, f45_14, f46_14, f47_14, f48_14, f49_14, f52_14, f53_14, f54_14, f55_14, f56_14, f57_14, f58_14, f59_14, f60_14])
        have f62_15 := fun hh => getq q62_15 hh
        have q63_15 : T15[63]? = some (.bool O3) := by subst hT; exact (by first | (simp only [↓Array.getElem?_setIfInBounds_ne, ne_eq, Nat.reduceEqDiff, not_false_eq_true]; done) | simp [hs14, f1_14, f41_14, f42_14, f43_14, f44_14, f45_14, f46_14, f47_14, f48_14, f49_14, f52_14, f53_14, f54_14, f55_14, f56_14, f57_14, f58_14, f59_14, f60_14])
        have f63_15 := fun hh => getq q63_15 hh
        have q64_15 : T15[64]? = some (.int .i64 X3) := by subst hT; exact (by first | (simp only [↓Array.getElem?_setIfInBounds_ne, ne_eq, Nat.reduceEqDiff, not_false_eq_true]; done) | simp [hs14, f1_14, f41_14, f42_14, f43_14, f44_14, f45_14, f46_14, f47_14, f48_14, f49_14, f52_14, f53_14, f54_14, f55_14, f56_14, f57_14, f58_14, f59_14, f60_14])
        have f64_15 := fun hh => getq q64_15 hh
        have q65_15 : T15[65]? = some (.int .i64 Y3) := by subst hT; exact (by first | (simp only [↓Array.getElem?_setIfInBounds_ne, ne_eq, Nat.reduceEqDiff, not_false_eq_true]; done) | simp [hs14, f1_14, f41_14, f42_14, f43_14, f44_14, f45_14, f46_14, f47_14, f48_14, f49_14, f52_14, f53_14, f54_14, f55_14, f56_14, f57_14, f58_14, f59_14, f60_14])
        have f65_15 := fun hh => getq q65_15 hh
        have q66_15 : T15[66]? = some (.bool O3) := by subst hT; exact (by first | (simp only [↓Array.getElem?_setIfInBounds_ne, ne_eq, Nat.reduceEqDiff, not_false_eq_true]; done) | simp [hs14, f1_14, f41_14, f42_14, f43_14, f44_14, f45_14, f46_14, f47_14, f48_14, f49_14, f52_14, f53_14, f54_14, f55_14, f56_14, f57_14, f58_14, f59_14, f60_14])
        have f66_15 := fun hh => getq q66_15 hh
        clear hT f60_14 f59_14 f58_14 f57_14 f56_14 f55_14 f54_14 f53_14 f52_14 f49_14 f48_14 f47_14 f46_14 f45_14 f44_14 f43_14 f42_14 f41_14 f1_14 hs14 q1_14 q41_14 q42_14 q43_14 q44_14 q45_14 q46_14 q47_14 q48_14 q49_14 q52_14 q53_14 q54_14 q55_14 q56_14 q57_14 q58_14 q59_14 q60_14
        go_wp2_with fail
        refine (DrawPlaceOfShadow_any v1 _ (H1.out.later (bl_trans (u := wp) (by repeat (first | exact HB31.out | exact Below.refl _ _ | refine bl_drewN ?_ _)) HW.out))).mono ?_
        rintro e w32 ⟨lb, pb, mu, rfl, hb32⟩
        have HB32 := Lib.hid (show Below wp.heap.size wp w32 from bl_trans hb32 (by repeat (first | exact HB31.out | exact Below.refl _ _ | refine bl_drewN ?_ _)))
        clear hb32
        clear P1 P2
        obtain ⟨X4, Y4, O4, P1, P2⟩ := place_pack lb pb mu
        go_upto_region 38 with fail
        refine reframe fun T16 hT => ?_
        have hs16 : T16.size = 603 := by subst hT; simp [hs15]
        have q1_16 : T16[1]? = some (v1) := by subst hT; exact (by first | (simp only [↓Array.getElem?_setIfInBounds_ne, ne_eq, Nat.reduceEqDiff, not_false_eq_true, q1_15]; done) | simp [hs15, f1_15, f41_15, f42_15, f43_15, f44_15, f45_15, f46_15, f47_15, f48_15, f49_15, f52_15, f53_15, f54_15, f55_15, f56_15, f57_15, f58_15, f59_15, f60_15, f61_15, f62_15, f63_15, f64_15, f65_15, f66_15])
        have f1_16 := fun hh => getq q1_16 hh
        have q41_16 : T16[41]? = some (.int .i64 ta) := by subst hT; exact (by first | (simp only [↓Array.getElem?_setIfInBounds_ne, ne_eq, Nat.reduceEqDiff, not_false_eq_true, q41_15]; done) | simp [hs15, f1_15, f41_15, f42_15, f43_15, f44_15, f45_15, f46_15, f47_15, f48_15, f49_15, f52_15, f53_15, f54_15, f55_15, f56_15, f57_15, f58_15, f59_15, f60_15, f61_15, f62_15, f63_15, f64_15, f65_15, f66_15])
        have f41_16 := fun hh => getq q41_16 hh
        have q42_16 : T16[42]? = some (.int .i64 ri) := by subst hT; exact (by first | (simp only [↓Array.getElem?_setIfInBounds_ne, ne_eq, Nat.reduceEqDiff, not_false_eq_true, q42_15]; done) | simp [hs15, f1_15, f41_15, f42_15, f43_15, f44_15, f45_15, f46_15, f47_15, f48_15, f49_15, f52_15, f53_15, f54_15, f55_15, f56_15, f57_15, f58_15, f59_15, f60_15, f61_15, f62_15, f63_15, f64_15, f65_15, f66_15])
        have f42_16 := fun hh => getq q42_16 hh
        have q43_16 : T16[43]? = some (.int .i64 ru) := by subst hT; exact (by first | (simp only [↓Array.getElem?_setIfInBounds_ne, ne_eq, Nat.reduceEqDiff, not_false_eq_true, q43_15]; done) | simp [hs15, f1_15, f41_15, f42_15, f43_15, f44_15, f45_15, f46_15, f47_15, f48_15, f49_15, f52_15, f53_15, f54_15, f55_15, f56_15, f57_15, f58_15, f59_15, f60_15, f61_15, f62_15, f63_15, f64_15, f65_15, f66_15])
        have f43_16 := fun hh => getq q43_16 hh
        have q44_16 : T16[44]? = some (.int .i64 X1) := by subst hT; exact (by first | (simp only [↓Array.getElem?_setIfInBounds_ne, ne_eq, Nat.reduceEqDiff, not_false_eq_true, q44_15]; done) | simp [hs15, f1_15, f41_15, f42_15, f43_15, f44_15, f45_15, f46_15, f47_15, f48_15, f49_15, f52_15, f53_15, f54_15, f55_15, f56_15, f57_15, f58_15, f59_15, f60_15, f61_15, f62_15, f63_15, f64_15, f65_15, f66_15])
        have f44_16 := fun hh => getq q44_16 hh
        have q45_16 : T16[45]? = some (.int .i64 Y1) := by subst hT; exact (by first | (simp only [↓Array.getElem?_setIfInBounds_ne, ne_eq, Nat.reduceEqDiff, not_false_eq_true, q45_15]; done) | simp [hs15, f1_15, f41_15, f42_15, f43_15, f44_15, f45_15, f46_15, f47_15, f48_15, f49_15, f52_15, f53_15, f54_15, f55_15, f56_15, f57_15, f58_15, f59_15, f60_15, f61_15, f62_15, f63_15, f64_15, f65_15, f66_15])
        have f45_16 := fun hh => getq q45_16 hh
        have q46_16 : T16[46]? = some (.bool O1) := by subst hT; exact (by first | (simp only [↓Array.getElem?_setIfInBounds_ne, ne_eq, Nat.reduceEqDiff, not_false_eq_true, q46_15]; done) | simp [hs15, f1_15, f41_15, f42_15, f43_15, f44_15, f45_15, f46_15, f47_15, f48_15, f49_15, f52_15, f53_15, f54_15, f55_15, f56_15, f57_15, f58_15, f59_15, f60_15, f61_15, f62_15, f63_15, f64_15, f65_15, f66_15])
        have f46_16 := fun hh => getq q46_16 hh
        have q47_16 : T16[47]? = some (.int .i64 X1) := by subst hT; exact (by first | (simp only [↓Array.getElem?_setIfInBounds_ne, ne_eq, Nat.reduceEqDiff, not_false_eq_true, q47_15]; done) | simp [hs15, f1_15, f41_15, f42_15, f43_15, f44_15, f45_15, f46_15, f47_15, f48_15, f49_15, f52_15, f53_15, f54_15, f55_15, f56_15, f57_15, f58_15, f59_15, f60_15, f61_15, f62_15, f63_15, f64_15, f65_15, f66_15])
        have f47_16 := fun hh => getq q47_16 hh
        have q48_16 : T16[48]? = some (.int .i64 Y1) := by subst hT; exact (by first | (simp only [↓Array.getElem?_setIfInBounds_ne, ne_eq, Nat.reduceEqDiff, not_false_eq_true, q48_15]; done) | simp [hs15, f1_15, f41_15, f42_15, f43_15, f44_15, f45_15, f46_15, f47_15, f48_15, f49_15, f52_15, f53_15, f54_15, f55_15, f56_15, f57_15, f58_15, f59_15, f60_15, f61_15, f62_15, f63_15, f64_15, f65_15, f66_15])
        have f48_16 := fun hh => getq q48_16 hh
        have q49_16 : T16[49]? = some (.bool O1) := by subst hT; exact (by first | (simp only [↓Array.getElem?_setIfInBounds_ne, ne_eq, Nat.reduceEqDiff, not_false_eq_true, q49_15]; done) | simp [hs15, f1_15, f41_15, f42_15, f43_15, f44_15, f45_15, f46_15, f47_15, f48_15, f49_15, f52_15, f53_15, f54_15, f55_15, f56_15, f57_15, f58_15, f59_15, f60_15, f61_15, f62_15, f63_15, f64_15, f65_15, f66_15])
        have f49_16 := fun hh => getq q49_16 hh
        have q52_16 : T16[52]? = some (.int .i64 X2) := by subst hT; exact (by first | (simp only [↓Array.getElem?_setIfInBounds_ne, ne_eq, Nat.reduceEqDiff, not_false_eq_true, q52_15]; done) | simp [hs15, f1_15, f41_15, f42_15, f43_15, f44_15, f45_15, f46_15, f47_15, f48_15, f49_15, f52_15, f53_15, f54_15, f55_15, f56_15, f57_15, f58_15, f59_15, f60_15, f61_15, f62_15, f63_15, f64_15, f65_15, f66_15])
        have f52_16 := fun hh => getq q52_16 hh
        have q53_16 : T16[53]? = some (.int .i64 Y2) := by subst hT; exact (by first | (simp only [↓Array.getElem?_setIfInBounds_ne, ne_eq, Nat.reduceEqDiff, not_false_eq_true, q53_15]; done) | simp [hs15, f1_15, f41_15, f42_15, f43_15, f44_15, f45_15, f46_15, f47_15, f48_15, f49_15, f52_15, f53_15, f54_15, f55_15, f56_15, f57_15, f58_15, f59_15, f60_15, f61_15, f62_15, f63_15, f64_15, f65_15, f66_15])
        have f53_16 := fun hh => getq q53_16 hh
        have q54_16 : T16[54]? = some (.bool O2) := by subst hT; exact (by first | (simp only [↓Array.getElem?_setIfInBounds_ne, ne_eq, Nat.reduceEqDiff, not_false_eq_true, q54_15]; done) | simp [hs15, f1_15, f41_15, f42_15, f43_15, f44_15, f45_15, f46_15, f47_15, f48_15, f49_15, f52_15, f53_15, f54_15, f55_15, f56_15, f57_15, f58_15, f59_15, f60_15, f61_15, f62_15, f63_15, f64_15, f65_15, f66_15])
        have f54_16 := fun hh => getq q54_16 hh
        have q55_16 : T16[55]? = some (.int .i64 X2) := by subst hT; exact (by first | (simp only [↓Array.getElem?_setIfInBounds_ne, ne_eq, Nat.reduceEqDiff, not_false_eq_true, q55_15]; done) | simp [hs15, f1_15, f41_15, f42_15, f43_15, f44_15, f45_15, f46_15, f47_15, f48_15, f49_15, f52_15, f53_15, f54_15, f55_15, f56_15, f57_15, f58_15, f59_15, f60_15, f61_15, f62_15, f63_15, f64_15, f65_15, f66_15])
        have f55_16 := fun hh => getq q55_16 hh
        have q56_16 : T16[56]? = some (.int .i64 Y2) := by subst hT; exact (by first | (simp only [↓Array.getElem?_setIfInBounds_ne, ne_eq, Nat.reduceEqDiff, not_false_eq_true, q56_15]; done) | simp [hs15, f1_15, f41_15, f42_15, f43_15, f44_15, f45_15, f46_15, f47_15, f48_15, f49_15, f52_15, f53_15, f54_15, f55_15, f56_15, f57_15, f58_15, f59_15, f60_15, f61_15, f62_15, f63_15, f64_15, f65_15, f66_15])
        have f56_16 := fun hh => getq q56_16 hh
        have q57_16 : T16[57]? = some (.bool O2) := by subst hT; exact (by first | (simp only [↓Array.getElem?_setIfInBounds_ne, ne_eq, Nat.reduceEqDiff, not_false_eq_true, q57_15]; done) | simp [hs15, f1_15, f41_15, f42_15, f43_15, f44_15, f45_15, f46_15, f47_15, f48_15, f49_15, f52_15, f53_15, f54_15, f55_15, f56_15, f57_15, f58_15, f59_15, f60_15, f61_15, f62_15, f63_15, f64_15, f65_15, f66_15])
        have f57_16 := fun hh => getq q57_16 hh
        have q58_16 : T16[58]? = some (.int .i64 la) := by subst hT; exact (by first | (simp only [↓Array.getElem?_setIfInBounds_ne, ne_eq, Nat.reduceEqDiff, not_false_eq_true, q58_15]; done) | simp [hs15, f1_15, f41_15, f42_15, f43_15, f44_15, f45_15, f46_15, f47_15, f48_15, f49_15, f52_15, f53_15, f54_15, f55_15, f56_15, f57_15, f58_15, f59_15, f60_15, f61_15, f62_15, f63_15, f64_15, f65_15, f66_15])
        have f58_16 := fun hh => getq q58_16 hh
        have q59_16 : T16[59]? = some (.int .i64 pa) := by subst hT; exact (by first | (simp only [↓Array.getElem?_setIfInBounds_ne, ne_eq, Nat.reduceEqDiff, not_false_eq_true, q59_15]; done) | simp [hs15, f1_15, f41_15, f42_15, f43_15, f44_15, f45_15, f46_15, f47_15, f48_15, f49_15, f52_15, f53_15, f54_15, f55_15, f56_15, f57_15, f58_15, f59_15, f60_15, f61_15, f62_15, f63_15, f64_15, f65_15, f66_15])
        have f59_16 := fun hh => getq q59_16 hh
        have q60_16 : T16[60]? = some (.int .i64 fa) := by subst hT; exact (by first | (simp only [↓Array.getElem?_setIfInBounds_ne, ne_eq, Nat.reduceEqDiff, not_false_eq_true, q60_15]; done) | simp [hs15, f1_15, f41_15, f42_15, f43_15, f44_15, f45_15, f46_15, f47_15, f48_15, f49_15, f52_15, f53_15, f54_15, f55_15, f56_15, f57_15, f58_15, f59_15, f60_15, f61_15, f62_15, f63_15, f64_15, f65_15, f66_15])
        have f60_16 := fun hh => getq q60_16 hh
        have q61_16 : T16[61]? = some (.int .i64 X3) := by subst hT; exact (by first | (simp only [↓Array.getElem?_setIfInBounds_ne, ne_eq, Nat.reduceEqDiff, not_false_eq_true, q61_15]; done) | simp [hs15, f1_15, f41_15, f42_15, f43_15, f44_15, f45_15, f46_15, f47_15, f48_15, f49_15, f52_15, f53_15, f54_15, f55_15, f56_15, f57_15, f58_15, f59_15, f60_15, f61_15, f62_15, f63_15, f64_15, f65_15, f66_15])
        have f61_16 := fun hh => getq q61_16 hh
        have q62_16 : T16[62]? = some (.int .i64 Y3) := by subst hT; exact (by first | (simp only [↓Array.getElem?_setIfInBounds_ne, ne_eq, Nat.reduceEqDiff, not_false_eq_true, q62_15]; done) | simp [hs15, f1_15, f41_15, f42_15, f43_15, f44_15, f45_15, f46_15, f47_15, f48_15, f49_15, f52_15, f53_15, f54_15, f55_15, f56_15, f57_15, f58_15, f59_15, f60_15, f61_15, f62_15, f63_15, f64_15, f65_15, f66_15])
        have f62_16 := fun hh => getq q62_16 hh
        have q63_16 : T16[63]? = some (.bool O3) := by subst hT; exact (by first | (simp only [↓Array.getElem?_setIfInBounds_ne, ne_eq, Nat.reduceEqDiff, not_false_eq_true, q63_15]; done) | simp [hs15, f1_15, f41_15, f42_15, f43_15, f44_15, f45_15, f46_15, f47_15, f48_15, f49_15, f52_15, f53_15, f54_15, f55_15, f56_15, f57_15, f58_15, f59_15, f60_15, f61_15, f62_15, f63_15, f64_15, f65_15, f66_15])
        have f63_16 := fun hh => getq q63_16 hh
        have q64_16 : T16[64]? = some (.int .i64 X3) := by subst hT; exact (by first | (simp only [↓Array.getElem?_setIfInBounds_ne, ne_eq, Nat.reduceEqDiff, not_false_eq_true, q64_15]; done) | simp [hs15, f1_15, f41_15, f42_15, f43_15, f44_15, f45_15, f46_15, f47_15, f48_15, f49_15, f52_15, f53_15, f54_15, f55_15, f56_15, f57_15, f58_15, f59_15, f60_15, f61_15, f62_15, f63_15, f64_15, f65_15, f66_15])
        have f64_16 := fun hh => getq q64_16 hh
        have q65_16 : T16[65]? = some (.int .i64 Y3) := by subst hT; exact (by first | (simp only [↓Array.getElem?_setIfInBounds_ne, ne_eq, Nat.reduceEqDiff, not_false_eq_true, q65_15]; done) | simp [hs15, f1_15, f41_15, f42_15, f43_15, f44_15, f45_15, f46_15, f47_15, f48_15, f49_15, f52_15, f53_15, f54_15, f55_15, f56_15, f57_15, f58_15, f59_15, f60_15, f61_15, f62_15, f63_15, f64_15, f65_15, f66_15])
        have f65_16 := fun hh => getq q65_16 hh
        have q66_16 : T16[66]? = some (.bool O3) := by subst hT; exact (by first | (simp only [↓Array.getElem?_setIfInBounds_ne, ne_eq, Nat.reduceEqDiff, not_false_eq_true, q66_15]; done) | simp [hs15, f1_15, f41_15, f42_15, f43_15, f44_15, f45_15, f46_15, f47_15, f48_15, f49_15, f52_15, f53_15, f54_15, f55_15, f56_15, f57_15, f58_15, f59_15, f60_15, f61_15, f62_15, f63_15, f64_15, f65_15, f66_15])
        have f66_16 := fun hh => getq q66_16 hh
        have q67_16 : T16[67]? = some (.int .i64 lb) := by subst hT; exact (by first | (simp only [↓Array.getElem?_setIfInBounds_ne, ne_eq, Nat.reduceEqDiff, not_false_eq_true]; done) | simp [hs15, f1_15, f41_15, f42_15, f43_15, f44_15, f45_15, f46_15, f47_15, f48_15, f49_15, f52_15, f53_15, f54_15, f55_15, f56_15, f57_15, f58_15, f59_15, f60_15, f61_15, f62_15, f63_15, f64_15, f65_15, f66_15])
        have f67_16 := fun hh => getq q67_16 hh
        have q68_16 : T16[68]? = some (.int .i64 pb) := by subst hT; exact (by first | (simp only [↓Array.getElem?_setIfInBounds_ne, ne_eq, Nat.reduceEqDiff, not_false_eq_true]; done) | simp [hs15, f1_15, f41_15, f42_15, f43_15, f44_15, f45_15, f46_15, f47_15, f48_15, f49_15, f52_15, f53_15, f54_15, f55_15, f56_15, f57_15, f58_15, f59_15, f60_15, f61_15, f62_15, f63_15, f64_15, f65_15, f66_15])
        have f68_16 := fun hh => getq q68_16 hh
        have q69_16 : T16[69]? = some (.int .i64 mu) := by subst hT; exact (by first | (simp only [↓Array.getElem?_setIfInBounds_ne, ne_eq, Nat.reduceEqDiff, not_false_eq_true]; done) | simp [hs15, f1_15, f41_15, f42_15, f43_15, f44_15, f45_15, f46_15, f47_15, f48_15, f49_15, f52_15, f53_15, f54_15, f55_15, f56_15, f57_15, f58_15, f59_15, f60_15, f61_15, f62_15, f63_15, f64_15, f65_15, f66_15])
        have f69_16 := fun hh => getq q69_16 hh
        clear hT f66_15 f65_15 f64_15 f63_15 f62_15 f61_15 f60_15 f59_15 f58_15 f57_15 f56_15 f55_15 f54_15 f53_15 f52_15 f49_15 f48_15 f47_15 f46_15 f45_15 f44_15 f43_15 f42_15 f41_15 f1_15 hs15 q1_15 q41_15 q42_15 q43_15 q44_15 q45_15 q46_15 q47_15 q48_15 q49_15 q52_15 q53_15 q54_15 q55_15 q56_15 q57_15 q58_15 q59_15 q60_15 q61_15 q62_15 q63_15 q64_15 q65_15 q66_15
        go_wp2_with fail
        refine ((P1 _).out).mono ?_
        rintro e w33 ⟨rfl, hb33⟩
        have HB33 := Lib.hid (show Below wp.heap.size wp w33 from bl_trans hb33 (by repeat (first | exact HB32.out | exact Below.refl _ _ | refine bl_drewN ?_ _)))
        clear hb33
        go_wp2_with fail
        refine ((P2 _).out).mono ?_
        rintro e w34 ⟨rfl, hb34⟩
        have HB34 := Lib.hid (show Below wp.heap.size wp w34 from bl_trans hb34 (by repeat (first | exact HB33.out | exact Below.refl _ _ | refine bl_drewN ?_ _)))
        clear hb34
        go_upto_region 40 with fail
        refine reframe fun T17 hT => ?_
        have hs17 : T17.size = 603 := by subst hT; simp [hs16]
        have q1_17 : T17[1]? = some (v1) := by subst hT; exact (by first | (simp only [↓Array.getElem?_setIfInBounds_ne, ne_eq, Nat.reduceEqDiff, not_false_eq_true, q1_16]; done) | simp [hs16, f1_16, f41_16, f42_16, f43_16, f44_16, f45_16, f46_16, f47_16, f48_16, f49_16, f52_16, f53_16, f54_16, f55_16, f56_16, f57_16, f58_16, f59_16, f60_16, f61_16, f62_16, f63_16, f64_16, f65_16, f66_16, f67_16, f68_16, f69_16])
        have f1_17 := fun hh => getq q1_17 hh
        have q41_17 : T17[41]? = some (.int .i64 ta) := by subst hT; exact (by first | (simp only [↓Array.getElem?_setIfInBounds_ne, ne_eq, Nat.reduceEqDiff, not_false_eq_true, q41_16]; done) | simp [hs16, f1_16, f41_16, f42_16, f43_16, f44_16, f45_16, f46_16, f47_16, f48_16, f49_16, f52_16, f53_16, f54_16, f55_16, f56_16, f57_16, f58_16, f59_16, f60_16, f61_16, f62_16, f63_16, f64_16, f65_16, f66_16, f67_16, f68_16, f69_16])
        have f41_17 := fun hh => getq q41_17 hh
        have q42_17 : T17[42]? = some (.int .i64 ri) := by subst hT; exact (by first | (simp only [↓Array.getElem?_setIfInBounds_ne, ne_eq, Nat.reduceEqDiff, not_false_eq_true, q42_16]; done) | simp [hs16, f1_16, f41_16, f42_16, f43_16, f44_16, f45_16, f46_16, f47_16, f48_16, f49_16, f52_16, f53_16, f54_16, f55_16, f56_16, f57_16, f58_16, f59_16, f60_16, f61_16, f62_16, f63_16, f64_16, f65_16, f66_16, f67_16, f68_16, f69_16])
        have f42_17 := fun hh => getq q42_17 hh
        have q43_17 : T17[43]? = some (.int .i64 ru) := by subst hT; exact (by first | (simp only [↓Array.getElem?_setIfInBounds_ne, ne_eq, Nat.reduceEqDiff, not_false_eq_true, q43_16]; done) | simp [hs16, f1_16, f41_16, f42_16, f43_16, f44_16, f45_16, f46_16, f47_16, f48_16, f49_16, f52_16, f53_16, f54_16, f55_16, f56_16, f57_16, f58_16, f59_16, f60_16, f61_16, f62_16, f63_16, f64_16, f65_16, f66_16, f67_16, f68_16, f69_16])
        have f43_17 := fun hh => getq q43_17 hh
        have q44_17 : T17[44]? = some (.int .i64 X1) := by subst hT; exact (by first | (simp only [↓Array.getElem?_setIfInBounds_ne, ne_eq, Nat.reduceEqDiff, not_false_eq_true, q44_16]; done) | simp [hs16, f1_16, f41_16, f42_16, f43_16, f44_16, f45_16, f46_16, f47_16, f48_16, f49_16, f52_16, f53_16, f54_16, f55_16, f56_16, f57_16, f58_16, f59_16, f60_16, f61_16, f62_16, f63_16, f64_16, f65_16, f66_16, f67_16, f68_16, f69_16])
        have f44_17 := fun hh => getq q44_17 hh
        have q45_17 : T17[45]? = some (.int .i64 Y1) := by subst hT; exact (by first | (simp only [↓Array.getElem?_setIfInBounds_ne, ne_eq, Nat.reduceEqDiff, not_false_eq_true, q45_16]; done) | simp [hs16, f1_16, f41_16, f42_16, f43_16, f44_16, f45_16, f46_16, f47_16, f48_16, f49_16, f52_16, f53_16, f54_16, f55_16, f56_16, f57_16, f58_16, f59_16, f60_16, f61_16, f62_16, f63_16, f64_16, f65_16, f66_16, f67_16, f68_16, f69_16])
        have f45_17 := fun hh => getq q45_17 hh
        have q46_17 : T17[46]? = some (.bool O1) := by subst hT; exact (by first | (simp only [↓Array.getElem?_setIfInBounds_ne, ne_eq, Nat.reduceEqDiff, not_false_eq_true, q46_16]; done) | simp [hs16, f1_16, f41_16, f42_16, f43_16, f44_16, f45_16, f46_16, f47_16, f48_16, f49_16, f52_16, f53_16, f54_16, f55_16, f56_16, f57_16, f58_16, f59_16, f60_16, f61_16, f62_16, f63_16, f64_16, f65_16, f66_16, f67_16, f68_16, f69_16])
        have f46_17 := fun hh => getq q46_17 hh
        have q47_17 : T17[47]? = some (.int .i64 X1) := by subst hT; exact (by first | (simp only [↓Array.getElem?_setIfInBounds_ne, ne_eq, Nat.reduceEqDiff, not_false_eq_true, q47_16]; done) | simp [hs16, f1_16, f41_16, f42_16, f43_16, f44_16, f45_16, f46_16, f47_16, f48_16, f49_16, f52_16, f53_16, f54_16, f55_16, f56_16, f57_16, f58_16, f59_16, f60_16, f61_16, f62_16, f63_16, f64_16, f65_16, f66_16, f67_16, f68_16, f69_16])
        have f47_17 := fun hh => getq q47_17 hh
        have q48_17 : T17[48]? = some (.int .i64 Y1) := by subst hT; exact (by first | (simp only [↓Array.getElem?_setIfInBounds_ne, ne_eq, Nat.reduceEqDiff, not_false_eq_true, q48_16]; done) | simp [hs16, f1_16, f41_16, f42_16, f43_16, f44_16, f45_16, f46_16, f47_16, f48_16, f49_16, f52_16, f53_16, f54_16, f55_16, f56_16, f57_16, f58_16, f59_16, f60_16, f61_16, f62_16, f63_16, f64_16, f65_16, f66_16, f67_16, f68_16, f69_16])
        have f48_17 := fun hh => getq q48_17 hh
        have q49_17 : T17[49]? = some (.bool O1) := by subst hT; exact (by first | (simp only [↓Array.getElem?_setIfInBounds_ne, ne_eq, Nat.reduceEqDiff, not_false_eq_true, q49_16]; done) | simp [hs16, f1_16, f41_16, f42_16, f43_16, f44_16, f45_16, f46_16, f47_16, f48_16, f49_16, f52_16, f53_16, f54_16, f55_16, f56_16, f57_16, f58_16, f59_16, f60_16, f61_16, f62_16, f63_16, f64_16, f65_16, f66_16, f67_16, f68_16, f69_16])
        have f49_17 := fun hh => getq q49_17 hh
        have q52_17 : T17[52]? = some (.int .i64 X2) := by subst hT; exact (by first | (simp only [↓Array.getElem?_setIfInBounds_ne, ne_eq, Nat.reduceEqDiff, not_false_eq_true, q52_16]; done) | simp [hs16, f1_16, f41_16, f42_16, f43_16, f44_16, f45_16, f46_16, f47_16, f48_16, f49_16, f52_16, f53_16, f54_16, f55_16, f56_16, f57_16, f58_16, f59_16, f60_16, f61_16, f62_16, f63_16, f64_16, f65_16, f66_16, f67_16, f68_16, f69_16])
        have f52_17 := fun hh => getq q52_17 hh
        have q53_17 : T17[53]? = some (.int .i64 Y2) := by subst hT; exact (by first | (simp only [↓Array.getElem?_setIfInBounds_ne, ne_eq, Nat.reduceEqDiff, not_false_eq_true, q53_16]; done) | simp [hs16, f1_16, f41_16, f42_16, f43_16, f44_16, f45_16, f46_16, f47_16, f48_16, f49_16, f52_16, f53_16, f54_16, f55_16, f56_16, f57_16, f58_16, f59_16, f60_16, f61_16, f62_16, f63_16, f64_16, f65_16, f66_16, f67_16, f68_16, f69_16])
        have f53_17 := fun hh => getq q53_17 hh
        have q54_17 : T17[54]? = some (.bool O2) := by subst hT; exact (by first | (simp only [↓Array.getElem?_setIfInBounds_ne, ne_eq, Nat.reduceEqDiff, not_false_eq_true, q54_16]; done) | simp [hs16, f1_16, f41_16, f42_16, f43_16, f44_16, f45_16, f46_16, f47_16, f48_16, f49_16, f52_16, f53_16, f54_16, f55_16, f56_16, f57_16, f58_16, f59_16, f60_16, f61_16, f62_16, f63_16, f64_16, f65_16, f66_16, f67_16, f68_16, f69_16])
        have f54_17 := fun hh => getq q54_17 hh
        have q55_17 : T17[55]? = some (.int .i64 X2) := by subst hT; exact (by first | (simp only [↓Array.getElem?_setIfInBounds_ne, ne_eq, Nat.reduceEqDiff, not_false_eq_true, q55_16]; done) | simp [hs16, f1_16, f41_16, f42_16, f43_16, f44_16, f45_16, f46_16, f47_16, f48_16, f49_16, f52_16, f53_16, f54_16, f55_16, f56_16, f57_16, f58_16, f59_16, f60_16, f61_16, f62_16, f63_16, f64_16, f65_16, f66_16, f67_16, f68_16, f69_16])
        have f55_17 := fun hh => getq q55_17 hh
        have q56_17 : T17[56]? = some (.int .i64 Y2) := by subst hT; exact (by first | (simp only [↓Array.getElem?_setIfInBounds_ne, ne_eq, Nat.reduceEqDiff, not_false_eq_true, q56_16]; done) | simp [hs16, f1_16, f41_16, f42_16, f43_16, f44_16, f45_16, f46_16, f47_16, f48_16, f49_16, f52_16, f53_16, f54_16, f55_16, f56_16, f57_16, f58_16, f59_16, f60_16, f61_16, f62_16, f63_16, f64_16, f65_16, f66_16, f67_16, f68_16, f69_16])
        have f56_17 := fun hh => getq q56_17 hh
        have q57_17 : T17[57]? = some (.bool O2) := by subst hT; exact (by first | (simp only [↓Array.getElem?_setIfInBounds_ne, ne_eq, Nat.reduceEqDiff, not_false_eq_true, q57_16]; done) | simp [hs16, f1_16, f41_16, f42_16, f43_16, f44_16, f45_16, f46_16, f47_16, f48_16, f49_16, f52_16, f53_16, f54_16, f55_16, f56_16, f57_16, f58_16, f59_16, f60_16, f61_16, f62_16, f63_16, f64_16, f65_16, f66_16, f67_16, f68_16, f69_16])
        have f57_17 := fun hh => getq q57_17 hh
        have q58_17 : T17[58]? = some (.int .i64 la) := by subst hT; exact (by first | (simp only [↓Array.getElem?_setIfInBounds_ne, ne_eq, Nat.reduceEqDiff, not_false_eq_true, q58_16]; done) | simp [hs16, f1_16, f41_16, f42_16, f43_16, f44_16, f45_16, f46_16, f47_16, f48_16, f49_16, f52_16, f53_16, f54_16, f55_16, f56_16, f57_16, f58_16, f59_16, f60_16, f61_16, f62_16, f63_16, f64_16, f65_16, f66_16, f67_16, f68_16, f69_16])
        have f58_17 := fun hh => getq q58_17 hh
        have q59_17 : T17[59]? = some (.int .i64 pa) := by subst hT; exact (by first | (simp only [↓Array.getElem?_setIfInBounds_ne, ne_eq, Nat.reduceEqDiff, not_false_eq_true, q59_16]; done) | simp [hs16, f1_16, f41_16, f42_16, f43_16, f44_16, f45_16, f46_16, f47_16, f48_16, f49_16, f52_16, f53_16, f54_16, f55_16, f56_16, f57_16, f58_16, f59_16, f60_16, f61_16, f62_16, f63_16, f64_16, f65_16, f66_16, f67_16, f68_16, f69_16])
        have f59_17 := fun hh => getq q59_17 hh
        have q60_17 : T17[60]? = some (.int .i64 fa) := by subst hT; exact (by first | (simp only [↓Array.getElem?_setIfInBounds_ne, ne_eq, Nat.reduceEqDiff, not_false_eq_true, q60_16]; done) | simp [hs16, f1_16, f41_16, f42_16, f43_16, f44_16, f45_16, f46_16, f47_16, f48_16, f49_16, f52_16, f53_16, f54_16, f55_16, f56_16, f57_16, f58_16, f59_16, f60_16, f61_16, f62_16, f63_16, f64_16, f65_16, f66_16, f67_16, f68_16, f69_16])
        have f60_17 := fun hh => getq q60_17 hh
        have q61_17 : T17[61]? = some (.int .i64 X3) := by subst hT; exact (by first | (simp only [↓Array.getElem?_setIfInBounds_ne, ne_eq, Nat.reduceEqDiff, not_false_eq_true, q61_16]; done) | simp [hs16, f1_16, f41_16, f42_16, f43_16, f44_16, f45_16, f46_16, f47_16, f48_16, f49_16, f52_16, f53_16, f54_16, f55_16, f56_16, f57_16, f58_16, f59_16, f60_16, f61_16, f62_16, f63_16, f64_16, f65_16, f66_16, f67_16, f68_16, f69_16])
        have f61_17 := fun hh => getq q61_17 hh
        have q62_17 : T17[62]? = some (.int .i64 Y3) := by subst hT; exact (by first | (simp only [↓Array.getElem?_setIfInBounds_ne, ne_eq, Nat.reduceEqDiff, not_false_eq_true, q62_16]; done) | simp [hs16, f1_16, f41_16, f42_16, f43_16, f44_16, f45_16, f46_16, f47_16, f48_16, f49_16, f52_16, f53_16, f54_16, f55_16, f56_16, f57_16, f58_16, f59_16, f60_16, f61_16, f62_16, f63_16, f64_16, f65_16, f66_16, f67_16, f68_16, f69_16])
        have f62_17 := fun hh => getq q62_17 hh
        have q63_17 : T17[63]? = some (.bool O3) := by subst hT; exact (by first | (simp only [↓Array.getElem?_setIfInBounds_ne, ne_eq, Nat.reduceEqDiff, not_false_eq_true, q63_16]; done) | simp [hs16, f1_16, f41_16, f42_16, f43_16, f44_16, f45_16, f46_16, f47_16, f48_16, f49_16, f52_16, f53_16, f54_16, f55_16, f56_16, f57_16, f58_16, f59_16, f60_16, f61_16, f62_16, f63_16, f64_16, f65_16, f66_16, f67_16, f68_16, f69_16])
        have f63_17 := fun hh => getq q63_17 hh
        have q64_17 : T17[64]? = some (.int .i64 X3) := by subst hT; exact (by first | (simp only [↓Array.getElem?_setIfInBounds_ne, ne_eq, Nat.reduceEqDiff, not_false_eq_true, q64_16]; done) | simp [hs16, f1_16, f41_16, f42_16, f43_16, f44_16, f45_16, f46_16, f47_16, f48_16, f49_16, f52_16, f53_16, f54_16, f55_16, f56_16, f57_16, f58_16, f59_16, f60_16, f61_16, f62_16, f63_16, f64_16, f65_16, f66_16, f67_16, f68_16, f69_16])
        have f64_17 := fun hh => getq q64_17 hh
        have q65_17 : T17[65]? = some (.int .i64 Y3) := by subst hT; exact (by first | (simp only [↓Array.getElem?_setIfInBounds_ne, ne_eq, Nat.reduceEqDiff, not_false_eq_true, q65_16]; done) | simp [hs16, f1_16, f41_16, f42_16, f43_16, f44_16, f45_16, f46_16, f47_16, f48_16, f49_16, f52_16, f53_16, f54_16, f55_16, f56_16, f57_16, f58_16, f59_16, f60_16, f61_16, f62_16, f63_16, f64_16, f65_16, f66_16, f67_16, f68_16, f69_16])
        have f65_17 := fun hh => getq q65_17 hh
        have q66_17 : T17[66]? = some (.bool O3) := by subst hT; exact (by first | (simp only [↓Array.getElem?_setIfInBounds_ne, ne_eq, Nat.reduceEqDiff, not_false_eq_true, q66_16]; done) | simp [hs16, f1_16, f41_16, f42_16, f43_16, f44_16, f45_16, f46_16, f47_16, f48_16, f49_16, f52_16, f53_16, f54_16, f55_16, f56_16, f57_16, f58_16, f59_16, f60_16, f61_16, f62_16, f63_16, f64_16, f65_16, f66_16, f67_16, f68_16, f69_16])
        have f66_17 := fun hh => getq q66_17 hh
        have q67_17 : T17[67]? = some (.int .i64 lb) := by subst hT; exact (by first | (simp only [↓Array.getElem?_setIfInBounds_ne, ne_eq, Nat.reduceEqDiff, not_false_eq_true, q67_16]; done) | simp [hs16, f1_16, f41_16, f42_16, f43_16, f44_16, f45_16, f46_16, f47_16, f48_16, f49_16, f52_16, f53_16, f54_16, f55_16, f56_16, f57_16, f58_16, f59_16, f60_16, f61_16, f62_16, f63_16, f64_16, f65_16, f66_16, f67_16, f68_16, f69_16])
        have f67_17 := fun hh => getq q67_17 hh
        have q68_17 : T17[68]? = some (.int .i64 pb) := by subst hT; exact (by first | (simp only [↓Array.getElem?_setIfInBounds_ne, ne_eq, Nat.reduceEqDiff, not_false_eq_true, q68_16]; done) | simp [hs16, f1_16, f41_16, f42_16, f43_16, f44_16, f45_16, f46_16, f47_16, f48_16, f49_16, f52_16, f53_16, f54_16, f55_16, f56_16, f57_16, f58_16, f59_16, f60_16, f61_16, f62_16, f63_16, f64_16, f65_16, f66_16, f67_16, f68_16, f69_16])
        have f68_17 := fun hh => getq q68_17 hh
        have q69_17 : T17[69]? = some (.int .i64 mu) := by subst hT; exact (by first | (simp only [↓Array.getElem?_setIfInBounds_ne, ne_eq, Nat.reduceEqDiff, not_false_eq_true, q69_16]; done) | simp [hs16, f1_16, f41_16, f42_16, f43_16, f44_16, f45_16, f46_16, f47_16, f48_16, f49_16, f52_16, f53_16, f54_16, f55_16, f56_16, f57_16, f58_16, f59_16, f60_16, f61_16, f62_16, f63_16, f64_16, f65_16, f66_16, f67_16, f68_16, f69_16])
        have f69_17 := fun hh => getq q69_17 hh
        have q70_17 : T17[70]? = some (.int .i64 X4) := by subst hT; exact (by first | (simp only [↓Array.getElem?_setIfInBounds_ne, ne_eq, Nat.reduceEqDiff, not_false_eq_true]; done) | simp [hs16, f1_16, f41_16, f42_16, f43_16, f44_16, f45_16, f46_16, f47_16, f48_16, f49_16, f52_16, f53_16, f54_16, f55_16, f56_16, f57_16, f58_16, f59_16, f60_16, f61_16, f62_16, f63_16, f64_16, f65_16, f66_16, f67_16, f68_16, f69_16])
        have f70_17 := fun hh => getq q70_17 hh
        have q71_17 : T17[71]? = some (.int .i64 Y4) := by subst hT; exact (by first | (simp only [↓Array.getElem?_setIfInBounds_ne, ne_eq, Nat.reduceEqDiff, not_false_eq_true]; done) | simp [hs16, f1_16, f41_16, f42_16, f43_16, f44_16, f45_16, f46_16, f47_16, f48_16, f49_16, f52_16, f53_16, f54_16, f55_16, f56_16, f57_16, f58_16, f59_16, f60_16, f61_16, f62_16, f63_16, f64_16, f65_16, f66_16, f67_16, f68_16, f69_16])
        have f71_17 := fun hh => getq q71_17 hh
        have q72_17 : T17[72]? = some (.bool O4) := by subst hT; exact (by first | (simp only [↓Array.getElem?_setIfInBounds_ne, ne_eq, Nat.reduceEqDiff, not_false_eq_true]; done) | simp [hs16, f1_16, f41_16, f42_16, f43_16, f44_16, f45_16, f46_16, f47_16, f48_16, f49_16, f52_16, f53_16, f54_16, f55_16, f56_16, f57_16, f58_16, f59_16, f60_16, f61_16, f62_16, f63_16, f64_16, f65_16, f66_16, f67_16, f68_16, f69_16])
        have f72_17 := fun hh => getq q72_17 hh
        have q73_17 : T17[73]? = some (.int .i64 X4) := by subst hT; exact (by first | (simp only [↓Array.getElem?_setIfInBounds_ne, ne_eq, Nat.reduceEqDiff, not_false_eq_true]; done) | simp [hs16, f1_16, f41_16, f42_16, f43_16, f44_16, f45_16, f46_16, f47_16, f48_16, f49_16, f52_16, f53_16, f54_16, f55_16, f56_16, f57_16, f58_16, f59_16, f60_16, f61_16, f62_16, f63_16, f64_16, f65_16, f66_16, f67_16, f68_16, f69_16])
        have f73_17 := fun hh => getq q73_17 hh
        have q74_17 : T17[74]? = some (.int .i64 Y4) := by subst hT; exact (by first | (simp only [↓Array.getElem?_setIfInBounds_ne, ne_eq, Nat.reduceEqDiff, not_false_eq_true]; done) | simp [hs16, f1_16, f41_16, f42_16, f43_16, f44_16, f45_16, f46_16, f47_16, f48_16, f49_16, f52_16, f53_16, f54_16, f55_16, f56_16, f57_16, f58_16, f59_16, f60_16, f61_16, f62_16, f63_16, f64_16, f65_16, f66_16, f67_16, f68_16, f69_16])
        have f74_17 := fun hh => getq q74_17 hh
        have q75_17 : T17[75]? = some (.bool O4) := by subst hT; exact (by first | (simp only [↓Array.getElem?_setIfInBounds_ne, ne_eq, Nat.reduceEqDiff, not_false_eq_true]; done) | simp [hs16, f1_16, f41_16, f42_16, f43_16, f44_16, f45_16, f46_16, f47_16, f48_16, f49_16, f52_16, f53_16, f54_16, f55_16, f56_16, f57_16, f58_16, f59_16, f60_16, f61_16, f62_16, f63_16, f64_16, f65_16, f66_16, f67_16, f68_16, f69_16])
        have f75_17 := fun hh => getq q75_17 hh
        clear hT f69_16 f68_16 f67_16 f66_16 f65_16 f64_16 f63_16 f62_16 f61_16 f60_16 f59_16 f58_16 f57_16 f56_16 f55_16 f54_16 f53_16 f52_16 f49_16 f48_16 f47_16 f46_16 f45_16 f44_16 f43_16 f42_16 f41_16 f1_16 hs16 q1_16 q41_16 q42_16 q43_16 q44_16 q45_16 q46_16 q47_16 q48_16 q49_16 q52_16 q53_16 q54_16 q55_16 q56_16 q57_16 q58_16 q59_16 q60_16 q61_16 q62_16 q63_16 q64_16 q65_16 q66_16 q67_16 q68_16 q69_16
        go_wp2_with fail
        refine (DrawSunSlope_any v1 _ (H1.out.later (bl_trans (u := wp) (by repeat (first | exact HB34.out | exact Below.refl _ _ | refine bl_drewN ?_ _)) HW.out))).mono ?_
        rintro e w35 ⟨sa, ca, rfl, hb35⟩
        have HB35 := Lib.hid (show Below wp.heap.size wp w35 from bl_trans hb35 (by repeat (first | exact HB34.out | exact Below.refl _ _ | refine bl_drewN ?_ _)))
        clear hb35
        clear P1 P2 H1
        obtain ⟨X5, Y5, O5, P1, P2, F5⟩ := slope_pack sa ca
        go_upto_region 41 with fail
        refine reframe fun T18 hT => ?_
        have hs18 : T18.size = 603 := by subst hT; simp [hs17]
        have q41_18 : T18[41]? = some (.int .i64 ta) := by subst hT; exact (by first | (simp only [↓Array.getElem?_setIfInBounds_ne, ne_eq, Nat.reduceEqDiff, not_false_eq_true, q41_17]; done) | simp [hs17, f1_17, f41_17, f42_17, f43_17, f44_17, f45_17, f46_17, f47_17, f48_17, f49_17, f52_17, f53_17, f54_17, f55_17, f56_17, f57_17, f58_17, f59_17, f60_17, f61_17, f62_17, f63_17, f64_17, f65_17, f66_17, f67_17, f68_17, f69_17, f70_17, f71_17, f72_17, f73_17, f74_17, f75_17])
        have f41_18 := fun hh => getq q41_18 hh
        have q42_18 : T18[42]? = some (.int .i64 ri) := by subst hT; exact (by first | (simp only [↓Array.getElem?_setIfInBounds_ne, ne_eq, Nat.reduceEqDiff, not_false_eq_true, q42_17]; done) | simp [hs17, f1_17, f41_17, f42_17, f43_17, f44_17, f45_17, f46_17, f47_17, f48_17, f49_17, f52_17, f53_17, f54_17, f55_17, f56_17, f57_17, f58_17, f59_17, f60_17, f61_17, f62_17, f63_17, f64_17, f65_17, f66_17, f67_17, f68_17, f69_17, f70_17, f71_17, f72_17, f73_17, f74_17, f75_17])
        have f42_18 := fun hh => getq q42_18 hh
        have q43_18 : T18[43]? = some (.int .i64 ru) := by subst hT; exact (by first | (simp only [↓Array.getElem?_setIfInBounds_ne, ne_eq, Nat.reduceEqDiff, not_false_eq_true, q43_17]; done) | simp [hs17, f1_17, f41_17, f42_17, f43_17, f44_17, f45_17, f46_17, f47_17, f48_17, f49_17, f52_17, f53_17, f54_17, f55_17, f56_17, f57_17, f58_17, f59_17, f60_17, f61_17, f62_17, f63_17, f64_17, f65_17, f66_17, f67_17, f68_17, f69_17, f70_17, f71_17, f72_17, f73_17, f74_17, f75_17])
        have f43_18 := fun hh => getq q43_18 hh
        have q44_18 : T18[44]? = some (.int .i64 X1) := by subst hT; exact (by first | (simp only [↓Array.getElem?_setIfInBounds_ne, ne_eq, Nat.reduceEqDiff, not_false_eq_true, q44_17]; done) | simp [hs17, f1_17, f41_17, f42_17, f43_17, f44_17, f45_17, f46_17, f47_17, f48_17, f49_17, f52_17, f53_17, f54_17, f55_17, f56_17, f57_17, f58_17, f59_17, f60_17, f61_17, f62_17, f63_17, f64_17, f65_17, f66_17, f67_17, f68_17, f69_17, f70_17, f71_17, f72_17, f73_17, f74_17, f75_17])
        have f44_18 := fun hh => getq q44_18 hh
        have q45_18 : T18[45]? = some (.int .i64 Y1) := by subst hT; exact (by first | (simp only [↓Array.getElem?_setIfInBounds_ne, ne_eq, Nat.reduceEqDiff, not_false_eq_true, q45_17]; done) | simp [hs17, f1_17, f41_17, f42_17, f43_17, f44_17, f45_17, f46_17, f47_17, f48_17, f49_17, f52_17, f53_17, f54_17, f55_17, f56_17, f57_17, f58_17, f59_17, f60_17, f61_17, f62_17, f63_17, f64_17, f65_17, f66_17, f67_17, f68_17, f69_17, f70_17, f71_17, f72_17, f73_17, f74_17, f75_17])
        have f45_18 := fun hh => getq q45_18 hh
        have q46_18 : T18[46]? = some (.bool O1) := by subst hT; exact (by first | (simp only [↓Array.getElem?_setIfInBounds_ne, ne_eq, Nat.reduceEqDiff, not_false_eq_true, q46_17]; done) | simp [hs17, f1_17, f41_17, f42_17, f43_17, f44_17, f45_17, f46_17, f47_17, f48_17, f49_17, f52_17, f53_17, f54_17, f55_17, f56_17, f57_17, f58_17, f59_17, f60_17, f61_17, f62_17, f63_17, f64_17, f65_17, f66_17, f67_17, f68_17, f69_17, f70_17, f71_17, f72_17, f73_17, f74_17, f75_17])
        have f46_18 := fun hh => getq q46_18 hh
        have q47_18 : T18[47]? = some (.int .i64 X1) := by subst hT; exact (by first | (simp only [↓Array.getElem?_setIfInBounds_ne, ne_eq, Nat.reduceEqDiff, not_false_eq_true, q47_17]; done) | simp [hs17, f1_17, f41_17, f42_17, f43_17, f44_17, f45_17, f46_17, f47_17, f48_17, f49_17, f52_17, f53_17, f54_17, f55_17, f56_17, f57_17, f58_17, f59_17, f60_17, f61_17, f62_17, f63_17, f64_17, f65_17, f66_17, f67_17, f68_17, f69_17, f70_17, f71_17, f72_17, f73_17, f74_17, f75_17])
        have f47_18 := fun hh => getq q47_18 hh
        have q48_18 : T18[48]? = some (.int .i64 Y1) := by subst hT; exact (by first | (simp only [↓Array.getElem?_setIfInBounds_ne, ne_eq, Nat.reduceEqDiff, not_false_eq_true, q48_17]; done) | simp [hs17, f1_17, f41_17, f42_17, f43_17, f44_17, f45_17, f46_17, f47_17, f48_17, f49_17, f52_17, f53_17, f54_17, f55_17, f56_17, f57_17, f58_17, f59_17, f60_17, f61_17, f62_17, f63_17, f64_17, f65_17, f66_17, f67_17, f68_17, f69_17, f70_17, f71_17, f72_17, f73_17, f74_17, f75_17])
        have f48_18 := fun hh => getq q48_18 hh
        have q49_18 : T18[49]? = some (.bool O1) := by subst hT; exact (by first | (simp only [↓Array.getElem?_setIfInBounds_ne, ne_eq, Nat.reduceEqDiff, not_false_eq_true, q49_17]; done) | simp [hs17, f1_17, f41_17, f42_17, f43_17, f44_17, f45_17, f46_17, f47_17, f48_17, f49_17, f52_17, f53_17, f54_17, f55_17, f56_17, f57_17, f58_17, f59_17, f60_17, f61_17, f62_17, f63_17, f64_17, f65_17, f66_17, f67_17, f68_17, f69_17, f70_17, f71_17, f72_17, f73_17, f74_17, f75_17])
        have f49_18 := fun hh => getq q49_18 hh
        have q52_18 : T18[52]? = some (.int .i64 X2) := by subst hT; exact (by first | (simp only [↓Array.getElem?_setIfInBounds_ne, ne_eq, Nat.reduceEqDiff, not_false_eq_true, q52_17]; done) | simp [hs17, f1_17, f41_17, f42_17, f43_17, f44_17, f45_17, f46_17, f47_17, f48_17, f49_17, f52_17, f53_17, f54_17, f55_17, f56_17, f57_17, f58_17, f59_17, f60_17, f61_17, f62_17, f63_17, f64_17, f65_17, f66_17, f67_17, f68_17, f69_17, f70_17, f71_17, f72_17, f73_17, f74_17, f75_17])
        have f52_18 := fun hh => getq q52_18 hh
        have q53_18 : T18[53]? = some (.int .i64 Y2) := by subst hT; exact (by first | (simp only [↓Array.getElem?_setIfInBounds_ne, ne_eq, Nat.reduceEqDiff, not_false_eq_true, q53_17]; done) | simp [hs17, f1_17, f41_17, f42_17, f43_17, f44_17, f45_17, f46_17, f47_17, f48_17, f49_17, f52_17, f53_17, f54_17, f55_17, f56_17, f57_17, f58_17, f59_17, f60_17, f61_17, f62_17, f63_17, f64_17, f65_17, f66_17, f67_17, f68_17, f69_17, f70_17, f71_17, f72_17, f73_17, f74_17, f75_17])
        have f53_18 := fun hh => getq q53_18 hh
        have q54_18 : T18[54]? = some (.bool O2) := by subst hT; exact (by first | (simp only [↓Array.getElem?_setIfInBounds_ne, ne_eq, Nat.reduceEqDiff, not_false_eq_true, q54_17]; done) | simp [hs17, f1_17, f41_17, f42_17, f43_17, f44_17, f45_17, f46_17, f47_17, f48_17, f49_17, f52_17, f53_17, f54_17, f55_17, f56_17, f57_17, f58_17, f59_17, f60_17, f61_17, f62_17, f63_17, f64_17, f65_17, f66_17, f67_17, f68_17, f69_17, f70_17, f71_17, f72_17, f73_17, f74_17, f75_17])
        have f54_18 := fun hh => getq q54_18 hh
        have q55_18 : T18[55]? = some (.int .i64 X2) := by subst hT; exact (by first | (simp only [↓Array.getElem?_setIfInBounds_ne, ne_eq, Nat.reduceEqDiff, not_false_eq_true, q55_17]; done) | simp [hs17, f1_17, f41_17, f42_17, f43_17, f44_17, f45_17, f46_17, f47_17, f48_17, f49_17, f52_17, f53_17, f54_17, f55_17, f56_17, f57_17, f58_17, f59_17, f60_17, f61_17, f62_17, f63_17, f64_17, f65_17, f66_17, f67_17, f68_17, f69_17, f70_17, f71_17, f72_17, f73_17, f74_17, f75_17])
        have f55_18 := fun hh => getq q55_18 hh
        have q56_18 : T18[56]? = some (.int .i64 Y2) := by subst hT; exact (by first | (simp only [↓Array.getElem?_setIfInBounds_ne, ne_eq, Nat.reduceEqDiff, not_false_eq_true, q56_17]; done) | simp [hs17, f1_17, f41_17, f42_17, f43_17, f44_17, f45_17, f46_17, f47_17, f48_17, f49_17, f52_17, f53_17, f54_17, f55_17, f56_17, f57_17, f58_17, f59_17, f60_17, f61_17, f62_17, f63_17, f64_17, f65_17, f66_17, f67_17, f68_17, f69_17, f70_17, f71_17, f72_17, f73_17, f74_17, f75_17])
        have f56_18 := fun hh => getq q56_18 hh
        have q57_18 : T18[57]? = some (.bool O2) := by subst hT; exact (by first | (simp only [↓Array.getElem?_setIfInBounds_ne, ne_eq, Nat.reduceEqDiff, not_false_eq_true, q57_17]; done) | simp [hs17, f1_17, f41_17, f42_17, f43_17, f44_17, f45_17, f46_17, f47_17, f48_17, f49_17, f52_17, f53_17, f54_17, f55_17, f56_17, f57_17, f58_17, f59_17, f60_17, f61_17, f62_17, f63_17, f64_17, f65_17, f66_17, f67_17, f68_17, f69_17, f70_17, f71_17, f72_17, f73_17, f74_17, f75_17])
        have f57_18 := fun hh => getq q57_18 hh
        have q58_18 : T18[58]? = some (.int .i64 la) := by subst hT; exact (by first | (simp only [↓Array.getElem?_setIfInBounds_ne, ne_eq, Nat.reduceEqDiff, not_false_eq_true, q58_17]; done) | simp [hs17, f1_17, f41_17, f42_17, f43_17, f44_17, f45_17, f46_17, f47_17, f48_17, f49_17, f52_17, f53_17, f54_17, f55_17, f56_17, f57_17, f58_17, f59_17, f60_17, f61_17, f62_17, f63_17, f64_17, f65_17, f66_17, f67_17, f68_17, f69_17, f70_17, f71_17, f72_17, f73_17, f74_17, f75_17])
        have f58_18 := fun hh => getq q58_18 hh
        have q59_18 : T18[59]? = some (.int .i64 pa) := by subst hT; exact (by first | (simp only [↓Array.getElem?_setIfInBounds_ne, ne_eq, Nat.reduceEqDiff, not_false_eq_true, q59_17]; done) | simp [hs17, f1_17, f41_17, f42_17, f43_17, f44_17, f45_17, f46_17, f47_17, f48_17, f49_17, f52_17, f53_17, f54_17, f55_17, f56_17, f57_17, f58_17, f59_17, f60_17, f61_17, f62_17, f63_17, f64_17, f65_17, f66_17, f67_17, f68_17, f69_17, f70_17, f71_17, f72_17, f73_17, f74_17, f75_17])
        have f59_18 := fun hh => getq q59_18 hh
        have q60_18 : T18[60]? = some (.int .i64 fa) := by subst hT; exact (by first | (simp only [↓Array.getElem?_setIfInBounds_ne, ne_eq, Nat.reduceEqDiff, not_false_eq_true, q60_17]; done) | simp [hs17, f1_17, f41_17, f42_17, f43_17, f44_17, f45_17, f46_17, f47_17, f48_17, f49_17, f52_17, f53_17, f54_17, f55_17, f56_17, f57_17, f58_17, f59_17, f60_17, f61_17, f62_17, f63_17, f64_17, f65_17, f66_17, f67_17, f68_17, f69_17, f70_17, f71_17, f72_17, f73_17, f74_17, f75_17])
        have f60_18 := fun hh => getq q60_18 hh
        have q61_18 : T18[61]? = some (.int .i64 X3) := by subst hT; exact (by first | (simp only [↓Array.getElem?_setIfInBounds_ne, ne_eq, Nat.reduceEqDiff, not_false_eq_true, q61_17]; done) | simp [hs17, f1_17, f41_17, f42_17, f43_17, f44_17, f45_17, f46_17, f47_17, f48_17, f49_17, f52_17, f53_17, f54_17, f55_17, f56_17, f57_17, f58_17, f59_17, f60_17, f61_17, f62_17, f63_17, f64_17, f65_17, f66_17, f67_17, f68_17, f69_17, f70_17, f71_17, f72_17, f73_17, f74_17, f75_17])
        have f61_18 := fun hh => getq q61_18 hh
        have q62_18 : T18[62]? = some (.int .i64 Y3) := by subst hT; exact (by first | (simp only [↓Array.getElem?_setIfInBounds_ne, ne_eq, Nat.reduceEqDiff, not_false_eq_true, q62_17]; done) | simp [hs17, f1_17, f41_17, f42_17, f43_17, f44_17, f45_17, f46_17, f47_17, f48_17, f49_17, f52_17, f53_17, f54_17, f55_17, f56_17, f57_17, f58_17, f59_17, f60_17, f61_17, f62_17, f63_17, f64_17, f65_17, f66_17, f67_17, f68_17, f69_17, f70_17, f71_17, f72_17, f73_17, f74_17, f75_17])
        have f62_18 := fun hh => getq q62_18 hh
        have q63_18 : T18[63]? = some (.bool O3) := by subst hT; exact (by first | (simp only [↓Array.getElem?_setIfInBounds_ne, ne_eq, Nat.reduceEqDiff, not_false_eq_true, q63_17]; done) | simp [hs17, f1_17, f41_17, f42_17, f43_17, f44_17, f45_17, f46_17, f47_17, f48_17, f49_17, f52_17, f53_17, f54_17, f55_17, f56_17, f57_17, f58_17, f59_17, f60_17, f61_17, f62_17, f63_17, f64_17, f65_17, f66_17, f67_17, f68_17, f69_17, f70_17, f71_17, f72_17, f73_17, f74_17, f75_17])
        have f63_18 := fun hh => getq q63_18 hh
        have q64_18 : T18[64]? = some (.int .i64 X3) := by subst hT; exact (by first | (simp only [↓Array.getElem?_setIfInBounds_ne, ne_eq, Nat.reduceEqDiff, not_false_eq_true, q64_17]; done) | simp [hs17, f1_17, f41_17, f42_17, f43_17, f44_17, f45_17, f46_17, f47_17, f48_17, f49_17, f52_17, f53_17, f54_17, f55_17, f56_17, f57_17, f58_17, f59_17, f60_17, f61_17, f62_17, f63_17, f64_17, f65_17, f66_17, f67_17, f68_17, f69_17, f70_17, f71_17, f72_17, f73_17, f74_17, f75_17])
        have f64_18 := fun hh => getq q64_18 hh
        have q65_18 : T18[65]? = some (.int .i64 Y3) := by subst hT; exact (by first | (simp only [↓Array.getElem?_setIfInBounds_ne, ne_eq, Nat.reduceEqDiff, not_false_eq_true, q65_17]; done) | simp [hs17, f1_17, f41_17, f42_17, f43_17, f44_17, f45_17, f46_17, f47_17, f48_17, f49_17, f52_17, f53_17, f54_17, f55_17, f56_17, f57_17, f58_17, f59_17, f60_17, f61_17, f62_17, f63_17, f64_17, f65_17, f66_17, f67_17, f68_17, f69_17, f70_17, f71_17, f72_17, f73_17, f74_17, f75_17])
        have f65_18 := fun hh => getq q65_18 hh
        have q66_18 : T18[66]? = some (.bool O3) := by subst hT; exact (by first | (simp only [↓Array.getElem?_setIfInBounds_ne, ne_eq, Nat.reduceEqDiff, not_false_eq_true, q66_17]; done) | simp [hs17, f1_17, f41_17, f42_17, f43_17, f44_17, f45_17, f46_17, f47_17, f48_17, f49_17, f52_17, f53_17, f54_17, f55_17, f56_17, f57_17, f58_17, f59_17, f60_17, f61_17, f62_17, f63_17, f64_17, f65_17, f66_17, f67_17, f68_17, f69_17, f70_17, f71_17, f72_17, f73_17, f74_17, f75_17])
        have f66_18 := fun hh => getq q66_18 hh
        have q67_18 : T18[67]? = some (.int .i64 lb) := by subst hT; exact (by first | (simp only [↓Array.getElem?_setIfInBounds_ne, ne_eq, Nat.reduceEqDiff, not_false_eq_true, q67_17]; done) | simp [hs17, f1_17, f41_17, f42_17, f43_17, f44_17, f45_17, f46_17, f47_17, f48_17, f49_17, f52_17, f53_17, f54_17, f55_17, f56_17, f57_17, f58_17, f59_17, f60_17, f61_17, f62_17, f63_17, f64_17, f65_17, f66_17, f67_17, f68_17, f69_17, f70_17, f71_17, f72_17, f73_17, f74_17, f75_17])
        have f67_18 := fun hh => getq q67_18 hh
        have q68_18 : T18[68]? = some (.int .i64 pb) := by subst hT; exact (by first | (simp only [↓Array.getElem?_setIfInBounds_ne, ne_eq, Nat.reduceEqDiff, not_false_eq_true, q68_17]; done) | simp [hs17, f1_17, f41_17, f42_17, f43_17, f44_17, f45_17, f46_17, f47_17, f48_17, f49_17, f52_17, f53_17, f54_17, f55_17, f56_17, f57_17, f58_17, f59_17, f60_17, f61_17, f62_17, f63_17, f64_17, f65_17, f66_17, f67_17, f68_17, f69_17, f70_17, f71_17, f72_17, f73_17, f74_17, f75_17])
        have f68_18 := fun hh => getq q68_18 hh
        have q69_18 : T18[69]? = some (.int .i64 mu) := by subst hT; exact (by first | (simp only [↓Array.getElem?_setIfInBounds_ne, ne_eq, Nat.reduceEqDiff, not_false_eq_true, q69_17]; done) | simp [hs17, f1_17, f41_17, f42_17, f43_17, f44_17, f45_17, f46_17, f47_17, f48_17, f49_17, f52_17, f53_17, f54_17, f55_17, f56_17, f57_17, f58_17, f59_17, f60_17, f61_17, f62_17, f63_17, f64_17, f65_17, f66_17, f67_17, f68_17, f69_17, f70_17, f71_17, f72_17, f73_17, f74_17, f75_17])
        have f69_18 := fun hh => getq q69_18 hh
        have q70_18 : T18[70]? = some (.int .i64 X4) := by subst hT; exact (by first | (simp only [↓Array.getElem?_setIfInBounds_ne, ne_eq, Nat.reduceEqDiff, not_false_eq_true, q70_17]; done) | simp [hs17, f1_17, f41_17, f42_17, f43_17, f44_17, f45_17, f46_17, f47_17, f48_17, f49_17, f52_17, f53_17, f54_17, f55_17, f56_17, f57_17, f58_17, f59_17, f60_17, f61_17, f62_17, f63_17, f64_17, f65_17, f66_17, f67_17, f68_17, f69_17, f70_17, f71_17, f72_17, f73_17, f74_17, f75_17])
        have f70_18 := fun hh => getq q70_18 hh
        have q71_18 : T18[71]? = some (.int .i64 Y4) := by subst hT; exact (by first | (simp only [↓Array.getElem?_setIfInBounds_ne, ne_eq, Nat.reduceEqDiff, not_false_eq_true, q71_17]; done) | simp [hs17, f1_17, f41_17, f42_17, f43_17, f44_17, f45_17, f46_17, f47_17, f48_17, f49_17, f52_17, f53_17, f54_17, f55_17, f56_17, f57_17, f58_17, f59_17, f60_17, f61_17, f62_17, f63_17, f64_17, f65_17, f66_17, f67_17, f68_17, f69_17, f70_17, f71_17, f72_17, f73_17, f74_17, f75_17])
        have f71_18 := fun hh => getq q71_18 hh
        have q72_18 : T18[72]? = some (.bool O4) := by subst hT; exact (by first | (simp only [↓Array.getElem?_setIfInBounds_ne, ne_eq, Nat.reduceEqDiff, not_false_eq_true, q72_17]; done) | simp [hs17, f1_17, f41_17, f42_17, f43_17, f44_17, f45_17, f46_17, f47_17, f48_17, f49_17, f52_17, f53_17, f54_17, f55_17, f56_17, f57_17, f58_17, f59_17, f60_17, f61_17, f62_17, f63_17, f64_17, f65_17, f66_17, f67_17, f68_17, f69_17, f70_17, f71_17, f72_17, f73_17, f74_17, f75_17])
        have f72_18 := fun hh => getq q72_18 hh
        have q73_18 : T18[73]? = some (.int .i64 X4) := by subst hT; exact (by first | (simp only [↓Array.getElem?_setIfInBounds_ne, ne_eq, Nat.reduceEqDiff, not_false_eq_true, q73_17]; done) | simp [hs17, f1_17, f41_17, f42_17, f43_17, f44_17, f45_17, f46_17, f47_17, f48_17, f49_17, f52_17, f53_17, f54_17, f55_17, f56_17, f57_17, f58_17, f59_17, f60_17, f61_17, f62_17, f63_17, f64_17, f65_17, f66_17, f67_17, f68_17, f69_17, f70_17, f71_17, f72_17, f73_17, f74_17, f75_17])
        have f73_18 := fun hh => getq q73_18 hh
        have q74_18 : T18[74]? = some (.int .i64 Y4) := by subst hT; exact (by first | (simp only [↓Array.getElem?_setIfInBounds_ne, ne_eq, Nat.reduceEqDiff, not_false_eq_true, q74_17]; done) | simp [hs17, f1_17, f41_17, f42_17, f43_17, f44_17, f45_17, f46_17, f47_17, f48_17, f49_17, f52_17, f53_17, f54_17, f55_17, f56_17, f57_17, f58_17, f59_17, f60_17, f61_17, f62_17, f63_17, f64_17, f65_17, f66_17, f67_17, f68_17, f69_17, f70_17, f71_17, f72_17, f73_17, f74_17, f75_17])
        have f74_18 := fun hh => getq q74_18 hh
        have q75_18 : T18[75]? = some (.bool O4) := by subst hT; exact (by first | (simp only [↓Array.getElem?_setIfInBounds_ne, ne_eq, Nat.reduceEqDiff, not_false_eq_true, q75_17]; done) | simp [hs17, f1_17, f41_17, f42_17, f43_17, f44_17, f45_17, f46_17, f47_17, f48_17, f49_17, f52_17, f53_17, f54_17, f55_17, f56_17, f57_17, f58_17, f59_17, f60_17, f61_17, f62_17, f63_17, f64_17, f65_17, f66_17, f67_17, f68_17, f69_17, f70_17, f71_17, f72_17, f73_17, f74_17, f75_17])
        have f75_18 := fun hh => getq q75_18 hh
        have q76_18 : T18[76]? = some (.int .i64 sa) := by subst hT; exact (by first | (simp only [↓Array.getElem?_setIfInBounds_ne, ne_eq, Nat.reduceEqDiff, not_false_eq_true]; done) | simp [hs17, f1_17, f41_17, f42_17, f43_17, f44_17, f45_17, f46_17, f47_17, f48_17, f49_17, f52_17, f53_17, f54_17, f55_17, f56_17, f57_17, f58_17, f59_17, f60_17, f61_17, f62_17, f63_17, f64_17, f65_17, f66_17, f67_17, f68_17, f69_17, f70_17, f71_17, f72_17, f73_17, f74_17, f75_17])
        have f76_18 := fun hh => getq q76_18 hh
        have q77_18 : T18[77]? = some (.int .i64 ca) := by subst hT; exact (by first | (simp only [↓Array.getElem?_setIfInBounds_ne, ne_eq, Nat.reduceEqDiff, not_false_eq_true]; done) | simp [hs17, f1_17, f41_17, f42_17, f43_17, f44_17, f45_17, f46_17, f47_17, f48_17, f49_17, f52_17, f53_17, f54_17, f55_17, f56_17, f57_17, f58_17, f59_17, f60_17, f61_17, f62_17, f63_17, f64_17, f65_17, f66_17, f67_17, f68_17, f69_17, f70_17, f71_17, f72_17, f73_17, f74_17, f75_17])
        have f77_18 := fun hh => getq q77_18 hh
        clear hT f75_17 f74_17 f73_17 f72_17 f71_17 f70_17 f69_17 f68_17 f67_17 f66_17 f65_17 f64_17 f63_17 f62_17 f61_17 f60_17 f59_17 f58_17 f57_17 f56_17 f55_17 f54_17 f53_17 f52_17 f49_17 f48_17 f47_17 f46_17 f45_17 f44_17 f43_17 f42_17 f41_17 f1_17 hs17 q1_17 q41_17 q42_17 q43_17 q44_17 q45_17 q46_17 q47_17 q48_17 q49_17 q52_17 q53_17 q54_17 q55_17 q56_17 q57_17 q58_17 q59_17 q60_17 q61_17 q62_17 q63_17 q64_17 q65_17 q66_17 q67_17 q68_17 q69_17 q70_17 q71_17 q72_17 q73_17 q74_17 q75_17
        go_wp2_with fail
        refine ((P1 _).out).mono ?_
        rintro e w36 ⟨rfl, hb36⟩
        have HB36 := Lib.hid (show Below wp.heap.size wp w36 from bl_trans hb36 (by repeat (first | exact HB35.out | exact Below.refl _ _ | refine bl_drewN ?_ _)))
        clear hb36
        go_wp2_with fail
        refine ((P2 _).out).mono ?_
        rintro e w37 ⟨rfl, hb37⟩
        have HB37 := Lib.hid (show Below wp.heap.size wp w37 from bl_trans hb37 (by repeat (first | exact HB36.out | exact Below.refl _ _ | refine bl_drewN ?_ _)))
        clear hb37
        go_upto_region 43 with fail
        refine reframe fun T19 hT => ?_
        have hs19 : T19.size = 603 := by subst hT; simp [hs18]
        have q41_19 : T19[41]? = some (.int .i64 ta) := by subst hT; exact (by first | (simp only [↓Array.getElem?_setIfInBounds_ne, ne_eq, Nat.reduceEqDiff, not_false_eq_true, q41_18]; done) | simp [hs18, f41_18, f42_18, f43_18, f44_18, f45_18, f46_18, f47_18, f48_18, f49_18, f52_18, f53_18, f54_18, f55_18, f56_18, f57_18, f58_18, f59_18, f60_18, f61_18, f62_18, f63_18, f64_18, f65_18, f66_18, f67_18, f68_18, f69_18, f70_18, f71_18, f72_18, f73_18, f74_18, f75_18, f76_18, f77_18])
        have f41_19 := fun hh => getq q41_19 hh
        have q42_19 : T19[42]? = some (.int .i64 ri) := by subst hT; exact (by first | (simp only [↓Array.getElem?_setIfInBounds_ne, ne_eq, Nat.reduceEqDiff, not_false_eq_true, q42_18]; done) | simp [hs18, f41_18, f42_18, f43_18, f44_18, f45_18, f46_18, f47_18, f48_18, f49_18, f52_18, f53_18, f54_18, f55_18, f56_18, f57_18, f58_18, f59_18, f60_18, f61_18, f62_18, f63_18, f64_18, f65_18, f66_18, f67_18, f68_18, f69_18, f70_18, f71_18, f72_18, f73_18, f74_18, f75_18, f76_18, f77_18])
        have f42_19 := fun hh => getq q42_19 hh
        have q43_19 : T19[43]? = some (.int .i64 ru) := by subst hT; exact (by first | (simp only [↓Array.getElem?_setIfInBounds_ne, ne_eq, Nat.reduceEqDiff, not_false_eq_true, q43_18]; done) | simp [hs18, f41_18, f42_18, f43_18, f44_18, f45_18, f46_18, f47_18, f48_18, f49_18, f52_18, f53_18, f54_18, f55_18, f56_18, f57_18, f58_18, f59_18, f60_18, f61_18, f62_18, f63_18, f64_18, f65_18, f66_18, f67_18, f68_18, f69_18, f70_18, f71_18, f72_18, f73_18, f74_18, f75_18, f76_18, f77_18])
        have f43_19 := fun hh => getq q43_19 hh
        have q44_19 : T19[44]? = some (.int .i64 X1) := by subst hT; exact (by first | (simp only [↓Array.getElem?_setIfInBounds_ne, ne_eq, Nat.reduceEqDiff, not_false_eq_true, q44_18]; done) | simp [hs18, f41_18, f42_18, f43_18, f44_18, f45_18, f46_18, f47_18, f48_18, f49_18, f52_18, f53_18, f54_18, f55_18, f56_18, f57_18, f58_18, f59_18, f60_18, f61_18, f62_18, f63_18, f64_18, f65_18, f66_18, f67_18, f68_18, f69_18, f70_18, f71_18, f72_18, f73_18, f74_18, f75_18, f76_18, f77_18])
        have f44_19 := fun hh => getq q44_19 hh
        have q45_19 : T19[45]? = some (.int .i64 Y1) := by subst hT; exact (by first | (simp only [↓Array.getElem?_setIfInBounds_ne, ne_eq, Nat.reduceEqDiff, not_false_eq_true, q45_18]; done) | simp [hs18, f41_18, f42_18, f43_18, f44_18, f45_18, f46_18, f47_18, f48_18, f49_18, f52_18, f53_18, f54_18, f55_18, f56_18, f57_18, f58_18, f59_18, f60_18, f61_18, f62_18, f63_18, f64_18, f65_18, f66_18, f67_18, f68_18, f69_18, f70_18, f71_18, f72_18, f73_18, f74_18, f75_18, f76_18, f77_18])
        have f45_19 := fun hh => getq q45_19 hh
        have q46_19 : T19[46]? = some (.bool O1) := by subst hT; exact (by first | (simp only [↓Array.getElem?_setIfInBounds_ne, ne_eq, Nat.reduceEqDiff, not_false_eq_true, q46_18]; done) | simp [hs18, f41_18, f42_18, f43_18, f44_18, f45_18, f46_18, f47_18, f48_18, f49_18, f52_18, f53_18, f54_18, f55_18, f56_18, f57_18, f58_18, f59_18, f60_18, f61_18, f62_18, f63_18, f64_18, f65_18, f66_18, f67_18, f68_18, f69_18, f70_18, f71_18, f72_18, f73_18, f74_18, f75_18, f76_18, f77_18])
        have f46_19 := fun hh => getq q46_19 hh
        have q47_19 : T19[47]? = some (.int .i64 X1) := by subst hT; exact (by first | (simp only [↓Array.getElem?_setIfInBounds_ne, ne_eq, Nat.reduceEqDiff, not_false_eq_true, q47_18]; done) | simp [hs18, f41_18, f42_18, f43_18, f44_18, f45_18, f46_18, f47_18, f48_18, f49_18, f52_18, f53_18, f54_18, f55_18, f56_18, f57_18, f58_18, f59_18, f60_18, f61_18, f62_18, f63_18, f64_18, f65_18, f66_18, f67_18, f68_18, f69_18, f70_18, f71_18, f72_18, f73_18, f74_18, f75_18, f76_18, f77_18])
        have f47_19 := fun hh => getq q47_19 hh
        have q48_19 : T19[48]? = some (.int .i64 Y1) := by subst hT; exact (by first | (simp only [↓Array.getElem?_setIfInBounds_ne, ne_eq, Nat.reduceEqDiff, not_false_eq_true, q48_18]; done) | simp [hs18, f41_18, f42_18, f43_18, f44_18, f45_18, f46_18, f47_18, f48_18, f49_18, f52_18, f53_18, f54_18, f55_18, f56_18, f57_18, f58_18, f59_18, f60_18, f61_18, f62_18, f63_18, f64_18, f65_18, f66_18, f67_18, f68_18, f69_18, f70_18, f71_18, f72_18, f73_18, f74_18, f75_18, f76_18, f77_18])
        have f48_19 := fun hh => getq q48_19 hh
        have q49_19 : T19[49]? = some (.bool O1) := by subst hT; exact (by first | (simp only [↓Array.getElem?_setIfInBounds_ne, ne_eq, Nat.reduceEqDiff, not_false_eq_true, q49_18]; done) | simp [hs18, f41_18, f42_18, f43_18, f44_18, f45_18, f46_18, f47_18, f48_18, f49_18, f52_18, f53_18, f54_18, f55_18, f56_18, f57_18, f58_18, f59_18, f60_18, f61_18, f62_18, f63_18, f64_18, f65_18, f66_18, f67_18, f68_18, f69_18, f70_18, f71_18, f72_18, f73_18, f74_18, f75_18, f76_18, f77_18])
        have f49_19 := fun hh => getq q49_19 hh
        have q52_19 : T19[52]? = some (.int .i64 X2) := by subst hT; exact (by first | (simp only [↓Array.getElem?_setIfInBounds_ne, ne_eq, Nat.reduceEqDiff, not_false_eq_true, q52_18]; done) | simp [hs18, f41_18, f42_18, f43_18, f44_18, f45_18, f46_18, f47_18, f48_18, f49_18, f52_18, f53_18, f54_18, f55_18, f56_18, f57_18, f58_18, f59_18, f60_18, f61_18, f62_18, f63_18, f64_18, f65_18, f66_18, f67_18, f68_18, f69_18, f70_18, f71_18, f72_18, f73_18, f74_18, f75_18, f76_18, f77_18])
        have f52_19 := fun hh => getq q52_19 hh
        have q53_19 : T19[53]? = some (.int .i64 Y2) := by subst hT; exact (by first | (simp only [↓Array.getElem?_setIfInBounds_ne, ne_eq, Nat.reduceEqDiff, not_false_eq_true, q53_18]; done) | simp [hs18, f41_18, f42_18, f43_18, f44_18, f45_18, f46_18, f47_18, f48_18, f49_18, f52_18, f53_18, f54_18, f55_18, f56_18, f57_18, f58_18, f59_18, f60_18, f61_18, f62_18, f63_18, f64_18, f65_18, f66_18, f67_18, f68_18, f69_18, f70_18, f71_18, f72_18, f73_18, f74_18, f75_18, f76_18, f77_18])
        have f53_19 := fun hh => getq q53_19 hh
        have q54_19 : T19[54]? = some (.bool O2) := by subst hT; exact (by first | (simp only [↓Array.getElem?_setIfInBounds_ne, ne_eq, Nat.reduceEqDiff, not_false_eq_true, q54_18]; done) | simp [hs18, f41_18, f42_18, f43_18, f44_18, f45_18, f46_18, f47_18, f48_18, f49_18, f52_18, f53_18, f54_18, f55_18, f56_18, f57_18, f58_18, f59_18, f60_18, f61_18, f62_18, f63_18, f64_18, f65_18, f66_18, f67_18, f68_18, f69_18, f70_18, f71_18, f72_18, f73_18, f74_18, f75_18, f76_18, f77_18])
        have f54_19 := fun hh => getq q54_19 hh
        have q55_19 : T19[55]? = some (.int .i64 X2) := by subst hT; exact (by first | (simp only [↓Array.getElem?_setIfInBounds_ne, ne_eq, Nat.reduceEqDiff, not_false_eq_true, q55_18]; done) | simp [hs18, f41_18, f42_18, f43_18, f44_18, f45_18, f46_18, f47_18, f48_18, f49_18, f52_18, f53_18, f54_18, f55_18, f56_18, f57_18, f58_18, f59_18, f60_18, f61_18, f62_18, f63_18, f64_18, f65_18, f66_18, f67_18, f68_18, f69_18, f70_18, f71_18, f72_18, f73_18, f74_18, f75_18, f76_18, f77_18])
        have f55_19 := fun hh => getq q55_19 hh
        have q56_19 : T19[56]? = some (.int .i64 Y2) := by subst hT; exact (by first | (simp only [↓Array.getElem?_setIfInBounds_ne, ne_eq, Nat.reduceEqDiff, not_false_eq_true, q56_18]; done) | simp [hs18, f41_18, f42_18, f43_18, f44_18, f45_18, f46_18, f47_18, f48_18, f49_18, f52_18, f53_18, f54_18, f55_18, f56_18, f57_18, f58_18, f59_18, f60_18, f61_18, f62_18, f63_18, f64_18, f65_18, f66_18, f67_18, f68_18, f69_18, f70_18, f71_18, f72_18, f73_18, f74_18, f75_18, f76_18, f77_18])
        have f56_19 := fun hh => getq q56_19 hh
        have q57_19 : T19[57]? = some (.bool O2) := by subst hT; exact (by first | (simp only [↓Array.getElem?_setIfInBounds_ne, ne_eq, Nat.reduceEqDiff, not_false_eq_true, q57_18]; done) | simp [hs18, f41_18, f42_18, f43_18, f44_18, f45_18, f46_18, f47_18, f48_18, f49_18, f52_18, f53_18, f54_18, f55_18, f56_18, f57_18, f58_18, f59_18, f60_18, f61_18, f62_18, f63_18, f64_18, f65_18, f66_18, f67_18, f68_18, f69_18, f70_18, f71_18, f72_18, f73_18, f74_18, f75_18, f76_18, f77_18])
        have f57_19 := fun hh => getq q57_19 hh
        have q58_19 : T19[58]? = some (.int .i64 la) := by subst hT; exact (by first | (simp only [↓Array.getElem?_setIfInBounds_ne, ne_eq, Nat.reduceEqDiff, not_false_eq_true, q58_18]; done) | simp [hs18, f41_18, f42_18, f43_18, f44_18, f45_18, f46_18, f47_18, f48_18, f49_18, f52_18, f53_18, f54_18, f55_18, f56_18, f57_18, f58_18, f59_18, f60_18, f61_18, f62_18, f63_18, f64_18, f65_18, f66_18, f67_18, f68_18, f69_18, f70_18, f71_18, f72_18, f73_18, f74_18, f75_18, f76_18, f77_18])
        have f58_19 := fun hh => getq q58_19 hh
        have q59_19 : T19[59]? = some (.int .i64 pa) := by subst hT; exact (by first | (simp only [↓Array.getElem?_setIfInBounds_ne, ne_eq, Nat.reduceEqDiff, not_false_eq_true, q59_18]; done) | simp [hs18, f41_18, f42_18, f43_18, f44_18, f45_18, f46_18, f47_18, f48_18, f49_18, f52_18, f53_18, f54_18, f55_18, f56_18, f57_18, f58_18, f59_18, f60_18, f61_18, f62_18, f63_18, f64_18, f65_18, f66_18, f67_18, f68_18, f69_18, f70_18, f71_18, f72_18, f73_18, f74_18, f75_18, f76_18, f77_18])
        have f59_19 := fun hh => getq q59_19 hh
        have q60_19 : T19[60]? = some (.int .i64 fa) := by subst hT; exact (by first | (simp only [↓Array.getElem?_setIfInBounds_ne, ne_eq, Nat.reduceEqDiff, not_false_eq_true, q60_18]; done) | simp [hs18, f41_18, f42_18, f43_18, f44_18, f45_18, f46_18, f47_18, f48_18, f49_18, f52_18, f53_18, f54_18, f55_18, f56_18, f57_18, f58_18, f59_18, f60_18, f61_18, f62_18, f63_18, f64_18, f65_18, f66_18, f67_18, f68_18, f69_18, f70_18, f71_18, f72_18, f73_18, f74_18, f75_18, f76_18, f77_18])
        have f60_19 := fun hh => getq q60_19 hh
        have q61_19 : T19[61]? = some (.int .i64 X3) := by subst hT; exact (by first | (simp only [↓Array.getElem?_setIfInBounds_ne, ne_eq, Nat.reduceEqDiff, not_false_eq_true, q61_18]; done) | simp [hs18, f41_18, f42_18, f43_18, f44_18, f45_18, f46_18, f47_18, f48_18, f49_18, f52_18, f53_18, f54_18, f55_18, f56_18, f57_18, f58_18, f59_18, f60_18, f61_18, f62_18, f63_18, f64_18, f65_18, f66_18, f67_18, f68_18, f69_18, f70_18, f71_18, f72_18, f73_18, f74_18, f75_18, f76_18, f77_18])
        have f61_19 := fun hh => getq q61_19 hh
        have q62_19 : T19[62]? = some (.int .i64 Y3) := by subst hT; exact (by first | (simp only [↓Array.getElem?_setIfInBounds_ne, ne_eq, Nat.reduceEqDiff, not_false_eq_true, q62_18]; done) | simp [hs18, f41_18, f42_18, f43_18, f44_18, f45_18, f46_18, f47_18, f48_18, f49_18, f52_18, f53_18, f54_18, f55_18, f56_18, f57_18, f58_18, f59_18, f60_18, f61_18, f62_18, f63_18, f64_18, f65_18, f66_18, f67_18, f68_18, f69_18, f70_18, f71_18, f72_18, f73_18, f74_18, f75_18, f76_18, f77_18])
        have f62_19 := fun hh => getq q62_19 hh
        have q63_19 : T19[63]? = some (.bool O3) := by subst hT; exact (by first | (simp only [↓Array.getElem?_setIfInBounds_ne, ne_eq, Nat.reduceEqDiff, not_false_eq_true, q63_18]; done) | simp [hs18, f41_18, f42_18, f43_18, f44_18, f45_18, f46_18, f47_18, f48_18, f49_18, f52_18, f53_18, f54_18, f55_18, f56_18, f57_18, f58_18, f59_18, f60_18, f61_18, f62_18, f63_18, f64_18, f65_18, f66_18, f67_18, f68_18, f69_18, f70_18, f71_18, f72_18, f73_18, f74_18, f75_18, f76_18, f77_18])
        have f63_19 := fun hh => getq q63_19 hh
        have q64_19 : T19[64]? = some (.int .i64 X3) := by subst hT; exact (by first | (simp only [↓Array.getElem?_setIfInBounds_ne, ne_eq, Nat.reduceEqDiff, not_false_eq_true, q64_18]; done) | simp [hs18, f41_18, f42_18, f43_18, f44_18, f45_18, f46_18, f47_18, f48_18, f49_18, f52_18, f53_18, f54_18, f55_18, f56_18, f57_18, f58_18, f59_18, f60_18, f61_18, f62_18, f63_18, f64_18, f65_18, f66_18, f67_18, f68_18, f69_18, f70_18, f71_18, f72_18, f73_18, f74_18, f75_18, f76_18, f77_18])
        have f64_19 := fun hh => getq q64_19 hh
        have q65_19 : T19[65]? = some (.int .i64 Y3) := by subst hT; exact (by first | (simp only [↓Array.getElem?_setIfInBounds_ne, ne_eq, Nat.reduceEqDiff, not_false_eq_true, q65_18]; done) | simp [hs18, f41_18, f42_18, f43_18, f44_18, f45_18, f46_18, f47_18, f48_18, f49_18, f52_18, f53_18, f54_18, f55_18, f56_18, f57_18, f58_18, f59_18, f60_18, f61_18, f62_18, f63_18, f64_18, f65_18, f66_18, f67_18, f68_18, f69_18, f70_18, f71_18, f72_18, f73_18, f74_18, f75_18, f76_18, f77_18])
        have f65_19 := fun hh => getq q65_19 hh
        have q66_19 : T19[66]? = some (.bool O3) := by subst hT; exact (by first | (simp only [↓Array.getElem?_setIfInBounds_ne, ne_eq, Nat.reduceEqDiff, not_false_eq_true, q66_18]; done) | simp [hs18, f41_18, f42_18, f43_18, f44_18, f45_18, f46_18, f47_18, f48_18, f49_18, f52_18, f53_18, f54_18, f55_18, f56_18, f57_18, f58_18, f59_18, f60_18, f61_18, f62_18, f63_18, f64_18, f65_18, f66_18, f67_18, f68_18, f69_18, f70_18, f71_18, f72_18, f73_18, f74_18, f75_18, f76_18, f77_18])
        have f66_19 := fun hh => getq q66_19 hh
        have q67_19 : T19[67]? = some (.int .i64 lb) := by subst hT; exact (by first | (simp only [↓Array.getElem?_setIfInBounds_ne, ne_eq, Nat.reduceEqDiff, not_false_eq_true, q67_18]; done) | simp [hs18, f41_18, f42_18, f43_18, f44_18, f45_18, f46_18, f47_18, f48_18, f49_18, f52_18, f53_18, f54_18, f55_18, f56_18, f57_18, f58_18, f59_18, f60_18, f61_18, f62_18, f63_18, f64_18, f65_18, f66_18, f67_18, f68_18, f69_18, f70_18, f71_18, f72_18, f73_18, f74_18, f75_18, f76_18, f77_18])
        have f67_19 := fun hh => getq q67_19 hh
        have q68_19 : T19[68]? = some (.int .i64 pb) := by subst hT; exact (by first | (simp only [↓Array.getElem?_setIfInBounds_ne, ne_eq, Nat.reduceEqDiff, not_false_eq_true, q68_18]; done) | simp [hs18, f41_18, f42_18, f43_18, f44_18, f45_18, f46_18, f47_18, f48_18, f49_18, f52_18, f53_18, f54_18, f55_18, f56_18, f57_18, f58_18, f59_18, f60_18, f61_18, f62_18, f63_18, f64_18, f65_18, f66_18, f67_18, f68_18, f69_18, f70_18, f71_18, f72_18, f73_18, f74_18, f75_18, f76_18, f77_18])
        have f68_19 := fun hh => getq q68_19 hh
        have q69_19 : T19[69]? = some (.int .i64 mu) := by subst hT; exact (by first | (simp only [↓Array.getElem?_setIfInBounds_ne, ne_eq, Nat.reduceEqDiff, not_false_eq_true, q69_18]; done) | simp [hs18, f41_18, f42_18, f43_18, f44_18, f45_18, f46_18, f47_18, f48_18, f49_18, f52_18, f53_18, f54_18, f55_18, f56_18, f57_18, f58_18, f59_18, f60_18, f61_18, f62_18, f63_18, f64_18, f65_18, f66_18, f67_18, f68_18, f69_18, f70_18, f71_18, f72_18, f73_18, f74_18, f75_18, f76_18, f77_18])
        have f69_19 := fun hh => getq q69_19 hh
        have q70_19 : T19[70]? = some (.int .i64 X4) := by subst hT; exact (by first | (simp only [↓Array.getElem?_setIfInBounds_ne, ne_eq, Nat.reduceEqDiff, not_false_eq_true, q70_18]; done) | simp [hs18, f41_18, f42_18, f43_18, f44_18, f45_18, f46_18, f47_18, f48_18, f49_18, f52_18, f53_18, f54_18, f55_18, f56_18, f57_18, f58_18, f59_18, f60_18, f61_18, f62_18, f63_18, f64_18, f65_18, f66_18, f67_18, f68_18, f69_18, f70_18, f71_18, f72_18, f73_18, f74_18, f75_18, f76_18, f77_18])
        have f70_19 := fun hh => getq q70_19 hh
        have q71_19 : T19[71]? = some (.int .i64 Y4) := by subst hT; exact (by first | (simp only [↓Array.getElem?_setIfInBounds_ne, ne_eq, Nat.reduceEqDiff, not_false_eq_true, q71_18]; done) | simp [hs18, f41_18, f42_18, f43_18, f44_18, f45_18, f46_18, f47_18, f48_18, f49_18, f52_18, f53_18, f54_18, f55_18, f56_18, f57_18, f58_18, f59_18, f60_18, f61_18, f62_18, f63_18, f64_18, f65_18, f66_18, f67_18, f68_18, f69_18, f70_18, f71_18, f72_18, f73_18, f74_18, f75_18, f76_18, f77_18])
        have f71_19 := fun hh => getq q71_19 hh
        have q72_19 : T19[72]? = some (.bool O4) := by subst hT; exact (by first | (simp only [↓Array.getElem?_setIfInBounds_ne, ne_eq, Nat.reduceEqDiff, not_false_eq_true, q72_18]; done) | simp [hs18, f41_18, f42_18, f43_18, f44_18, f45_18, f46_18, f47_18, f48_18, f49_18, f52_18, f53_18, f54_18, f55_18, f56_18, f57_18, f58_18, f59_18, f60_18, f61_18, f62_18, f63_18, f64_18, f65_18, f66_18, f67_18, f68_18, f69_18, f70_18, f71_18, f72_18, f73_18, f74_18, f75_18, f76_18, f77_18])
        have f72_19 := fun hh => getq q72_19 hh
        have q73_19 : T19[73]? = some (.int .i64 X4) := by subst hT; exact (by first | (simp only [↓Array.getElem?_setIfInBounds_ne, ne_eq, Nat.reduceEqDiff, not_false_eq_true, q73_18]; done) | simp [hs18, f41_18, f42_18, f43_18, f44_18, f45_18, f46_18, f47_18, f48_18, f49_18, f52_18, f53_18, f54_18, f55_18, f56_18, f57_18, f58_18, f59_18, f60_18, f61_18, f62_18, f63_18, f64_18, f65_18, f66_18, f67_18, f68_18, f69_18, f70_18, f71_18, f72_18, f73_18, f74_18, f75_18, f76_18, f77_18])
        have f73_19 := fun hh => getq q73_19 hh
        have q74_19 : T19[74]? = some (.int .i64 Y4) := by subst hT; exact (by first | (simp only [↓Array.getElem?_setIfInBounds_ne, ne_eq, Nat.reduceEqDiff, not_false_eq_true, q74_18]; done) | simp [hs18, f41_18, f42_18, f43_18, f44_18, f45_18, f46_18, f47_18, f48_18, f49_18, f52_18, f53_18, f54_18, f55_18, f56_18, f57_18, f58_18, f59_18, f60_18, f61_18, f62_18, f63_18, f64_18, f65_18, f66_18, f67_18, f68_18, f69_18, f70_18, f71_18, f72_18, f73_18, f74_18, f75_18, f76_18, f77_18])
        have f74_19 := fun hh => getq q74_19 hh
        have q75_19 : T19[75]? = some (.bool O4) := by subst hT; exact (by first | (simp only [↓Array.getElem?_setIfInBounds_ne, ne_eq, Nat.reduceEqDiff, not_false_eq_true, q75_18]; done) | simp [hs18, f41_18, f42_18, f43_18, f44_18, f45_18, f46_18, f47_18, f48_18, f49_18, f52_18, f53_18, f54_18, f55_18, f56_18, f57_18, f58_18, f59_18, f60_18, f61_18, f62_18, f63_18, f64_18, f65_18, f66_18, f67_18, f68_18, f69_18, f70_18, f71_18, f72_18, f73_18, f74_18, f75_18, f76_18, f77_18])
        have f75_19 := fun hh => getq q75_19 hh
        have q76_19 : T19[76]? = some (.int .i64 sa) := by subst hT; exact (by first | (simp only [↓Array.getElem?_setIfInBounds_ne, ne_eq, Nat.reduceEqDiff, not_false_eq_true, q76_18]; done) | simp [hs18, f41_18, f42_18, f43_18, f44_18, f45_18, f46_18, f47_18, f48_18, f49_18, f52_18, f53_18, f54_18, f55_18, f56_18, f57_18, f58_18, f59_18, f60_18, f61_18, f62_18, f63_18, f64_18, f65_18, f66_18, f67_18, f68_18, f69_18, f70_18, f71_18, f72_18, f73_18, f74_18, f75_18, f76_18, f77_18])
        have f76_19 := fun hh => getq q76_19 hh
        have q77_19 : T19[77]? = some (.int .i64 ca) := by subst hT; exact (by first | (simp only [↓Array.getElem?_setIfInBounds_ne, ne_eq, Nat.reduceEqDiff, not_false_eq_true, q77_18]; done) | simp [hs18, f41_18, f42_18, f43_18, f44_18, f45_18, f46_18, f47_18, f48_18, f49_18, f52_18, f53_18, f54_18, f55_18, f56_18, f57_18, f58_18, f59_18, f60_18, f61_18, f62_18, f63_18, f64_18, f65_18, f66_18, f67_18, f68_18, f69_18, f70_18, f71_18, f72_18, f73_18, f74_18, f75_18, f76_18, f77_18])
        have f77_19 := fun hh => getq q77_19 hh
        have q78_19 : T19[78]? = some (.int .i64 X5) := by subst hT; exact (by first | (simp only [↓Array.getElem?_setIfInBounds_ne, ne_eq, Nat.reduceEqDiff, not_false_eq_true]; done) | simp [hs18, f41_18, f42_18, f43_18, f44_18, f45_18, f46_18, f47_18, f48_18, f49_18, f52_18, f53_18, f54_18, f55_18, f56_18, f57_18, f58_18, f59_18, f60_18, f61_18, f62_18, f63_18, f64_18, f65_18, f66_18, f67_18, f68_18, f69_18, f70_18, f71_18, f72_18, f73_18, f74_18, f75_18, f76_18, f77_18])
        have f78_19 := fun hh => getq q78_19 hh
        have q79_19 : T19[79]? = some (.int .i64 Y5) := by subst hT; exact (by first | (simp only [↓Array.getElem?_setIfInBounds_ne, ne_eq, Nat.reduceEqDiff, not_false_eq_true]; done) | simp [hs18, f41_18, f42_18, f43_18, f44_18, f45_18, f46_18, f47_18, f48_18, f49_18, f52_18, f53_18, f54_18, f55_18, f56_18, f57_18, f58_18, f59_18, f60_18, f61_18, f62_18, f63_18, f64_18, f65_18, f66_18, f67_18, f68_18, f69_18, f70_18, f71_18, f72_18, f73_18, f74_18, f75_18, f76_18, f77_18])
        have f79_19 := fun hh => getq q79_19 hh
        have q80_19 : T19[80]? = some (.bool O5) := by subst hT; exact (by first | (simp only [↓Array.getElem?_setIfInBounds_ne, ne_eq, Nat.reduceEqDiff, not_false_eq_true]; done) | simp [hs18, f41_18, f42_18, f43_18, f44_18, f45_18, f46_18, f47_18, f48_18, f49_18, f52_18, f53_18, f54_18, f55_18, f56_18, f57_18, f58_18, f59_18, f60_18, f61_18, f62_18, f63_18, f64_18, f65_18, f66_18, f67_18, f68_18, f69_18, f70_18, f71_18, f72_18, f73_18, f74_18, f75_18, f76_18, f77_18])
        have f80_19 := fun hh => getq q80_19 hh
        have q81_19 : T19[81]? = some (.int .i64 X5) := by subst hT; exact (by first | (simp only [↓Array.getElem?_setIfInBounds_ne, ne_eq, Nat.reduceEqDiff, not_false_eq_true]; done) | simp [hs18, f41_18, f42_18, f43_18, f44_18, f45_18, f46_18, f47_18, f48_18, f49_18, f52_18, f53_18, f54_18, f55_18, f56_18, f57_18, f58_18, f59_18, f60_18, f61_18, f62_18, f63_18, f64_18, f65_18, f66_18, f67_18, f68_18, f69_18, f70_18, f71_18, f72_18, f73_18, f74_18, f75_18, f76_18, f77_18])
        have f81_19 := fun hh => getq q81_19 hh
        have q82_19 : T19[82]? = some (.int .i64 Y5) := by subst hT; exact (by first | (simp only [↓Array.getElem?_setIfInBounds_ne, ne_eq, Nat.reduceEqDiff, not_false_eq_true]; done) | simp [hs18, f41_18, f42_18, f43_18, f44_18, f45_18, f46_18, f47_18, f48_18, f49_18, f52_18, f53_18, f54_18, f55_18, f56_18, f57_18, f58_18, f59_18, f60_18, f61_18, f62_18, f63_18, f64_18, f65_18, f66_18, f67_18, f68_18, f69_18, f70_18, f71_18, f72_18, f73_18, f74_18, f75_18, f76_18, f77_18])
        have f82_19 := fun hh => getq q82_19 hh
        have q83_19 : T19[83]? = some (.bool O5) := by subst hT; exact (by first | (simp only [↓Array.getElem?_setIfInBounds_ne, ne_eq, Nat.reduceEqDiff, not_false_eq_true]; done) | simp [hs18, f41_18, f42_18, f43_18, f44_18, f45_18, f46_18, f47_18, f48_18, f49_18, f52_18, f53_18, f54_18, f55_18, f56_18, f57_18, f58_18, f59_18, f60_18, f61_18, f62_18, f63_18, f64_18, f65_18, f66_18, f67_18, f68_18, f69_18, f70_18, f71_18, f72_18, f73_18, f74_18, f75_18, f76_18, f77_18])
        have f83_19 := fun hh => getq q83_19 hh
        clear hT f77_18 f76_18 f75_18 f74_18 f73_18 f72_18 f71_18 f70_18 f69_18 f68_18 f67_18 f66_18 f65_18 f64_18 f63_18 f62_18 f61_18 f60_18 f59_18 f58_18 f57_18 f56_18 f55_18 f54_18 f53_18 f52_18 f49_18 f48_18 f47_18 f46_18 f45_18 f44_18 f43_18 f42_18 f41_18 hs18 q41_18 q42_18 q43_18 q44_18 q45_18 q46_18 q47_18 q48_18 q49_18 q52_18 q53_18 q54_18 q55_18 q56_18 q57_18 q58_18 q59_18 q60_18 q61_18 q62_18 q63_18 q64_18 q65_18 q66_18 q67_18 q68_18 q69_18 q70_18 q71_18 q72_18 q73_18 q74_18 q75_18 q76_18 q77_18
        clear P1 P2
        go_wp2_with fail
        refine wp_cond_f ?_ ?_
        · (go_simp <;> omega)
        go_upto_region 45 with fail
        refine reframe fun T20 hT => ?_
        have hs20 : T20.size = 603 := by subst hT; simp [hs19]
        have q41_20 : T20[41]? = some (.int .i64 ta) := by subst hT; exact (by first | (simp only [↓Array.getElem?_setIfInBounds_ne, ne_eq, Nat.reduceEqDiff, not_false_eq_true, q41_19]; done) | simp [hs19, f41_19, f42_19, f43_19, f44_19, f45_19, f46_19, f47_19, f48_19, f49_19, f52_19, f53_19, f54_19, f55_19, f56_19, f57_19, f58_19, f59_19, f60_19, f61_19, f62_19, f63_19, f64_19, f65_19, f66_19, f67_19, f68_19, f69_19, f70_19, f71_19, f72_19, f73_19, f74_19, f75_19, f76_19, f77_19, f78_19, f79_19, f80_19, f81_19, f82_19, f83_19])
        have f41_20 := fun hh => getq q41_20 hh
        have q42_20 : T20[42]? = some (.int .i64 ri) := by subst hT; exact (by first | (simp only [↓Array.getElem?_setIfInBounds_ne, ne_eq, Nat.reduceEqDiff, not_false_eq_true, q42_19]; done) | simp [hs19, f41_19, f42_19, f43_19, f44_19, f45_19, f46_19, f47_19, f48_19, f49_19, f52_19, f53_19, f54_19, f55_19, f56_19, f57_19, f58_19, f59_19, f60_19, f61_19, f62_19, f63_19, f64_19, f65_19, f66_19, f67_19, f68_19, f69_19, f70_19, f71_19, f72_19, f73_19, f74_19, f75_19, f76_19, f77_19, f78_19, f79_19, f80_19, f81_19, f82_19, f83_19])
        have f42_20 := fun hh => getq q42_20 hh
        have q43_20 : T20[43]? = some (.int .i64 ru) := by subst hT; exact (by first | (simp only [↓Array.getElem?_setIfInBounds_ne, ne_eq, Nat.reduceEqDiff, not_false_eq_true, q43_19]; done) | simp [hs19, f41_19, f42_19, f43_19, f44_19, f45_19, f46_19, f47_19, f48_19, f49_19, f52_19, f53_19, f54_19, f55_19, f56_19, f57_19, f58_19, f59_19, f60_19, f61_19, f62_19, f63_19, f64_19, f65_19, f66_19, f67_19, f68_19, f69_19, f70_19, f71_19, f72_19, f73_19, f74_19, f75_19, f76_19, f77_19, f78_19, f79_19, f80_19, f81_19, f82_19, f83_19])
        have f43_20 := fun hh => getq q43_20 hh
        have q44_20 : T20[44]? = some (.int .i64 X1) := by subst hT; exact (by first | (simp only [↓Array.getElem?_setIfInBounds_ne, ne_eq, Nat.reduceEqDiff, not_false_eq_true, q44_19]; done) | simp [hs19, f41_19, f42_19, f43_19, f44_19, f45_19, f46_19, f47_19, f48_19, f49_19, f52_19, f53_19, f54_19, f55_19, f56_19, f57_19, f58_19, f59_19, f60_19, f61_19, f62_19, f63_19, f64_19, f65_19, f66_19, f67_19, f68_19, f69_19, f70_19, f71_19, f72_19, f73_19, f74_19, f75_19, f76_19, f77_19, f78_19, f79_19, f80_19, f81_19, f82_19, f83_19])
        have f44_20 := fun hh => getq q44_20 hh
        have q45_20 : T20[45]? = some (.int .i64 Y1) := by subst hT; exact (by first | (simp only [↓Array.getElem?_setIfInBounds_ne, ne_eq, Nat.reduceEqDiff, not_false_eq_true, q45_19]; done) | simp [hs19, f41_19, f42_19, f43_19, f44_19, f45_19, f46_19, f47_19, f48_19, f49_19, f52_19, f53_19, f54_19, f55_19, f56_19, f57_19, f58_19, f59_19, f60_19, f61_19, f62_19, f63_19, f64_19, f65_19, f66_19, f67_19, f68_19, f69_19, f70_19, f71_19, f72_19, f73_19, f74_19, f75_19, f76_19, f77_19, f78_19, f79_19, f80_19, f81_19, f82_19, f83_19])
        have f45_20 := fun hh => getq q45_20 hh
        have q46_20 : T20[46]? = some (.bool O1) := by subst hT; exact (by first | (simp only [↓Array.getElem?_setIfInBounds_ne, ne_eq, Nat.reduceEqDiff, not_false_eq_true, q46_19]; done) | simp [hs19, f41_19, f42_19, f43_19, f44_19, f45_19, f46_19, f47_19, f48_19, f49_19, f52_19, f53_19, f54_19, f55_19, f56_19, f57_19, f58_19, f59_19, f60_19, f61_19, f62_19, f63_19, f64_19, f65_19, f66_19, f67_19, f68_19, f69_19, f70_19, f71_19, f72_19, f73_19, f74_19, f75_19, f76_19, f77_19, f78_19, f79_19, f80_19, f81_19, f82_19, f83_19])
        have f46_20 := fun hh => getq q46_20 hh
        have q76_20 : T20[76]? = some (.int .i64 sa) := by subst hT; exact (by first | (simp only [↓Array.getElem?_setIfInBounds_ne, ne_eq, Nat.reduceEqDiff, not_false_eq_true, q76_19]; done) | simp [hs19, f41_19, f42_19, f43_19, f44_19, f45_19, f46_19, f47_19, f48_19, f49_19, f52_19, f53_19, f54_19, f55_19, f56_19, f57_19, f58_19, f59_19, f60_19, f61_19, f62_19, f63_19, f64_19, f65_19, f66_19, f67_19, f68_19, f69_19, f70_19, f71_19, f72_19, f73_19, f74_19, f75_19, f76_19, f77_19, f78_19, f79_19, f80_19, f81_19, f82_19, f83_19])
        have f76_20 := fun hh => getq q76_20 hh
        have q77_20 : T20[77]? = some (.int .i64 ca) := by subst hT; exact (by first | (simp only [↓Array.getElem?_setIfInBounds_ne, ne_eq, Nat.reduceEqDiff, not_false_eq_true, q77_19]; done) | simp [hs19, f41_19, f42_19, f43_19, f44_19, f45_19, f46_19, f47_19, f48_19, f49_19, f52_19, f53_19, f54_19, f55_19, f56_19, f57_19, f58_19, f59_19, f60_19, f61_19, f62_19, f63_19, f64_19, f65_19, f66_19, f67_19, f68_19, f69_19, f70_19, f71_19, f72_19, f73_19, f74_19, f75_19, f76_19, f77_19, f78_19, f79_19, f80_19, f81_19, f82_19, f83_19])
        have f77_20 := fun hh => getq q77_20 hh
        have q78_20 : T20[78]? = some (.int .i64 X5) := by subst hT; exact (by first | (simp only [↓Array.getElem?_setIfInBounds_ne, ne_eq, Nat.reduceEqDiff, not_false_eq_true, q78_19]; done) | simp [hs19, f41_19, f42_19, f43_19, f44_19, f45_19, f46_19, f47_19, f48_19, f49_19, f52_19, f53_19, f54_19, f55_19, f56_19, f57_19, f58_19, f59_19, f60_19, f61_19, f62_19, f63_19, f64_19, f65_19, f66_19, f67_19, f68_19, f69_19, f70_19, f71_19, f72_19, f73_19, f74_19, f75_19, f76_19, f77_19, f78_19, f79_19, f80_19, f81_19, f82_19, f83_19])
        have f78_20 := fun hh => getq q78_20 hh
        have q79_20 : T20[79]? = some (.int .i64 Y5) := by subst hT; exact (by first | (simp only [↓Array.getElem?_setIfInBounds_ne, ne_eq, Nat.reduceEqDiff, not_false_eq_true, q79_19]; done) | simp [hs19, f41_19, f42_19, f43_19, f44_19, f45_19, f46_19, f47_19, f48_19, f49_19, f52_19, f53_19, f54_19, f55_19, f56_19, f57_19, f58_19, f59_19, f60_19, f61_19, f62_19, f63_19, f64_19, f65_19, f66_19, f67_19, f68_19, f69_19, f70_19, f71_19, f72_19, f73_19, f74_19, f75_19, f76_19, f77_19, f78_19, f79_19, f80_19, f81_19, f82_19, f83_19])
        have f79_20 := fun hh => getq q79_20 hh
        have q80_20 : T20[80]? = some (.bool O5) := by subst hT; exact (by first | (simp only [↓Array.getElem?_setIfInBounds_ne, ne_eq, Nat.reduceEqDiff, not_false_eq_true, q80_19]; done) | simp [hs19, f41_19, f42_19, f43_19, f44_19, f45_19, f46_19, f47_19, f48_19, f49_19, f52_19, f53_19, f54_19, f55_19, f56_19, f57_19, f58_19, f59_19, f60_19, f61_19, f62_19, f63_19, f64_19, f65_19, f66_19, f67_19, f68_19, f69_19, f70_19, f71_19, f72_19, f73_19, f74_19, f75_19, f76_19, f77_19, f78_19, f79_19, f80_19, f81_19, f82_19, f83_19])
        have f80_20 := fun hh => getq q80_20 hh
        clear hT f83_19 f82_19 f81_19 f80_19 f79_19 f78_19 f77_19 f76_19 f75_19 f74_19 f73_19 f72_19 f71_19 f70_19 f69_19 f68_19 f67_19 f66_19 f65_19 f64_19 f63_19 f62_19 f61_19 f60_19 f59_19 f58_19 f57_19 f56_19 f55_19 f54_19 f53_19 f52_19 f49_19 f48_19 f47_19 f46_19 f45_19 f44_19 f43_19 f42_19 f41_19 hs19 q41_19 q42_19 q43_19 q44_19 q45_19 q46_19 q47_19 q48_19 q49_19 q52_19 q53_19 q54_19 q55_19 q56_19 q57_19 q58_19 q59_19 q60_19 q61_19 q62_19 q63_19 q64_19 q65_19 q66_19 q67_19 q68_19 q69_19 q70_19 q71_19 q72_19 q73_19 q74_19 q75_19 q76_19 q77_19 q78_19 q79_19 q80_19 q81_19 q82_19 q83_19
        cases O1
        · go_wp2_with fail
          refine wp_cond_f ?_ ?_
          · (go_simp <;> omega)
          cases O5
          · go_wp2_with fail
            refine wp_cond_f ?_ ?_
            · (go_simp <;> omega)
            go_wp2
            go_ret
            exact ⟨by simp [hs20], (bl_trans (u := wp) (by repeat (first | exact HB37.out | exact Below.refl _ _ | refine bl_drewN ?_ _)) HW.out)⟩
          · obtain ⟨⟨⟨sa0, sa1⟩, ca0, ca1⟩, QS⟩ := (F5 rfl).out
            clear F5
            have HI5 := fun W => Lib.hid (yIs_any (n := ca) (d := 1) (x := ca) (y := 1) (by omega) (by omega) (by omega) (by omega) (by simp) (by omega) (by omega) rfl W)
            go_wp2_with fail
            refine wp_cond_t ?_ ?_
            · (go_simp <;> omega)
            go_wp2_with fail
            refine ((QS _).out).mono ?_
            rintro e w40 ⟨rfl, hb40⟩
            have HB40 := Lib.hid (show Below wp.heap.size wp w40 from bl_trans hb40 (by repeat (first | exact HB37.out | exact Below.refl _ _ | refine bl_drewN ?_ _)))
            clear hb40
            go_wp2_with fail
            refine ((HI5 _).out).mono ?_
            rintro e w' ⟨rfl, m41, rfl⟩
            go_wp2
            go_ret
            exact ⟨by simp [hs20], (bl_trans (u := wp) (by repeat (first | exact HB40.out | exact Below.refl _ _ | refine bl_drewN ?_ _)) HW.out)⟩
        · obtain ⟨⟨⟨ta0, ta1⟩, ⟨ri0, ri1⟩, ru0, ru1⟩, ⟨x0, x1⟩, ⟨y0, y1⟩, hg, HQ⟩ := (F1 rfl).out
          clear F1 hg
          by_cases hY : Y1 = 1
          · subst hY
            by_cases hX : X1 ≤ 500
            · obtain ⟨p, q, QP, ⟨p0, p1⟩, ⟨q0, q1⟩, hg, he⟩ := HQ rfl hX
              obtain ⟨m0, m1⟩ := mul_bd2 (a := p) (b := ru) (m := 200) (k := 500) (by omega) (by omega) (by omega) (by omega)
              clear HQ
              have HI4 := fun W => Lib.hid (yIs_any (n := p) (d := q) (x := ri) (y := ru) (by omega) (by omega) (by omega) (by omega) hg m0 (by omega) he W)
              clear hg he
              go_wp2_with fail
              refine wp_cond_t ?_ ?_
              · (go_simp <;> omega)
              go_wp2_with fail
              refine ((QP _).out).mono ?_
              rintro e w38 ⟨rfl, hb38⟩
              have HB38 := Lib.hid (show Below wp.heap.size wp w38 from bl_trans hb38 (by repeat (first | exact HB37.out | exact Below.refl _ _ | refine bl_drewN ?_ _)))
              clear hb38
              go_wp2_with fail
              refine ((HI4 _).out).mono ?_
              rintro e w' ⟨rfl, m39, rfl⟩
              go_wp2_with fail
              refine wp_cond_f ?_ ?_
              · (go_simp <;> omega)
              cases O5
              · go_wp2_with fail
                refine wp_cond_f ?_ ?_
                · (go_simp <;> omega)
                go_wp2
                go_ret
                exact ⟨by simp [hs20], (bl_trans (u := wp) (by repeat (first | exact HB38.out | exact Below.refl _ _ | refine bl_drewN ?_ _)) HW.out)⟩
              · obtain ⟨⟨⟨sa0, sa1⟩, ca0, ca1⟩, QS⟩ := (F5 rfl).out
                clear F5
                have HI5 := fun W => Lib.hid (yIs_any (n := ca) (d := 1) (x := ca) (y := 1) (by omega) (by omega) (by omega) (by omega) (by simp) (by omega) (by omega) rfl W)
                go_wp2_with fail
                refine wp_cond_t ?_ ?_
                · (go_simp <;> omega)
                go_wp2_with fail
                refine ((QS _).out).mono ?_
                rintro e w42 ⟨rfl, hb42⟩
                have HB42 := Lib.hid (show Below wp.heap.size wp w42 from bl_trans hb42 (by repeat (first | exact HB38.out | exact Below.refl _ _ | refine bl_drewN ?_ _)))
                clear hb42
                go_wp2_with fail
                refine ((HI5 _).out).mono ?_
                rintro e w' ⟨rfl, m43, rfl⟩
                go_wp2
                go_ret
                exact ⟨by simp [hs20], (bl_trans (u := wp) (by repeat (first | exact HB42.out | exact Below.refl _ _ | refine bl_drewN ?_ _)) HW.out)⟩
            · go_wp2_with fail
              refine wp_cond_f ?_ ?_
              · (go_simp <;> omega)
              cases O5
              · go_wp2_with fail
                refine wp_cond_f ?_ ?_
                · (go_simp <;> omega)
                go_wp2
                go_ret
                exact ⟨by simp [hs20], (bl_trans (u := wp) (by repeat (first | exact HB37.out | exact Below.refl _ _ | refine bl_drewN ?_ _)) HW.out)⟩
              · obtain ⟨⟨⟨sa0, sa1⟩, ca0, ca1⟩, QS⟩ := (F5 rfl).out
                clear F5
                have HI5 := fun W => Lib.hid (yIs_any (n := ca) (d := 1) (x := ca) (y := 1) (by omega) (by omega) (by omega) (by omega) (by simp) (by omega) (by omega) rfl W)
                go_wp2_with fail
                refine wp_cond_t ?_ ?_
                · (go_simp <;> omega)
                go_wp2_with fail
                refine ((QS _).out).mono ?_
                rintro e w44 ⟨rfl, hb44⟩
                have HB44 := Lib.hid (show Below wp.heap.size wp w44 from bl_trans hb44 (by repeat (first | exact HB37.out | exact Below.refl _ _ | refine bl_drewN ?_ _)))
                clear hb44
                go_wp2_with fail
                refine ((HI5 _).out).mono ?_
                rintro e w' ⟨rfl, m45, rfl⟩
                go_wp2
                go_ret
                exact ⟨by simp [hs20], (bl_trans (u := wp) (by repeat (first | exact HB44.out | exact Below.refl _ _ | refine bl_drewN ?_ _)) HW.out)⟩
          · have hY' : (Y1 == 1) = false := beq_eq_false_iff_ne.2 hY
            go_wp2_with fail
            refine wp_cond_f ?_ ?_
            · (go_simp <;> omega)
            cases O5
            · go_wp2_with fail
              refine wp_cond_f ?_ ?_
              · (go_simp <;> omega)
              go_wp2
              go_ret
              exact ⟨by simp [hs20], (bl_trans (u := wp) (by repeat (first | exact HB37.out | exact Below.refl _ _ | refine bl_drewN ?_ _)) HW.out)⟩
            · obtain ⟨⟨⟨sa0, sa1⟩, ca0, ca1⟩, QS⟩ := (F5 rfl).out
              clear F5
              have HI5 := fun W => Lib.hid (yIs_any (n := ca) (d := 1) (x := ca) (y := 1) (by omega) (by omega) (by omega) (by omega) (by simp) (by omega) (by omega) rfl W)
              go_wp2_with fail
              refine wp_cond_t ?_ ?_
              · (go_simp <;> omega)
              go_wp2_with fail
              refine ((QS _).out).mono ?_
              rintro e w46 ⟨rfl, hb46⟩
              have HB46 := Lib.hid (show Below wp.heap.size wp w46 from bl_trans hb46 (by repeat (first | exact HB37.out | exact Below.refl _ _ | refine bl_drewN ?_ _)))
              clear hb46
              go_wp2_with fail
              refine ((HI5 _).out).mono ?_
              rintro e w' ⟨rfl, m47, rfl⟩
              go_wp2
              go_ret
              exact ⟨by simp [hs20], (bl_trans (u := wp) (by repeat (first | exact HB46.out | exact Below.refl _ _ | refine bl_drewN ?_ _)) HW.out)⟩
end Go.Proofs.Ytgbefdkldgihdaa
