/- The law FnWalkersMeet: its walk. -/
import Derived.Test.YtfnamahdofigaaaWMP
import Derived.Test.YtfnamahdofigaaaDRV
import Derived.Deep.Cut
import Derived.Deep.DeepCutAuto
import Derived.Deep.RegionHeld3
namespace Go.Proofs.Ytfnamahdofigaaa
open Go.RowKit
set_option linter.unusedVariables false
set_option linter.unusedSimpArgs false
attribute [local irreducible] Array.setIfInBounds
theorem reframe {P : Program} {c : Code} {Q : Exit → Act → World → Prop} {T : Array Value} {w : World} (h : ∀ T' : Array Value, T' = T → c.wp P Q ⟨T', []⟩ w) : c.wp P Q ⟨T, []⟩ w := h T rfl
theorem wp_cond_t {P : Program} {x y : Code} {c : Operand} {Q : Exit → Act → World → Prop} {a : Act} {w : World} (h : a.eval c = .bool true) (hx : x.wp P Q a w) : (Code.cond c x y).wp P Q a w := wp_cond_split h (fun _ => hx) (fun h => by cases h)
theorem wp_cond_f {P : Program} {x y : Code} {c : Operand} {Q : Exit → Act → World → Prop} {a : Act} {w : World} (h : a.eval c = .bool false) (hy : y.wp P Q a w) : (Code.cond c x y).wp P Q a w := wp_cond_split h (fun h => by cases h) (fun _ => hy)
theorem getq {T : Array Value} {k : Nat} {v : Value} (h : T[k]? = some v) (hh : k < T.size) : T[k]'hh = v := by
  rw [Array.getElem?_eq_getElem hh] at h
  exact Option.some.inj h
theorem putq {T : Array Value} {k : Nat} {v : Value} (hk : k < T.size) (h : ∀ hh : k < T.size, T[k]'hh = v) : T[k]? = some v := by
  rw [Array.getElem?_eq_getElem hk, h hk]
/-- two walkers lie as they came, and nothing old has changed -/
def Pair (w : World) (g : Nat) (h p s j q t : Int) (w' : World) : Prop := w'.cell? ⟨g, 0, none⟩ = some (.int .i64 h) ∧ w'.cell? ⟨g, 1, none⟩ = some (.int .i64 p) ∧ w'.cell? ⟨g, 2, none⟩ = some (.int .i64 s) ∧ w'.cell? ⟨g + 1, 0, none⟩ = some (.int .i64 j) ∧ w'.cell? ⟨g + 1, 1, none⟩ = some (.int .i64 q) ∧ w'.cell? ⟨g + 1, 2, none⟩ = some (.int .i64 t) ∧ g + 1 < w'.heap.size ∧ Below w.heap.size w w'
theorem Pair.drewN {w u : World} {g : Nat} {h p s j q t : Int} (h4 : Pair w g h p s j q t u) (n : Nat) : Pair w g h p s j q t (u.drewN n) := by
  obtain ⟨a1, a2, a3, a4, a5, a6, hz, hb⟩ := h4
  exact ⟨a1, a2, a3, a4, a5, a6, hz, below_drewN hb n⟩
theorem Pair.after {w u v : World} {g : Nat} {h p s j q t : Int} (h4 : Pair w g h p s j q t u) (hb : Below u.heap.size u v) : Pair w g h p s j q t v := by
  obtain ⟨a1, a2, a3, a4, a5, a6, hz, hbl⟩ := h4
  exact ⟨cell_after hb (by omega) a1, cell_after hb (by omega) a2, cell_after hb (by omega) a3, cell_after hb (by omega) a4, cell_after hb (by omega) a5, cell_after hb (by omega) a6, size_after hb hz, bl_trans hb hbl⟩
theorem Pair.bl {w u : World} {g : Nat} {h p s j q t : Int} (h4 : Pair w g h p s j q t u) : Below w.heap.size w u := by
  obtain ⟨a1, a2, a3, a4, a5, a6, hz, hbl⟩ := h4
  exact hbl
def OneB (e : Ending) : Prop := ∃ r : Bool, e = .returned (.bool r)
set_option maxHeartbeats 1000000 in
theorem big_any (v u : Value) (w : World) (h : Bytes w w.heap.size v) (k : Bytes w w.heap.size u) :
    Calls Try.prog 5 #[v, u] w fun e w' => OneB e ∧ w = w' := by
  obtain ⟨a, n, c, rfl, hn⟩ := h.shape
  obtain ⟨a', n', c', rfl, hn'⟩ := k.shape
  clear h k
  go_enter Try.func5, Try.ntmps5
  go_wp2
  all_goals (go_ret; exact ⟨⟨_, rfl⟩, rfl⟩)
set_option maxHeartbeats 8000000 in
set_option maxRecDepth 100000 in
theorem meet_drawn (Y0 Y1 : Value) (w : World) (h0 : Bytes w w.heap.size Y0) (h1 : Bytes w w.heap.size Y1) :
    Calls Try.prog 3 #[Y0, Y1] w fun e w' => e = .returned (.bool true) ∧ Below w.heap.size w w' := by
  go_enter Try.func3, Try.ntmps3
  refine reframe fun T1 hT => ?_
  have hs1 : T1.size = 642 := by rw [hT]; rfl
  have f1000_1 : ∀ hh : 0 < T1.size, T1[0]'hh = Y0 := by subst hT; intro hh; rfl
  have f1001_1 : ∀ hh : 1 < T1.size, T1[1]'hh = Y1 := by subst hT; intro hh; rfl
  have q1000_1 := putq (by rw [hs1]; decide) f1000_1
  have q1001_1 := putq (by rw [hs1]; decide) f1001_1
  clear hT
  have H0 := Lib.hid h0
  have H1 := Lib.hid h1
  clear h0 h1
  go_wp2_with fail
  refine (big_any _ _ _ H0.out H1.out).mono ?_
  rintro e w' ⟨⟨r, rfl⟩, rfl⟩
  go_wp2_with fail
  cases r
  case true =>
    refine wp_cond_t ?_ ?_
    · (go_simp <;> omega)
    go_wp2
    go_ret
    exact ⟨by simp [hs1], Below.refl _ _⟩
  refine wp_cond_f ?_ ?_
  · go_simp
  go_wp2_with fail
  refine (DrawTipsMeet_any _ _ H0.out).mono ?_
  rintro e w1 ⟨l, h, p, s, j, q, t, rfl, hb1⟩
  have HB1 := Lib.hid hb1
  have hz1 := hb1.size
  clear hb1
  obtain ⟨r1, r2, r3, r4, v1, v2, OK, ON, KA, KB, HA1, HA2, HC1, HC2, HW1, HW2, FA, FC, FS⟩ := pack_A l h p s j q t
  go_wp2_with fail
  refine ((HA1 _).out).mono ?_
  rintro e w2 ⟨rfl, hb_⟩
  have HF2 := Lib.hid (Pair.after (w := w) (g := w1.heap.size) (h := h) (p := p) (s := s) (j := j) (q := q) (t := t) (by exact ⟨by simp [go_sem], by simp [go_sem], by simp [go_sem], by simp [go_sem], by simp [go_sem], by simp [go_sem], by simp, by repeat (first | exact HB1.out | refine bl_alloc ?_ _ | refine bl_set ?_ (by first | omega | (simp; done) | (simp; omega)) _)⟩) hb_)
  clear hb_
  generalize w1.heap.size = g at *
  obtain ⟨c00, c01, c02, c10, c11, c12, hz, hbl⟩ := HF2.out
  clear hbl
  go_wp2_with fail
  refine ((HA2 _).out).mono ?_
  rintro e w11 ⟨rfl, hb_⟩
  have HFw11 := Lib.hid (Pair.after HF2.out hb_)
  clear hb_ hz c00 c01 c02 c10 c11 c12
  obtain ⟨c00, c01, c02, c10, c11, c12, hz, hbl⟩ := HFw11.out
  clear hbl
  go_wp2_with fail
  refine ((HC1 _).out).mono ?_
  rintro e w12 ⟨rfl, hb_⟩
  have HFw12 := Lib.hid (Pair.after HFw11.out hb_)
  clear hb_ hz c00 c01 c02 c10 c11 c12
  obtain ⟨c00, c01, c02, c10, c11, c12, hz, hbl⟩ := HFw12.out
  clear hbl
  go_wp2_with fail
  refine ((HC2 _).out).mono ?_
  rintro e w13 ⟨rfl, hb_⟩
  have HFw13 := Lib.hid (Pair.after HFw12.out hb_)
  clear hb_ hz c00 c01 c02 c10 c11 c12
  obtain ⟨c00, c01, c02, c10, c11, c12, hz, hbl⟩ := HFw13.out
  clear hbl
  go_upto_region 8 with fail
  refine reframe fun T2 hT => ?_
  have hs2 : T2.size = 642 := by subst hT; simp [hs1]
  have q0_2 : T2[5]? = some (.int .i64 l) := by subst hT; exact (by first | (simp only [↓Array.getElem?_setIfInBounds_ne, ne_eq, Nat.reduceEqDiff, not_false_eq_true]; done) | simp [hs1, f1000_1, f1001_1])
  have f0_2 := fun hh => getq q0_2 hh
  have q13_2 : T2[6]? = some (.pointer (some ⟨g, 0, none⟩)) := by subst hT; exact (by first | (simp only [↓Array.getElem?_setIfInBounds_ne, ne_eq, Nat.reduceEqDiff, not_false_eq_true]; done) | simp [hs1, f1000_1, f1001_1])
  have f13_2 := fun hh => getq q13_2 hh
  have q14_2 : T2[7]? = some (.pointer (some ⟨g + 1, 0, none⟩)) := by subst hT; exact (by first | (simp only [↓Array.getElem?_setIfInBounds_ne, ne_eq, Nat.reduceEqDiff, not_false_eq_true]; done) | simp [hs1, f1000_1, f1001_1])
  have f14_2 := fun hh => getq q14_2 hh
  have q1001_2 : T2[1]? = some (Y1) := by subst hT; exact (by first | (simp only [↓Array.getElem?_setIfInBounds_ne, ne_eq, Nat.reduceEqDiff, not_false_eq_true, q1001_1]; done) | simp [hs1, f1000_1, f1001_1])
  have f1001_2 := fun hh => getq q1001_2 hh
  have q25_2 : T2[8]? = some (.int .i64 r1) := by subst hT; exact (by first | (simp only [↓Array.getElem?_setIfInBounds_ne, ne_eq, Nat.reduceEqDiff, not_false_eq_true]; done) | simp [hs1, f1000_1, f1001_1])
  have f25_2 := fun hh => getq q25_2 hh
  have q26_2 : T2[9]? = some (.int .i64 r2) := by subst hT; exact (by first | (simp only [↓Array.getElem?_setIfInBounds_ne, ne_eq, Nat.reduceEqDiff, not_false_eq_true]; done) | simp [hs1, f1000_1, f1001_1])
  have f26_2 := fun hh => getq q26_2 hh
  have q29_2 : T2[12]? = some (.bool OK) := by subst hT; exact (by first | (simp only [↓Array.getElem?_setIfInBounds_ne, ne_eq, Nat.reduceEqDiff, not_false_eq_true]; done) | simp [hs1, f1000_1, f1001_1])
  have f29_2 := fun hh => getq q29_2 hh
  have q35_2 : T2[18]? = some (.int .i64 v1) := by subst hT; exact (by first | (simp only [↓Array.getElem?_setIfInBounds_ne, ne_eq, Nat.reduceEqDiff, not_false_eq_true]; done) | simp [hs1, f1000_1, f1001_1])
  have f35_2 := fun hh => getq q35_2 hh
  have q36_2 : T2[19]? = some (.int .i64 v2) := by subst hT; exact (by first | (simp only [↓Array.getElem?_setIfInBounds_ne, ne_eq, Nat.reduceEqDiff, not_false_eq_true]; done) | simp [hs1, f1000_1, f1001_1])
  have f36_2 := fun hh => getq q36_2 hh
  have q37_2 : T2[20]? = some (.bool ON) := by subst hT; exact (by first | (simp only [↓Array.getElem?_setIfInBounds_ne, ne_eq, Nat.reduceEqDiff, not_false_eq_true]; done) | simp [hs1, f1000_1, f1001_1])
  have f37_2 := fun hh => getq q37_2 hh
  have q27_2 : T2[10]? = some (.int .i64 r3) := by subst hT; exact (by first | (simp only [↓Array.getElem?_setIfInBounds_ne, ne_eq, Nat.reduceEqDiff, not_false_eq_true]; done) | simp [hs1, f1000_1, f1001_1])
  have f27_2 := fun hh => getq q27_2 hh
  have q28_2 : T2[11]? = some (.int .i64 r4) := by subst hT; exact (by first | (simp only [↓Array.getElem?_setIfInBounds_ne, ne_eq, Nat.reduceEqDiff, not_false_eq_true]; done) | simp [hs1, f1000_1, f1001_1])
  have f28_2 := fun hh => getq q28_2 hh
  have q30_2 : T2[13]? = some (.int .i64 r1) := by subst hT; exact (by first | (simp only [↓Array.getElem?_setIfInBounds_ne, ne_eq, Nat.reduceEqDiff, not_false_eq_true]; done) | simp [hs1, f1000_1, f1001_1])
  have f30_2 := fun hh => getq q30_2 hh
  have q31_2 : T2[14]? = some (.int .i64 r2) := by subst hT; exact (by first | (simp only [↓Array.getElem?_setIfInBounds_ne, ne_eq, Nat.reduceEqDiff, not_false_eq_true]; done) | simp [hs1, f1000_1, f1001_1])
  have f31_2 := fun hh => getq q31_2 hh
  have q32_2 : T2[15]? = some (.int .i64 r3) := by subst hT; exact (by first | (simp only [↓Array.getElem?_setIfInBounds_ne, ne_eq, Nat.reduceEqDiff, not_false_eq_true]; done) | simp [hs1, f1000_1, f1001_1])
  have f32_2 := fun hh => getq q32_2 hh
  have q33_2 : T2[16]? = some (.int .i64 r4) := by subst hT; exact (by first | (simp only [↓Array.getElem?_setIfInBounds_ne, ne_eq, Nat.reduceEqDiff, not_false_eq_true]; done) | simp [hs1, f1000_1, f1001_1])
  have f33_2 := fun hh => getq q33_2 hh
  have q34_2 : T2[17]? = some (.bool OK) := by subst hT; exact (by first | (simp only [↓Array.getElem?_setIfInBounds_ne, ne_eq, Nat.reduceEqDiff, not_false_eq_true]; done) | simp [hs1, f1000_1, f1001_1])
  have f34_2 := fun hh => getq q34_2 hh
  have q38_2 : T2[21]? = some (.int .i64 v1) := by subst hT; exact (by first | (simp only [↓Array.getElem?_setIfInBounds_ne, ne_eq, Nat.reduceEqDiff, not_false_eq_true]; done) | simp [hs1, f1000_1, f1001_1])
  have f38_2 := fun hh => getq q38_2 hh
  have q39_2 : T2[22]? = some (.int .i64 v2) := by subst hT; exact (by first | (simp only [↓Array.getElem?_setIfInBounds_ne, ne_eq, Nat.reduceEqDiff, not_false_eq_true]; done) | simp [hs1, f1000_1, f1001_1])
  have f39_2 := fun hh => getq q39_2 hh
  have q40_2 : T2[23]? = some (.bool ON) := by subst hT; exact (by first | (simp only [↓Array.getElem?_setIfInBounds_ne, ne_eq, Nat.reduceEqDiff, not_false_eq_true]; done) | simp [hs1, f1000_1, f1001_1])
  have f40_2 := fun hh => getq q40_2 hh
  clear hT f1001_1 f1000_1 hs1 q1000_1 q1001_1
  go_wp2_with fail
  refine wp_cond_f ?_ ?_
  · go_simp
  go_wp2_with fail
  have HF := Lib.hid (HFw13.out)
  refine wp_cut (fun a' wx => ∃ T : Array Value, a' = ⟨T, []⟩ ∧ T.size = 642 ∧ T[5]? = some (.int .i64 l) ∧ T[6]? = some (.pointer (some ⟨g, 0, none⟩)) ∧ T[7]? = some (.pointer (some ⟨g + 1, 0, none⟩)) ∧ T[1]? = some (Y1) ∧ T[8]? = some (.int .i64 r1) ∧ T[9]? = some (.int .i64 r2) ∧ T[12]? = some (.bool OK) ∧ T[18]? = some (.int .i64 v1) ∧ T[19]? = some (.int .i64 v2) ∧ T[20]? = some (.bool ON) ∧ Pair w g h p s j q t wx) ?rest ?first
  case first =>
    intro J K' hJ hK
    clear HA1 HA2 HC1 HC2 HW1 HW2  FC FS
    cases OK
    · refine wp_cond_f ?_ ?_
      · go_simp
      go_wp2_with fail
      refine Met.intro (hJ _ _ ⟨_, rfl, by simp [hs2], by first | (simp only [↓Array.getElem?_setIfInBounds_ne, ne_eq, Nat.reduceEqDiff, not_false_eq_true, q0_2]; done) | simp [hs2, f0_2, f13_2, f14_2, f1001_2, f25_2, f26_2, f29_2, f35_2, f36_2, f37_2, f27_2, f28_2, f30_2, f31_2, f32_2, f33_2, f34_2, f38_2, f39_2, f40_2], by first | (simp only [↓Array.getElem?_setIfInBounds_ne, ne_eq, Nat.reduceEqDiff, not_false_eq_true, q13_2]; done) | simp [hs2, f0_2, f13_2, f14_2, f1001_2, f25_2, f26_2, f29_2, f35_2, f36_2, f37_2, f27_2, f28_2, f30_2, f31_2, f32_2, f33_2, f34_2, f38_2, f39_2, f40_2], by first | (simp only [↓Array.getElem?_setIfInBounds_ne, ne_eq, Nat.reduceEqDiff, not_false_eq_true, q14_2]; done) | simp [hs2, f0_2, f13_2, f14_2, f1001_2, f25_2, f26_2, f29_2, f35_2, f36_2, f37_2, f27_2, f28_2, f30_2, f31_2, f32_2, f33_2, f34_2, f38_2, f39_2, f40_2], by first | (simp only [↓Array.getElem?_setIfInBounds_ne, ne_eq, Nat.reduceEqDiff, not_false_eq_true, q1001_2]; done) | simp [hs2, f0_2, f13_2, f14_2, f1001_2, f25_2, f26_2, f29_2, f35_2, f36_2, f37_2, f27_2, f28_2, f30_2, f31_2, f32_2, f33_2, f34_2, f38_2, f39_2, f40_2], by first | (simp only [↓Array.getElem?_setIfInBounds_ne, ne_eq, Nat.reduceEqDiff, not_false_eq_true, q25_2]; done) | simp [hs2, f0_2, f13_2, f14_2, f1001_2, f25_2, f26_2, f29_2, f35_2, f36_2, f37_2, f27_2, f28_2, f30_2, f31_2, f32_2, f33_2, f34_2, f38_2, f39_2, f40_2], by first | (simp only [↓Array.getElem?_setIfInBounds_ne, ne_eq, Nat.reduceEqDiff, not_false_eq_true, q26_2]; done) | simp [hs2, f0_2, f13_2, f14_2, f1001_2, f25_2, f26_2, f29_2, f35_2, f36_2, f37_2, f27_2, f28_2, f30_2, f31_2, f32_2, f33_2, f34_2, f38_2, f39_2, f40_2], by first | (simp only [↓Array.getElem?_setIfInBounds_ne, ne_eq, Nat.reduceEqDiff, not_false_eq_true, q29_2]; done) | simp [hs2, f0_2, f13_2, f14_2, f1001_2, f25_2, f26_2, f29_2, f35_2, f36_2, f37_2, f27_2, f28_2, f30_2, f31_2, f32_2, f33_2, f34_2, f38_2, f39_2, f40_2], by first | (simp only [↓Array.getElem?_setIfInBounds_ne, ne_eq, Nat.reduceEqDiff, not_false_eq_true, q35_2]; done) | simp [hs2, f0_2, f13_2, f14_2, f1001_2, f25_2, f26_2, f29_2, f35_2, f36_2, f37_2, f27_2, f28_2, f30_2, f31_2, f32_2, f33_2, f34_2, f38_2, f39_2, f40_2], by first | (simp only [↓Array.getElem?_setIfInBounds_ne, ne_eq, Nat.reduceEqDiff, not_false_eq_true, q36_2]; done) | simp [hs2, f0_2, f13_2, f14_2, f1001_2, f25_2, f26_2, f29_2, f35_2, f36_2, f37_2, f27_2, f28_2, f30_2, f31_2, f32_2, f33_2, f34_2, f38_2, f39_2, f40_2], by first | (simp only [↓Array.getElem?_setIfInBounds_ne, ne_eq, Nat.reduceEqDiff, not_false_eq_true, q37_2]; done) | simp [hs2, f0_2, f13_2, f14_2, f1001_2, f25_2, f26_2, f29_2, f35_2, f36_2, f37_2, f27_2, f28_2, f30_2, f31_2, f32_2, f33_2, f34_2, f38_2, f39_2, f40_2], HF.out⟩)
    · obtain ⟨hM, ⟨l1, l2, h1, h2, j1, j2⟩, ⟨p1, p2, q1, q2⟩, ⟨s1', s2', t1, t2⟩, HB⟩ := FA rfl
      obtain ⟨d1, d2, m1, m2, x1, x2, y1, y2, g1, g2, a1, a2, b1, b2, e1_, e2_⟩ := hM.out
      clear FA hM
      have HY1 := fun W => Lib.hid (yLow_int m1 (by omega) d1 (by omega) g1 W)
      have HY2 := fun W => Lib.hid (yLow_int x1 (by omega) y1 (by omega) g2 W)
      clear g1 g2
      obtain ⟨u1, u2⟩ := mul_bd2 (a := p) (b := r2) (m := 500) (k := 100000) (by omega) (by omega) (by omega) (by omega)
      obtain ⟨u3, u4⟩ := mul_abs (a := s) (b := r1) (m := 50) (k := 100000) (by omega) (by omega) (by omega) (by omega)
      obtain ⟨u5, u6⟩ := mul_bd2 (a := q) (b := r2) (m := 500) (k := 100000) (by omega) (by omega) (by omega) (by omega)
      obtain ⟨u7, u8⟩ := mul_abs (a := t) (b := r1) (m := 50) (k := 100000) (by omega) (by omega) (by omega) (by omega)
      refine wp_cond_t ?_ ?_
      · go_simp
      go_upto_region 11 with fail
      refine reframe fun T3 hT => ?_
      have hs3 : T3.size = 642 := by subst hT; simp [hs2]
      have q0_3 : T3[5]? = some (.int .i64 l) := by subst hT; exact (by first | (simp only [↓Array.getElem?_setIfInBounds_ne, ne_eq, Nat.reduceEqDiff, not_false_eq_true, q0_2]; done) | simp [hs2, f0_2, f13_2, f14_2, f1001_2, f25_2, f26_2, f29_2, f35_2, f36_2, f37_2, f27_2, f28_2, f30_2, f31_2, f32_2, f33_2, f34_2, f38_2, f39_2, f40_2])
      have f0_3 := fun hh => getq q0_3 hh
      have q13_3 : T3[6]? = some (.pointer (some ⟨g, 0, none⟩)) := by subst hT; exact (by first | (simp only [↓Array.getElem?_setIfInBounds_ne, ne_eq, Nat.reduceEqDiff, not_false_eq_true, q13_2]; done) | simp [hs2, f0_2, f13_2, f14_2, f1001_2, f25_2, f26_2, f29_2, f35_2, f36_2, f37_2, f27_2, f28_2, f30_2, f31_2, f32_2, f33_2, f34_2, f38_2, f39_2, f40_2])
      have f13_3 := fun hh => getq q13_3 hh
      have q14_3 : T3[7]? = some (.pointer (some ⟨g + 1, 0, none⟩)) := by subst hT; exact (by first | (simp only [↓Array.getElem?_setIfInBounds_ne, ne_eq, Nat.reduceEqDiff, not_false_eq_true, q14_2]; done) | simp [hs2, f0_2, f13_2, f14_2, f1001_2, f25_2, f26_2, f29_2, f35_2, f36_2, f37_2, f27_2, f28_2, f30_2, f31_2, f32_2, f33_2, f34_2, f38_2, f39_2, f40_2])
      have f14_3 := fun hh => getq q14_3 hh
      have q1001_3 : T3[1]? = some (Y1) := by subst hT; exact (by first | (simp only [↓Array.getElem?_setIfInBounds_ne, ne_eq, Nat.reduceEqDiff, not_false_eq_true, q1001_2]; done) | simp [hs2, f0_2, f13_2, f14_2, f1001_2, f25_2, f26_2, f29_2, f35_2, f36_2, f37_2, f27_2, f28_2, f30_2, f31_2, f32_2, f33_2, f34_2, f38_2, f39_2, f40_2])
      have f1001_3 := fun hh => getq q1001_3 hh
      have q25_3 : T3[8]? = some (.int .i64 r1) := by subst hT; exact (by first | (simp only [↓Array.getElem?_setIfInBounds_ne, ne_eq, Nat.reduceEqDiff, not_false_eq_true, q25_2]; done) | simp [hs2, f0_2, f13_2, f14_2, f1001_2, f25_2, f26_2, f29_2, f35_2, f36_2, f37_2, f27_2, f28_2, f30_2, f31_2, f32_2, f33_2, f34_2, f38_2, f39_2, f40_2])
      have f25_3 := fun hh => getq q25_3 hh
      have q26_3 : T3[9]? = some (.int .i64 r2) := by subst hT; exact (by first | (simp only [↓Array.getElem?_setIfInBounds_ne, ne_eq, Nat.reduceEqDiff, not_false_eq_true, q26_2]; done) | simp [hs2, f0_2, f13_2, f14_2, f1001_2, f25_2, f26_2, f29_2, f35_2, f36_2, f37_2, f27_2, f28_2, f30_2, f31_2, f32_2, f33_2, f34_2, f38_2, f39_2, f40_2])
      have f26_3 := fun hh => getq q26_3 hh
      have q29_3 : T3[12]? = some (.bool true) := by subst hT; exact (by first | (simp only [↓Array.getElem?_setIfInBounds_ne, ne_eq, Nat.reduceEqDiff, not_false_eq_true, q29_2]; done) | simp [hs2, f0_2, f13_2, f14_2, f1001_2, f25_2, f26_2, f29_2, f35_2, f36_2, f37_2, f27_2, f28_2, f30_2, f31_2, f32_2, f33_2, f34_2, f38_2, f39_2, f40_2])
      have f29_3 := fun hh => getq q29_3 hh
      have q35_3 : T3[18]? = some (.int .i64 v1) := by subst hT; exact (by first | (simp only [↓Array.getElem?_setIfInBounds_ne, ne_eq, Nat.reduceEqDiff, not_false_eq_true, q35_2]; done) | simp [hs2, f0_2, f13_2, f14_2, f1001_2, f25_2, f26_2, f29_2, f35_2, f36_2, f37_2, f27_2, f28_2, f30_2, f31_2, f32_2, f33_2, f34_2, f38_2, f39_2, f40_2])
      have f35_3 := fun hh => getq q35_3 hh
      have q36_3 : T3[19]? = some (.int .i64 v2) := by subst hT; exact (by first | (simp only [↓Array.getElem?_setIfInBounds_ne, ne_eq, Nat.reduceEqDiff, not_false_eq_true, q36_2]; done) | simp [hs2, f0_2, f13_2, f14_2, f1001_2, f25_2, f26_2, f29_2, f35_2, f36_2, f37_2, f27_2, f28_2, f30_2, f31_2, f32_2, f33_2, f34_2, f38_2, f39_2, f40_2])
      have f36_3 := fun hh => getq q36_3 hh
      have q37_3 : T3[20]? = some (.bool ON) := by subst hT; exact (by first | (simp only [↓Array.getElem?_setIfInBounds_ne, ne_eq, Nat.reduceEqDiff, not_false_eq_true, q37_2]; done) | simp [hs2, f0_2, f13_2, f14_2, f1001_2, f25_2, f26_2, f29_2, f35_2, f36_2, f37_2, f27_2, f28_2, f30_2, f31_2, f32_2, f33_2, f34_2, f38_2, f39_2, f40_2])
      have f37_3 := fun hh => getq q37_3 hh
      have q27_3 : T3[10]? = some (.int .i64 r3) := by subst hT; exact (by first | (simp only [↓Array.getElem?_setIfInBounds_ne, ne_eq, Nat.reduceEqDiff, not_false_eq_true, q27_2]; done) | simp [hs2, f0_2, f13_2, f14_2, f1001_2, f25_2, f26_2, f29_2, f35_2, f36_2, f37_2, f27_2, f28_2, f30_2, f31_2, f32_2, f33_2, f34_2, f38_2, f39_2, f40_2])
      have f27_3 := fun hh => getq q27_3 hh
      have q28_3 : T3[11]? = some (.int .i64 r4) := by subst hT; exact (by first | (simp only [↓Array.getElem?_setIfInBounds_ne, ne_eq, Nat.reduceEqDiff, not_false_eq_true, q28_2]; done) | simp [hs2, f0_2, f13_2, f14_2, f1001_2, f25_2, f26_2, f29_2, f35_2, f36_2, f37_2, f27_2, f28_2, f30_2, f31_2, f32_2, f33_2, f34_2, f38_2, f39_2, f40_2])
      have f28_3 := fun hh => getq q28_3 hh
      clear hT f40_2 f39_2 f38_2 f34_2 f33_2 f32_2 f31_2 f30_2 f28_2 f27_2 f37_2 f36_2 f35_2 f29_2 f26_2 f25_2 f1001_2 f14_2 f13_2 f0_2 hs2 q0_2 q13_2 q14_2 q1001_2 q25_2 q26_2 q29_2 q35_2 q36_2 q37_2 q27_2 q28_2 q30_2 q31_2 q32_2 q33_2 q34_2 q38_2 q39_2 q40_2
      go_quiet (fail)
      have w1_ : IntKind.i64.wrap (p * r2) = p * r2 := IntWalk.i64_in _ ⟨by omega, by omega⟩
      have w2_ : IntKind.i64.wrap (s * r1) = s * r1 := IntWalk.i64_in _ ⟨by omega, by omega⟩
      have w3_ : IntKind.i64.wrap (p * r2 + s * r1) = p * r2 + s * r1 := IntWalk.i64_in _ ⟨by omega, by omega⟩
      have w4_ : IntKind.i64.wrap (q * r2) = q * r2 := IntWalk.i64_in _ ⟨by omega, by omega⟩
      have w5_ : IntKind.i64.wrap (t * r1) = t * r1 := IntWalk.i64_in _ ⟨by omega, by omega⟩
      have w6_ : IntKind.i64.wrap (q * r2 + t * r1) = q * r2 + t * r1 := IntWalk.i64_in _ ⟨by omega, by omega⟩
      go_upto_region 12 with fail
      refine reframe fun T4 hT => ?_
      have hs4 : T4.size = 642 := by subst hT; simp [hs3]
      have q0_4 : T4[5]? = some (.int .i64 l) := by subst hT; exact (by first | (simp only [↓Array.getElem?_setIfInBounds_ne, ne_eq, Nat.reduceEqDiff, not_false_eq_true, q0_3]; done) | simp [hs3, f0_3, f13_3, f14_3, f1001_3, f25_3, f26_3, f29_3, f35_3, f36_3, f37_3, f27_3, f28_3, w1_, w2_, w3_, w4_, w5_, w6_])
      have f0_4 := fun hh => getq q0_4 hh
      have q13_4 : T4[6]? = some (.pointer (some ⟨g, 0, none⟩)) := by subst hT; exact (by first | (simp only [↓Array.getElem?_setIfInBounds_ne, ne_eq, Nat.reduceEqDiff, not_false_eq_true, q13_3]; done) | simp [hs3, f0_3, f13_3, f14_3, f1001_3, f25_3, f26_3, f29_3, f35_3, f36_3, f37_3, f27_3, f28_3, w1_, w2_, w3_, w4_, w5_, w6_])
      have f13_4 := fun hh => getq q13_4 hh
      have q14_4 : T4[7]? = some (.pointer (some ⟨g + 1, 0, none⟩)) := by subst hT; exact (by first | (simp only [↓Array.getElem?_setIfInBounds_ne, ne_eq, Nat.reduceEqDiff, not_false_eq_true, q14_3]; done) | simp [hs3, f0_3, f13_3, f14_3, f1001_3, f25_3, f26_3, f29_3, f35_3, f36_3, f37_3, f27_3, f28_3, w1_, w2_, w3_, w4_, w5_, w6_])
      have f14_4 := fun hh => getq q14_4 hh
      have q1001_4 : T4[1]? = some (Y1) := by subst hT; exact (by first | (simp only [↓Array.getElem?_setIfInBounds_ne, ne_eq, Nat.reduceEqDiff, not_false_eq_true, q1001_3]; done) | simp [hs3, f0_3, f13_3, f14_3, f1001_3, f25_3, f26_3, f29_3, f35_3, f36_3, f37_3, f27_3, f28_3, w1_, w2_, w3_, w4_, w5_, w6_])
      have f1001_4 := fun hh => getq q1001_4 hh
      have q25_4 : T4[8]? = some (.int .i64 r1) := by subst hT; exact (by first | (simp only [↓Array.getElem?_setIfInBounds_ne, ne_eq, Nat.reduceEqDiff, not_false_eq_true, q25_3]; done) | simp [hs3, f0_3, f13_3, f14_3, f1001_3, f25_3, f26_3, f29_3, f35_3, f36_3, f37_3, f27_3, f28_3, w1_, w2_, w3_, w4_, w5_, w6_])
      have f25_4 := fun hh => getq q25_4 hh
      have q26_4 : T4[9]? = some (.int .i64 r2) := by subst hT; exact (by first | (simp only [↓Array.getElem?_setIfInBounds_ne, ne_eq, Nat.reduceEqDiff, not_false_eq_true, q26_3]; done) | simp [hs3, f0_3, f13_3, f14_3, f1001_3, f25_3, f26_3, f29_3, f35_3, f36_3, f37_3, f27_3, f28_3, w1_, w2_, w3_, w4_, w5_, w6_])
      have f26_4 := fun hh => getq q26_4 hh
      have q29_4 : T4[12]? = some (.bool true) := by subst hT; exact (by first | (simp only [↓Array.getElem?_setIfInBounds_ne, ne_eq, Nat.reduceEqDiff, not_false_eq_true, q29_3]; done) | simp [hs3, f0_3, f13_3, f14_3, f1001_3, f25_3, f26_3, f29_3, f35_3, f36_3, f37_3, f27_3, f28_3, w1_, w2_, w3_, w4_, w5_, w6_])
      have f29_4 := fun hh => getq q29_4 hh
      have q35_4 : T4[18]? = some (.int .i64 v1) := by subst hT; exact (by first | (simp only [↓Array.getElem?_setIfInBounds_ne, ne_eq, Nat.reduceEqDiff, not_false_eq_true, q35_3]; done) | simp [hs3, f0_3, f13_3, f14_3, f1001_3, f25_3, f26_3, f29_3, f35_3, f36_3, f37_3, f27_3, f28_3, w1_, w2_, w3_, w4_, w5_, w6_])
      have f35_4 := fun hh => getq q35_4 hh
      have q36_4 : T4[19]? = some (.int .i64 v2) := by subst hT; exact (by first | (simp only [↓Array.getElem?_setIfInBounds_ne, ne_eq, Nat.reduceEqDiff, not_false_eq_true, q36_3]; done) | simp [hs3, f0_3, f13_3, f14_3, f1001_3, f25_3, f26_3, f29_3, f35_3, f36_3, f37_3, f27_3, f28_3, w1_, w2_, w3_, w4_, w5_, w6_])
      have f36_4 := fun hh => getq q36_4 hh
      have q37_4 : T4[20]? = some (.bool ON) := by subst hT; exact (by first | (simp only [↓Array.getElem?_setIfInBounds_ne, ne_eq, Nat.reduceEqDiff, not_false_eq_true, q37_3]; done) | simp [hs3, f0_3, f13_3, f14_3, f1001_3, f25_3, f26_3, f29_3, f35_3, f36_3, f37_3, f27_3, f28_3, w1_, w2_, w3_, w4_, w5_, w6_])
      have f37_4 := fun hh => getq q37_4 hh
      have q27_4 : T4[10]? = some (.int .i64 r3) := by subst hT; exact (by first | (simp only [↓Array.getElem?_setIfInBounds_ne, ne_eq, Nat.reduceEqDiff, not_false_eq_true, q27_3]; done) | simp [hs3, f0_3, f13_3, f14_3, f1001_3, f25_3, f26_3, f29_3, f35_3, f36_3, f37_3, f27_3, f28_3, w1_, w2_, w3_, w4_, w5_, w6_])
      have f27_4 := fun hh => getq q27_4 hh
      have q28_4 : T4[11]? = some (.int .i64 r4) := by subst hT; exact (by first | (simp only [↓Array.getElem?_setIfInBounds_ne, ne_eq, Nat.reduceEqDiff, not_false_eq_true, q28_3]; done) | simp [hs3, f0_3, f13_3, f14_3, f1001_3, f25_3, f26_3, f29_3, f35_3, f36_3, f37_3, f27_3, f28_3, w1_, w2_, w3_, w4_, w5_, w6_])
      have f28_4 := fun hh => getq q28_4 hh
      have q41_4 : T4[24]? = some (.int .i64 (p * r2 + s * r1)) := by subst hT; exact (by first | (simp only [↓Array.getElem?_setIfInBounds_ne, ne_eq, Nat.reduceEqDiff, not_false_eq_true]; done) | simp [hs3, f0_3, f13_3, f14_3, f1001_3, f25_3, f26_3, f29_3, f35_3, f36_3, f37_3, f27_3, f28_3, w1_, w2_, w3_, w4_, w5_, w6_])
      have f41_4 := fun hh => getq q41_4 hh
      have q42_4 : T4[25]? = some (.int .i64 (q * r2 + t * r1)) := by subst hT; exact (by first | (simp only [↓Array.getElem?_setIfInBounds_ne, ne_eq, Nat.reduceEqDiff, not_false_eq_true]; done) | simp [hs3, f0_3, f13_3, f14_3, f1001_3, f25_3, f26_3, f29_3, f35_3, f36_3, f37_3, f27_3, f28_3, w1_, w2_, w3_, w4_, w5_, w6_])
      have f42_4 := fun hh => getq q42_4 hh
      clear hT f28_3 f27_3 f37_3 f36_3 f35_3 f29_3 f26_3 f25_3 f1001_3 f14_3 f13_3 f0_3 hs3 q0_3 q13_3 q14_3 q1001_3 q25_3 q26_3 q29_3 q35_3 q36_3 q37_3 q27_3 q28_3
      clear w1_ w2_ w3_ w4_ w5_ w6_
      generalize p * r2 + s * r1 = P at *
      generalize q * r2 + t * r1 = Q at *
      clear u1 u2 u3 u4 u5 u6 u7 u8
      have a3 : ¬ P < 0 := by omega
      have b3 : ¬ Q < 0 := by omega
      obtain ⟨z1, z2⟩ := mul_bd2 (a := P) (b := l) (m := 60000000) (k := 200) (by omega) (by omega) (by omega) (by omega)
      obtain ⟨z3, z4⟩ := mul_bd2 (a := P * l) (b := r4) (m := 12000000000) (k := 20000000) (by omega) (by omega) (by omega) (by omega)
      obtain ⟨z5, z6⟩ := mul_bd2 (a := Q) (b := l) (m := 60000000) (k := 200) (by omega) (by omega) (by omega) (by omega)
      obtain ⟨z7, z8⟩ := mul_bd2 (a := Q * l) (b := r4) (m := 12000000000) (k := 20000000) (by omega) (by omega) (by omega) (by omega)
      obtain ⟨z9, z10⟩ := mul_bd2 (a := r3) (b := r2) (m := 100000000000) (k := 100000) (by omega) (by omega) (by omega) (by omega)
      obtain ⟨z11, z12⟩ := mul_bd2 (a := r3 * r2) (b := l - h) (m := 10000000000000000) (k := 200) (by omega) (by omega) (by omega) (by omega)
      obtain ⟨z13, z14⟩ := mul_bd2 (a := r3 * r2) (b := l - j) (m := 10000000000000000) (k := 200) (by omega) (by omega) (by omega) (by omega)
      go_wp2_with fail
      refine ((HY1 _).out).mono ?_
      rintro e w' ⟨rfl, nA, rfl⟩
      go_wp2_with fail
      refine ((HY2 _).out).mono ?_
      rintro e w' ⟨rfl, nB, rfl⟩
      go_wp2_with fail
      clear z1 z2 z3 z4 z5 z6 z7 z8 z9 z10 z11 z12 z13 z14
      refine wp_cond_f ?_ ?_
      · go_simp
      go_upto_region 14 with fail
      refine reframe fun T5 hT => ?_
      have hs5 : T5.size = 642 := by subst hT; simp [hs4]
      have q0_5 : T5[5]? = some (.int .i64 l) := by subst hT; exact (by first | (simp only [↓Array.getElem?_setIfInBounds_ne, ne_eq, Nat.reduceEqDiff, not_false_eq_true, q0_4]; done) | simp [hs4, f0_4, f13_4, f14_4, f1001_4, f25_4, f26_4, f29_4, f35_4, f36_4, f37_4, f27_4, f28_4, f41_4, f42_4])
      have f0_5 := fun hh => getq q0_5 hh
      have q13_5 : T5[6]? = some (.pointer (some ⟨g, 0, none⟩)) := by subst hT; exact (by first | (simp only [↓Array.getElem?_setIfInBounds_ne, ne_eq, Nat.reduceEqDiff, not_false_eq_true, q13_4]; done) | simp [hs4, f0_4, f13_4, f14_4, f1001_4, f25_4, f26_4, f29_4, f35_4, f36_4, f37_4, f27_4, f28_4, f41_4, f42_4])
      have f13_5 := fun hh => getq q13_5 hh
      have q14_5 : T5[7]? = some (.pointer (some ⟨g + 1, 0, none⟩)) := by subst hT; exact (by first | (simp only [↓Array.getElem?_setIfInBounds_ne, ne_eq, Nat.reduceEqDiff, not_false_eq_true, q14_4]; done) | simp [hs4, f0_4, f13_4, f14_4, f1001_4, f25_4, f26_4, f29_4, f35_4, f36_4, f37_4, f27_4, f28_4, f41_4, f42_4])
      have f14_5 := fun hh => getq q14_5 hh
      have q1001_5 : T5[1]? = some (Y1) := by subst hT; exact (by first | (simp only [↓Array.getElem?_setIfInBounds_ne, ne_eq, Nat.reduceEqDiff, not_false_eq_true, q1001_4]; done) | simp [hs4, f0_4, f13_4, f14_4, f1001_4, f25_4, f26_4, f29_4, f35_4, f36_4, f37_4, f27_4, f28_4, f41_4, f42_4])
      have f1001_5 := fun hh => getq q1001_5 hh
      have q25_5 : T5[8]? = some (.int .i64 r1) := by subst hT; exact (by first | (simp only [↓Array.getElem?_setIfInBounds_ne, ne_eq, Nat.reduceEqDiff, not_false_eq_true, q25_4]; done) | simp [hs4, f0_4, f13_4, f14_4, f1001_4, f25_4, f26_4, f29_4, f35_4, f36_4, f37_4, f27_4, f28_4, f41_4, f42_4])
      have f25_5 := fun hh => getq q25_5 hh
      have q26_5 : T5[9]? = some (.int .i64 r2) := by subst hT; exact (by first | (simp only [↓Array.getElem?_setIfInBounds_ne, ne_eq, Nat.reduceEqDiff, not_false_eq_true, q26_4]; done) | simp [hs4, f0_4, f13_4, f14_4, f1001_4, f25_4, f26_4, f29_4, f35_4, f36_4, f37_4, f27_4, f28_4, f41_4, f42_4])
      have f26_5 := fun hh => getq q26_5 hh
      have q29_5 : T5[12]? = some (.bool true) := by subst hT; exact (by first | (simp only [↓Array.getElem?_setIfInBounds_ne, ne_eq, Nat.reduceEqDiff, not_false_eq_true, q29_4]; done) | simp [hs4, f0_4, f13_4, f14_4, f1001_4, f25_4, f26_4, f29_4, f35_4, f36_4, f37_4, f27_4, f28_4, f41_4, f42_4])
      have f29_5 := fun hh => getq q29_5 hh
      have q35_5 : T5[18]? = some (.int .i64 v1) := by subst hT; exact (by first | (simp only [↓Array.getElem?_setIfInBounds_ne, ne_eq, Nat.reduceEqDiff, not_false_eq_true, q35_4]; done) | simp [hs4, f0_4, f13_4, f14_4, f1001_4, f25_4, f26_4, f29_4, f35_4, f36_4, f37_4, f27_4, f28_4, f41_4, f42_4])
      have f35_5 := fun hh => getq q35_5 hh
      have q36_5 : T5[19]? = some (.int .i64 v2) := by subst hT; exact (by first | (simp only [↓Array.getElem?_setIfInBounds_ne, ne_eq, Nat.reduceEqDiff, not_false_eq_true, q36_4]; done) | simp [hs4, f0_4, f13_4, f14_4, f1001_4, f25_4, f26_4, f29_4, f35_4, f36_4, f37_4, f27_4, f28_4, f41_4, f42_4])
      have f36_5 := fun hh => getq q36_5 hh
      have q37_5 : T5[20]? = some (.bool ON) := by subst hT; exact (by first | (simp only [↓Array.getElem?_setIfInBounds_ne, ne_eq, Nat.reduceEqDiff, not_false_eq_true, q37_4]; done) | simp [hs4, f0_4, f13_4, f14_4, f1001_4, f25_4, f26_4, f29_4, f35_4, f36_4, f37_4, f27_4, f28_4, f41_4, f42_4])
      have f37_5 := fun hh => getq q37_5 hh
      have q27_5 : T5[10]? = some (.int .i64 r3) := by subst hT; exact (by first | (simp only [↓Array.getElem?_setIfInBounds_ne, ne_eq, Nat.reduceEqDiff, not_false_eq_true, q27_4]; done) | simp [hs4, f0_4, f13_4, f14_4, f1001_4, f25_4, f26_4, f29_4, f35_4, f36_4, f37_4, f27_4, f28_4, f41_4, f42_4])
      have f27_5 := fun hh => getq q27_5 hh
      have q28_5 : T5[11]? = some (.int .i64 r4) := by subst hT; exact (by first | (simp only [↓Array.getElem?_setIfInBounds_ne, ne_eq, Nat.reduceEqDiff, not_false_eq_true, q28_4]; done) | simp [hs4, f0_4, f13_4, f14_4, f1001_4, f25_4, f26_4, f29_4, f35_4, f36_4, f37_4, f27_4, f28_4, f41_4, f42_4])
      have f28_5 := fun hh => getq q28_5 hh
      clear hT f42_4 f41_4 f28_4 f27_4 f37_4 f36_4 f35_4 f29_4 f26_4 f25_4 f1001_4 f14_4 f13_4 f0_4 hs4 q0_4 q13_4 q14_4 q1001_4 q25_4 q26_4 q29_4 q35_4 q36_4 q37_4 q27_4 q28_4 q41_4 q42_4
      go_wp2_with fail
      refine ((HB _).out).mono ?_
      rintro e w5 ⟨rfl, hb5⟩
      have HF5 := Lib.hid (Pair.after (show Pair w g h p s j q t _ from (by repeat (first | exact HF.out | refine Pair.drewN ?_ _))) hb5)
      clear hb5
      go_wp2_with fail
      refine wp_cond_f ?_ ?_
      · go_simp
      go_wp2_with fail
      refine Met.intro (hJ _ _ ⟨_, rfl, by simp [hs5], by first | (simp only [↓Array.getElem?_setIfInBounds_ne, ne_eq, Nat.reduceEqDiff, not_false_eq_true, q0_5]; done) | simp [hs5, f0_5, f13_5, f14_5, f1001_5, f25_5, f26_5, f29_5, f35_5, f36_5, f37_5, f27_5, f28_5], by first | (simp only [↓Array.getElem?_setIfInBounds_ne, ne_eq, Nat.reduceEqDiff, not_false_eq_true, q13_5]; done) | simp [hs5, f0_5, f13_5, f14_5, f1001_5, f25_5, f26_5, f29_5, f35_5, f36_5, f37_5, f27_5, f28_5], by first | (simp only [↓Array.getElem?_setIfInBounds_ne, ne_eq, Nat.reduceEqDiff, not_false_eq_true, q14_5]; done) | simp [hs5, f0_5, f13_5, f14_5, f1001_5, f25_5, f26_5, f29_5, f35_5, f36_5, f37_5, f27_5, f28_5], by first | (simp only [↓Array.getElem?_setIfInBounds_ne, ne_eq, Nat.reduceEqDiff, not_false_eq_true, q1001_5]; done) | simp [hs5, f0_5, f13_5, f14_5, f1001_5, f25_5, f26_5, f29_5, f35_5, f36_5, f37_5, f27_5, f28_5], by first | (simp only [↓Array.getElem?_setIfInBounds_ne, ne_eq, Nat.reduceEqDiff, not_false_eq_true, q25_5]; done) | simp [hs5, f0_5, f13_5, f14_5, f1001_5, f25_5, f26_5, f29_5, f35_5, f36_5, f37_5, f27_5, f28_5], by first | (simp only [↓Array.getElem?_setIfInBounds_ne, ne_eq, Nat.reduceEqDiff, not_false_eq_true, q26_5]; done) | simp [hs5, f0_5, f13_5, f14_5, f1001_5, f25_5, f26_5, f29_5, f35_5, f36_5, f37_5, f27_5, f28_5], by first | (simp only [↓Array.getElem?_setIfInBounds_ne, ne_eq, Nat.reduceEqDiff, not_false_eq_true, q29_5]; done) | simp [hs5, f0_5, f13_5, f14_5, f1001_5, f25_5, f26_5, f29_5, f35_5, f36_5, f37_5, f27_5, f28_5], by first | (simp only [↓Array.getElem?_setIfInBounds_ne, ne_eq, Nat.reduceEqDiff, not_false_eq_true, q35_5]; done) | simp [hs5, f0_5, f13_5, f14_5, f1001_5, f25_5, f26_5, f29_5, f35_5, f36_5, f37_5, f27_5, f28_5], by first | (simp only [↓Array.getElem?_setIfInBounds_ne, ne_eq, Nat.reduceEqDiff, not_false_eq_true, q36_5]; done) | simp [hs5, f0_5, f13_5, f14_5, f1001_5, f25_5, f26_5, f29_5, f35_5, f36_5, f37_5, f27_5, f28_5], by first | (simp only [↓Array.getElem?_setIfInBounds_ne, ne_eq, Nat.reduceEqDiff, not_false_eq_true, q37_5]; done) | simp [hs5, f0_5, f13_5, f14_5, f1001_5, f25_5, f26_5, f29_5, f35_5, f36_5, f37_5, f27_5, f28_5], HF5.out⟩)
  case rest =>
    intro a' wc hR
    obtain ⟨T6, rfl, hs6, q0_6, q13_6, q14_6, q1001_6, q25_6, q26_6, q29_6, q35_6, q36_6, q37_6, h4⟩ := hR
    have f0_6 := fun hh => getq q0_6 hh
    have f13_6 := fun hh => getq q13_6 hh
    have f14_6 := fun hh => getq q14_6 hh
    have f1001_6 := fun hh => getq q1001_6 hh
    have f25_6 := fun hh => getq q25_6 hh
    have f26_6 := fun hh => getq q26_6 hh
    have f29_6 := fun hh => getq q29_6 hh
    have f35_6 := fun hh => getq q35_6 hh
    have f36_6 := fun hh => getq q36_6 hh
    have f37_6 := fun hh => getq q37_6 hh
    obtain ⟨c00, c01, c02, c10, c11, c12, hz, hbl⟩ := h4
    have HF := Lib.hid (show Pair w g h p s j q t wc from ⟨c00, c01, c02, c10, c11, c12, hz, hbl⟩)
    go_upto_region 17 with fail
    refine wp_cut (fun a' wx => ∃ T : Array Value, a' = ⟨T, []⟩ ∧ T.size = 642 ∧ T[5]? = some (.int .i64 l) ∧ T[6]? = some (.pointer (some ⟨g, 0, none⟩)) ∧ T[7]? = some (.pointer (some ⟨g + 1, 0, none⟩)) ∧ T[1]? = some (Y1) ∧ T[8]? = some (.int .i64 r1) ∧ T[9]? = some (.int .i64 r2) ∧ T[12]? = some (.bool OK) ∧ T[18]? = some (.int .i64 v1) ∧ T[19]? = some (.int .i64 v2) ∧ T[20]? = some (.bool ON) ∧ T[299]? = some (.bool false) ∧ Pair w g h p s j q t wx) ?rest2 ?first2
    case first2 =>
      intro J K' hJ hK
      clear HA1 HA2 HC1 HC2 HW1 HW2  FA FS
      cases ON
      · go_wp2_with fail
        all_goals refine Met.intro (hJ _ _ ⟨_, rfl, by simp [hs6], by first | (simp only [↓Array.getElem?_setIfInBounds_ne, ne_eq, Nat.reduceEqDiff, not_false_eq_true, q0_6]; done) | simp [hs6, f0_6, f13_6, f14_6, f1001_6, f25_6, f26_6, f29_6, f35_6, f36_6, f37_6], by first | (simp only [↓Array.getElem?_setIfInBounds_ne, ne_eq, Nat.reduceEqDiff, not_false_eq_true, q13_6]; done) | simp [hs6, f0_6, f13_6, f14_6, f1001_6, f25_6, f26_6, f29_6, f35_6, f36_6, f37_6], by first | (simp only [↓Array.getElem?_setIfInBounds_ne, ne_eq, Nat.reduceEqDiff, not_false_eq_true, q14_6]; done) | simp [hs6, f0_6, f13_6, f14_6, f1001_6, f25_6, f26_6, f29_6, f35_6, f36_6, f37_6], by first | (simp only [↓Array.getElem?_setIfInBounds_ne, ne_eq, Nat.reduceEqDiff, not_false_eq_true, q1001_6]; done) | simp [hs6, f0_6, f13_6, f14_6, f1001_6, f25_6, f26_6, f29_6, f35_6, f36_6, f37_6], by first | (simp only [↓Array.getElem?_setIfInBounds_ne, ne_eq, Nat.reduceEqDiff, not_false_eq_true, q25_6]; done) | simp [hs6, f0_6, f13_6, f14_6, f1001_6, f25_6, f26_6, f29_6, f35_6, f36_6, f37_6], by first | (simp only [↓Array.getElem?_setIfInBounds_ne, ne_eq, Nat.reduceEqDiff, not_false_eq_true, q26_6]; done) | simp [hs6, f0_6, f13_6, f14_6, f1001_6, f25_6, f26_6, f29_6, f35_6, f36_6, f37_6], by first | (simp only [↓Array.getElem?_setIfInBounds_ne, ne_eq, Nat.reduceEqDiff, not_false_eq_true, q29_6]; done) | simp [hs6, f0_6, f13_6, f14_6, f1001_6, f25_6, f26_6, f29_6, f35_6, f36_6, f37_6], by first | (simp only [↓Array.getElem?_setIfInBounds_ne, ne_eq, Nat.reduceEqDiff, not_false_eq_true, q35_6]; done) | simp [hs6, f0_6, f13_6, f14_6, f1001_6, f25_6, f26_6, f29_6, f35_6, f36_6, f37_6], by first | (simp only [↓Array.getElem?_setIfInBounds_ne, ne_eq, Nat.reduceEqDiff, not_false_eq_true, q36_6]; done) | simp [hs6, f0_6, f13_6, f14_6, f1001_6, f25_6, f26_6, f29_6, f35_6, f36_6, f37_6], by first | (simp only [↓Array.getElem?_setIfInBounds_ne, ne_eq, Nat.reduceEqDiff, not_false_eq_true, q37_6]; done) | simp [hs6, f0_6, f13_6, f14_6, f1001_6, f25_6, f26_6, f29_6, f35_6, f36_6, f37_6], by first | (simp only [↓Array.getElem?_setIfInBounds_ne, ne_eq, Nat.reduceEqDiff, not_false_eq_true]; done) | simp [hs6, f0_6, f13_6, f14_6, f1001_6, f25_6, f26_6, f29_6, f35_6, f36_6, f37_6], HF.out⟩)
      · obtain ⟨hM, ⟨p1, p2, q1, q2⟩, s1', s2', t1, t2⟩ := FC rfl
        obtain ⟨d1, d2, m1, m2, g1, a1, e1_⟩ := hM.out
        clear FC hM
        have HY1 := fun W => Lib.hid (yLow_int m1 (by omega) d1 (by omega) g1 W)
        clear g1
        obtain ⟨u1, u2⟩ := mul_bd2 (a := p) (b := v2) (m := 500) (k := 100) (by omega) (by omega) (by omega) (by omega)
        obtain ⟨u3, u4⟩ := mul_abs (a := s) (b := v1) (m := 50) (k := 500) (by omega) (by omega) (by omega) (by omega)
        obtain ⟨u5, u6⟩ := mul_bd2 (a := q) (b := v2) (m := 500) (k := 100) (by omega) (by omega) (by omega) (by omega)
        obtain ⟨u7, u8⟩ := mul_abs (a := t) (b := v1) (m := 50) (k := 500) (by omega) (by omega) (by omega) (by omega)
        have a3 : ¬ p * v2 + s * v1 < 0 := by omega
        have b3 : ¬ q * v2 + t * v1 < 0 := by omega
        go_wp2_with fail
        refine ((HY1 _).out).mono ?_
        rintro e w' ⟨rfl, nA, rfl⟩
        go_wp2_with fail
        have b4 : 0 ≤ q * v2 + t * v1 := by omega
        refine Met.intro (hJ _ _ ⟨_, rfl, by simp [hs6], by first | (simp only [↓Array.getElem?_setIfInBounds_ne, ne_eq, Nat.reduceEqDiff, not_false_eq_true, q0_6]; done) | simp [hs6, f0_6, f13_6, f14_6, f1001_6, f25_6, f26_6, f29_6, f35_6, f36_6, f37_6, m1, b4], by first | (simp only [↓Array.getElem?_setIfInBounds_ne, ne_eq, Nat.reduceEqDiff, not_false_eq_true, q13_6]; done) | simp [hs6, f0_6, f13_6, f14_6, f1001_6, f25_6, f26_6, f29_6, f35_6, f36_6, f37_6, m1, b4], by first | (simp only [↓Array.getElem?_setIfInBounds_ne, ne_eq, Nat.reduceEqDiff, not_false_eq_true, q14_6]; done) | simp [hs6, f0_6, f13_6, f14_6, f1001_6, f25_6, f26_6, f29_6, f35_6, f36_6, f37_6, m1, b4], by first | (simp only [↓Array.getElem?_setIfInBounds_ne, ne_eq, Nat.reduceEqDiff, not_false_eq_true, q1001_6]; done) | simp [hs6, f0_6, f13_6, f14_6, f1001_6, f25_6, f26_6, f29_6, f35_6, f36_6, f37_6, m1, b4], by first | (simp only [↓Array.getElem?_setIfInBounds_ne, ne_eq, Nat.reduceEqDiff, not_false_eq_true, q25_6]; done) | simp [hs6, f0_6, f13_6, f14_6, f1001_6, f25_6, f26_6, f29_6, f35_6, f36_6, f37_6, m1, b4], by first | (simp only [↓Array.getElem?_setIfInBounds_ne, ne_eq, Nat.reduceEqDiff, not_false_eq_true, q26_6]; done) | simp [hs6, f0_6, f13_6, f14_6, f1001_6, f25_6, f26_6, f29_6, f35_6, f36_6, f37_6, m1, b4], by first | (simp only [↓Array.getElem?_setIfInBounds_ne, ne_eq, Nat.reduceEqDiff, not_false_eq_true, q29_6]; done) | simp [hs6, f0_6, f13_6, f14_6, f1001_6, f25_6, f26_6, f29_6, f35_6, f36_6, f37_6, m1, b4], by first | (simp only [↓Array.getElem?_setIfInBounds_ne, ne_eq, Nat.reduceEqDiff, not_false_eq_true, q35_6]; done) | simp [hs6, f0_6, f13_6, f14_6, f1001_6, f25_6, f26_6, f29_6, f35_6, f36_6, f37_6, m1, b4], by first | (simp only [↓Array.getElem?_setIfInBounds_ne, ne_eq, Nat.reduceEqDiff, not_false_eq_true, q36_6]; done) | simp [hs6, f0_6, f13_6, f14_6, f1001_6, f25_6, f26_6, f29_6, f35_6, f36_6, f37_6, m1, b4], by first | (simp only [↓Array.getElem?_setIfInBounds_ne, ne_eq, Nat.reduceEqDiff, not_false_eq_true, q37_6]; done) | simp [hs6, f0_6, f13_6, f14_6, f1001_6, f25_6, f26_6, f29_6, f35_6, f36_6, f37_6, m1, b4], by first | (simp only [↓Array.getElem?_setIfInBounds_ne, ne_eq, Nat.reduceEqDiff, not_false_eq_true]; done) | simp [hs6, f0_6, f13_6, f14_6, f1001_6, f25_6, f26_6, f29_6, f35_6, f36_6, f37_6, m1, b4], (by repeat (first | exact HF.out | refine Pair.drewN ?_ _))⟩)
    case rest2 =>
      intro a' wc2 hR2
      obtain ⟨T7, rfl, hs7, q0_7, q13_7, q14_7, q1001_7, q25_7, q26_7, q29_7, q35_7, q36_7, q37_7, q298_7, h42⟩ := hR2
      have f0_7 := fun hh => getq q0_7 hh
      have f13_7 := fun hh => getq q13_7 hh
      have f14_7 := fun hh => getq q14_7 hh
      have f1001_7 := fun hh => getq q1001_7 hh
      have f25_7 := fun hh => getq q25_7 hh
      have f26_7 := fun hh => getq q26_7 hh
      have f29_7 := fun hh => getq q29_7 hh
      have f35_7 := fun hh => getq q35_7 hh
      have f36_7 := fun hh => getq q36_7 hh
      have f37_7 := fun hh => getq q37_7 hh
      have f298_7 := fun hh => getq q298_7 hh
      obtain ⟨c00, c01, c02, c10, c11, c12, hz, hbl⟩ := h42
      have HF := Lib.hid (show Pair w g h p s j q t wc2 from ⟨c00, c01, c02, c10, c11, c12, hz, hbl⟩)
      go_wp2_with fail
      refine wp_cond_f ?_ ?_
      · go_simp
      go_upto_region 19 with fail
      refine wp_cut (fun a' wx => ∃ T : Array Value, a' = ⟨T, []⟩ ∧ T.size = 642 ∧ T[5]? = some (.int .i64 l) ∧ T[6]? = some (.pointer (some ⟨g, 0, none⟩)) ∧ T[7]? = some (.pointer (some ⟨g + 1, 0, none⟩)) ∧ T[1]? = some (Y1) ∧ T[8]? = some (.int .i64 r1) ∧ T[9]? = some (.int .i64 r2) ∧ T[12]? = some (.bool OK) ∧ T[18]? = some (.int .i64 v1) ∧ T[19]? = some (.int .i64 v2) ∧ T[20]? = some (.bool ON) ∧ T[332]? = some (.bool false) ∧ Pair w g h p s j q t wx) ?rest3 ?first3
      case first3 =>
        intro J K' hJ hK
        clear HA1 HA2 HC1 HC2  FA FC hbl
        cases KA
        · go_wp2_with fail
          refine ((HW1 _).out).mono ?_
          rintro e w6 ⟨rfl, hb_⟩
          have HFw6 := Lib.hid (Pair.after HF.out hb_)
          obtain ⟨c00, c01, c02, c10, c11, c12, hz, hbl⟩ := HFw6.out
          clear hb_ hbl
          go_wp2_with fail
          all_goals refine Met.intro (hJ _ _ ⟨_, rfl, by simp [hs7], by first | (simp only [↓Array.getElem?_setIfInBounds_ne, ne_eq, Nat.reduceEqDiff, not_false_eq_true, q0_7]; done) | simp [hs7, f0_7, f13_7, f14_7, f1001_7, f25_7, f26_7, f29_7, f35_7, f36_7, f37_7, f298_7], by first | (simp only [↓Array.getElem?_setIfInBounds_ne, ne_eq, Nat.reduceEqDiff, not_false_eq_true, q13_7]; done) | simp [hs7, f0_7, f13_7, f14_7, f1001_7, f25_7, f26_7, f29_7, f35_7, f36_7, f37_7, f298_7], by first | (simp only [↓Array.getElem?_setIfInBounds_ne, ne_eq, Nat.reduceEqDiff, not_false_eq_true, q14_7]; done) | simp [hs7, f0_7, f13_7, f14_7, f1001_7, f25_7, f26_7, f29_7, f35_7, f36_7, f37_7, f298_7], by first | (simp only [↓Array.getElem?_setIfInBounds_ne, ne_eq, Nat.reduceEqDiff, not_false_eq_true, q1001_7]; done) | simp [hs7, f0_7, f13_7, f14_7, f1001_7, f25_7, f26_7, f29_7, f35_7, f36_7, f37_7, f298_7], by first | (simp only [↓Array.getElem?_setIfInBounds_ne, ne_eq, Nat.reduceEqDiff, not_false_eq_true, q25_7]; done) | simp [hs7, f0_7, f13_7, f14_7, f1001_7, f25_7, f26_7, f29_7, f35_7, f36_7, f37_7, f298_7], by first | (simp only [↓Array.getElem?_setIfInBounds_ne, ne_eq, Nat.reduceEqDiff, not_false_eq_true, q26_7]; done) | simp [hs7, f0_7, f13_7, f14_7, f1001_7, f25_7, f26_7, f29_7, f35_7, f36_7, f37_7, f298_7], by first | (simp only [↓Array.getElem?_setIfInBounds_ne, ne_eq, Nat.reduceEqDiff, not_false_eq_true, q29_7]; done) | simp [hs7, f0_7, f13_7, f14_7, f1001_7, f25_7, f26_7, f29_7, f35_7, f36_7, f37_7, f298_7], by first | (simp only [↓Array.getElem?_setIfInBounds_ne, ne_eq, Nat.reduceEqDiff, not_false_eq_true, q35_7]; done) | simp [hs7, f0_7, f13_7, f14_7, f1001_7, f25_7, f26_7, f29_7, f35_7, f36_7, f37_7, f298_7], by first | (simp only [↓Array.getElem?_setIfInBounds_ne, ne_eq, Nat.reduceEqDiff, not_false_eq_true, q36_7]; done) | simp [hs7, f0_7, f13_7, f14_7, f1001_7, f25_7, f26_7, f29_7, f35_7, f36_7, f37_7, f298_7], by first | (simp only [↓Array.getElem?_setIfInBounds_ne, ne_eq, Nat.reduceEqDiff, not_false_eq_true, q37_7]; done) | simp [hs7, f0_7, f13_7, f14_7, f1001_7, f25_7, f26_7, f29_7, f35_7, f36_7, f37_7, f298_7], by first | (simp only [↓Array.getElem?_setIfInBounds_ne, ne_eq, Nat.reduceEqDiff, not_false_eq_true]; done) | simp [hs7, f0_7, f13_7, f14_7, f1001_7, f25_7, f26_7, f29_7, f35_7, f36_7, f37_7, f298_7], HFw6.out⟩)
        · cases KB
          · skip
            go_wp2_with fail
            refine ((HW1 _).out).mono ?_
            rintro e w6 ⟨rfl, hb_⟩
            have HFw6 := Lib.hid (Pair.after HF.out hb_)
            obtain ⟨c00, c01, c02, c10, c11, c12, hz, hbl⟩ := HFw6.out
            clear hb_ hbl
            go_wp2_with fail
            refine ((HW2 _).out).mono ?_
            rintro e w7 ⟨rfl, hb_⟩
            have HFw7 := Lib.hid (Pair.after HFw6.out hb_)
            obtain ⟨c00, c01, c02, c10, c11, c12, hz, hbl⟩ := HFw7.out
            clear hb_ hbl
            go_wp2_with fail
            all_goals refine Met.intro (hJ _ _ ⟨_, rfl, by simp [hs7], by first | (simp only [↓Array.getElem?_setIfInBounds_ne, ne_eq, Nat.reduceEqDiff, not_false_eq_true, q0_7]; done) | simp [hs7, f0_7, f13_7, f14_7, f1001_7, f25_7, f26_7, f29_7, f35_7, f36_7, f37_7, f298_7], by first | (simp only [↓Array.getElem?_setIfInBounds_ne, ne_eq, Nat.reduceEqDiff, not_false_eq_true, q13_7]; done) | simp [hs7, f0_7, f13_7, f14_7, f1001_7, f25_7, f26_7, f29_7, f35_7, f36_7, f37_7, f298_7], by first | (simp only [↓Array.getElem?_setIfInBounds_ne, ne_eq, Nat.reduceEqDiff, not_false_eq_true, q14_7]; done) | simp [hs7, f0_7, f13_7, f14_7, f1001_7, f25_7, f26_7, f29_7, f35_7, f36_7, f37_7, f298_7], by first | (simp only [↓Array.getElem?_setIfInBounds_ne, ne_eq, Nat.reduceEqDiff, not_false_eq_true, q1001_7]; done) | simp [hs7, f0_7, f13_7, f14_7, f1001_7, f25_7, f26_7, f29_7, f35_7, f36_7, f37_7, f298_7], by first | (simp only [↓Array.getElem?_setIfInBounds_ne, ne_eq, Nat.reduceEqDiff, not_false_eq_true, q25_7]; done) | simp [hs7, f0_7, f13_7, f14_7, f1001_7, f25_7, f26_7, f29_7, f35_7, f36_7, f37_7, f298_7], by first | (simp only [↓Array.getElem?_setIfInBounds_ne, ne_eq, Nat.reduceEqDiff, not_false_eq_true, q26_7]; done) | simp [hs7, f0_7, f13_7, f14_7, f1001_7, f25_7, f26_7, f29_7, f35_7, f36_7, f37_7, f298_7], by first | (simp only [↓Array.getElem?_setIfInBounds_ne, ne_eq, Nat.reduceEqDiff, not_false_eq_true, q29_7]; done) | simp [hs7, f0_7, f13_7, f14_7, f1001_7, f25_7, f26_7, f29_7, f35_7, f36_7, f37_7, f298_7], by first | (simp only [↓Array.getElem?_setIfInBounds_ne, ne_eq, Nat.reduceEqDiff, not_false_eq_true, q35_7]; done) | simp [hs7, f0_7, f13_7, f14_7, f1001_7, f25_7, f26_7, f29_7, f35_7, f36_7, f37_7, f298_7], by first | (simp only [↓Array.getElem?_setIfInBounds_ne, ne_eq, Nat.reduceEqDiff, not_false_eq_true, q36_7]; done) | simp [hs7, f0_7, f13_7, f14_7, f1001_7, f25_7, f26_7, f29_7, f35_7, f36_7, f37_7, f298_7], by first | (simp only [↓Array.getElem?_setIfInBounds_ne, ne_eq, Nat.reduceEqDiff, not_false_eq_true, q37_7]; done) | simp [hs7, f0_7, f13_7, f14_7, f1001_7, f25_7, f26_7, f29_7, f35_7, f36_7, f37_7, f298_7], by first | (simp only [↓Array.getElem?_setIfInBounds_ne, ne_eq, Nat.reduceEqDiff, not_false_eq_true]; done) | simp [hs7, f0_7, f13_7, f14_7, f1001_7, f25_7, f26_7, f29_7, f35_7, f36_7, f37_7, f298_7], HFw7.out⟩)
          · by_cases hj : h = j
            · obtain ⟨e1_, e2_⟩ := FS rfl rfl hj
              subst hj
              subst e1_
              cases ON
              · skip
                go_wp2_with fail
                refine ((HW1 _).out).mono ?_
                rintro e w6 ⟨rfl, hb_⟩
                have HFw6 := Lib.hid (Pair.after HF.out hb_)
                obtain ⟨c00, c01, c02, c10, c11, c12, hz, hbl⟩ := HFw6.out
                clear hb_ hbl
                go_wp2_with fail
                refine ((HW2 _).out).mono ?_
                rintro e w7 ⟨rfl, hb_⟩
                have HFw7 := Lib.hid (Pair.after HFw6.out hb_)
                obtain ⟨c00, c01, c02, c10, c11, c12, hz, hbl⟩ := HFw7.out
                clear hb_ hbl
                go_wp2_with fail
                all_goals refine Met.intro (hJ _ _ ⟨_, rfl, by simp [hs7], by first | (simp only [↓Array.getElem?_setIfInBounds_ne, ne_eq, Nat.reduceEqDiff, not_false_eq_true, q0_7]; done) | simp [hs7, f0_7, f13_7, f14_7, f1001_7, f25_7, f26_7, f29_7, f35_7, f36_7, f37_7, f298_7], by first | (simp only [↓Array.getElem?_setIfInBounds_ne, ne_eq, Nat.reduceEqDiff, not_false_eq_true, q13_7]; done) | simp [hs7, f0_7, f13_7, f14_7, f1001_7, f25_7, f26_7, f29_7, f35_7, f36_7, f37_7, f298_7], by first | (simp only [↓Array.getElem?_setIfInBounds_ne, ne_eq, Nat.reduceEqDiff, not_false_eq_true, q14_7]; done) | simp [hs7, f0_7, f13_7, f14_7, f1001_7, f25_7, f26_7, f29_7, f35_7, f36_7, f37_7, f298_7], by first | (simp only [↓Array.getElem?_setIfInBounds_ne, ne_eq, Nat.reduceEqDiff, not_false_eq_true, q1001_7]; done) | simp [hs7, f0_7, f13_7, f14_7, f1001_7, f25_7, f26_7, f29_7, f35_7, f36_7, f37_7, f298_7], by first | (simp only [↓Array.getElem?_setIfInBounds_ne, ne_eq, Nat.reduceEqDiff, not_false_eq_true, q25_7]; done) | simp [hs7, f0_7, f13_7, f14_7, f1001_7, f25_7, f26_7, f29_7, f35_7, f36_7, f37_7, f298_7], by first | (simp only [↓Array.getElem?_setIfInBounds_ne, ne_eq, Nat.reduceEqDiff, not_false_eq_true, q26_7]; done) | simp [hs7, f0_7, f13_7, f14_7, f1001_7, f25_7, f26_7, f29_7, f35_7, f36_7, f37_7, f298_7], by first | (simp only [↓Array.getElem?_setIfInBounds_ne, ne_eq, Nat.reduceEqDiff, not_false_eq_true, q29_7]; done) | simp [hs7, f0_7, f13_7, f14_7, f1001_7, f25_7, f26_7, f29_7, f35_7, f36_7, f37_7, f298_7], by first | (simp only [↓Array.getElem?_setIfInBounds_ne, ne_eq, Nat.reduceEqDiff, not_false_eq_true, q35_7]; done) | simp [hs7, f0_7, f13_7, f14_7, f1001_7, f25_7, f26_7, f29_7, f35_7, f36_7, f37_7, f298_7], by first | (simp only [↓Array.getElem?_setIfInBounds_ne, ne_eq, Nat.reduceEqDiff, not_false_eq_true, q36_7]; done) | simp [hs7, f0_7, f13_7, f14_7, f1001_7, f25_7, f26_7, f29_7, f35_7, f36_7, f37_7, f298_7], by first | (simp only [↓Array.getElem?_setIfInBounds_ne, ne_eq, Nat.reduceEqDiff, not_false_eq_true, q37_7]; done) | simp [hs7, f0_7, f13_7, f14_7, f1001_7, f25_7, f26_7, f29_7, f35_7, f36_7, f37_7, f298_7], by first | (simp only [↓Array.getElem?_setIfInBounds_ne, ne_eq, Nat.reduceEqDiff, not_false_eq_true]; done) | simp [hs7, f0_7, f13_7, f14_7, f1001_7, f25_7, f26_7, f29_7, f35_7, f36_7, f37_7, f298_7], HFw7.out⟩)
              · obtain ⟨rfl, rfl⟩ := e2_ rfl
                go_wp2_with fail
                refine ((HW1 _).out).mono ?_
                rintro e w6 ⟨rfl, hb_⟩
                have HFw6 := Lib.hid (Pair.after HF.out hb_)
                obtain ⟨c00, c01, c02, c10, c11, c12, hz, hbl⟩ := HFw6.out
                clear hb_ hbl
                go_wp2_with fail
                refine ((HW2 _).out).mono ?_
                rintro e w7 ⟨rfl, hb_⟩
                have HFw7 := Lib.hid (Pair.after HFw6.out hb_)
                obtain ⟨c00, c01, c02, c10, c11, c12, hz, hbl⟩ := HFw7.out
                clear hb_ hbl
                go_wp2_with fail
                all_goals refine Met.intro (hJ _ _ ⟨_, rfl, by simp [hs7], by first | (simp only [↓Array.getElem?_setIfInBounds_ne, ne_eq, Nat.reduceEqDiff, not_false_eq_true, q0_7]; done) | simp [hs7, f0_7, f13_7, f14_7, f1001_7, f25_7, f26_7, f29_7, f35_7, f36_7, f37_7, f298_7], by first | (simp only [↓Array.getElem?_setIfInBounds_ne, ne_eq, Nat.reduceEqDiff, not_false_eq_true, q13_7]; done) | simp [hs7, f0_7, f13_7, f14_7, f1001_7, f25_7, f26_7, f29_7, f35_7, f36_7, f37_7, f298_7], by first | (simp only [↓Array.getElem?_setIfInBounds_ne, ne_eq, Nat.reduceEqDiff, not_false_eq_true, q14_7]; done) | simp [hs7, f0_7, f13_7, f14_7, f1001_7, f25_7, f26_7, f29_7, f35_7, f36_7, f37_7, f298_7], by first | (simp only [↓Array.getElem?_setIfInBounds_ne, ne_eq, Nat.reduceEqDiff, not_false_eq_true, q1001_7]; done) | simp [hs7, f0_7, f13_7, f14_7, f1001_7, f25_7, f26_7, f29_7, f35_7, f36_7, f37_7, f298_7], by first | (simp only [↓Array.getElem?_setIfInBounds_ne, ne_eq, Nat.reduceEqDiff, not_false_eq_true, q25_7]; done) | simp [hs7, f0_7, f13_7, f14_7, f1001_7, f25_7, f26_7, f29_7, f35_7, f36_7, f37_7, f298_7], by first | (simp only [↓Array.getElem?_setIfInBounds_ne, ne_eq, Nat.reduceEqDiff, not_false_eq_true, q26_7]; done) | simp [hs7, f0_7, f13_7, f14_7, f1001_7, f25_7, f26_7, f29_7, f35_7, f36_7, f37_7, f298_7], by first | (simp only [↓Array.getElem?_setIfInBounds_ne, ne_eq, Nat.reduceEqDiff, not_false_eq_true, q29_7]; done) | simp [hs7, f0_7, f13_7, f14_7, f1001_7, f25_7, f26_7, f29_7, f35_7, f36_7, f37_7, f298_7], by first | (simp only [↓Array.getElem?_setIfInBounds_ne, ne_eq, Nat.reduceEqDiff, not_false_eq_true, q35_7]; done) | simp [hs7, f0_7, f13_7, f14_7, f1001_7, f25_7, f26_7, f29_7, f35_7, f36_7, f37_7, f298_7], by first | (simp only [↓Array.getElem?_setIfInBounds_ne, ne_eq, Nat.reduceEqDiff, not_false_eq_true, q36_7]; done) | simp [hs7, f0_7, f13_7, f14_7, f1001_7, f25_7, f26_7, f29_7, f35_7, f36_7, f37_7, f298_7], by first | (simp only [↓Array.getElem?_setIfInBounds_ne, ne_eq, Nat.reduceEqDiff, not_false_eq_true, q37_7]; done) | simp [hs7, f0_7, f13_7, f14_7, f1001_7, f25_7, f26_7, f29_7, f35_7, f36_7, f37_7, f298_7], by first | (simp only [↓Array.getElem?_setIfInBounds_ne, ne_eq, Nat.reduceEqDiff, not_false_eq_true]; done) | simp [hs7, f0_7, f13_7, f14_7, f1001_7, f25_7, f26_7, f29_7, f35_7, f36_7, f37_7, f298_7], HFw7.out⟩)
            · have hjb : (h == j) = false := beq_eq_false_iff_ne.2 hj
              go_wp2_with fail
              refine ((HW1 _).out).mono ?_
              rintro e w6 ⟨rfl, hb_⟩
              have HFw6 := Lib.hid (Pair.after HF.out hb_)
              obtain ⟨c00, c01, c02, c10, c11, c12, hz, hbl⟩ := HFw6.out
              clear hb_ hbl
              go_wp2_with fail
              refine ((HW2 _).out).mono ?_
              rintro e w7 ⟨rfl, hb_⟩
              have HFw7 := Lib.hid (Pair.after HFw6.out hb_)
              obtain ⟨c00, c01, c02, c10, c11, c12, hz, hbl⟩ := HFw7.out
              clear hb_ hbl
              go_wp2_with fail
              all_goals refine Met.intro (hJ _ _ ⟨_, rfl, by simp [hs7], by first | (simp only [↓Array.getElem?_setIfInBounds_ne, ne_eq, Nat.reduceEqDiff, not_false_eq_true, q0_7]; done) | simp [hs7, f0_7, f13_7, f14_7, f1001_7, f25_7, f26_7, f29_7, f35_7, f36_7, f37_7, f298_7], by first | (simp only [↓Array.getElem?_setIfInBounds_ne, ne_eq, Nat.reduceEqDiff, not_false_eq_true, q13_7]; done) | simp [hs7, f0_7, f13_7, f14_7, f1001_7, f25_7, f26_7, f29_7, f35_7, f36_7, f37_7, f298_7], by first | (simp only [↓Array.getElem?_setIfInBounds_ne, ne_eq, Nat.reduceEqDiff, not_false_eq_true, q14_7]; done) | simp [hs7, f0_7, f13_7, f14_7, f1001_7, f25_7, f26_7, f29_7, f35_7, f36_7, f37_7, f298_7], by first | (simp only [↓Array.getElem?_setIfInBounds_ne, ne_eq, Nat.reduceEqDiff, not_false_eq_true, q1001_7]; done) | simp [hs7, f0_7, f13_7, f14_7, f1001_7, f25_7, f26_7, f29_7, f35_7, f36_7, f37_7, f298_7], by first | (simp only [↓Array.getElem?_setIfInBounds_ne, ne_eq, Nat.reduceEqDiff, not_false_eq_true, q25_7]; done) | simp [hs7, f0_7, f13_7, f14_7, f1001_7, f25_7, f26_7, f29_7, f35_7, f36_7, f37_7, f298_7], by first | (simp only [↓Array.getElem?_setIfInBounds_ne, ne_eq, Nat.reduceEqDiff, not_false_eq_true, q26_7]; done) | simp [hs7, f0_7, f13_7, f14_7, f1001_7, f25_7, f26_7, f29_7, f35_7, f36_7, f37_7, f298_7], by first | (simp only [↓Array.getElem?_setIfInBounds_ne, ne_eq, Nat.reduceEqDiff, not_false_eq_true, q29_7]; done) | simp [hs7, f0_7, f13_7, f14_7, f1001_7, f25_7, f26_7, f29_7, f35_7, f36_7, f37_7, f298_7], by first | (simp only [↓Array.getElem?_setIfInBounds_ne, ne_eq, Nat.reduceEqDiff, not_false_eq_true, q35_7]; done) | simp [hs7, f0_7, f13_7, f14_7, f1001_7, f25_7, f26_7, f29_7, f35_7, f36_7, f37_7, f298_7], by first | (simp only [↓Array.getElem?_setIfInBounds_ne, ne_eq, Nat.reduceEqDiff, not_false_eq_true, q36_7]; done) | simp [hs7, f0_7, f13_7, f14_7, f1001_7, f25_7, f26_7, f29_7, f35_7, f36_7, f37_7, f298_7], by first | (simp only [↓Array.getElem?_setIfInBounds_ne, ne_eq, Nat.reduceEqDiff, not_false_eq_true, q37_7]; done) | simp [hs7, f0_7, f13_7, f14_7, f1001_7, f25_7, f26_7, f29_7, f35_7, f36_7, f37_7, f298_7], by first | (simp only [↓Array.getElem?_setIfInBounds_ne, ne_eq, Nat.reduceEqDiff, not_false_eq_true]; done) | simp [hs7, f0_7, f13_7, f14_7, f1001_7, f25_7, f26_7, f29_7, f35_7, f36_7, f37_7, f298_7], HFw7.out⟩)
      case rest3 =>
        intro a' wc3 hR3
        obtain ⟨T8, rfl, hs8, q0_8, q13_8, q14_8, q1001_8, q25_8, q26_8, q29_8, q35_8, q36_8, q37_8, q331_8, h43⟩ := hR3
        have f0_8 := fun hh => getq q0_8 hh
        have f13_8 := fun hh => getq q13_8 hh
        have f14_8 := fun hh => getq q14_8 hh
        have f1001_8 := fun hh => getq q1001_8 hh
        have f25_8 := fun hh => getq q25_8 hh
        have f26_8 := fun hh => getq q26_8 hh
        have f29_8 := fun hh => getq q29_8 hh
        have f35_8 := fun hh => getq q35_8 hh
        have f36_8 := fun hh => getq q36_8 hh
        have f37_8 := fun hh => getq q37_8 hh
        have f331_8 := fun hh => getq q331_8 hh
        obtain ⟨c00, c01, c02, c10, c11, c12, hz, hbl⟩ := h43
        have HF := Lib.hid (show Pair w g h p s j q t wc3 from ⟨c00, c01, c02, c10, c11, c12, hz, hbl⟩)
        clear hbl FA FC FS HA1 HA2 HC1 HC2 HW1 HW2
        go_wp2_with fail
        refine wp_cond_f ?_ ?_
        · go_simp
        go_upto_region 21 with fail
        refine reframe fun T9 hT => ?_
        have hs9 : T9.size = 642 := by subst hT; simp [hs8]
        have q1001_9 : T9[1]? = some (Y1) := by subst hT; exact (by first | (simp only [↓Array.getElem?_setIfInBounds_ne, ne_eq, Nat.reduceEqDiff, not_false_eq_true, q1001_8]; done) | simp [hs8, f0_8, f13_8, f14_8, f1001_8, f25_8, f26_8, f29_8, f35_8, f36_8, f37_8, f331_8])
        have f1001_9 := fun hh => getq q1001_9 hh
        clear hT f331_8 f37_8 f36_8 f35_8 f29_8 f26_8 f25_8 f1001_8 f14_8 f13_8 f0_8 hs8 q0_8 q13_8 q14_8 q1001_8 q25_8 q26_8 q29_8 q35_8 q36_8 q37_8 q331_8
        have HBW := Lib.hid (Pair.bl HF.out)
        clear hz c00 c01 c02 c10 c11 c12
        clear HF
        go_wp2_with fail
        refine (DrawIsInShadow_any _ _ (Bytes.up H1.out HBW.out)).mono ?_
        rintro e w3 ⟨hi, ch, cp, cs, dh, dp, ds, m, rfl, hb3⟩
        have HB3 := Lib.hid (bl_trans hb3 HBW.out)
        have hz3 := HB3.out.size
        clear hb3 HBW
        obtain ⟨P, Q, IS, TH, HI1, HI2, FE⟩ := pack_B hi m ch cp cs dh dp ds
        go_wp2_with fail
        refine ((HI1 _).out).mono ?_
        rintro e w4 ⟨rfl, hb_⟩
        have HF4 := Lib.hid (Pair.after (w := w) (g := w3.heap.size) (h := ch) (p := cp) (s := cs) (j := dh) (q := dp) (t := ds) (by exact ⟨by simp [go_sem], by simp [go_sem], by simp [go_sem], by simp [go_sem], by simp [go_sem], by simp [go_sem], by simp, by repeat (first | exact HB3.out | refine bl_alloc ?_ _ | refine bl_set ?_ (by first | omega | (simp; done) | (simp; omega)) _)⟩) hb_)
        clear hb_ HB3
        generalize w3.heap.size = g2 at *
        obtain ⟨c00, c01, c02, c10, c11, c12, hz, hbl⟩ := HF4.out
        clear hbl
        go_wp2_with fail
        refine ((HI2 _).out).mono ?_
        rintro e w101 ⟨rfl, hb_⟩
        have HFw101 := Lib.hid (Pair.after HF4.out hb_)
        clear hb_ hz c00 c01 c02 c10 c11 c12
        obtain ⟨c00, c01, c02, c10, c11, c12, hz, hbl⟩ := HFw101.out
        clear hbl
        go_upto_region 24 with fail
        refine reframe fun T10 hT => ?_
        have hs10 : T10.size = 642 := by subst hT; simp [hs9]
        have q3_10 : T10[31]? = some (.int .i64 hi) := by subst hT; exact (by first | (simp only [↓Array.getElem?_setIfInBounds_ne, ne_eq, Nat.reduceEqDiff, not_false_eq_true]; done) | simp [hs9, f1001_9])
        have f3_10 := fun hh => getq q3_10 hh
        have q6_10 : T10[34]? = some (.int .i64 m) := by subst hT; exact (by first | (simp only [↓Array.getElem?_setIfInBounds_ne, ne_eq, Nat.reduceEqDiff, not_false_eq_true]; done) | simp [hs9, f1001_9])
        have f6_10 := fun hh => getq q6_10 hh
        have q16_10 : T10[32]? = some (.pointer (some ⟨g2, 0, none⟩)) := by subst hT; exact (by first | (simp only [↓Array.getElem?_setIfInBounds_ne, ne_eq, Nat.reduceEqDiff, not_false_eq_true]; done) | simp [hs9, f1001_9])
        have f16_10 := fun hh => getq q16_10 hh
        have q17_10 : T10[33]? = some (.pointer (some ⟨g2 + 1, 0, none⟩)) := by subst hT; exact (by first | (simp only [↓Array.getElem?_setIfInBounds_ne, ne_eq, Nat.reduceEqDiff, not_false_eq_true]; done) | simp [hs9, f1001_9])
        have f17_10 := fun hh => getq q17_10 hh
        have q1001_10 : T10[1]? = some (Y1) := by subst hT; exact (by first | (simp only [↓Array.getElem?_setIfInBounds_ne, ne_eq, Nat.reduceEqDiff, not_false_eq_true, q1001_9]; done) | simp [hs9, f1001_9])
        have f1001_10 := fun hh => getq q1001_10 hh
        have q48_10 : T10[35]? = some (.bool IS) := by subst hT; exact (by first | (simp only [↓Array.getElem?_setIfInBounds_ne, ne_eq, Nat.reduceEqDiff, not_false_eq_true]; done) | simp [hs9, f1001_9])
        have f48_10 := fun hh => getq q48_10 hh
        have q49_10 : T10[36]? = some (.bool TH) := by subst hT; exact (by first | (simp only [↓Array.getElem?_setIfInBounds_ne, ne_eq, Nat.reduceEqDiff, not_false_eq_true]; done) | simp [hs9, f1001_9])
        have f49_10 := fun hh => getq q49_10 hh
        have q50_10 : T10[37]? = some (.bool IS) := by subst hT; exact (by first | (simp only [↓Array.getElem?_setIfInBounds_ne, ne_eq, Nat.reduceEqDiff, not_false_eq_true]; done) | simp [hs9, f1001_9])
        have f50_10 := fun hh => getq q50_10 hh
        have q51_10 : T10[38]? = some (.bool TH) := by subst hT; exact (by first | (simp only [↓Array.getElem?_setIfInBounds_ne, ne_eq, Nat.reduceEqDiff, not_false_eq_true]; done) | simp [hs9, f1001_9])
        have f51_10 := fun hh => getq q51_10 hh
        clear hT f1001_9 hs9 q1001_9
        go_wp2_with fail
        refine (DrawSumOfShadows_any _ _ (Bytes.up H1.out (Pair.bl (HFw101.out)))).mono ?_
        rintro e w5 ⟨a, L, R, x, v, rfl, hb_⟩
        have HF5 := Lib.hid (Pair.after (HFw101.out) hb_)
        clear hb_ hz c00 c01 c02 c10 c11 c12
        obtain ⟨c00, c01, c02, c10, c11, c12, hz, hbl⟩ := HF5.out
        clear hbl
        obtain ⟨s1, s2, e1, e2, n1, n2, FI, SE, NI, HS1, HS2, HE1, HE2, HN1, HN2, HFS, HSN, FF, FG, FN⟩ := pack_C a L R x v
        go_wp2_with fail
        refine ((HS1 _).out).mono ?_
        rintro e w102 ⟨rfl, hb_⟩
        have HFw102 := Lib.hid (Pair.after HF5.out hb_)
        clear hb_ hz c00 c01 c02 c10 c11 c12
        obtain ⟨c00, c01, c02, c10, c11, c12, hz, hbl⟩ := HFw102.out
        clear hbl
        go_wp2_with fail
        refine ((HS2 _).out).mono ?_
        rintro e w103 ⟨rfl, hb_⟩
        have HFw103 := Lib.hid (Pair.after HFw102.out hb_)
        clear hb_ hz c00 c01 c02 c10 c11 c12
        obtain ⟨c00, c01, c02, c10, c11, c12, hz, hbl⟩ := HFw103.out
        clear hbl
        go_upto_region 27 with fail
        refine reframe fun T11 hT => ?_
        have hs11 : T11.size = 642 := by subst hT; simp [hs10]
        have q3_11 : T11[31]? = some (.int .i64 hi) := by subst hT; exact (by first | (simp only [↓Array.getElem?_setIfInBounds_ne, ne_eq, Nat.reduceEqDiff, not_false_eq_true, q3_10]; done) | simp [hs10, f3_10, f6_10, f16_10, f17_10, f1001_10, f48_10, f49_10, f50_10, f51_10])
        have f3_11 := fun hh => getq q3_11 hh
        have q6_11 : T11[34]? = some (.int .i64 m) := by subst hT; exact (by first | (simp only [↓Array.getElem?_setIfInBounds_ne, ne_eq, Nat.reduceEqDiff, not_false_eq_true, q6_10]; done) | simp [hs10, f3_10, f6_10, f16_10, f17_10, f1001_10, f48_10, f49_10, f50_10, f51_10])
        have f6_11 := fun hh => getq q6_11 hh
        have q16_11 : T11[32]? = some (.pointer (some ⟨g2, 0, none⟩)) := by subst hT; exact (by first | (simp only [↓Array.getElem?_setIfInBounds_ne, ne_eq, Nat.reduceEqDiff, not_false_eq_true, q16_10]; done) | simp [hs10, f3_10, f6_10, f16_10, f17_10, f1001_10, f48_10, f49_10, f50_10, f51_10])
        have f16_11 := fun hh => getq q16_11 hh
        have q17_11 : T11[33]? = some (.pointer (some ⟨g2 + 1, 0, none⟩)) := by subst hT; exact (by first | (simp only [↓Array.getElem?_setIfInBounds_ne, ne_eq, Nat.reduceEqDiff, not_false_eq_true, q17_10]; done) | simp [hs10, f3_10, f6_10, f16_10, f17_10, f1001_10, f48_10, f49_10, f50_10, f51_10])
        have f17_11 := fun hh => getq q17_11 hh
        have q48_11 : T11[35]? = some (.bool IS) := by subst hT; exact (by first | (simp only [↓Array.getElem?_setIfInBounds_ne, ne_eq, Nat.reduceEqDiff, not_false_eq_true, q48_10]; done) | simp [hs10, f3_10, f6_10, f16_10, f17_10, f1001_10, f48_10, f49_10, f50_10, f51_10])
        have f48_11 := fun hh => getq q48_11 hh
        have q49_11 : T11[36]? = some (.bool TH) := by subst hT; exact (by first | (simp only [↓Array.getElem?_setIfInBounds_ne, ne_eq, Nat.reduceEqDiff, not_false_eq_true, q49_10]; done) | simp [hs10, f3_10, f6_10, f16_10, f17_10, f1001_10, f48_10, f49_10, f50_10, f51_10])
        have f49_11 := fun hh => getq q49_11 hh
        have q50_11 : T11[37]? = some (.bool IS) := by subst hT; exact (by first | (simp only [↓Array.getElem?_setIfInBounds_ne, ne_eq, Nat.reduceEqDiff, not_false_eq_true, q50_10]; done) | simp [hs10, f3_10, f6_10, f16_10, f17_10, f1001_10, f48_10, f49_10, f50_10, f51_10])
        have f50_11 := fun hh => getq q50_11 hh
        have q51_11 : T11[38]? = some (.bool TH) := by subst hT; exact (by first | (simp only [↓Array.getElem?_setIfInBounds_ne, ne_eq, Nat.reduceEqDiff, not_false_eq_true, q51_10]; done) | simp [hs10, f3_10, f6_10, f16_10, f17_10, f1001_10, f48_10, f49_10, f50_10, f51_10])
        have f51_11 := fun hh => getq q51_11 hh
        have q7_11 : T11[39]? = some (.int .i64 a) := by subst hT; exact (by first | (simp only [↓Array.getElem?_setIfInBounds_ne, ne_eq, Nat.reduceEqDiff, not_false_eq_true]; done) | simp [hs10, f3_10, f6_10, f16_10, f17_10, f1001_10, f48_10, f49_10, f50_10, f51_10])
        have f7_11 := fun hh => getq q7_11 hh
        have q8_11 : T11[40]? = some (.int .i64 L) := by subst hT; exact (by first | (simp only [↓Array.getElem?_setIfInBounds_ne, ne_eq, Nat.reduceEqDiff, not_false_eq_true]; done) | simp [hs10, f3_10, f6_10, f16_10, f17_10, f1001_10, f48_10, f49_10, f50_10, f51_10])
        have f8_11 := fun hh => getq q8_11 hh
        have q9_11 : T11[41]? = some (.int .i64 R) := by subst hT; exact (by first | (simp only [↓Array.getElem?_setIfInBounds_ne, ne_eq, Nat.reduceEqDiff, not_false_eq_true]; done) | simp [hs10, f3_10, f6_10, f16_10, f17_10, f1001_10, f48_10, f49_10, f50_10, f51_10])
        have f9_11 := fun hh => getq q9_11 hh
        have q10_11 : T11[42]? = some (.int .i64 x) := by subst hT; exact (by first | (simp only [↓Array.getElem?_setIfInBounds_ne, ne_eq, Nat.reduceEqDiff, not_false_eq_true]; done) | simp [hs10, f3_10, f6_10, f16_10, f17_10, f1001_10, f48_10, f49_10, f50_10, f51_10])
        have f10_11 := fun hh => getq q10_11 hh
        have q11_11 : T11[43]? = some (.int .i64 v) := by subst hT; exact (by first | (simp only [↓Array.getElem?_setIfInBounds_ne, ne_eq, Nat.reduceEqDiff, not_false_eq_true]; done) | simp [hs10, f3_10, f6_10, f16_10, f17_10, f1001_10, f48_10, f49_10, f50_10, f51_10])
        have f11_11 := fun hh => getq q11_11 hh
        have q52_11 : T11[44]? = some (.int .i64 s1) := by subst hT; exact (by first | (simp only [↓Array.getElem?_setIfInBounds_ne, ne_eq, Nat.reduceEqDiff, not_false_eq_true]; done) | simp [hs10, f3_10, f6_10, f16_10, f17_10, f1001_10, f48_10, f49_10, f50_10, f51_10])
        have f52_11 := fun hh => getq q52_11 hh
        have q53_11 : T11[45]? = some (.int .i64 s2) := by subst hT; exact (by first | (simp only [↓Array.getElem?_setIfInBounds_ne, ne_eq, Nat.reduceEqDiff, not_false_eq_true]; done) | simp [hs10, f3_10, f6_10, f16_10, f17_10, f1001_10, f48_10, f49_10, f50_10, f51_10])
        have f53_11 := fun hh => getq q53_11 hh
        have q54_11 : T11[46]? = some (.bool FI) := by subst hT; exact (by first | (simp only [↓Array.getElem?_setIfInBounds_ne, ne_eq, Nat.reduceEqDiff, not_false_eq_true]; done) | simp [hs10, f3_10, f6_10, f16_10, f17_10, f1001_10, f48_10, f49_10, f50_10, f51_10])
        have f54_11 := fun hh => getq q54_11 hh
        have q55_11 : T11[47]? = some (.int .i64 s1) := by subst hT; exact (by first | (simp only [↓Array.getElem?_setIfInBounds_ne, ne_eq, Nat.reduceEqDiff, not_false_eq_true]; done) | simp [hs10, f3_10, f6_10, f16_10, f17_10, f1001_10, f48_10, f49_10, f50_10, f51_10])
        have f55_11 := fun hh => getq q55_11 hh
        have q56_11 : T11[48]? = some (.int .i64 s2) := by subst hT; exact (by first | (simp only [↓Array.getElem?_setIfInBounds_ne, ne_eq, Nat.reduceEqDiff, not_false_eq_true]; done) | simp [hs10, f3_10, f6_10, f16_10, f17_10, f1001_10, f48_10, f49_10, f50_10, f51_10])
        have f56_11 := fun hh => getq q56_11 hh
        have q57_11 : T11[49]? = some (.bool FI) := by subst hT; exact (by first | (simp only [↓Array.getElem?_setIfInBounds_ne, ne_eq, Nat.reduceEqDiff, not_false_eq_true]; done) | simp [hs10, f3_10, f6_10, f16_10, f17_10, f1001_10, f48_10, f49_10, f50_10, f51_10])
        have f57_11 := fun hh => getq q57_11 hh
        clear hT f51_10 f50_10 f49_10 f48_10 f1001_10 f17_10 f16_10 f6_10 f3_10 hs10 q3_10 q6_10 q16_10 q17_10 q1001_10 q48_10 q49_10 q50_10 q51_10
        go_wp2_with fail
        refine ((HE1 _).out).mono ?_
        rintro e w104 ⟨rfl, hb_⟩
        have HFw104 := Lib.hid (Pair.after HFw103.out hb_)
        clear hb_ hz c00 c01 c02 c10 c11 c12
        obtain ⟨c00, c01, c02, c10, c11, c12, hz, hbl⟩ := HFw104.out
        clear hbl
        go_wp2_with fail
        refine ((HE2 _).out).mono ?_
        rintro e w105 ⟨rfl, hb_⟩
        have HFw105 := Lib.hid (Pair.after HFw104.out hb_)
        clear hb_ hz c00 c01 c02 c10 c11 c12
        obtain ⟨c00, c01, c02, c10, c11, c12, hz, hbl⟩ := HFw105.out
        clear hbl
        go_upto_region 29 with fail
        refine reframe fun T12 hT => ?_
        have hs12 : T12.size = 642 := by subst hT; simp [hs11]
        have q3_12 : T12[31]? = some (.int .i64 hi) := by subst hT; exact (by first | (simp only [↓Array.getElem?_setIfInBounds_ne, ne_eq, Nat.reduceEqDiff, not_false_eq_true, q3_11]; done) | simp [hs11, f3_11, f6_11, f16_11, f17_11, f48_11, f49_11, f50_11, f51_11, f7_11, f8_11, f9_11, f10_11, f11_11, f52_11, f53_11, f54_11, f55_11, f56_11, f57_11])
        have f3_12 := fun hh => getq q3_12 hh
        have q6_12 : T12[34]? = some (.int .i64 m) := by subst hT; exact (by first | (simp only [↓Array.getElem?_setIfInBounds_ne, ne_eq, Nat.reduceEqDiff, not_false_eq_true, q6_11]; done) | simp [hs11, f3_11, f6_11, f16_11, f17_11, f48_11, f49_11, f50_11, f51_11, f7_11, f8_11, f9_11, f10_11, f11_11, f52_11, f53_11, f54_11, f55_11, f56_11, f57_11])
        have f6_12 := fun hh => getq q6_12 hh
        have q16_12 : T12[32]? = some (.pointer (some ⟨g2, 0, none⟩)) := by subst hT; exact (by first | (simp only [↓Array.getElem?_setIfInBounds_ne, ne_eq, Nat.reduceEqDiff, not_false_eq_true, q16_11]; done) | simp [hs11, f3_11, f6_11, f16_11, f17_11, f48_11, f49_11, f50_11, f51_11, f7_11, f8_11, f9_11, f10_11, f11_11, f52_11, f53_11, f54_11, f55_11, f56_11, f57_11])
        have f16_12 := fun hh => getq q16_12 hh
        have q17_12 : T12[33]? = some (.pointer (some ⟨g2 + 1, 0, none⟩)) := by subst hT; exact (by first | (simp only [↓Array.getElem?_setIfInBounds_ne, ne_eq, Nat.reduceEqDiff, not_false_eq_true, q17_11]; done) | simp [hs11, f3_11, f6_11, f16_11, f17_11, f48_11, f49_11, f50_11, f51_11, f7_11, f8_11, f9_11, f10_11, f11_11, f52_11, f53_11, f54_11, f55_11, f56_11, f57_11])
        have f17_12 := fun hh => getq q17_12 hh
        have q48_12 : T12[35]? = some (.bool IS) := by subst hT; exact (by first | (simp only [↓Array.getElem?_setIfInBounds_ne, ne_eq, Nat.reduceEqDiff, not_false_eq_true, q48_11]; done) | simp [hs11, f3_11, f6_11, f16_11, f17_11, f48_11, f49_11, f50_11, f51_11, f7_11, f8_11, f9_11, f10_11, f11_11, f52_11, f53_11, f54_11, f55_11, f56_11, f57_11])
        have f48_12 := fun hh => getq q48_12 hh
        have q49_12 : T12[36]? = some (.bool TH) := by subst hT; exact (by first | (simp only [↓Array.getElem?_setIfInBounds_ne, ne_eq, Nat.reduceEqDiff, not_false_eq_true, q49_11]; done) | simp [hs11, f3_11, f6_11, f16_11, f17_11, f48_11, f49_11, f50_11, f51_11, f7_11, f8_11, f9_11, f10_11, f11_11, f52_11, f53_11, f54_11, f55_11, f56_11, f57_11])
        have f49_12 := fun hh => getq q49_12 hh
        have q50_12 : T12[37]? = some (.bool IS) := by subst hT; exact (by first | (simp only [↓Array.getElem?_setIfInBounds_ne, ne_eq, Nat.reduceEqDiff, not_false_eq_true, q50_11]; done) | simp [hs11, f3_11, f6_11, f16_11, f17_11, f48_11, f49_11, f50_11, f51_11, f7_11, f8_11, f9_11, f10_11, f11_11, f52_11, f53_11, f54_11, f55_11, f56_11, f57_11])
        have f50_12 := fun hh => getq q50_12 hh
        have q51_12 : T12[38]? = some (.bool TH) := by subst hT; exact (by first | (simp only [↓Array.getElem?_setIfInBounds_ne, ne_eq, Nat.reduceEqDiff, not_false_eq_true, q51_11]; done) | simp [hs11, f3_11, f6_11, f16_11, f17_11, f48_11, f49_11, f50_11, f51_11, f7_11, f8_11, f9_11, f10_11, f11_11, f52_11, f53_11, f54_11, f55_11, f56_11, f57_11])
        have f51_12 := fun hh => getq q51_12 hh
        have q7_12 : T12[39]? = some (.int .i64 a) := by subst hT; exact (by first | (simp only [↓Array.getElem?_setIfInBounds_ne, ne_eq, Nat.reduceEqDiff, not_false_eq_true, q7_11]; done) | simp [hs11, f3_11, f6_11, f16_11, f17_11, f48_11, f49_11, f50_11, f51_11, f7_11, f8_11, f9_11, f10_11, f11_11, f52_11, f53_11, f54_11, f55_11, f56_11, f57_11])
        have f7_12 := fun hh => getq q7_12 hh
        have q8_12 : T12[40]? = some (.int .i64 L) := by subst hT; exact (by first | (simp only [↓Array.getElem?_setIfInBounds_ne, ne_eq, Nat.reduceEqDiff, not_false_eq_true, q8_11]; done) | simp [hs11, f3_11, f6_11, f16_11, f17_11, f48_11, f49_11, f50_11, f51_11, f7_11, f8_11, f9_11, f10_11, f11_11, f52_11, f53_11, f54_11, f55_11, f56_11, f57_11])
        have f8_12 := fun hh => getq q8_12 hh
        have q9_12 : T12[41]? = some (.int .i64 R) := by subst hT; exact (by first | (simp only [↓Array.getElem?_setIfInBounds_ne, ne_eq, Nat.reduceEqDiff, not_false_eq_true, q9_11]; done) | simp [hs11, f3_11, f6_11, f16_11, f17_11, f48_11, f49_11, f50_11, f51_11, f7_11, f8_11, f9_11, f10_11, f11_11, f52_11, f53_11, f54_11, f55_11, f56_11, f57_11])
        have f9_12 := fun hh => getq q9_12 hh
        have q10_12 : T12[42]? = some (.int .i64 x) := by subst hT; exact (by first | (simp only [↓Array.getElem?_setIfInBounds_ne, ne_eq, Nat.reduceEqDiff, not_false_eq_true, q10_11]; done) | simp [hs11, f3_11, f6_11, f16_11, f17_11, f48_11, f49_11, f50_11, f51_11, f7_11, f8_11, f9_11, f10_11, f11_11, f52_11, f53_11, f54_11, f55_11, f56_11, f57_11])
        have f10_12 := fun hh => getq q10_12 hh
        have q11_12 : T12[43]? = some (.int .i64 v) := by subst hT; exact (by first | (simp only [↓Array.getElem?_setIfInBounds_ne, ne_eq, Nat.reduceEqDiff, not_false_eq_true, q11_11]; done) | simp [hs11, f3_11, f6_11, f16_11, f17_11, f48_11, f49_11, f50_11, f51_11, f7_11, f8_11, f9_11, f10_11, f11_11, f52_11, f53_11, f54_11, f55_11, f56_11, f57_11])
        have f11_12 := fun hh => getq q11_12 hh
        have q52_12 : T12[44]? = some (.int .i64 s1) := by subst hT; exact (by first | (simp only [↓Array.getElem?_setIfInBounds_ne, ne_eq, Nat.reduceEqDiff, not_false_eq_true, q52_11]; done) | simp [hs11, f3_11, f6_11, f16_11, f17_11, f48_11, f49_11, f50_11, f51_11, f7_11, f8_11, f9_11, f10_11, f11_11, f52_11, f53_11, f54_11, f55_11, f56_11, f57_11])
        have f52_12 := fun hh => getq q52_12 hh
        have q53_12 : T12[45]? = some (.int .i64 s2) := by subst hT; exact (by first | (simp only [↓Array.getElem?_setIfInBounds_ne, ne_eq, Nat.reduceEqDiff, not_false_eq_true, q53_11]; done) | simp [hs11, f3_11, f6_11, f16_11, f17_11, f48_11, f49_11, f50_11, f51_11, f7_11, f8_11, f9_11, f10_11, f11_11, f52_11, f53_11, f54_11, f55_11, f56_11, f57_11])
        have f53_12 := fun hh => getq q53_12 hh
        have q54_12 : T12[46]? = some (.bool FI) := by subst hT; exact (by first | (simp only [↓Array.getElem?_setIfInBounds_ne, ne_eq, Nat.reduceEqDiff, not_false_eq_true, q54_11]; done) | simp [hs11, f3_11, f6_11, f16_11, f17_11, f48_11, f49_11, f50_11, f51_11, f7_11, f8_11, f9_11, f10_11, f11_11, f52_11, f53_11, f54_11, f55_11, f56_11, f57_11])
        have f54_12 := fun hh => getq q54_12 hh
        have q55_12 : T12[47]? = some (.int .i64 s1) := by subst hT; exact (by first | (simp only [↓Array.getElem?_setIfInBounds_ne, ne_eq, Nat.reduceEqDiff, not_false_eq_true, q55_11]; done) | simp [hs11, f3_11, f6_11, f16_11, f17_11, f48_11, f49_11, f50_11, f51_11, f7_11, f8_11, f9_11, f10_11, f11_11, f52_11, f53_11, f54_11, f55_11, f56_11, f57_11])
        have f55_12 := fun hh => getq q55_12 hh
        have q56_12 : T12[48]? = some (.int .i64 s2) := by subst hT; exact (by first | (simp only [↓Array.getElem?_setIfInBounds_ne, ne_eq, Nat.reduceEqDiff, not_false_eq_true, q56_11]; done) | simp [hs11, f3_11, f6_11, f16_11, f17_11, f48_11, f49_11, f50_11, f51_11, f7_11, f8_11, f9_11, f10_11, f11_11, f52_11, f53_11, f54_11, f55_11, f56_11, f57_11])
        have f56_12 := fun hh => getq q56_12 hh
        have q57_12 : T12[49]? = some (.bool FI) := by subst hT; exact (by first | (simp only [↓Array.getElem?_setIfInBounds_ne, ne_eq, Nat.reduceEqDiff, not_false_eq_true, q57_11]; done) | simp [hs11, f3_11, f6_11, f16_11, f17_11, f48_11, f49_11, f50_11, f51_11, f7_11, f8_11, f9_11, f10_11, f11_11, f52_11, f53_11, f54_11, f55_11, f56_11, f57_11])
        have f57_12 := fun hh => getq q57_12 hh
        have q58_12 : T12[50]? = some (.int .i64 e1) := by subst hT; exact (by first | (simp only [↓Array.getElem?_setIfInBounds_ne, ne_eq, Nat.reduceEqDiff, not_false_eq_true]; done) | simp [hs11, f3_11, f6_11, f16_11, f17_11, f48_11, f49_11, f50_11, f51_11, f7_11, f8_11, f9_11, f10_11, f11_11, f52_11, f53_11, f54_11, f55_11, f56_11, f57_11])
        have f58_12 := fun hh => getq q58_12 hh
        have q59_12 : T12[51]? = some (.int .i64 e2) := by subst hT; exact (by first | (simp only [↓Array.getElem?_setIfInBounds_ne, ne_eq, Nat.reduceEqDiff, not_false_eq_true]; done) | simp [hs11, f3_11, f6_11, f16_11, f17_11, f48_11, f49_11, f50_11, f51_11, f7_11, f8_11, f9_11, f10_11, f11_11, f52_11, f53_11, f54_11, f55_11, f56_11, f57_11])
        have f59_12 := fun hh => getq q59_12 hh
        have q60_12 : T12[52]? = some (.bool SE) := by subst hT; exact (by first | (simp only [↓Array.getElem?_setIfInBounds_ne, ne_eq, Nat.reduceEqDiff, not_false_eq_true]; done) | simp [hs11, f3_11, f6_11, f16_11, f17_11, f48_11, f49_11, f50_11, f51_11, f7_11, f8_11, f9_11, f10_11, f11_11, f52_11, f53_11, f54_11, f55_11, f56_11, f57_11])
        have f60_12 := fun hh => getq q60_12 hh
        have q61_12 : T12[53]? = some (.int .i64 e1) := by subst hT; exact (by first | (simp only [↓Array.getElem?_setIfInBounds_ne, ne_eq, Nat.reduceEqDiff, not_false_eq_true]; done) | simp [hs11, f3_11, f6_11, f16_11, f17_11, f48_11, f49_11, f50_11, f51_11, f7_11, f8_11, f9_11, f10_11, f11_11, f52_11, f53_11, f54_11, f55_11, f56_11, f57_11])
        have f61_12 := fun hh => getq q61_12 hh
        have q62_12 : T12[54]? = some (.int .i64 e2) := by subst hT; exact (by first | (simp only [↓Array.getElem?_setIfInBounds_ne, ne_eq, Nat.reduceEqDiff, not_false_eq_true]; done) | simp [hs11, f3_11, f6_11, f16_11, f17_11, f48_11, f49_11, f50_11, f51_11, f7_11, f8_11, f9_11, f10_11, f11_11, f52_11, f53_11, f54_11, f55_11, f56_11, f57_11])
        have f62_12 := fun hh => getq q62_12 hh
        have q63_12 : T12[55]? = some (.bool SE) := by subst hT; exact (by first | (simp only [↓Array.getElem?_setIfInBounds_ne, ne_eq, Nat.reduceEqDiff, not_false_eq_true]; done) | simp [hs11, f3_11, f6_11, f16_11, f17_11, f48_11, f49_11, f50_11, f51_11, f7_11, f8_11, f9_11, f10_11, f11_11, f52_11, f53_11, f54_11, f55_11, f56_11, f57_11])
        have f63_12 := fun hh => getq q63_12 hh
        clear hT f57_11 f56_11 f55_11 f54_11 f53_11 f52_11 f11_11 f10_11 f9_11 f8_11 f7_11 f51_11 f50_11 f49_11 f48_11 f17_11 f16_11 f6_11 f3_11 hs11 q3_11 q6_11 q16_11 q17_11 q48_11 q49_11 q50_11 q51_11 q7_11 q8_11 q9_11 q10_11 q11_11 q52_11 q53_11 q54_11 q55_11 q56_11 q57_11
        go_wp2_with fail
        refine ((HN1 _).out).mono ?_
        rintro e w106 ⟨rfl, hb_⟩
        have HFw106 := Lib.hid (Pair.after HFw105.out hb_)
        clear hb_ hz c00 c01 c02 c10 c11 c12
        obtain ⟨c00, c01, c02, c10, c11, c12, hz, hbl⟩ := HFw106.out
        clear hbl
        go_wp2_with fail
        refine ((HN2 _).out).mono ?_
        rintro e w107 ⟨rfl, hb_⟩
        have HFw107 := Lib.hid (Pair.after HFw106.out hb_)
        clear hb_ hz c00 c01 c02 c10 c11 c12
        obtain ⟨c00, c01, c02, c10, c11, c12, hz, hbl⟩ := HFw107.out
        clear hbl
        go_upto_region 31 with fail
        refine reframe fun T13 hT => ?_
        have hs13 : T13.size = 642 := by subst hT; simp [hs12]
        have q3_13 : T13[31]? = some (.int .i64 hi) := by subst hT; exact (by first | (simp only [↓Array.getElem?_setIfInBounds_ne, ne_eq, Nat.reduceEqDiff, not_false_eq_true, q3_12]; done) | simp [hs12, f3_12, f6_12, f16_12, f17_12, f48_12, f49_12, f50_12, f51_12, f7_12, f8_12, f9_12, f10_12, f11_12, f52_12, f53_12, f54_12, f55_12, f56_12, f57_12, f58_12, f59_12, f60_12, f61_12, f62_12, f63_12])
        have f3_13 := fun hh => getq q3_13 hh
        have q6_13 : T13[34]? = some (.int .i64 m) := by subst hT; exact (by first | (simp only [↓Array.getElem?_setIfInBounds_ne, ne_eq, Nat.reduceEqDiff, not_false_eq_true, q6_12]; done) | simp [hs12, f3_12, f6_12, f16_12, f17_12, f48_12, f49_12, f50_12, f51_12, f7_12, f8_12, f9_12, f10_12, f11_12, f52_12, f53_12, f54_12, f55_12, f56_12, f57_12, f58_12, f59_12, f60_12, f61_12, f62_12, f63_12])
        have f6_13 := fun hh => getq q6_13 hh
        have q16_13 : T13[32]? = some (.pointer (some ⟨g2, 0, none⟩)) := by subst hT; exact (by first | (simp only [↓Array.getElem?_setIfInBounds_ne, ne_eq, Nat.reduceEqDiff, not_false_eq_true, q16_12]; done) | simp [hs12, f3_12, f6_12, f16_12, f17_12, f48_12, f49_12, f50_12, f51_12, f7_12, f8_12, f9_12, f10_12, f11_12, f52_12, f53_12, f54_12, f55_12, f56_12, f57_12, f58_12, f59_12, f60_12, f61_12, f62_12, f63_12])
        have f16_13 := fun hh => getq q16_13 hh
        have q17_13 : T13[33]? = some (.pointer (some ⟨g2 + 1, 0, none⟩)) := by subst hT; exact (by first | (simp only [↓Array.getElem?_setIfInBounds_ne, ne_eq, Nat.reduceEqDiff, not_false_eq_true, q17_12]; done) | simp [hs12, f3_12, f6_12, f16_12, f17_12, f48_12, f49_12, f50_12, f51_12, f7_12, f8_12, f9_12, f10_12, f11_12, f52_12, f53_12, f54_12, f55_12, f56_12, f57_12, f58_12, f59_12, f60_12, f61_12, f62_12, f63_12])
        have f17_13 := fun hh => getq q17_13 hh
        have q48_13 : T13[35]? = some (.bool IS) := by subst hT; exact (by first | (simp only [↓Array.getElem?_setIfInBounds_ne, ne_eq, Nat.reduceEqDiff, not_false_eq_true, q48_12]; done) | simp [hs12, f3_12, f6_12, f16_12, f17_12, f48_12, f49_12, f50_12, f51_12, f7_12, f8_12, f9_12, f10_12, f11_12, f52_12, f53_12, f54_12, f55_12, f56_12, f57_12, f58_12, f59_12, f60_12, f61_12, f62_12, f63_12])
        have f48_13 := fun hh => getq q48_13 hh
        have q49_13 : T13[36]? = some (.bool TH) := by subst hT; exact (by first | (simp only [↓Array.getElem?_setIfInBounds_ne, ne_eq, Nat.reduceEqDiff, not_false_eq_true, q49_12]; done) | simp [hs12, f3_12, f6_12, f16_12, f17_12, f48_12, f49_12, f50_12, f51_12, f7_12, f8_12, f9_12, f10_12, f11_12, f52_12, f53_12, f54_12, f55_12, f56_12, f57_12, f58_12, f59_12, f60_12, f61_12, f62_12, f63_12])
        have f49_13 := fun hh => getq q49_13 hh
        have q50_13 : T13[37]? = some (.bool IS) := by subst hT; exact (by first | (simp only [↓Array.getElem?_setIfInBounds_ne, ne_eq, Nat.reduceEqDiff, not_false_eq_true, q50_12]; done) | simp [hs12, f3_12, f6_12, f16_12, f17_12, f48_12, f49_12, f50_12, f51_12, f7_12, f8_12, f9_12, f10_12, f11_12, f52_12, f53_12, f54_12, f55_12, f56_12, f57_12, f58_12, f59_12, f60_12, f61_12, f62_12, f63_12])
        have f50_13 := fun hh => getq q50_13 hh
        have q51_13 : T13[38]? = some (.bool TH) := by subst hT; exact (by first | (simp only [↓Array.getElem?_setIfInBounds_ne, ne_eq, Nat.reduceEqDiff, not_false_eq_true, q51_12]; done) | simp [hs12, f3_12, f6_12, f16_12, f17_12, f48_12, f49_12, f50_12, f51_12, f7_12, f8_12, f9_12, f10_12, f11_12, f52_12, f53_12, f54_12, f55_12, f56_12, f57_12, f58_12, f59_12, f60_12, f61_12, f62_12, f63_12])
        have f51_13 := fun hh => getq q51_13 hh
        have q7_13 : T13[39]? = some (.int .i64 a) := by subst hT; exact (by first | (simp only [↓Array.getElem?_setIfInBounds_ne, ne_eq, Nat.reduceEqDiff, not_false_eq_true, q7_12]; done) | simp [hs12, f3_12, f6_12, f16_12, f17_12, f48_12, f49_12, f50_12, f51_12, f7_12, f8_12, f9_12, f10_12, f11_12, f52_12, f53_12, f54_12, f55_12, f56_12, f57_12, f58_12, f59_12, f60_12, f61_12, f62_12, f63_12])
        have f7_13 := fun hh => getq q7_13 hh
        have q8_13 : T13[40]? = some (.int .i64 L) := by subst hT; exact (by first | (simp only [↓Array.getElem?_setIfInBounds_ne, ne_eq, Nat.reduceEqDiff, not_false_eq_true, q8_12]; done) | simp [hs12, f3_12, f6_12, f16_12, f17_12, f48_12, f49_12, f50_12, f51_12, f7_12, f8_12, f9_12, f10_12, f11_12, f52_12, f53_12, f54_12, f55_12, f56_12, f57_12, f58_12, f59_12, f60_12, f61_12, f62_12, f63_12])
        have f8_13 := fun hh => getq q8_13 hh
        have q9_13 : T13[41]? = some (.int .i64 R) := by subst hT; exact (by first | (simp only [↓Array.getElem?_setIfInBounds_ne, ne_eq, Nat.reduceEqDiff, not_false_eq_true, q9_12]; done) | simp [hs12, f3_12, f6_12, f16_12, f17_12, f48_12, f49_12, f50_12, f51_12, f7_12, f8_12, f9_12, f10_12, f11_12, f52_12, f53_12, f54_12, f55_12, f56_12, f57_12, f58_12, f59_12, f60_12, f61_12, f62_12, f63_12])
        have f9_13 := fun hh => getq q9_13 hh
        have q10_13 : T13[42]? = some (.int .i64 x) := by subst hT; exact (by first | (simp only [↓Array.getElem?_setIfInBounds_ne, ne_eq, Nat.reduceEqDiff, not_false_eq_true, q10_12]; done) | simp [hs12, f3_12, f6_12, f16_12, f17_12, f48_12, f49_12, f50_12, f51_12, f7_12, f8_12, f9_12, f10_12, f11_12, f52_12, f53_12, f54_12, f55_12, f56_12, f57_12, f58_12, f59_12, f60_12, f61_12, f62_12, f63_12])
        have f10_13 := fun hh => getq q10_13 hh
        have q11_13 : T13[43]? = some (.int .i64 v) := by subst hT; exact (by first | (simp only [↓Array.getElem?_setIfInBounds_ne, ne_eq, Nat.reduceEqDiff, not_false_eq_true, q11_12]; done) | simp [hs12, f3_12, f6_12, f16_12, f17_12, f48_12, f49_12, f50_12, f51_12, f7_12, f8_12, f9_12, f10_12, f11_12, f52_12, f53_12, f54_12, f55_12, f56_12, f57_12, f58_12, f59_12, f60_12, f61_12, f62_12, f63_12])
        have f11_13 := fun hh => getq q11_13 hh
        have q52_13 : T13[44]? = some (.int .i64 s1) := by subst hT; exact (by first | (simp only [↓Array.getElem?_setIfInBounds_ne, ne_eq, Nat.reduceEqDiff, not_false_eq_true, q52_12]; done) | simp [hs12, f3_12, f6_12, f16_12, f17_12, f48_12, f49_12, f50_12, f51_12, f7_12, f8_12, f9_12, f10_12, f11_12, f52_12, f53_12, f54_12, f55_12, f56_12, f57_12, f58_12, f59_12, f60_12, f61_12, f62_12, f63_12])
        have f52_13 := fun hh => getq q52_13 hh
        have q53_13 : T13[45]? = some (.int .i64 s2) := by subst hT; exact (by first | (simp only [↓Array.getElem?_setIfInBounds_ne, ne_eq, Nat.reduceEqDiff, not_false_eq_true, q53_12]; done) | simp [hs12, f3_12, f6_12, f16_12, f17_12, f48_12, f49_12, f50_12, f51_12, f7_12, f8_12, f9_12, f10_12, f11_12, f52_12, f53_12, f54_12, f55_12, f56_12, f57_12, f58_12, f59_12, f60_12, f61_12, f62_12, f63_12])
        have f53_13 := fun hh => getq q53_13 hh
        have q54_13 : T13[46]? = some (.bool FI) := by subst hT; exact (by first | (simp only [↓Array.getElem?_setIfInBounds_ne, ne_eq, Nat.reduceEqDiff, not_false_eq_true, q54_12]; done) | simp [hs12, f3_12, f6_12, f16_12, f17_12, f48_12, f49_12, f50_12, f51_12, f7_12, f8_12, f9_12, f10_12, f11_12, f52_12, f53_12, f54_12, f55_12, f56_12, f57_12, f58_12, f59_12, f60_12, f61_12, f62_12, f63_12])
        have f54_13 := fun hh => getq q54_13 hh
        have q55_13 : T13[47]? = some (.int .i64 s1) := by subst hT; exact (by first | (simp only [↓Array.getElem?_setIfInBounds_ne, ne_eq, Nat.reduceEqDiff, not_false_eq_true, q55_12]; done) | simp [hs12, f3_12, f6_12, f16_12, f17_12, f48_12, f49_12, f50_12, f51_12, f7_12, f8_12, f9_12, f10_12, f11_12, f52_12, f53_12, f54_12, f55_12, f56_12, f57_12, f58_12, f59_12, f60_12, f61_12, f62_12, f63_12])
        have f55_13 := fun hh => getq q55_13 hh
        have q56_13 : T13[48]? = some (.int .i64 s2) := by subst hT; exact (by first | (simp only [↓Array.getElem?_setIfInBounds_ne, ne_eq, Nat.reduceEqDiff, not_false_eq_true, q56_12]; done) | simp [hs12, f3_12, f6_12, f16_12, f17_12, f48_12, f49_12, f50_12, f51_12, f7_12, f8_12, f9_12, f10_12, f11_12, f52_12, f53_12, f54_12, f55_12, f56_12, f57_12, f58_12, f59_12, f60_12, f61_12, f62_12, f63_12])
        have f56_13 := fun hh => getq q56_13 hh
        have q57_13 : T13[49]? = some (.bool FI) := by subst hT; exact (by first | (simp only [↓Array.getElem?_setIfInBounds_ne, ne_eq, Nat.reduceEqDiff, not_false_eq_true, q57_12]; done) | simp [hs12, f3_12, f6_12, f16_12, f17_12, f48_12, f49_12, f50_12, f51_12, f7_12, f8_12, f9_12, f10_12, f11_12, f52_12, f53_12, f54_12, f55_12, f56_12, f57_12, f58_12, f59_12, f60_12, f61_12, f62_12, f63_12])
        have f57_13 := fun hh => getq q57_13 hh
        have q58_13 : T13[50]? = some (.int .i64 e1) := by subst hT; exact (by first | (simp only [↓Array.getElem?_setIfInBounds_ne, ne_eq, Nat.reduceEqDiff, not_false_eq_true, q58_12]; done) | simp [hs12, f3_12, f6_12, f16_12, f17_12, f48_12, f49_12, f50_12, f51_12, f7_12, f8_12, f9_12, f10_12, f11_12, f52_12, f53_12, f54_12, f55_12, f56_12, f57_12, f58_12, f59_12, f60_12, f61_12, f62_12, f63_12])
        have f58_13 := fun hh => getq q58_13 hh
        have q59_13 : T13[51]? = some (.int .i64 e2) := by subst hT; exact (by first | (simp only [↓Array.getElem?_setIfInBounds_ne, ne_eq, Nat.reduceEqDiff, not_false_eq_true, q59_12]; done) | simp [hs12, f3_12, f6_12, f16_12, f17_12, f48_12, f49_12, f50_12, f51_12, f7_12, f8_12, f9_12, f10_12, f11_12, f52_12, f53_12, f54_12, f55_12, f56_12, f57_12, f58_12, f59_12, f60_12, f61_12, f62_12, f63_12])
        have f59_13 := fun hh => getq q59_13 hh
        have q60_13 : T13[52]? = some (.bool SE) := by subst hT; exact (by first | (simp only [↓Array.getElem?_setIfInBounds_ne, ne_eq, Nat.reduceEqDiff, not_false_eq_true, q60_12]; done) | simp [hs12, f3_12, f6_12, f16_12, f17_12, f48_12, f49_12, f50_12, f51_12, f7_12, f8_12, f9_12, f10_12, f11_12, f52_12, f53_12, f54_12, f55_12, f56_12, f57_12, f58_12, f59_12, f60_12, f61_12, f62_12, f63_12])
        have f60_13 := fun hh => getq q60_13 hh
        have q61_13 : T13[53]? = some (.int .i64 e1) := by subst hT; exact (by first | (simp only [↓Array.getElem?_setIfInBounds_ne, ne_eq, Nat.reduceEqDiff, not_false_eq_true, q61_12]; done) | simp [hs12, f3_12, f6_12, f16_12, f17_12, f48_12, f49_12, f50_12, f51_12, f7_12, f8_12, f9_12, f10_12, f11_12, f52_12, f53_12, f54_12, f55_12, f56_12, f57_12, f58_12, f59_12, f60_12, f61_12, f62_12, f63_12])
        have f61_13 := fun hh => getq q61_13 hh
        have q62_13 : T13[54]? = some (.int .i64 e2) := by subst hT; exact (by first | (simp only [↓Array.getElem?_setIfInBounds_ne, ne_eq, Nat.reduceEqDiff, not_false_eq_true, q62_12]; done) | simp [hs12, f3_12, f6_12, f16_12, f17_12, f48_12, f49_12, f50_12, f51_12, f7_12, f8_12, f9_12, f10_12, f11_12, f52_12, f53_12, f54_12, f55_12, f56_12, f57_12, f58_12, f59_12, f60_12, f61_12, f62_12, f63_12])
        have f62_13 := fun hh => getq q62_13 hh
        have q63_13 : T13[55]? = some (.bool SE) := by subst hT; exact (by first | (simp only [↓Array.getElem?_setIfInBounds_ne, ne_eq, Nat.reduceEqDiff, not_false_eq_true, q63_12]; done) | simp [hs12, f3_12, f6_12, f16_12, f17_12, f48_12, f49_12, f50_12, f51_12, f7_12, f8_12, f9_12, f10_12, f11_12, f52_12, f53_12, f54_12, f55_12, f56_12, f57_12, f58_12, f59_12, f60_12, f61_12, f62_12, f63_12])
        have f63_13 := fun hh => getq q63_13 hh
        have q64_13 : T13[56]? = some (.int .i64 n1) := by subst hT; exact (by first | (simp only [↓Array.getElem?_setIfInBounds_ne, ne_eq, Nat.reduceEqDiff, not_false_eq_true]; done) | simp [hs12, f3_12, f6_12, f16_12, f17_12, f48_12, f49_12, f50_12, f51_12, f7_12, f8_12, f9_12, f10_12, f11_12, f52_12, f53_12, f54_12, f55_12, f56_12, f57_12, f58_12, f59_12, f60_12, f61_12, f62_12, f63_12])
        have f64_13 := fun hh => getq q64_13 hh
        have q65_13 : T13[57]? = some (.int .i64 n2) := by subst hT; exact (by first | (simp only [↓Array.getElem?_setIfInBounds_ne, ne_eq, Nat.reduceEqDiff, not_false_eq_true]; done) | simp [hs12, f3_12, f6_12, f16_12, f17_12, f48_12, f49_12, f50_12, f51_12, f7_12, f8_12, f9_12, f10_12, f11_12, f52_12, f53_12, f54_12, f55_12, f56_12, f57_12, f58_12, f59_12, f60_12, f61_12, f62_12, f63_12])
        have f65_13 := fun hh => getq q65_13 hh
        have q66_13 : T13[58]? = some (.bool NI) := by subst hT; exact (by first | (simp only [↓Array.getElem?_setIfInBounds_ne, ne_eq, Nat.reduceEqDiff, not_false_eq_true]; done) | simp [hs12, f3_12, f6_12, f16_12, f17_12, f48_12, f49_12, f50_12, f51_12, f7_12, f8_12, f9_12, f10_12, f11_12, f52_12, f53_12, f54_12, f55_12, f56_12, f57_12, f58_12, f59_12, f60_12, f61_12, f62_12, f63_12])
        have f66_13 := fun hh => getq q66_13 hh
        have q67_13 : T13[59]? = some (.int .i64 n1) := by subst hT; exact (by first | (simp only [↓Array.getElem?_setIfInBounds_ne, ne_eq, Nat.reduceEqDiff, not_false_eq_true]; done) | simp [hs12, f3_12, f6_12, f16_12, f17_12, f48_12, f49_12, f50_12, f51_12, f7_12, f8_12, f9_12, f10_12, f11_12, f52_12, f53_12, f54_12, f55_12, f56_12, f57_12, f58_12, f59_12, f60_12, f61_12, f62_12, f63_12])
        have f67_13 := fun hh => getq q67_13 hh
        have q68_13 : T13[60]? = some (.int .i64 n2) := by subst hT; exact (by first | (simp only [↓Array.getElem?_setIfInBounds_ne, ne_eq, Nat.reduceEqDiff, not_false_eq_true]; done) | simp [hs12, f3_12, f6_12, f16_12, f17_12, f48_12, f49_12, f50_12, f51_12, f7_12, f8_12, f9_12, f10_12, f11_12, f52_12, f53_12, f54_12, f55_12, f56_12, f57_12, f58_12, f59_12, f60_12, f61_12, f62_12, f63_12])
        have f68_13 := fun hh => getq q68_13 hh
        have q69_13 : T13[61]? = some (.bool NI) := by subst hT; exact (by first | (simp only [↓Array.getElem?_setIfInBounds_ne, ne_eq, Nat.reduceEqDiff, not_false_eq_true]; done) | simp [hs12, f3_12, f6_12, f16_12, f17_12, f48_12, f49_12, f50_12, f51_12, f7_12, f8_12, f9_12, f10_12, f11_12, f52_12, f53_12, f54_12, f55_12, f56_12, f57_12, f58_12, f59_12, f60_12, f61_12, f62_12, f63_12])
        have f69_13 := fun hh => getq q69_13 hh
        clear hT f63_12 f62_12 f61_12 f60_12 f59_12 f58_12 f57_12 f56_12 f55_12 f54_12 f53_12 f52_12 f11_12 f10_12 f9_12 f8_12 f7_12 f51_12 f50_12 f49_12 f48_12 f17_12 f16_12 f6_12 f3_12 hs12 q3_12 q6_12 q16_12 q17_12 q48_12 q49_12 q50_12 q51_12 q7_12 q8_12 q9_12 q10_12 q11_12 q52_12 q53_12 q54_12 q55_12 q56_12 q57_12 q58_12 q59_12 q60_12 q61_12 q62_12 q63_12
        clear HI1 HI2 HS1 HS2 HE1 HE2 HN1 HN2
        refine wp_cut (fun a' wx => ∃ T : Array Value, a' = ⟨T, []⟩ ∧ T.size = 642 ∧ T[31]? = some (.int .i64 hi) ∧ T[34]? = some (.int .i64 m) ∧ T[32]? = some (.pointer (some ⟨g2, 0, none⟩)) ∧ T[33]? = some (.pointer (some ⟨g2 + 1, 0, none⟩)) ∧ T[35]? = some (.bool IS) ∧ T[36]? = some (.bool TH) ∧ T[39]? = some (.int .i64 a) ∧ T[40]? = some (.int .i64 L) ∧ T[41]? = some (.int .i64 R) ∧ T[42]? = some (.int .i64 x) ∧ T[43]? = some (.int .i64 v) ∧ T[44]? = some (.int .i64 s1) ∧ T[45]? = some (.int .i64 s2) ∧ T[46]? = some (.bool FI) ∧ T[50]? = some (.int .i64 e1) ∧ T[51]? = some (.int .i64 e2) ∧ T[52]? = some (.bool SE) ∧ T[56]? = some (.int .i64 n1) ∧ T[57]? = some (.int .i64 n2) ∧ T[58]? = some (.bool NI) ∧ T[484]? = some (.bool false) ∧ Pair w g2 ch cp cs dh dp ds wx) ?rest4 ?first4
        case first4 =>
          intro J K' hJ hK
          clear FE FF FG FN
          cases FI <;> cases SE <;> cases NI <;> first | (exact absurd (HFS rfl) (by decide)) | (exact absurd (HSN rfl) (by decide)) | (go_wp2_with fail; refine Met.intro (hJ _ _ ⟨_, rfl, by simp [hs13], by first | (simp only [↓Array.getElem?_setIfInBounds_ne, ne_eq, Nat.reduceEqDiff, not_false_eq_true, q3_13]; done) | simp [hs13, f3_13, f6_13, f16_13, f17_13, f48_13, f49_13, f50_13, f51_13, f7_13, f8_13, f9_13, f10_13, f11_13, f52_13, f53_13, f54_13, f55_13, f56_13, f57_13, f58_13, f59_13, f60_13, f61_13, f62_13, f63_13, f64_13, f65_13, f66_13, f67_13, f68_13, f69_13], by first | (simp only [↓Array.getElem?_setIfInBounds_ne, ne_eq, Nat.reduceEqDiff, not_false_eq_true, q6_13]; done) | simp [hs13, f3_13, f6_13, f16_13, f17_13, f48_13, f49_13, f50_13, f51_13, f7_13, f8_13, f9_13, f10_13, f11_13, f52_13, f53_13, f54_13, f55_13, f56_13, f57_13, f58_13, f59_13, f60_13, f61_13, f62_13, f63_13, f64_13, f65_13, f66_13, f67_13, f68_13, f69_13], by first | (simp only [↓Array.getElem?_setIfInBounds_ne, ne_eq, Nat.reduceEqDiff, not_false_eq_true, q16_13]; done) | simp [hs13, f3_13, f6_13, f16_13, f17_13, f48_13, f49_13, f50_13, f51_13, f7_13, f8_13, f9_13, f10_13, f11_13, f52_13, f53_13, f54_13, f55_13, f56_13, f57_13, f58_13, f59_13, f60_13, f61_13, f62_13, f63_13, f64_13, f65_13, f66_13, f67_13, f68_13, f69_13], by first | (simp only [↓Array.getElem?_setIfInBounds_ne, ne_eq, Nat.reduceEqDiff, not_false_eq_true, q17_13]; done) | simp [hs13, f3_13, f6_13, f16_13, f17_13, f48_13, f49_13, f50_13, f51_13, f7_13, f8_13, f9_13, f10_13, f11_13, f52_13, f53_13, f54_13, f55_13, f56_13, f57_13, f58_13, f59_13, f60_13, f61_13, f62_13, f63_13, f64_13, f65_13, f66_13, f67_13, f68_13, f69_13], by first | (simp only [↓Array.getElem?_setIfInBounds_ne, ne_eq, Nat.reduceEqDiff, not_false_eq_true, q48_13]; done) | simp [hs13, f3_13, f6_13, f16_13, f17_13, f48_13, f49_13, f50_13, f51_13, f7_13, f8_13, f9_13, f10_13, f11_13, f52_13, f53_13, f54_13, f55_13, f56_13, f57_13, f58_13, f59_13, f60_13, f61_13, f62_13, f63_13, f64_13, f65_13, f66_13, f67_13, f68_13, f69_13], by first | (simp only [↓Array.getElem?_setIfInBounds_ne, ne_eq, Nat.reduceEqDiff, not_false_eq_true, q49_13]; done) | simp [hs13, f3_13, f6_13, f16_13, f17_13, f48_13, f49_13, f50_13, f51_13, f7_13, f8_13, f9_13, f10_13, f11_13, f52_13, f53_13, f54_13, f55_13, f56_13, f57_13, f58_13, f59_13, f60_13, f61_13, f62_13, f63_13, f64_13, f65_13, f66_13, f67_13, f68_13, f69_13], by first | (simp only [↓Array.getElem?_setIfInBounds_ne, ne_eq, Nat.reduceEqDiff, not_false_eq_true, q7_13]; done) | simp [hs13, f3_13, f6_13, f16_13, f17_13, f48_13, f49_13, f50_13, f51_13, f7_13, f8_13, f9_13, f10_13, f11_13, f52_13, f53_13, f54_13, f55_13, f56_13, f57_13, f58_13, f59_13, f60_13, f61_13, f62_13, f63_13, f64_13, f65_13, f66_13, f67_13, f68_13, f69_13], by first | (simp only [↓Array.getElem?_setIfInBounds_ne, ne_eq, Nat.reduceEqDiff, not_false_eq_true, q8_13]; done) | simp [hs13, f3_13, f6_13, f16_13, f17_13, f48_13, f49_13, f50_13, f51_13, f7_13, f8_13, f9_13, f10_13, f11_13, f52_13, f53_13, f54_13, f55_13, f56_13, f57_13, f58_13, f59_13, f60_13, f61_13, f62_13, f63_13, f64_13, f65_13, f66_13, f67_13, f68_13, f69_13], by first | (simp only [↓Array.getElem?_setIfInBounds_ne, ne_eq, Nat.reduceEqDiff, not_false_eq_true, q9_13]; done) | simp [hs13, f3_13, f6_13, f16_13, f17_13, f48_13, f49_13, f50_13, f51_13, f7_13, f8_13, f9_13, f10_13, f11_13, f52_13, f53_13, f54_13, f55_13, f56_13, f57_13, f58_13, f59_13, f60_13, f61_13, f62_13, f63_13, f64_13, f65_13, f66_13, f67_13, f68_13, f69_13], by first | (simp only [↓Array.getElem?_setIfInBounds_ne, ne_eq, Nat.reduceEqDiff, not_false_eq_true, q10_13]; done) | simp [hs13, f3_13, f6_13, f16_13, f17_13, f48_13, f49_13, f50_13, f51_13, f7_13, f8_13, f9_13, f10_13, f11_13, f52_13, f53_13, f54_13, f55_13, f56_13, f57_13, f58_13, f59_13, f60_13, f61_13, f62_13, f63_13, f64_13, f65_13, f66_13, f67_13, f68_13, f69_13], by first | (simp only [↓Array.getElem?_setIfInBounds_ne, ne_eq, Nat.reduceEqDiff, not_false_eq_true, q11_13]; done) | simp [hs13, f3_13, f6_13, f16_13, f17_13, f48_13, f49_13, f50_13, f51_13, f7_13, f8_13, f9_13, f10_13, f11_13, f52_13, f53_13, f54_13, f55_13, f56_13, f57_13, f58_13, f59_13, f60_13, f61_13, f62_13, f63_13, f64_13, f65_13, f66_13, f67_13, f68_13, f69_13], by first | (simp only [↓Array.getElem?_setIfInBounds_ne, ne_eq, Nat.reduceEqDiff, not_false_eq_true, q52_13]; done) | simp [hs13, f3_13, f6_13, f16_13, f17_13, f48_13, f49_13, f50_13, f51_13, f7_13, f8_13, f9_13, f10_13, f11_13, f52_13, f53_13, f54_13, f55_13, f56_13, f57_13, f58_13, f59_13, f60_13, f61_13, f62_13, f63_13, f64_13, f65_13, f66_13, f67_13, f68_13, f69_13], by first | (simp only [↓Array.getElem?_setIfInBounds_ne, ne_eq, Nat.reduceEqDiff, not_false_eq_true, q53_13]; done) | simp [hs13, f3_13, f6_13, f16_13, f17_13, f48_13, f49_13, f50_13, f51_13, f7_13, f8_13, f9_13, f10_13, f11_13, f52_13, f53_13, f54_13, f55_13, f56_13, f57_13, f58_13, f59_13, f60_13, f61_13, f62_13, f63_13, f64_13, f65_13, f66_13, f67_13, f68_13, f69_13], by first | (simp only [↓Array.getElem?_setIfInBounds_ne, ne_eq, Nat.reduceEqDiff, not_false_eq_true, q54_13]; done) | simp [hs13, f3_13, f6_13, f16_13, f17_13, f48_13, f49_13, f50_13, f51_13, f7_13, f8_13, f9_13, f10_13, f11_13, f52_13, f53_13, f54_13, f55_13, f56_13, f57_13, f58_13, f59_13, f60_13, f61_13, f62_13, f63_13, f64_13, f65_13, f66_13, f67_13, f68_13, f69_13], by first | (simp only [↓Array.getElem?_setIfInBounds_ne, ne_eq, Nat.reduceEqDiff, not_false_eq_true, q58_13]; done) | simp [hs13, f3_13, f6_13, f16_13, f17_13, f48_13, f49_13, f50_13, f51_13, f7_13, f8_13, f9_13, f10_13, f11_13, f52_13, f53_13, f54_13, f55_13, f56_13, f57_13, f58_13, f59_13, f60_13, f61_13, f62_13, f63_13, f64_13, f65_13, f66_13, f67_13, f68_13, f69_13], by first | (simp only [↓Array.getElem?_setIfInBounds_ne, ne_eq, Nat.reduceEqDiff, not_false_eq_true, q59_13]; done) | simp [hs13, f3_13, f6_13, f16_13, f17_13, f48_13, f49_13, f50_13, f51_13, f7_13, f8_13, f9_13, f10_13, f11_13, f52_13, f53_13, f54_13, f55_13, f56_13, f57_13, f58_13, f59_13, f60_13, f61_13, f62_13, f63_13, f64_13, f65_13, f66_13, f67_13, f68_13, f69_13], by first | (simp only [↓Array.getElem?_setIfInBounds_ne, ne_eq, Nat.reduceEqDiff, not_false_eq_true, q60_13]; done) | simp [hs13, f3_13, f6_13, f16_13, f17_13, f48_13, f49_13, f50_13, f51_13, f7_13, f8_13, f9_13, f10_13, f11_13, f52_13, f53_13, f54_13, f55_13, f56_13, f57_13, f58_13, f59_13, f60_13, f61_13, f62_13, f63_13, f64_13, f65_13, f66_13, f67_13, f68_13, f69_13], by first | (simp only [↓Array.getElem?_setIfInBounds_ne, ne_eq, Nat.reduceEqDiff, not_false_eq_true, q64_13]; done) | simp [hs13, f3_13, f6_13, f16_13, f17_13, f48_13, f49_13, f50_13, f51_13, f7_13, f8_13, f9_13, f10_13, f11_13, f52_13, f53_13, f54_13, f55_13, f56_13, f57_13, f58_13, f59_13, f60_13, f61_13, f62_13, f63_13, f64_13, f65_13, f66_13, f67_13, f68_13, f69_13], by first | (simp only [↓Array.getElem?_setIfInBounds_ne, ne_eq, Nat.reduceEqDiff, not_false_eq_true, q65_13]; done) | simp [hs13, f3_13, f6_13, f16_13, f17_13, f48_13, f49_13, f50_13, f51_13, f7_13, f8_13, f9_13, f10_13, f11_13, f52_13, f53_13, f54_13, f55_13, f56_13, f57_13, f58_13, f59_13, f60_13, f61_13, f62_13, f63_13, f64_13, f65_13, f66_13, f67_13, f68_13, f69_13], by first | (simp only [↓Array.getElem?_setIfInBounds_ne, ne_eq, Nat.reduceEqDiff, not_false_eq_true, q66_13]; done) | simp [hs13, f3_13, f6_13, f16_13, f17_13, f48_13, f49_13, f50_13, f51_13, f7_13, f8_13, f9_13, f10_13, f11_13, f52_13, f53_13, f54_13, f55_13, f56_13, f57_13, f58_13, f59_13, f60_13, f61_13, f62_13, f63_13, f64_13, f65_13, f66_13, f67_13, f68_13, f69_13], by first | (simp only [↓Array.getElem?_setIfInBounds_ne, ne_eq, Nat.reduceEqDiff, not_false_eq_true]; done) | simp [hs13, f3_13, f6_13, f16_13, f17_13, f48_13, f49_13, f50_13, f51_13, f7_13, f8_13, f9_13, f10_13, f11_13, f52_13, f53_13, f54_13, f55_13, f56_13, f57_13, f58_13, f59_13, f60_13, f61_13, f62_13, f63_13, f64_13, f65_13, f66_13, f67_13, f68_13, f69_13], HFw107.out⟩))
        case rest4 =>
          intro a' wc4 hR4
          obtain ⟨T14, rfl, hs14, q3_14, q6_14, q16_14, q17_14, q48_14, q49_14, q7_14, q8_14, q9_14, q10_14, q11_14, q52_14, q53_14, q54_14, q58_14, q59_14, q60_14, q64_14, q65_14, q66_14, q468_14, h44⟩ := hR4
          have f3_14 := fun hh => getq q3_14 hh
          have f6_14 := fun hh => getq q6_14 hh
          have f16_14 := fun hh => getq q16_14 hh
          have f17_14 := fun hh => getq q17_14 hh
          have f48_14 := fun hh => getq q48_14 hh
          have f49_14 := fun hh => getq q49_14 hh
          have f7_14 := fun hh => getq q7_14 hh
          have f8_14 := fun hh => getq q8_14 hh
          have f9_14 := fun hh => getq q9_14 hh
          have f10_14 := fun hh => getq q10_14 hh
          have f11_14 := fun hh => getq q11_14 hh
          have f52_14 := fun hh => getq q52_14 hh
          have f53_14 := fun hh => getq q53_14 hh
          have f54_14 := fun hh => getq q54_14 hh
          have f58_14 := fun hh => getq q58_14 hh
          have f59_14 := fun hh => getq q59_14 hh
          have f60_14 := fun hh => getq q60_14 hh
          have f64_14 := fun hh => getq q64_14 hh
          have f65_14 := fun hh => getq q65_14 hh
          have f66_14 := fun hh => getq q66_14 hh
          have f468_14 := fun hh => getq q468_14 hh
          obtain ⟨c00, c01, c02, c10, c11, c12, hz, hbl⟩ := h44
          have HF4 := Lib.hid (show Pair w g2 ch cp cs dh dp ds wc4 from ⟨c00, c01, c02, c10, c11, c12, hz, hbl⟩)
          clear hbl
          go_wp2_with fail
          refine wp_cond_f ?_ ?_
          · go_simp
          go_wp2_with fail
          refine wp_cut (fun a' wx => ∃ T : Array Value, a' = ⟨T, []⟩ ∧ T.size = 642 ∧ T[39]? = some (.int .i64 a) ∧ T[40]? = some (.int .i64 L) ∧ T[41]? = some (.int .i64 R) ∧ T[42]? = some (.int .i64 x) ∧ T[43]? = some (.int .i64 v) ∧ T[44]? = some (.int .i64 s1) ∧ T[45]? = some (.int .i64 s2) ∧ T[46]? = some (.bool FI) ∧ T[50]? = some (.int .i64 e1) ∧ T[51]? = some (.int .i64 e2) ∧ T[52]? = some (.bool SE) ∧ T[56]? = some (.int .i64 n1) ∧ T[57]? = some (.int .i64 n2) ∧ T[58]? = some (.bool NI) ∧ Below w.heap.size w wx) ?rest5 ?first5
          case first5 =>
            intro J K' hJ hK
            clear FF FG FN HFS HSN
            cases TH
            · refine wp_cond_f ?_ ?_
              · go_simp
              go_wp2_with fail
              refine Met.intro (hJ _ _ ⟨_, rfl, by simp [hs14], by first | (simp only [↓Array.getElem?_setIfInBounds_ne, ne_eq, Nat.reduceEqDiff, not_false_eq_true, q7_14]; done) | simp [hs14, f3_14, f6_14, f16_14, f17_14, f48_14, f49_14, f7_14, f8_14, f9_14, f10_14, f11_14, f52_14, f53_14, f54_14, f58_14, f59_14, f60_14, f64_14, f65_14, f66_14, f468_14], by first | (simp only [↓Array.getElem?_setIfInBounds_ne, ne_eq, Nat.reduceEqDiff, not_false_eq_true, q8_14]; done) | simp [hs14, f3_14, f6_14, f16_14, f17_14, f48_14, f49_14, f7_14, f8_14, f9_14, f10_14, f11_14, f52_14, f53_14, f54_14, f58_14, f59_14, f60_14, f64_14, f65_14, f66_14, f468_14], by first | (simp only [↓Array.getElem?_setIfInBounds_ne, ne_eq, Nat.reduceEqDiff, not_false_eq_true, q9_14]; done) | simp [hs14, f3_14, f6_14, f16_14, f17_14, f48_14, f49_14, f7_14, f8_14, f9_14, f10_14, f11_14, f52_14, f53_14, f54_14, f58_14, f59_14, f60_14, f64_14, f65_14, f66_14, f468_14], by first | (simp only [↓Array.getElem?_setIfInBounds_ne, ne_eq, Nat.reduceEqDiff, not_false_eq_true, q10_14]; done) | simp [hs14, f3_14, f6_14, f16_14, f17_14, f48_14, f49_14, f7_14, f8_14, f9_14, f10_14, f11_14, f52_14, f53_14, f54_14, f58_14, f59_14, f60_14, f64_14, f65_14, f66_14, f468_14], by first | (simp only [↓Array.getElem?_setIfInBounds_ne, ne_eq, Nat.reduceEqDiff, not_false_eq_true, q11_14]; done) | simp [hs14, f3_14, f6_14, f16_14, f17_14, f48_14, f49_14, f7_14, f8_14, f9_14, f10_14, f11_14, f52_14, f53_14, f54_14, f58_14, f59_14, f60_14, f64_14, f65_14, f66_14, f468_14], by first | (simp only [↓Array.getElem?_setIfInBounds_ne, ne_eq, Nat.reduceEqDiff, not_false_eq_true, q52_14]; done) | simp [hs14, f3_14, f6_14, f16_14, f17_14, f48_14, f49_14, f7_14, f8_14, f9_14, f10_14, f11_14, f52_14, f53_14, f54_14, f58_14, f59_14, f60_14, f64_14, f65_14, f66_14, f468_14], by first | (simp only [↓Array.getElem?_setIfInBounds_ne, ne_eq, Nat.reduceEqDiff, not_false_eq_true, q53_14]; done) | simp [hs14, f3_14, f6_14, f16_14, f17_14, f48_14, f49_14, f7_14, f8_14, f9_14, f10_14, f11_14, f52_14, f53_14, f54_14, f58_14, f59_14, f60_14, f64_14, f65_14, f66_14, f468_14], by first | (simp only [↓Array.getElem?_setIfInBounds_ne, ne_eq, Nat.reduceEqDiff, not_false_eq_true, q54_14]; done) | simp [hs14, f3_14, f6_14, f16_14, f17_14, f48_14, f49_14, f7_14, f8_14, f9_14, f10_14, f11_14, f52_14, f53_14, f54_14, f58_14, f59_14, f60_14, f64_14, f65_14, f66_14, f468_14], by first | (simp only [↓Array.getElem?_setIfInBounds_ne, ne_eq, Nat.reduceEqDiff, not_false_eq_true, q58_14]; done) | simp [hs14, f3_14, f6_14, f16_14, f17_14, f48_14, f49_14, f7_14, f8_14, f9_14, f10_14, f11_14, f52_14, f53_14, f54_14, f58_14, f59_14, f60_14, f64_14, f65_14, f66_14, f468_14], by first | (simp only [↓Array.getElem?_setIfInBounds_ne, ne_eq, Nat.reduceEqDiff, not_false_eq_true, q59_14]; done) | simp [hs14, f3_14, f6_14, f16_14, f17_14, f48_14, f49_14, f7_14, f8_14, f9_14, f10_14, f11_14, f52_14, f53_14, f54_14, f58_14, f59_14, f60_14, f64_14, f65_14, f66_14, f468_14], by first | (simp only [↓Array.getElem?_setIfInBounds_ne, ne_eq, Nat.reduceEqDiff, not_false_eq_true, q60_14]; done) | simp [hs14, f3_14, f6_14, f16_14, f17_14, f48_14, f49_14, f7_14, f8_14, f9_14, f10_14, f11_14, f52_14, f53_14, f54_14, f58_14, f59_14, f60_14, f64_14, f65_14, f66_14, f468_14], by first | (simp only [↓Array.getElem?_setIfInBounds_ne, ne_eq, Nat.reduceEqDiff, not_false_eq_true, q64_14]; done) | simp [hs14, f3_14, f6_14, f16_14, f17_14, f48_14, f49_14, f7_14, f8_14, f9_14, f10_14, f11_14, f52_14, f53_14, f54_14, f58_14, f59_14, f60_14, f64_14, f65_14, f66_14, f468_14], by first | (simp only [↓Array.getElem?_setIfInBounds_ne, ne_eq, Nat.reduceEqDiff, not_false_eq_true, q65_14]; done) | simp [hs14, f3_14, f6_14, f16_14, f17_14, f48_14, f49_14, f7_14, f8_14, f9_14, f10_14, f11_14, f52_14, f53_14, f54_14, f58_14, f59_14, f60_14, f64_14, f65_14, f66_14, f468_14], by first | (simp only [↓Array.getElem?_setIfInBounds_ne, ne_eq, Nat.reduceEqDiff, not_false_eq_true, q66_14]; done) | simp [hs14, f3_14, f6_14, f16_14, f17_14, f48_14, f49_14, f7_14, f8_14, f9_14, f10_14, f11_14, f52_14, f53_14, f54_14, f58_14, f59_14, f60_14, f64_14, f65_14, f66_14, f468_14], Pair.bl (HF4.out)⟩)
            · obtain ⟨HP1, HP2, ⟨⟨b1, b2, b3, b4, b5, b6⟩, p1, p2, q1, q2⟩, HX0, HX1⟩ := FE rfl
              clear FE
              have HX0 := Lib.hid HX0
              have HX1 := Lib.hid HX1
              refine wp_cond_t ?_ ?_
              · go_simp
              go_wp2_with fail
              refine ((HP1 _).out).mono ?_
              rintro e w108 ⟨rfl, hb_⟩
              have HFw108 := Lib.hid (Pair.after HF4.out hb_)
              clear hb_ hz c00 c01 c02 c10 c11 c12
              obtain ⟨c00, c01, c02, c10, c11, c12, hz, hbl⟩ := HFw108.out
              clear hbl
              go_wp2_with fail
              refine ((HP2 _).out).mono ?_
              rintro e w109 ⟨rfl, hb_⟩
              have HFw109 := Lib.hid (Pair.after HFw108.out hb_)
              clear hb_ hz c00 c01 c02 c10 c11 c12
              obtain ⟨c00, c01, c02, c10, c11, c12, hz, hbl⟩ := HFw109.out
              clear hbl
              go_upto_region 36 with fail
              refine reframe fun T15 hT => ?_
              have hs15 : T15.size = 642 := by subst hT; simp [hs14]
              have q7_15 : T15[39]? = some (.int .i64 a) := by subst hT; exact (by first | (simp only [↓Array.getElem?_setIfInBounds_ne, ne_eq, Nat.reduceEqDiff, not_false_eq_true, q7_14]; done) | simp [hs14, f3_14, f6_14, f16_14, f17_14, f48_14, f49_14, f7_14, f8_14, f9_14, f10_14, f11_14, f52_14, f53_14, f54_14, f58_14, f59_14, f60_14, f64_14, f65_14, f66_14, f468_14])
              have f7_15 := fun hh => getq q7_15 hh
              have q8_15 : T15[40]? = some (.int .i64 L) := by subst hT; exact (by first | (simp only [↓Array.getElem?_setIfInBounds_ne, ne_eq, Nat.reduceEqDiff, not_false_eq_true, q8_14]; done) | simp [hs14, f3_14, f6_14, f16_14, f17_14, f48_14, f49_14, f7_14, f8_14, f9_14, f10_14, f11_14, f52_14, f53_14, f54_14, f58_14, f59_14, f60_14, f64_14, f65_14, f66_14, f468_14])
              have f8_15 := fun hh => getq q8_15 hh
              have q9_15 : T15[41]? = some (.int .i64 R) := by subst hT; exact (by first | (simp only [↓Array.getElem?_setIfInBounds_ne, ne_eq, Nat.reduceEqDiff, not_false_eq_true, q9_14]; done) | simp [hs14, f3_14, f6_14, f16_14, f17_14, f48_14, f49_14, f7_14, f8_14, f9_14, f10_14, f11_14, f52_14, f53_14, f54_14, f58_14, f59_14, f60_14, f64_14, f65_14, f66_14, f468_14])
              have f9_15 := fun hh => getq q9_15 hh
              have q10_15 : T15[42]? = some (.int .i64 x) := by subst hT; exact (by first | (simp only [↓Array.getElem?_setIfInBounds_ne, ne_eq, Nat.reduceEqDiff, not_false_eq_true, q10_14]; done) | simp [hs14, f3_14, f6_14, f16_14, f17_14, f48_14, f49_14, f7_14, f8_14, f9_14, f10_14, f11_14, f52_14, f53_14, f54_14, f58_14, f59_14, f60_14, f64_14, f65_14, f66_14, f468_14])
              have f10_15 := fun hh => getq q10_15 hh
              have q11_15 : T15[43]? = some (.int .i64 v) := by subst hT; exact (by first | (simp only [↓Array.getElem?_setIfInBounds_ne, ne_eq, Nat.reduceEqDiff, not_false_eq_true, q11_14]; done) | simp [hs14, f3_14, f6_14, f16_14, f17_14, f48_14, f49_14, f7_14, f8_14, f9_14, f10_14, f11_14, f52_14, f53_14, f54_14, f58_14, f59_14, f60_14, f64_14, f65_14, f66_14, f468_14])
              have f11_15 := fun hh => getq q11_15 hh
              have q52_15 : T15[44]? = some (.int .i64 s1) := by subst hT; exact (by first | (simp only [↓Array.getElem?_setIfInBounds_ne, ne_eq, Nat.reduceEqDiff, not_false_eq_true, q52_14]; done) | simp [hs14, f3_14, f6_14, f16_14, f17_14, f48_14, f49_14, f7_14, f8_14, f9_14, f10_14, f11_14, f52_14, f53_14, f54_14, f58_14, f59_14, f60_14, f64_14, f65_14, f66_14, f468_14])
              have f52_15 := fun hh => getq q52_15 hh
              have q53_15 : T15[45]? = some (.int .i64 s2) := by subst hT; exact (by first | (simp only [↓Array.getElem?_setIfInBounds_ne, ne_eq, Nat.reduceEqDiff, not_false_eq_true, q53_14]; done) | simp [hs14, f3_14, f6_14, f16_14, f17_14, f48_14, f49_14, f7_14, f8_14, f9_14, f10_14, f11_14, f52_14, f53_14, f54_14, f58_14, f59_14, f60_14, f64_14, f65_14, f66_14, f468_14])
              have f53_15 := fun hh => getq q53_15 hh
              have q54_15 : T15[46]? = some (.bool FI) := by subst hT; exact (by first | (simp only [↓Array.getElem?_setIfInBounds_ne, ne_eq, Nat.reduceEqDiff, not_false_eq_true, q54_14]; done) | simp [hs14, f3_14, f6_14, f16_14, f17_14, f48_14, f49_14, f7_14, f8_14, f9_14, f10_14, f11_14, f52_14, f53_14, f54_14, f58_14, f59_14, f60_14, f64_14, f65_14, f66_14, f468_14])
              have f54_15 := fun hh => getq q54_15 hh
              have q58_15 : T15[50]? = some (.int .i64 e1) := by subst hT; exact (by first | (simp only [↓Array.getElem?_setIfInBounds_ne, ne_eq, Nat.reduceEqDiff, not_false_eq_true, q58_14]; done) | simp [hs14, f3_14, f6_14, f16_14, f17_14, f48_14, f49_14, f7_14, f8_14, f9_14, f10_14, f11_14, f52_14, f53_14, f54_14, f58_14, f59_14, f60_14, f64_14, f65_14, f66_14, f468_14])
              have f58_15 := fun hh => getq q58_15 hh
              have q59_15 : T15[51]? = some (.int .i64 e2) := by subst hT; exact (by first | (simp only [↓Array.getElem?_setIfInBounds_ne, ne_eq, Nat.reduceEqDiff, not_false_eq_true, q59_14]; done) | simp [hs14, f3_14, f6_14, f16_14, f17_14, f48_14, f49_14, f7_14, f8_14, f9_14, f10_14, f11_14, f52_14, f53_14, f54_14, f58_14, f59_14, f60_14, f64_14, f65_14, f66_14, f468_14])
              have f59_15 := fun hh => getq q59_15 hh
              have q60_15 : T15[52]? = some (.bool SE) := by subst hT; exact (by first | (simp only [↓Array.getElem?_setIfInBounds_ne, ne_eq, Nat.reduceEqDiff, not_false_eq_true, q60_14]; done) | simp [hs14, f3_14, f6_14, f16_14, f17_14, f48_14, f49_14, f7_14, f8_14, f9_14, f10_14, f11_14, f52_14, f53_14, f54_14, f58_14, f59_14, f60_14, f64_14, f65_14, f66_14, f468_14])
              have f60_15 := fun hh => getq q60_15 hh
              have q64_15 : T15[56]? = some (.int .i64 n1) := by subst hT; exact (by first | (simp only [↓Array.getElem?_setIfInBounds_ne, ne_eq, Nat.reduceEqDiff, not_false_eq_true, q64_14]; done) | simp [hs14, f3_14, f6_14, f16_14, f17_14, f48_14, f49_14, f7_14, f8_14, f9_14, f10_14, f11_14, f52_14, f53_14, f54_14, f58_14, f59_14, f60_14, f64_14, f65_14, f66_14, f468_14])
              have f64_15 := fun hh => getq q64_15 hh
              have q65_15 : T15[57]? = some (.int .i64 n2) := by subst hT; exact (by first | (simp only [↓Array.getElem?_setIfInBounds_ne, ne_eq, Nat.reduceEqDiff, not_false_eq_true, q65_14]; done) | simp [hs14, f3_14, f6_14, f16_14, f17_14, f48_14, f49_14, f7_14, f8_14, f9_14, f10_14, f11_14, f52_14, f53_14, f54_14, f58_14, f59_14, f60_14, f64_14, f65_14, f66_14, f468_14])
              have f65_15 := fun hh => getq q65_15 hh
              have q66_15 : T15[58]? = some (.bool NI) := by subst hT; exact (by first | (simp only [↓Array.getElem?_setIfInBounds_ne, ne_eq, Nat.reduceEqDiff, not_false_eq_true, q66_14]; done) | simp [hs14, f3_14, f6_14, f16_14, f17_14, f48_14, f49_14, f7_14, f8_14, f9_14, f10_14, f11_14, f52_14, f53_14, f54_14, f58_14, f59_14, f60_14, f64_14, f65_14, f66_14, f468_14])
              have f66_15 := fun hh => getq q66_15 hh
              have q3_15 : T15[31]? = some (.int .i64 hi) := by subst hT; exact (by first | (simp only [↓Array.getElem?_setIfInBounds_ne, ne_eq, Nat.reduceEqDiff, not_false_eq_true, q3_14]; done) | simp [hs14, f3_14, f6_14, f16_14, f17_14, f48_14, f49_14, f7_14, f8_14, f9_14, f10_14, f11_14, f52_14, f53_14, f54_14, f58_14, f59_14, f60_14, f64_14, f65_14, f66_14, f468_14])
              have f3_15 := fun hh => getq q3_15 hh
              have q6_15 : T15[34]? = some (.int .i64 m) := by subst hT; exact (by first | (simp only [↓Array.getElem?_setIfInBounds_ne, ne_eq, Nat.reduceEqDiff, not_false_eq_true, q6_14]; done) | simp [hs14, f3_14, f6_14, f16_14, f17_14, f48_14, f49_14, f7_14, f8_14, f9_14, f10_14, f11_14, f52_14, f53_14, f54_14, f58_14, f59_14, f60_14, f64_14, f65_14, f66_14, f468_14])
              have f6_15 := fun hh => getq q6_15 hh
              have q16_15 : T15[32]? = some (.pointer (some ⟨g2, 0, none⟩)) := by subst hT; exact (by first | (simp only [↓Array.getElem?_setIfInBounds_ne, ne_eq, Nat.reduceEqDiff, not_false_eq_true, q16_14]; done) | simp [hs14, f3_14, f6_14, f16_14, f17_14, f48_14, f49_14, f7_14, f8_14, f9_14, f10_14, f11_14, f52_14, f53_14, f54_14, f58_14, f59_14, f60_14, f64_14, f65_14, f66_14, f468_14])
              have f16_15 := fun hh => getq q16_15 hh
              have q17_15 : T15[33]? = some (.pointer (some ⟨g2 + 1, 0, none⟩)) := by subst hT; exact (by first | (simp only [↓Array.getElem?_setIfInBounds_ne, ne_eq, Nat.reduceEqDiff, not_false_eq_true, q17_14]; done) | simp [hs14, f3_14, f6_14, f16_14, f17_14, f48_14, f49_14, f7_14, f8_14, f9_14, f10_14, f11_14, f52_14, f53_14, f54_14, f58_14, f59_14, f60_14, f64_14, f65_14, f66_14, f468_14])
              have f17_15 := fun hh => getq q17_15 hh
              have q48_15 : T15[35]? = some (.bool IS) := by subst hT; exact (by first | (simp only [↓Array.getElem?_setIfInBounds_ne, ne_eq, Nat.reduceEqDiff, not_false_eq_true, q48_14]; done) | simp [hs14, f3_14, f6_14, f16_14, f17_14, f48_14, f49_14, f7_14, f8_14, f9_14, f10_14, f11_14, f52_14, f53_14, f54_14, f58_14, f59_14, f60_14, f64_14, f65_14, f66_14, f468_14])
              have f48_15 := fun hh => getq q48_15 hh
              have q70_15 : T15[62]? = some (.int .i64 P) := by subst hT; exact (by first | (simp only [↓Array.getElem?_setIfInBounds_ne, ne_eq, Nat.reduceEqDiff, not_false_eq_true]; done) | simp [hs14, f3_14, f6_14, f16_14, f17_14, f48_14, f49_14, f7_14, f8_14, f9_14, f10_14, f11_14, f52_14, f53_14, f54_14, f58_14, f59_14, f60_14, f64_14, f65_14, f66_14, f468_14])
              have f70_15 := fun hh => getq q70_15 hh
              have q71_15 : T15[63]? = some (.bool true) := by subst hT; exact (by first | (simp only [↓Array.getElem?_setIfInBounds_ne, ne_eq, Nat.reduceEqDiff, not_false_eq_true]; done) | simp [hs14, f3_14, f6_14, f16_14, f17_14, f48_14, f49_14, f7_14, f8_14, f9_14, f10_14, f11_14, f52_14, f53_14, f54_14, f58_14, f59_14, f60_14, f64_14, f65_14, f66_14, f468_14])
              have f71_15 := fun hh => getq q71_15 hh
              have q72_15 : T15[64]? = some (.int .i64 Q) := by subst hT; exact (by first | (simp only [↓Array.getElem?_setIfInBounds_ne, ne_eq, Nat.reduceEqDiff, not_false_eq_true]; done) | simp [hs14, f3_14, f6_14, f16_14, f17_14, f48_14, f49_14, f7_14, f8_14, f9_14, f10_14, f11_14, f52_14, f53_14, f54_14, f58_14, f59_14, f60_14, f64_14, f65_14, f66_14, f468_14])
              have f72_15 := fun hh => getq q72_15 hh
              have q73_15 : T15[65]? = some (.bool true) := by subst hT; exact (by first | (simp only [↓Array.getElem?_setIfInBounds_ne, ne_eq, Nat.reduceEqDiff, not_false_eq_true]; done) | simp [hs14, f3_14, f6_14, f16_14, f17_14, f48_14, f49_14, f7_14, f8_14, f9_14, f10_14, f11_14, f52_14, f53_14, f54_14, f58_14, f59_14, f60_14, f64_14, f65_14, f66_14, f468_14])
              have f73_15 := fun hh => getq q73_15 hh
              clear hT f468_14 f66_14 f65_14 f64_14 f60_14 f59_14 f58_14 f54_14 f53_14 f52_14 f11_14 f10_14 f9_14 f8_14 f7_14 f49_14 f48_14 f17_14 f16_14 f6_14 f3_14 hs14 q3_14 q6_14 q16_14 q17_14 q48_14 q49_14 q7_14 q8_14 q9_14 q10_14 q11_14 q52_14 q53_14 q54_14 q58_14 q59_14 q60_14 q64_14 q65_14 q66_14 q468_14
              obtain ⟨z1, z2⟩ := mul_bd2 (a := dh) (b := P) (m := 200) (k := 3500) (by omega) (by omega) (by omega) (by omega)
              obtain ⟨z3, z4⟩ := mul_bd2 (a := hi) (b := P) (m := 200) (k := 3500) (by omega) (by omega) (by omega) (by omega)
              obtain ⟨z5, z6⟩ := mul_bd2 (a := hi - ch) (b := Q) (m := 200) (k := 3500) (by omega) (by omega) (by omega) (by omega)
              have w1_ : IntKind.i64.wrap (dh * P) = dh * P := IntWalk.i64_in _ ⟨by omega, by omega⟩
              have w2_ : IntKind.i64.wrap (hi * P) = hi * P := IntWalk.i64_in _ ⟨by omega, by omega⟩
              have w3_ : IntKind.i64.wrap (hi - ch) = hi - ch := IntWalk.i64_in _ ⟨by omega, by omega⟩
              have w4_ : IntKind.i64.wrap ((hi - ch) * Q) = (hi - ch) * Q := IntWalk.i64_in _ ⟨by omega, by omega⟩
              have w5_ : IntKind.i64.wrap (hi * P - (hi - ch) * Q) = hi * P - (hi - ch) * Q := IntWalk.i64_in _ ⟨by omega, by omega⟩
              cases IS
              · by_cases hpq : P < Q
                · have hle := HX0.out rfl hpq
                  go_wp2_with fail
                  refine wp_cond_f ?_ ?_
                  · go_simp
                  go_wp2_with fail
                  refine wp_cond_f ?_ ?_
                  · go_simp
                  go_wp2_with fail
                  refine Met.intro (hJ _ _ ⟨_, rfl, by simp [hs15], by first | (simp only [↓Array.getElem?_setIfInBounds_ne, ne_eq, Nat.reduceEqDiff, not_false_eq_true, q7_15]; done) | simp [hs15, f7_15, f8_15, f9_15, f10_15, f11_15, f52_15, f53_15, f54_15, f58_15, f59_15, f60_15, f64_15, f65_15, f66_15, f3_15, f6_15, f16_15, f17_15, f48_15, f70_15, f71_15, f72_15, f73_15], by first | (simp only [↓Array.getElem?_setIfInBounds_ne, ne_eq, Nat.reduceEqDiff, not_false_eq_true, q8_15]; done) | simp [hs15, f7_15, f8_15, f9_15, f10_15, f11_15, f52_15, f53_15, f54_15, f58_15, f59_15, f60_15, f64_15, f65_15, f66_15, f3_15, f6_15, f16_15, f17_15, f48_15, f70_15, f71_15, f72_15, f73_15], by first | (simp only [↓Array.getElem?_setIfInBounds_ne, ne_eq, Nat.reduceEqDiff, not_false_eq_true, q9_15]; done) | simp [hs15, f7_15, f8_15, f9_15, f10_15, f11_15, f52_15, f53_15, f54_15, f58_15, f59_15, f60_15, f64_15, f65_15, f66_15, f3_15, f6_15, f16_15, f17_15, f48_15, f70_15, f71_15, f72_15, f73_15], by first | (simp only [↓Array.getElem?_setIfInBounds_ne, ne_eq, Nat.reduceEqDiff, not_false_eq_true, q10_15]; done) | simp [hs15, f7_15, f8_15, f9_15, f10_15, f11_15, f52_15, f53_15, f54_15, f58_15, f59_15, f60_15, f64_15, f65_15, f66_15, f3_15, f6_15, f16_15, f17_15, f48_15, f70_15, f71_15, f72_15, f73_15], by first | (simp only [↓Array.getElem?_setIfInBounds_ne, ne_eq, Nat.reduceEqDiff, not_false_eq_true, q11_15]; done) | simp [hs15, f7_15, f8_15, f9_15, f10_15, f11_15, f52_15, f53_15, f54_15, f58_15, f59_15, f60_15, f64_15, f65_15, f66_15, f3_15, f6_15, f16_15, f17_15, f48_15, f70_15, f71_15, f72_15, f73_15], by first | (simp only [↓Array.getElem?_setIfInBounds_ne, ne_eq, Nat.reduceEqDiff, not_false_eq_true, q52_15]; done) | simp [hs15, f7_15, f8_15, f9_15, f10_15, f11_15, f52_15, f53_15, f54_15, f58_15, f59_15, f60_15, f64_15, f65_15, f66_15, f3_15, f6_15, f16_15, f17_15, f48_15, f70_15, f71_15, f72_15, f73_15], by first | (simp only [↓Array.getElem?_setIfInBounds_ne, ne_eq, Nat.reduceEqDiff, not_false_eq_true, q53_15]; done) | simp [hs15, f7_15, f8_15, f9_15, f10_15, f11_15, f52_15, f53_15, f54_15, f58_15, f59_15, f60_15, f64_15, f65_15, f66_15, f3_15, f6_15, f16_15, f17_15, f48_15, f70_15, f71_15, f72_15, f73_15], by first | (simp only [↓Array.getElem?_setIfInBounds_ne, ne_eq, Nat.reduceEqDiff, not_false_eq_true, q54_15]; done) | simp [hs15, f7_15, f8_15, f9_15, f10_15, f11_15, f52_15, f53_15, f54_15, f58_15, f59_15, f60_15, f64_15, f65_15, f66_15, f3_15, f6_15, f16_15, f17_15, f48_15, f70_15, f71_15, f72_15, f73_15], by first | (simp only [↓Array.getElem?_setIfInBounds_ne, ne_eq, Nat.reduceEqDiff, not_false_eq_true, q58_15]; done) | simp [hs15, f7_15, f8_15, f9_15, f10_15, f11_15, f52_15, f53_15, f54_15, f58_15, f59_15, f60_15, f64_15, f65_15, f66_15, f3_15, f6_15, f16_15, f17_15, f48_15, f70_15, f71_15, f72_15, f73_15], by first | (simp only [↓Array.getElem?_setIfInBounds_ne, ne_eq, Nat.reduceEqDiff, not_false_eq_true, q59_15]; done) | simp [hs15, f7_15, f8_15, f9_15, f10_15, f11_15, f52_15, f53_15, f54_15, f58_15, f59_15, f60_15, f64_15, f65_15, f66_15, f3_15, f6_15, f16_15, f17_15, f48_15, f70_15, f71_15, f72_15, f73_15], by first | (simp only [↓Array.getElem?_setIfInBounds_ne, ne_eq, Nat.reduceEqDiff, not_false_eq_true, q60_15]; done) | simp [hs15, f7_15, f8_15, f9_15, f10_15, f11_15, f52_15, f53_15, f54_15, f58_15, f59_15, f60_15, f64_15, f65_15, f66_15, f3_15, f6_15, f16_15, f17_15, f48_15, f70_15, f71_15, f72_15, f73_15], by first | (simp only [↓Array.getElem?_setIfInBounds_ne, ne_eq, Nat.reduceEqDiff, not_false_eq_true, q64_15]; done) | simp [hs15, f7_15, f8_15, f9_15, f10_15, f11_15, f52_15, f53_15, f54_15, f58_15, f59_15, f60_15, f64_15, f65_15, f66_15, f3_15, f6_15, f16_15, f17_15, f48_15, f70_15, f71_15, f72_15, f73_15], by first | (simp only [↓Array.getElem?_setIfInBounds_ne, ne_eq, Nat.reduceEqDiff, not_false_eq_true, q65_15]; done) | simp [hs15, f7_15, f8_15, f9_15, f10_15, f11_15, f52_15, f53_15, f54_15, f58_15, f59_15, f60_15, f64_15, f65_15, f66_15, f3_15, f6_15, f16_15, f17_15, f48_15, f70_15, f71_15, f72_15, f73_15], by first | (simp only [↓Array.getElem?_setIfInBounds_ne, ne_eq, Nat.reduceEqDiff, not_false_eq_true, q66_15]; done) | simp [hs15, f7_15, f8_15, f9_15, f10_15, f11_15, f52_15, f53_15, f54_15, f58_15, f59_15, f60_15, f64_15, f65_15, f66_15, f3_15, f6_15, f16_15, f17_15, f48_15, f70_15, f71_15, f72_15, f73_15], Pair.bl (HFw109.out)⟩)
                · go_wp2_with fail
                  refine wp_cond_f ?_ ?_
                  · go_simp
                  go_wp2_with fail
                  refine wp_cond_f ?_ ?_
                  · go_simp
                  go_wp2_with fail
                  refine Met.intro (hJ _ _ ⟨_, rfl, by simp [hs15], by first | (simp only [↓Array.getElem?_setIfInBounds_ne, ne_eq, Nat.reduceEqDiff, not_false_eq_true, q7_15]; done) | simp [hs15, f7_15, f8_15, f9_15, f10_15, f11_15, f52_15, f53_15, f54_15, f58_15, f59_15, f60_15, f64_15, f65_15, f66_15, f3_15, f6_15, f16_15, f17_15, f48_15, f70_15, f71_15, f72_15, f73_15], by first | (simp only [↓Array.getElem?_setIfInBounds_ne, ne_eq, Nat.reduceEqDiff, not_false_eq_true, q8_15]; done) | simp [hs15, f7_15, f8_15, f9_15, f10_15, f11_15, f52_15, f53_15, f54_15, f58_15, f59_15, f60_15, f64_15, f65_15, f66_15, f3_15, f6_15, f16_15, f17_15, f48_15, f70_15, f71_15, f72_15, f73_15], by first | (simp only [↓Array.getElem?_setIfInBounds_ne, ne_eq, Nat.reduceEqDiff, not_false_eq_true, q9_15]; done) | simp [hs15, f7_15, f8_15, f9_15, f10_15, f11_15, f52_15, f53_15, f54_15, f58_15, f59_15, f60_15, f64_15, f65_15, f66_15, f3_15, f6_15, f16_15, f17_15, f48_15, f70_15, f71_15, f72_15, f73_15], by first | (simp only [↓Array.getElem?_setIfInBounds_ne, ne_eq, Nat.reduceEqDiff, not_false_eq_true, q10_15]; done) | simp [hs15, f7_15, f8_15, f9_15, f10_15, f11_15, f52_15, f53_15, f54_15, f58_15, f59_15, f60_15, f64_15, f65_15, f66_15, f3_15, f6_15, f16_15, f17_15, f48_15, f70_15, f71_15, f72_15, f73_15], by first | (simp only [↓Array.getElem?_setIfInBounds_ne, ne_eq, Nat.reduceEqDiff, not_false_eq_true, q11_15]; done) | simp [hs15, f7_15, f8_15, f9_15, f10_15, f11_15, f52_15, f53_15, f54_15, f58_15, f59_15, f60_15, f64_15, f65_15, f66_15, f3_15, f6_15, f16_15, f17_15, f48_15, f70_15, f71_15, f72_15, f73_15], by first | (simp only [↓Array.getElem?_setIfInBounds_ne, ne_eq, Nat.reduceEqDiff, not_false_eq_true, q52_15]; done) | simp [hs15, f7_15, f8_15, f9_15, f10_15, f11_15, f52_15, f53_15, f54_15, f58_15, f59_15, f60_15, f64_15, f65_15, f66_15, f3_15, f6_15, f16_15, f17_15, f48_15, f70_15, f71_15, f72_15, f73_15], by first | (simp only [↓Array.getElem?_setIfInBounds_ne, ne_eq, Nat.reduceEqDiff, not_false_eq_true, q53_15]; done) | simp [hs15, f7_15, f8_15, f9_15, f10_15, f11_15, f52_15, f53_15, f54_15, f58_15, f59_15, f60_15, f64_15, f65_15, f66_15, f3_15, f6_15, f16_15, f17_15, f48_15, f70_15, f71_15, f72_15, f73_15], by first | (simp only [↓Array.getElem?_setIfInBounds_ne, ne_eq, Nat.reduceEqDiff, not_false_eq_true, q54_15]; done) | simp [hs15, f7_15, f8_15, f9_15, f10_15, f11_15, f52_15, f53_15, f54_15, f58_15, f59_15, f60_15, f64_15, f65_15, f66_15, f3_15, f6_15, f16_15, f17_15, f48_15, f70_15, f71_15, f72_15, f73_15], by first | (simp only [↓Array.getElem?_setIfInBounds_ne, ne_eq, Nat.reduceEqDiff, not_false_eq_true, q58_15]; done) | simp [hs15, f7_15, f8_15, f9_15, f10_15, f11_15, f52_15, f53_15, f54_15, f58_15, f59_15, f60_15, f64_15, f65_15, f66_15, f3_15, f6_15, f16_15, f17_15, f48_15, f70_15, f71_15, f72_15, f73_15], by first | (simp only [↓Array.getElem?_setIfInBounds_ne, ne_eq, Nat.reduceEqDiff, not_false_eq_true, q59_15]; done) | simp [hs15, f7_15, f8_15, f9_15, f10_15, f11_15, f52_15, f53_15, f54_15, f58_15, f59_15, f60_15, f64_15, f65_15, f66_15, f3_15, f6_15, f16_15, f17_15, f48_15, f70_15, f71_15, f72_15, f73_15], by first | (simp only [↓Array.getElem?_setIfInBounds_ne, ne_eq, Nat.reduceEqDiff, not_false_eq_true, q60_15]; done) | simp [hs15, f7_15, f8_15, f9_15, f10_15, f11_15, f52_15, f53_15, f54_15, f58_15, f59_15, f60_15, f64_15, f65_15, f66_15, f3_15, f6_15, f16_15, f17_15, f48_15, f70_15, f71_15, f72_15, f73_15], by first | (simp only [↓Array.getElem?_setIfInBounds_ne, ne_eq, Nat.reduceEqDiff, not_false_eq_true, q64_15]; done) | simp [hs15, f7_15, f8_15, f9_15, f10_15, f11_15, f52_15, f53_15, f54_15, f58_15, f59_15, f60_15, f64_15, f65_15, f66_15, f3_15, f6_15, f16_15, f17_15, f48_15, f70_15, f71_15, f72_15, f73_15], by first | (simp only [↓Array.getElem?_setIfInBounds_ne, ne_eq, Nat.reduceEqDiff, not_false_eq_true, q65_15]; done) | simp [hs15, f7_15, f8_15, f9_15, f10_15, f11_15, f52_15, f53_15, f54_15, f58_15, f59_15, f60_15, f64_15, f65_15, f66_15, f3_15, f6_15, f16_15, f17_15, f48_15, f70_15, f71_15, f72_15, f73_15], by first | (simp only [↓Array.getElem?_setIfInBounds_ne, ne_eq, Nat.reduceEqDiff, not_false_eq_true, q66_15]; done) | simp [hs15, f7_15, f8_15, f9_15, f10_15, f11_15, f52_15, f53_15, f54_15, f58_15, f59_15, f60_15, f64_15, f65_15, f66_15, f3_15, f6_15, f16_15, f17_15, f48_15, f70_15, f71_15, f72_15, f73_15], Pair.bl (HFw109.out)⟩)
              · obtain ⟨hpq, hle, hp0, HIO⟩ := HX1.out rfl
                have hp0b : (P == 0) = false := beq_eq_false_iff_ne.2 hp0
                go_wp2_with fail
                refine wp_cond_f ?_ ?_
                · go_simp
                go_wp2_with fail
                refine wp_cond_t ?_ ?_
                · go_simp
                go_wp2_with fail
                refine ((HIO _).out).mono ?_
                rintro e w110 ⟨rfl, hb_⟩
                have HFw110 := Lib.hid (Pair.after HFw109.out hb_)
                clear hb_ hz c00 c01 c02 c10 c11 c12
                obtain ⟨c00, c01, c02, c10, c11, c12, hz, hbl⟩ := HFw110.out
                clear hbl
                go_wp2_with fail
                refine wp_cond_f ?_ ?_
                · go_simp
                go_wp2_with fail
                refine Met.intro (hJ _ _ ⟨_, rfl, by simp [hs15], by first | (simp only [↓Array.getElem?_setIfInBounds_ne, ne_eq, Nat.reduceEqDiff, not_false_eq_true, q7_15]; done) | simp [hs15, f7_15, f8_15, f9_15, f10_15, f11_15, f52_15, f53_15, f54_15, f58_15, f59_15, f60_15, f64_15, f65_15, f66_15, f3_15, f6_15, f16_15, f17_15, f48_15, f70_15, f71_15, f72_15, f73_15], by first | (simp only [↓Array.getElem?_setIfInBounds_ne, ne_eq, Nat.reduceEqDiff, not_false_eq_true, q8_15]; done) | simp [hs15, f7_15, f8_15, f9_15, f10_15, f11_15, f52_15, f53_15, f54_15, f58_15, f59_15, f60_15, f64_15, f65_15, f66_15, f3_15, f6_15, f16_15, f17_15, f48_15, f70_15, f71_15, f72_15, f73_15], by first | (simp only [↓Array.getElem?_setIfInBounds_ne, ne_eq, Nat.reduceEqDiff, not_false_eq_true, q9_15]; done) | simp [hs15, f7_15, f8_15, f9_15, f10_15, f11_15, f52_15, f53_15, f54_15, f58_15, f59_15, f60_15, f64_15, f65_15, f66_15, f3_15, f6_15, f16_15, f17_15, f48_15, f70_15, f71_15, f72_15, f73_15], by first | (simp only [↓Array.getElem?_setIfInBounds_ne, ne_eq, Nat.reduceEqDiff, not_false_eq_true, q10_15]; done) | simp [hs15, f7_15, f8_15, f9_15, f10_15, f11_15, f52_15, f53_15, f54_15, f58_15, f59_15, f60_15, f64_15, f65_15, f66_15, f3_15, f6_15, f16_15, f17_15, f48_15, f70_15, f71_15, f72_15, f73_15], by first | (simp only [↓Array.getElem?_setIfInBounds_ne, ne_eq, Nat.reduceEqDiff, not_false_eq_true, q11_15]; done) | simp [hs15, f7_15, f8_15, f9_15, f10_15, f11_15, f52_15, f53_15, f54_15, f58_15, f59_15, f60_15, f64_15, f65_15, f66_15, f3_15, f6_15, f16_15, f17_15, f48_15, f70_15, f71_15, f72_15, f73_15], by first | (simp only [↓Array.getElem?_setIfInBounds_ne, ne_eq, Nat.reduceEqDiff, not_false_eq_true, q52_15]; done) | simp [hs15, f7_15, f8_15, f9_15, f10_15, f11_15, f52_15, f53_15, f54_15, f58_15, f59_15, f60_15, f64_15, f65_15, f66_15, f3_15, f6_15, f16_15, f17_15, f48_15, f70_15, f71_15, f72_15, f73_15], by first | (simp only [↓Array.getElem?_setIfInBounds_ne, ne_eq, Nat.reduceEqDiff, not_false_eq_true, q53_15]; done) | simp [hs15, f7_15, f8_15, f9_15, f10_15, f11_15, f52_15, f53_15, f54_15, f58_15, f59_15, f60_15, f64_15, f65_15, f66_15, f3_15, f6_15, f16_15, f17_15, f48_15, f70_15, f71_15, f72_15, f73_15], by first | (simp only [↓Array.getElem?_setIfInBounds_ne, ne_eq, Nat.reduceEqDiff, not_false_eq_true, q54_15]; done) | simp [hs15, f7_15, f8_15, f9_15, f10_15, f11_15, f52_15, f53_15, f54_15, f58_15, f59_15, f60_15, f64_15, f65_15, f66_15, f3_15, f6_15, f16_15, f17_15, f48_15, f70_15, f71_15, f72_15, f73_15], by first | (simp only [↓Array.getElem?_setIfInBounds_ne, ne_eq, Nat.reduceEqDiff, not_false_eq_true, q58_15]; done) | simp [hs15, f7_15, f8_15, f9_15, f10_15, f11_15, f52_15, f53_15, f54_15, f58_15, f59_15, f60_15, f64_15, f65_15, f66_15, f3_15, f6_15, f16_15, f17_15, f48_15, f70_15, f71_15, f72_15, f73_15], by first | (simp only [↓Array.getElem?_setIfInBounds_ne, ne_eq, Nat.reduceEqDiff, not_false_eq_true, q59_15]; done) | simp [hs15, f7_15, f8_15, f9_15, f10_15, f11_15, f52_15, f53_15, f54_15, f58_15, f59_15, f60_15, f64_15, f65_15, f66_15, f3_15, f6_15, f16_15, f17_15, f48_15, f70_15, f71_15, f72_15, f73_15], by first | (simp only [↓Array.getElem?_setIfInBounds_ne, ne_eq, Nat.reduceEqDiff, not_false_eq_true, q60_15]; done) | simp [hs15, f7_15, f8_15, f9_15, f10_15, f11_15, f52_15, f53_15, f54_15, f58_15, f59_15, f60_15, f64_15, f65_15, f66_15, f3_15, f6_15, f16_15, f17_15, f48_15, f70_15, f71_15, f72_15, f73_15], by first | (simp only [↓Array.getElem?_setIfInBounds_ne, ne_eq, Nat.reduceEqDiff, not_false_eq_true, q64_15]; done) | simp [hs15, f7_15, f8_15, f9_15, f10_15, f11_15, f52_15, f53_15, f54_15, f58_15, f59_15, f60_15, f64_15, f65_15, f66_15, f3_15, f6_15, f16_15, f17_15, f48_15, f70_15, f71_15, f72_15, f73_15], by first | (simp only [↓Array.getElem?_setIfInBounds_ne, ne_eq, Nat.reduceEqDiff, not_false_eq_true, q65_15]; done) | simp [hs15, f7_15, f8_15, f9_15, f10_15, f11_15, f52_15, f53_15, f54_15, f58_15, f59_15, f60_15, f64_15, f65_15, f66_15, f3_15, f6_15, f16_15, f17_15, f48_15, f70_15, f71_15, f72_15, f73_15], by first | (simp only [↓Array.getElem?_setIfInBounds_ne, ne_eq, Nat.reduceEqDiff, not_false_eq_true, q66_15]; done) | simp [hs15, f7_15, f8_15, f9_15, f10_15, f11_15, f52_15, f53_15, f54_15, f58_15, f59_15, f60_15, f64_15, f65_15, f66_15, f3_15, f6_15, f16_15, f17_15, f48_15, f70_15, f71_15, f72_15, f73_15], Pair.bl (HFw110.out)⟩)
          case rest5 =>
            intro a' wc5 hR5
            obtain ⟨T16, rfl, hs16, q7_16, q8_16, q9_16, q10_16, q11_16, q52_16, q53_16, q54_16, q58_16, q59_16, q60_16, q64_16, q65_16, q66_16, hB5⟩ := hR5
            have f7_16 := fun hh => getq q7_16 hh
            have f8_16 := fun hh => getq q8_16 hh
            have f9_16 := fun hh => getq q9_16 hh
            have f10_16 := fun hh => getq q10_16 hh
            have f11_16 := fun hh => getq q11_16 hh
            have f52_16 := fun hh => getq q52_16 hh
            have f53_16 := fun hh => getq q53_16 hh
            have f54_16 := fun hh => getq q54_16 hh
            have f58_16 := fun hh => getq q58_16 hh
            have f59_16 := fun hh => getq q59_16 hh
            have f60_16 := fun hh => getq q60_16 hh
            have f64_16 := fun hh => getq q64_16 hh
            have f65_16 := fun hh => getq q65_16 hh
            have f66_16 := fun hh => getq q66_16 hh
            clear FE
            have HB5 := Lib.hid hB5
            clear hB5
            go_upto_region 42 with fail
            refine wp_cut (fun a' wx => ∃ T : Array Value, a' = ⟨T, []⟩ ∧ T.size = 642 ∧ T[39]? = some (.int .i64 a) ∧ T[40]? = some (.int .i64 L) ∧ T[41]? = some (.int .i64 R) ∧ T[43]? = some (.int .i64 v) ∧ T[44]? = some (.int .i64 s1) ∧ T[45]? = some (.int .i64 s2) ∧ T[46]? = some (.bool FI) ∧ T[50]? = some (.int .i64 e1) ∧ T[51]? = some (.int .i64 e2) ∧ T[52]? = some (.bool SE) ∧ T[56]? = some (.int .i64 n1) ∧ T[57]? = some (.int .i64 n2) ∧ T[58]? = some (.bool NI) ∧ T[579]? = some (.bool false) ∧ Below w.heap.size w wx) ?rest6 ?first6
            case first6 =>
              intro J K' hJ hK
              clear FG FN HFS HSN
              cases FI
              · go_wp2_with fail
                refine Met.intro (hJ _ _ ⟨_, rfl, by simp [hs16], by first | (simp only [↓Array.getElem?_setIfInBounds_ne, ne_eq, Nat.reduceEqDiff, not_false_eq_true, q7_16]; done) | simp [hs16, f7_16, f8_16, f9_16, f10_16, f11_16, f52_16, f53_16, f54_16, f58_16, f59_16, f60_16, f64_16, f65_16, f66_16], by first | (simp only [↓Array.getElem?_setIfInBounds_ne, ne_eq, Nat.reduceEqDiff, not_false_eq_true, q8_16]; done) | simp [hs16, f7_16, f8_16, f9_16, f10_16, f11_16, f52_16, f53_16, f54_16, f58_16, f59_16, f60_16, f64_16, f65_16, f66_16], by first | (simp only [↓Array.getElem?_setIfInBounds_ne, ne_eq, Nat.reduceEqDiff, not_false_eq_true, q9_16]; done) | simp [hs16, f7_16, f8_16, f9_16, f10_16, f11_16, f52_16, f53_16, f54_16, f58_16, f59_16, f60_16, f64_16, f65_16, f66_16], by first | (simp only [↓Array.getElem?_setIfInBounds_ne, ne_eq, Nat.reduceEqDiff, not_false_eq_true, q11_16]; done) | simp [hs16, f7_16, f8_16, f9_16, f10_16, f11_16, f52_16, f53_16, f54_16, f58_16, f59_16, f60_16, f64_16, f65_16, f66_16], by first | (simp only [↓Array.getElem?_setIfInBounds_ne, ne_eq, Nat.reduceEqDiff, not_false_eq_true, q52_16]; done) | simp [hs16, f7_16, f8_16, f9_16, f10_16, f11_16, f52_16, f53_16, f54_16, f58_16, f59_16, f60_16, f64_16, f65_16, f66_16], by first | (simp only [↓Array.getElem?_setIfInBounds_ne, ne_eq, Nat.reduceEqDiff, not_false_eq_true, q53_16]; done) | simp [hs16, f7_16, f8_16, f9_16, f10_16, f11_16, f52_16, f53_16, f54_16, f58_16, f59_16, f60_16, f64_16, f65_16, f66_16], by first | (simp only [↓Array.getElem?_setIfInBounds_ne, ne_eq, Nat.reduceEqDiff, not_false_eq_true, q54_16]; done) | simp [hs16, f7_16, f8_16, f9_16, f10_16, f11_16, f52_16, f53_16, f54_16, f58_16, f59_16, f60_16, f64_16, f65_16, f66_16], by first | (simp only [↓Array.getElem?_setIfInBounds_ne, ne_eq, Nat.reduceEqDiff, not_false_eq_true, q58_16]; done) | simp [hs16, f7_16, f8_16, f9_16, f10_16, f11_16, f52_16, f53_16, f54_16, f58_16, f59_16, f60_16, f64_16, f65_16, f66_16], by first | (simp only [↓Array.getElem?_setIfInBounds_ne, ne_eq, Nat.reduceEqDiff, not_false_eq_true, q59_16]; done) | simp [hs16, f7_16, f8_16, f9_16, f10_16, f11_16, f52_16, f53_16, f54_16, f58_16, f59_16, f60_16, f64_16, f65_16, f66_16], by first | (simp only [↓Array.getElem?_setIfInBounds_ne, ne_eq, Nat.reduceEqDiff, not_false_eq_true, q60_16]; done) | simp [hs16, f7_16, f8_16, f9_16, f10_16, f11_16, f52_16, f53_16, f54_16, f58_16, f59_16, f60_16, f64_16, f65_16, f66_16], by first | (simp only [↓Array.getElem?_setIfInBounds_ne, ne_eq, Nat.reduceEqDiff, not_false_eq_true, q64_16]; done) | simp [hs16, f7_16, f8_16, f9_16, f10_16, f11_16, f52_16, f53_16, f54_16, f58_16, f59_16, f60_16, f64_16, f65_16, f66_16], by first | (simp only [↓Array.getElem?_setIfInBounds_ne, ne_eq, Nat.reduceEqDiff, not_false_eq_true, q65_16]; done) | simp [hs16, f7_16, f8_16, f9_16, f10_16, f11_16, f52_16, f53_16, f54_16, f58_16, f59_16, f60_16, f64_16, f65_16, f66_16], by first | (simp only [↓Array.getElem?_setIfInBounds_ne, ne_eq, Nat.reduceEqDiff, not_false_eq_true, q66_16]; done) | simp [hs16, f7_16, f8_16, f9_16, f10_16, f11_16, f52_16, f53_16, f54_16, f58_16, f59_16, f60_16, f64_16, f65_16, f66_16], by first | (simp only [↓Array.getElem?_setIfInBounds_ne, ne_eq, Nat.reduceEqDiff, not_false_eq_true]; done) | simp [hs16, f7_16, f8_16, f9_16, f10_16, f11_16, f52_16, f53_16, f54_16, f58_16, f59_16, f60_16, f64_16, f65_16, f66_16], HB5.out⟩)
              · obtain ⟨HYS, ⟨⟨a1, a2⟩, ⟨a3, a4, a5⟩, a6, a7, a8, a9⟩, ⟨x1, x2⟩, ⟨z1, z2⟩, ⟨z3, z4⟩, ⟨z5, z6⟩, z7, z8⟩ := FF rfl
                clear FF
                have w1_ : IntKind.i64.wrap (R - v) = R - v := IntWalk.i64_in _ ⟨by omega, by omega⟩
                have w2_ : IntKind.i64.wrap (x * (R - v)) = x * (R - v) := IntWalk.i64_in _ ⟨by omega, by omega⟩
                have w3_ : IntKind.i64.wrap (a - x) = a - x := IntWalk.i64_in _ ⟨by omega, by omega⟩
                have w4_ : IntKind.i64.wrap (L - v) = L - v := IntWalk.i64_in _ ⟨by omega, by omega⟩
                have w5_ : IntKind.i64.wrap ((a - x) * (L - v)) = (a - x) * (L - v) := IntWalk.i64_in _ ⟨by omega, by omega⟩
                have w6_ : IntKind.i64.wrap (x * (R - v) + (a - x) * (L - v)) = x * (R - v) + (a - x) * (L - v) := IntWalk.i64_in _ ⟨by omega, by omega⟩
                have w7_ : IntKind.i64.wrap (v * (x * (R - v) + (a - x) * (L - v))) = v * (x * (R - v) + (a - x) * (L - v)) := IntWalk.i64_in _ ⟨by omega, by omega⟩
                have w8_ : IntKind.i64.wrap ((L - v) * (R - v)) = (L - v) * (R - v) := IntWalk.i64_in _ ⟨by omega, by omega⟩
                clear z1 z2 z3 z4 z5 z6 z7 z8
                go_wp2_with fail
                refine ((HYS _).out).mono ?_
                rintro e w' ⟨rfl, nA, rfl⟩
                go_wp2_with fail
                refine Met.intro (hJ _ _ ⟨_, rfl, by simp [hs16], by first | (simp only [↓Array.getElem?_setIfInBounds_ne, ne_eq, Nat.reduceEqDiff, not_false_eq_true, q7_16]; done) | simp [hs16, f7_16, f8_16, f9_16, f10_16, f11_16, f52_16, f53_16, f54_16, f58_16, f59_16, f60_16, f64_16, f65_16, f66_16], by first | (simp only [↓Array.getElem?_setIfInBounds_ne, ne_eq, Nat.reduceEqDiff, not_false_eq_true, q8_16]; done) | simp [hs16, f7_16, f8_16, f9_16, f10_16, f11_16, f52_16, f53_16, f54_16, f58_16, f59_16, f60_16, f64_16, f65_16, f66_16], by first | (simp only [↓Array.getElem?_setIfInBounds_ne, ne_eq, Nat.reduceEqDiff, not_false_eq_true, q9_16]; done) | simp [hs16, f7_16, f8_16, f9_16, f10_16, f11_16, f52_16, f53_16, f54_16, f58_16, f59_16, f60_16, f64_16, f65_16, f66_16], by first | (simp only [↓Array.getElem?_setIfInBounds_ne, ne_eq, Nat.reduceEqDiff, not_false_eq_true, q11_16]; done) | simp [hs16, f7_16, f8_16, f9_16, f10_16, f11_16, f52_16, f53_16, f54_16, f58_16, f59_16, f60_16, f64_16, f65_16, f66_16], by first | (simp only [↓Array.getElem?_setIfInBounds_ne, ne_eq, Nat.reduceEqDiff, not_false_eq_true, q52_16]; done) | simp [hs16, f7_16, f8_16, f9_16, f10_16, f11_16, f52_16, f53_16, f54_16, f58_16, f59_16, f60_16, f64_16, f65_16, f66_16], by first | (simp only [↓Array.getElem?_setIfInBounds_ne, ne_eq, Nat.reduceEqDiff, not_false_eq_true, q53_16]; done) | simp [hs16, f7_16, f8_16, f9_16, f10_16, f11_16, f52_16, f53_16, f54_16, f58_16, f59_16, f60_16, f64_16, f65_16, f66_16], by first | (simp only [↓Array.getElem?_setIfInBounds_ne, ne_eq, Nat.reduceEqDiff, not_false_eq_true, q54_16]; done) | simp [hs16, f7_16, f8_16, f9_16, f10_16, f11_16, f52_16, f53_16, f54_16, f58_16, f59_16, f60_16, f64_16, f65_16, f66_16], by first | (simp only [↓Array.getElem?_setIfInBounds_ne, ne_eq, Nat.reduceEqDiff, not_false_eq_true, q58_16]; done) | simp [hs16, f7_16, f8_16, f9_16, f10_16, f11_16, f52_16, f53_16, f54_16, f58_16, f59_16, f60_16, f64_16, f65_16, f66_16], by first | (simp only [↓Array.getElem?_setIfInBounds_ne, ne_eq, Nat.reduceEqDiff, not_false_eq_true, q59_16]; done) | simp [hs16, f7_16, f8_16, f9_16, f10_16, f11_16, f52_16, f53_16, f54_16, f58_16, f59_16, f60_16, f64_16, f65_16, f66_16], by first | (simp only [↓Array.getElem?_setIfInBounds_ne, ne_eq, Nat.reduceEqDiff, not_false_eq_true, q60_16]; done) | simp [hs16, f7_16, f8_16, f9_16, f10_16, f11_16, f52_16, f53_16, f54_16, f58_16, f59_16, f60_16, f64_16, f65_16, f66_16], by first | (simp only [↓Array.getElem?_setIfInBounds_ne, ne_eq, Nat.reduceEqDiff, not_false_eq_true, q64_16]; done) | simp [hs16, f7_16, f8_16, f9_16, f10_16, f11_16, f52_16, f53_16, f54_16, f58_16, f59_16, f60_16, f64_16, f65_16, f66_16], by first | (simp only [↓Array.getElem?_setIfInBounds_ne, ne_eq, Nat.reduceEqDiff, not_false_eq_true, q65_16]; done) | simp [hs16, f7_16, f8_16, f9_16, f10_16, f11_16, f52_16, f53_16, f54_16, f58_16, f59_16, f60_16, f64_16, f65_16, f66_16], by first | (simp only [↓Array.getElem?_setIfInBounds_ne, ne_eq, Nat.reduceEqDiff, not_false_eq_true, q66_16]; done) | simp [hs16, f7_16, f8_16, f9_16, f10_16, f11_16, f52_16, f53_16, f54_16, f58_16, f59_16, f60_16, f64_16, f65_16, f66_16], by first | (simp only [↓Array.getElem?_setIfInBounds_ne, ne_eq, Nat.reduceEqDiff, not_false_eq_true]; done) | simp [hs16, f7_16, f8_16, f9_16, f10_16, f11_16, f52_16, f53_16, f54_16, f58_16, f59_16, f60_16, f64_16, f65_16, f66_16], below_drewN HB5.out nA⟩)
            case rest6 =>
              intro a' wc6 hR6
              obtain ⟨T17, rfl, hs17, q7_17, q8_17, q9_17, q11_17, q52_17, q53_17, q54_17, q58_17, q59_17, q60_17, q64_17, q65_17, q66_17, q563_17, hB6⟩ := hR6
              have f7_17 := fun hh => getq q7_17 hh
              have f8_17 := fun hh => getq q8_17 hh
              have f9_17 := fun hh => getq q9_17 hh
              have f11_17 := fun hh => getq q11_17 hh
              have f52_17 := fun hh => getq q52_17 hh
              have f53_17 := fun hh => getq q53_17 hh
              have f54_17 := fun hh => getq q54_17 hh
              have f58_17 := fun hh => getq q58_17 hh
              have f59_17 := fun hh => getq q59_17 hh
              have f60_17 := fun hh => getq q60_17 hh
              have f64_17 := fun hh => getq q64_17 hh
              have f65_17 := fun hh => getq q65_17 hh
              have f66_17 := fun hh => getq q66_17 hh
              have f563_17 := fun hh => getq q563_17 hh
              have HB6 := Lib.hid hB6
              clear hB6 FF
              go_wp2_with fail
              refine wp_cond_f ?_ ?_
              · go_simp
              go_upto_region 44 with fail
              refine wp_cut (fun a' wx => ∃ T : Array Value, a' = ⟨T, []⟩ ∧ T.size = 642 ∧ T[39]? = some (.int .i64 a) ∧ T[40]? = some (.int .i64 L) ∧ T[41]? = some (.int .i64 R) ∧ T[43]? = some (.int .i64 v) ∧ T[44]? = some (.int .i64 s1) ∧ T[45]? = some (.int .i64 s2) ∧ T[46]? = some (.bool FI) ∧ T[56]? = some (.int .i64 n1) ∧ T[57]? = some (.int .i64 n2) ∧ T[58]? = some (.bool NI) ∧ T[614]? = some (.bool false) ∧ Below w.heap.size w wx) ?rest7 ?first7
              case first7 =>
                intro J K' hJ hK
                clear FN HFS HSN
                cases SE
                · go_wp2_with fail
                  all_goals refine Met.intro (hJ _ _ ⟨_, rfl, by simp [hs17], by first | (simp only [↓Array.getElem?_setIfInBounds_ne, ne_eq, Nat.reduceEqDiff, not_false_eq_true, q7_17]; done) | simp [hs17, f7_17, f8_17, f9_17, f11_17, f52_17, f53_17, f54_17, f58_17, f59_17, f60_17, f64_17, f65_17, f66_17, f563_17], by first | (simp only [↓Array.getElem?_setIfInBounds_ne, ne_eq, Nat.reduceEqDiff, not_false_eq_true, q8_17]; done) | simp [hs17, f7_17, f8_17, f9_17, f11_17, f52_17, f53_17, f54_17, f58_17, f59_17, f60_17, f64_17, f65_17, f66_17, f563_17], by first | (simp only [↓Array.getElem?_setIfInBounds_ne, ne_eq, Nat.reduceEqDiff, not_false_eq_true, q9_17]; done) | simp [hs17, f7_17, f8_17, f9_17, f11_17, f52_17, f53_17, f54_17, f58_17, f59_17, f60_17, f64_17, f65_17, f66_17, f563_17], by first | (simp only [↓Array.getElem?_setIfInBounds_ne, ne_eq, Nat.reduceEqDiff, not_false_eq_true, q11_17]; done) | simp [hs17, f7_17, f8_17, f9_17, f11_17, f52_17, f53_17, f54_17, f58_17, f59_17, f60_17, f64_17, f65_17, f66_17, f563_17], by first | (simp only [↓Array.getElem?_setIfInBounds_ne, ne_eq, Nat.reduceEqDiff, not_false_eq_true, q52_17]; done) | simp [hs17, f7_17, f8_17, f9_17, f11_17, f52_17, f53_17, f54_17, f58_17, f59_17, f60_17, f64_17, f65_17, f66_17, f563_17], by first | (simp only [↓Array.getElem?_setIfInBounds_ne, ne_eq, Nat.reduceEqDiff, not_false_eq_true, q53_17]; done) | simp [hs17, f7_17, f8_17, f9_17, f11_17, f52_17, f53_17, f54_17, f58_17, f59_17, f60_17, f64_17, f65_17, f66_17, f563_17], by first | (simp only [↓Array.getElem?_setIfInBounds_ne, ne_eq, Nat.reduceEqDiff, not_false_eq_true, q54_17]; done) | simp [hs17, f7_17, f8_17, f9_17, f11_17, f52_17, f53_17, f54_17, f58_17, f59_17, f60_17, f64_17, f65_17, f66_17, f563_17], by first | (simp only [↓Array.getElem?_setIfInBounds_ne, ne_eq, Nat.reduceEqDiff, not_false_eq_true, q64_17]; done) | simp [hs17, f7_17, f8_17, f9_17, f11_17, f52_17, f53_17, f54_17, f58_17, f59_17, f60_17, f64_17, f65_17, f66_17, f563_17], by first | (simp only [↓Array.getElem?_setIfInBounds_ne, ne_eq, Nat.reduceEqDiff, not_false_eq_true, q65_17]; done) | simp [hs17, f7_17, f8_17, f9_17, f11_17, f52_17, f53_17, f54_17, f58_17, f59_17, f60_17, f64_17, f65_17, f66_17, f563_17], by first | (simp only [↓Array.getElem?_setIfInBounds_ne, ne_eq, Nat.reduceEqDiff, not_false_eq_true, q66_17]; done) | simp [hs17, f7_17, f8_17, f9_17, f11_17, f52_17, f53_17, f54_17, f58_17, f59_17, f60_17, f64_17, f65_17, f66_17, f563_17], by first | (simp only [↓Array.getElem?_setIfInBounds_ne, ne_eq, Nat.reduceEqDiff, not_false_eq_true]; done) | simp [hs17, f7_17, f8_17, f9_17, f11_17, f52_17, f53_17, f54_17, f58_17, f59_17, f60_17, f64_17, f65_17, f66_17, f563_17], HB6.out⟩)
                · obtain ⟨HYS, ⟨⟨a1, a2⟩, ⟨a3, a4, a5⟩, a6, a7, a8, a9⟩, ⟨x1, x2, x3, x4⟩, hle, heq⟩ := FG rfl
                  clear FG
                  obtain ⟨z1, z2⟩ := mul_bd2 (a := a) (b := e2) (m := 500) (k := 400) (by omega) (by omega) (by omega) (by omega)
                  obtain ⟨z3, z4⟩ := mul_bd2 (a := e1) (b := R - v) (m := 100000) (k := 200) (by omega) (by omega) (by omega) (by omega)
                  have w1_ : IntKind.i64.wrap (a * e2) = a * e2 := IntWalk.i64_in _ ⟨by omega, by omega⟩
                  have w2_ : IntKind.i64.wrap (R - v) = R - v := IntWalk.i64_in _ ⟨by omega, by omega⟩
                  have w3_ : IntKind.i64.wrap (e1 * (R - v)) = e1 * (R - v) := IntWalk.i64_in _ ⟨by omega, by omega⟩
                  have w4_ : IntKind.i64.wrap (a * e2 - e1) = a * e2 - e1 := IntWalk.i64_in _ ⟨by omega, by omega⟩
                  have w5_ : IntKind.i64.wrap (L - v) = L - v := IntWalk.i64_in _ ⟨by omega, by omega⟩
                  have z5 : 0 ≤ (a * e2 - e1) * (L - v) := by omega
                  have z6 : (a * e2 - e1) * (L - v) ≤ 20000000 := by omega
                  have w6_ : IntKind.i64.wrap ((a * e2 - e1) * (L - v)) = (a * e2 - e1) * (L - v) := IntWalk.i64_in _ ⟨by omega, by omega⟩
                  have hle1 : ¬ a * e2 < e1 := by omega
                  have hn1 : ¬ e1 < 0 := by omega
                  clear z1 z2 z3 z4 z5 z6
                  go_wp2_with fail
                  refine ((HYS _).out).mono ?_
                  rintro e w' ⟨rfl, nA, rfl⟩
                  go_wp2_with fail
                  all_goals refine Met.intro (hJ _ _ ⟨_, rfl, by simp [hs17], by first | (simp only [↓Array.getElem?_setIfInBounds_ne, ne_eq, Nat.reduceEqDiff, not_false_eq_true, q7_17]; done) | simp [hs17, f7_17, f8_17, f9_17, f11_17, f52_17, f53_17, f54_17, f58_17, f59_17, f60_17, f64_17, f65_17, f66_17, f563_17, x1, hle], by first | (simp only [↓Array.getElem?_setIfInBounds_ne, ne_eq, Nat.reduceEqDiff, not_false_eq_true, q8_17]; done) | simp [hs17, f7_17, f8_17, f9_17, f11_17, f52_17, f53_17, f54_17, f58_17, f59_17, f60_17, f64_17, f65_17, f66_17, f563_17, x1, hle], by first | (simp only [↓Array.getElem?_setIfInBounds_ne, ne_eq, Nat.reduceEqDiff, not_false_eq_true, q9_17]; done) | simp [hs17, f7_17, f8_17, f9_17, f11_17, f52_17, f53_17, f54_17, f58_17, f59_17, f60_17, f64_17, f65_17, f66_17, f563_17, x1, hle], by first | (simp only [↓Array.getElem?_setIfInBounds_ne, ne_eq, Nat.reduceEqDiff, not_false_eq_true, q11_17]; done) | simp [hs17, f7_17, f8_17, f9_17, f11_17, f52_17, f53_17, f54_17, f58_17, f59_17, f60_17, f64_17, f65_17, f66_17, f563_17, x1, hle], by first | (simp only [↓Array.getElem?_setIfInBounds_ne, ne_eq, Nat.reduceEqDiff, not_false_eq_true, q52_17]; done) | simp [hs17, f7_17, f8_17, f9_17, f11_17, f52_17, f53_17, f54_17, f58_17, f59_17, f60_17, f64_17, f65_17, f66_17, f563_17, x1, hle], by first | (simp only [↓Array.getElem?_setIfInBounds_ne, ne_eq, Nat.reduceEqDiff, not_false_eq_true, q53_17]; done) | simp [hs17, f7_17, f8_17, f9_17, f11_17, f52_17, f53_17, f54_17, f58_17, f59_17, f60_17, f64_17, f65_17, f66_17, f563_17, x1, hle], by first | (simp only [↓Array.getElem?_setIfInBounds_ne, ne_eq, Nat.reduceEqDiff, not_false_eq_true, q54_17]; done) | simp [hs17, f7_17, f8_17, f9_17, f11_17, f52_17, f53_17, f54_17, f58_17, f59_17, f60_17, f64_17, f65_17, f66_17, f563_17, x1, hle], by first | (simp only [↓Array.getElem?_setIfInBounds_ne, ne_eq, Nat.reduceEqDiff, not_false_eq_true, q64_17]; done) | simp [hs17, f7_17, f8_17, f9_17, f11_17, f52_17, f53_17, f54_17, f58_17, f59_17, f60_17, f64_17, f65_17, f66_17, f563_17, x1, hle], by first | (simp only [↓Array.getElem?_setIfInBounds_ne, ne_eq, Nat.reduceEqDiff, not_false_eq_true, q65_17]; done) | simp [hs17, f7_17, f8_17, f9_17, f11_17, f52_17, f53_17, f54_17, f58_17, f59_17, f60_17, f64_17, f65_17, f66_17, f563_17, x1, hle], by first | (simp only [↓Array.getElem?_setIfInBounds_ne, ne_eq, Nat.reduceEqDiff, not_false_eq_true, q66_17]; done) | simp [hs17, f7_17, f8_17, f9_17, f11_17, f52_17, f53_17, f54_17, f58_17, f59_17, f60_17, f64_17, f65_17, f66_17, f563_17, x1, hle], by first | (simp only [↓Array.getElem?_setIfInBounds_ne, ne_eq, Nat.reduceEqDiff, not_false_eq_true]; done) | simp [hs17, f7_17, f8_17, f9_17, f11_17, f52_17, f53_17, f54_17, f58_17, f59_17, f60_17, f64_17, f65_17, f66_17, f563_17, x1, hle], below_drewN HB6.out nA⟩)
              case rest7 =>
                intro a' wc7 hR7
                obtain ⟨T18, rfl, hs18, q7_18, q8_18, q9_18, q11_18, q52_18, q53_18, q54_18, q64_18, q65_18, q66_18, q598_18, hB7⟩ := hR7
                have f7_18 := fun hh => getq q7_18 hh
                have f8_18 := fun hh => getq q8_18 hh
                have f9_18 := fun hh => getq q9_18 hh
                have f11_18 := fun hh => getq q11_18 hh
                have f52_18 := fun hh => getq q52_18 hh
                have f53_18 := fun hh => getq q53_18 hh
                have f54_18 := fun hh => getq q54_18 hh
                have f64_18 := fun hh => getq q64_18 hh
                have f65_18 := fun hh => getq q65_18 hh
                have f66_18 := fun hh => getq q66_18 hh
                have f598_18 := fun hh => getq q598_18 hh
                have HB7 := Lib.hid hB7
                clear hB7 FG HFS HSN
                go_wp2_with fail
                refine wp_cond_f ?_ ?_
                · go_simp
                go_wp2_with fail
                cases NI
                · refine wp_cond_f ?_ ?_
                  · go_simp
                  go_wp2
                  go_ret
                  exact ⟨by simp [hs18], HB7.out⟩
                · obtain ⟨HYS, ⟨⟨a1, a2⟩, ⟨a3, a4⟩, a5, a6⟩, HEQ⟩ := FN rfl
                  clear FN
                  obtain ⟨z1, z2⟩ := mul_bd2 (a := v) (b := a) (m := 200) (k := 500) (by omega) (by omega) (by omega) (by omega)
                  have w1_ : IntKind.i64.wrap (v * a) = v * a := IntWalk.i64_in _ ⟨by omega, by omega⟩
                  have w2_ : IntKind.i64.wrap (L - v) = L - v := IntWalk.i64_in _ ⟨by omega, by omega⟩
                  clear z1 z2
                  have HEQ := Lib.hid HEQ
                  cases FI
                  · skip
                    refine wp_cond_t ?_ ?_
                    · go_simp
                    go_wp2_with fail
                    refine ((HYS _).out).mono ?_
                    rintro e w' ⟨rfl, nA, rfl⟩
                    go_wp2_with fail
                    refine wp_cond_f ?_ ?_
                    · go_simp
                    go_wp2_with fail
                    all_goals
                      refine wp_cond_f ?_ ?_
                      · go_simp
                      go_wp2
                      go_ret
                      exact ⟨by simp [hs18], below_drewN HB7.out nA⟩
                  · by_cases hlr : L = R
                    · obtain ⟨rfl, rfl⟩ := HEQ.out rfl hlr
                      subst hlr
                      refine wp_cond_t ?_ ?_
                      · go_simp
                      go_wp2_with fail
                      refine ((HYS _).out).mono ?_
                      rintro e w' ⟨rfl, nA, rfl⟩
                      go_wp2_with fail
                      refine wp_cond_f ?_ ?_
                      · go_simp
                      go_wp2_with fail
                      all_goals
                        refine wp_cond_f ?_ ?_
                        · go_simp
                        go_wp2
                        go_ret
                        exact ⟨by simp [hs18], below_drewN HB7.out nA⟩
                    · have hlrb : (L == R) = false := beq_eq_false_iff_ne.2 hlr
                      refine wp_cond_t ?_ ?_
                      · go_simp
                      go_wp2_with fail
                      refine ((HYS _).out).mono ?_
                      rintro e w' ⟨rfl, nA, rfl⟩
                      go_wp2_with fail
                      refine wp_cond_f ?_ ?_
                      · go_simp
                      go_wp2_with fail
                      all_goals
                        refine wp_cond_f ?_ ?_
                        · go_simp
                        go_wp2
                        go_ret
                        exact ⟨by simp [hs18], below_drewN HB7.out nA⟩
end Go.Proofs.Ytfnamahdofigaaa
