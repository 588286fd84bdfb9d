/- The law FnWalkersMeetOfAll: its walk. -/
import Derived.Test.YtfnamahdofigaaaWM3
import Derived.Deep.Cut
import Derived.Deep.DeepCutAuto
import Derived.Deep.RegionHeld3
namespace Go.Proofs.Ytfnamahdofigaaa
open Go.RowKit
set_option linter.unusedVariables false
set_option linter.unusedSimpArgs false
attribute [local irreducible] Array.setIfInBounds
theorem reframe {P : Program} {c : Code} {Q : Exit → Act → World → Prop} {T : Array Value} {w : World} (h : ∀ T' : Array Value, T' = T → c.wp P Q ⟨T', []⟩ w) : c.wp P Q ⟨T, []⟩ w := h T rfl
theorem wp_cond_t {P : Program} {x y : Code} {c : Operand} {Q : Exit → Act → World → Prop} {a : Act} {w : World} (h : a.eval c = .bool true) (hx : x.wp P Q a w) : (Code.cond c x y).wp P Q a w := wp_cond_split h (fun _ => hx) (fun h => by cases h)
theorem wp_cond_f {P : Program} {x y : Code} {c : Operand} {Q : Exit → Act → World → Prop} {a : Act} {w : World} (h : a.eval c = .bool false) (hy : y.wp P Q a w) : (Code.cond c x y).wp P Q a w := wp_cond_split h (fun h => by cases h) (fun _ => hy)
theorem getq {T : Array Value} {k : Nat} {v : Value} (h : T[k]? = some v) (hh : k < T.size) : T[k]'hh = v := by
  rw [Array.getElem?_eq_getElem hh] at h
  exact Option.some.inj h
theorem putq {T : Array Value} {k : Nat} {v : Value} (hk : k < T.size) (h : ∀ hh : k < T.size, T[k]'hh = v) : T[k]? = some v := by
  rw [Array.getElem?_eq_getElem hk, h hk]
/-- the four walkers lie as they came, and nothing old has changed -/
def Four (w : World) (h p s j q t ch cp cs dh dp ds : Int) (w' : World) : Prop := w'.cell? ⟨w.heap.size, 0, none⟩ = some (.int .i64 h) ∧ w'.cell? ⟨w.heap.size, 1, none⟩ = some (.int .i64 p) ∧ w'.cell? ⟨w.heap.size, 2, none⟩ = some (.int .i64 s) ∧ w'.cell? ⟨w.heap.size + 1, 0, none⟩ = some (.int .i64 j) ∧ w'.cell? ⟨w.heap.size + 1, 1, none⟩ = some (.int .i64 q) ∧ w'.cell? ⟨w.heap.size + 1, 2, none⟩ = some (.int .i64 t) ∧ w'.cell? ⟨w.heap.size + 1 + 1, 0, none⟩ = some (.int .i64 ch) ∧ w'.cell? ⟨w.heap.size + 1 + 1, 1, none⟩ = some (.int .i64 cp) ∧ w'.cell? ⟨w.heap.size + 1 + 1, 2, none⟩ = some (.int .i64 cs) ∧ w'.cell? ⟨w.heap.size + 1 + 1 + 1, 0, none⟩ = some (.int .i64 dh) ∧ w'.cell? ⟨w.heap.size + 1 + 1 + 1, 1, none⟩ = some (.int .i64 dp) ∧ w'.cell? ⟨w.heap.size + 1 + 1 + 1, 2, none⟩ = some (.int .i64 ds) ∧ w.heap.size + 1 + 1 + 1 < w'.heap.size ∧ Below w.heap.size w w'
theorem Four.drewN {w u : World} {h p s j q t ch cp cs dh dp ds : Int} (h4 : Four w h p s j q t ch cp cs dh dp ds u) (n : Nat) : Four w h p s j q t ch cp cs dh dp ds (u.drewN n) := by
  obtain ⟨a1, a2, a3, a4, a5, a6, a7, a8, a9, a10, a11, a12, hz, hb⟩ := h4
  exact ⟨a1, a2, a3, a4, a5, a6, a7, a8, a9, a10, a11, a12, hz, below_drewN hb n⟩
theorem Four.after {w u v : World} {h p s j q t ch cp cs dh dp ds : Int} (h4 : Four w h p s j q t ch cp cs dh dp ds u) (hb : Below u.heap.size u v) : Four w h p s j q t ch cp cs dh dp ds v := by
  obtain ⟨a1, a2, a3, a4, a5, a6, a7, a8, a9, a10, a11, a12, hz, hbl⟩ := h4
  exact ⟨cell_after hb (by omega) a1, cell_after hb (by omega) a2, cell_after hb (by omega) a3, cell_after hb (by omega) a4, cell_after hb (by omega) a5, cell_after hb (by omega) a6, cell_after hb (by omega) a7, cell_after hb (by omega) a8, cell_after hb (by omega) a9, cell_after hb hz a10, cell_after hb hz a11, cell_after hb hz a12, size_after hb hz, bl_trans hb hbl⟩
theorem Four.bl {w u : World} {h p s j q t ch cp cs dh dp ds : Int} (h4 : Four w h p s j q t ch cp cs dh dp ds u) : Below w.heap.size w u := by
  obtain ⟨a1, a2, a3, a4, a5, a6, a7, a8, a9, a10, a11, a12, hz, hbl⟩ := h4
  exact hbl
set_option maxHeartbeats 8000000 in
set_option maxRecDepth 100000 in
theorem meet_walk (l h p s j q t ch cp cs dh dp ds hi m a L R x v r1 r2 r3 r4 v1 v2 s1 s2 e1 e2 n1 n2 P Q : Int) (OK ON KA KB IS TH FI SE NI : Bool) (w : World)
    (HA1 : ∀ W : World, Hid (Calls Try.prog 7 #[.int .i64 l, .agg #[.int .i64 h, .int .i64 p, .int .i64 s], .agg #[.int .i64 j, .int .i64 q, .int .i64 t]] W fun e w' => e = .returned (.tuple #[.int .i64 r1, .int .i64 r2, .int .i64 r3, .int .i64 r4, .bool OK]) ∧ Below W.heap.size W w'))
    (HA2 : ∀ W : World, Hid (Calls Try.prog 8 #[.int .i64 l, .agg #[.int .i64 h, .int .i64 p, .int .i64 s], .agg #[.int .i64 j, .int .i64 q, .int .i64 t]] W fun e w' => e = .returned (.tuple #[.int .i64 r1, .int .i64 r2, .int .i64 r3, .int .i64 r4, .bool OK]) ∧ Below W.heap.size W w'))
    (HC1 : ∀ W : World, Hid (Calls Try.prog 9 #[.int .i64 l, .agg #[.int .i64 h, .int .i64 p, .int .i64 s], .agg #[.int .i64 j, .int .i64 q, .int .i64 t]] W fun e w' => e = .returned (.tuple #[.int .i64 v1, .int .i64 v2, .bool ON]) ∧ Below W.heap.size W w'))
    (HC2 : ∀ W : World, Hid (Calls Try.prog 10 #[.int .i64 l, .agg #[.int .i64 h, .int .i64 p, .int .i64 s], .agg #[.int .i64 j, .int .i64 q, .int .i64 t]] W fun e w' => e = .returned (.tuple #[.int .i64 v1, .int .i64 v2, .bool ON]) ∧ Below W.heap.size W w'))
    (HW1 : ∀ W : World, Hid (Calls Try.prog 12 #[.int .i64 l, .agg #[.int .i64 h, .int .i64 p, .int .i64 s]] W fun e w' => e = .returned (.bool KA) ∧ Below W.heap.size W w'))
    (HW2 : ∀ W : World, Hid (Calls Try.prog 12 #[.int .i64 l, .agg #[.int .i64 j, .int .i64 q, .int .i64 t]] W fun e w' => e = .returned (.bool KB) ∧ Below W.heap.size W w'))
    (HI1 : ∀ W : World, Hid (Calls Try.prog 14 #[.int .i64 hi, .agg #[.int .i64 ch, .int .i64 cp, .int .i64 cs], .agg #[.int .i64 dh, .int .i64 dp, .int .i64 ds], .int .i64 m] W fun e w' => e = .returned (.tuple #[.bool IS, .bool TH]) ∧ Below W.heap.size W w'))
    (HI2 : ∀ W : World, Hid (Calls Try.prog 15 #[.int .i64 hi, .agg #[.int .i64 ch, .int .i64 cp, .int .i64 cs], .agg #[.int .i64 dh, .int .i64 dp, .int .i64 ds], .int .i64 m] W fun e w' => e = .returned (.tuple #[.bool IS, .bool TH]) ∧ Below W.heap.size W w'))
    (HS1 : ∀ W : World, Hid (Calls Try.prog 17 #[.int .i64 a, .int .i64 L, .int .i64 R, .int .i64 x, .int .i64 v] W fun e w' => e = .returned (.tuple #[.int .i64 s1, .int .i64 s2, .bool FI]) ∧ Below W.heap.size W w'))
    (HS2 : ∀ W : World, Hid (Calls Try.prog 18 #[.int .i64 a, .int .i64 L, .int .i64 R, .int .i64 x, .int .i64 v] W fun e w' => e = .returned (.tuple #[.int .i64 s1, .int .i64 s2, .bool FI]) ∧ Below W.heap.size W w'))
    (HE1 : ∀ W : World, Hid (Calls Try.prog 19 #[.int .i64 a, .int .i64 L, .int .i64 R, .int .i64 v] W fun e w' => e = .returned (.tuple #[.int .i64 e1, .int .i64 e2, .bool SE]) ∧ Below W.heap.size W w'))
    (HE2 : ∀ W : World, Hid (Calls Try.prog 20 #[.int .i64 a, .int .i64 L, .int .i64 R, .int .i64 v] W fun e w' => e = .returned (.tuple #[.int .i64 e1, .int .i64 e2, .bool SE]) ∧ Below W.heap.size W w'))
    (HN1 : ∀ W : World, Hid (Calls Try.prog 21 #[.int .i64 a, .int .i64 L, .int .i64 v] W fun e w' => e = .returned (.tuple #[.int .i64 n1, .int .i64 n2, .bool NI]) ∧ Below W.heap.size W w'))
    (HN2 : ∀ W : World, Hid (Calls Try.prog 22 #[.int .i64 a, .int .i64 L, .int .i64 v] W fun e w' => e = .returned (.tuple #[.int .i64 n1, .int .i64 n2, .bool NI]) ∧ Below W.heap.size W w'))
    (FA : OK = true → Hid (Meet l h p s j q t r1 r2 r3 r4) ∧ (2 ≤ l ∧ l ≤ 200 ∧ 1 ≤ h ∧ h < l ∧ 1 ≤ j ∧ j < l) ∧ (0 ≤ p ∧ p ≤ 500 ∧ 0 ≤ q ∧ q ≤ 500) ∧ (-50 ≤ s ∧ s ≤ 50 ∧ -50 ≤ t ∧ t ≤ 50) ∧ ∀ W : World, Hid (Calls Try.prog 7 #[.int .i64 l, .agg #[.int .i64 j, .int .i64 q, .int .i64 t], .agg #[.int .i64 h, .int .i64 p, .int .i64 s]] W fun e w' => e = .returned (.tuple #[.int .i64 r1, .int .i64 r2, .int .i64 r3, .int .i64 r4, .bool true]) ∧ Below W.heap.size W w'))
    (FC : ON = true → Hid (Meet1 p s q t v1 v2) ∧ (0 ≤ p ∧ p ≤ 500 ∧ 0 ≤ q ∧ q ≤ 500) ∧ (-50 ≤ s ∧ s ≤ 50 ∧ -50 ≤ t ∧ t ≤ 50))
    (FS : KA = true → KB = true → h = j → ON = OK ∧ (OK = true → r1 = v1 ∧ r2 = v2))
    (FE : TH = true → (∀ W : World, Hid (Calls Try.prog 23 #[.int .i64 hi, .agg #[.int .i64 ch, .int .i64 cp, .int .i64 cs], .int .i64 m] W fun e w' => e = .returned (.tuple #[.int .i64 P, .bool true]) ∧ Below W.heap.size W w')) ∧ (∀ W : World, Hid (Calls Try.prog 23 #[.int .i64 hi, .agg #[.int .i64 dh, .int .i64 dp, .int .i64 ds], .int .i64 m] W fun e w' => e = .returned (.tuple #[.int .i64 Q, .bool true]) ∧ Below W.heap.size W w')) ∧ ((2 ≤ hi ∧ hi ≤ 200 ∧ 1 ≤ ch ∧ ch < hi ∧ 1 ≤ dh ∧ dh < hi) ∧ 0 ≤ P ∧ P ≤ 3500 ∧ 0 ≤ Q ∧ Q ≤ 3500) ∧ (IS = false → P < Q → ¬ dh * P ≤ hi * P - (hi - ch) * Q) ∧ (IS = true → P < Q ∧ dh * P ≤ hi * P - (hi - ch) * Q ∧ ¬ P = 0 ∧ ∀ W : World, Hid (Calls Try.prog 14 #[.int .i64 hi, .agg #[.int .i64 dh, .int .i64 dp, .int .i64 ds], .agg #[.int .i64 ch, .int .i64 cp, .int .i64 cs], .int .i64 m] W fun e w' => e = .returned (.tuple #[.bool false, .bool true]) ∧ Below W.heap.size W w')))
    (HFS : FI = true → SE = true) (HSN : SE = true → NI = true)
    (FF : FI = true → (∀ W : World, Hid (Calls Try.prog 24 #[.int .i64 s1, .int .i64 s2, .int .i64 (v * (x * (R - v) + (a - x) * (L - v))), .int .i64 ((L - v) * (R - v))] W fun e w' => e = .returned (.bool true) ∧ ∃ n, w' = W.drewN n)) ∧ ((1 ≤ a ∧ a ≤ 500) ∧ (1 ≤ v ∧ v < L ∧ v < R) ∧ (2 ≤ L ∧ L ≤ 200 ∧ 2 ≤ R ∧ R ≤ 200)) ∧ (0 ≤ x ∧ x ≤ a) ∧ (0 ≤ x * (R - v) ∧ x * (R - v) ≤ 100000) ∧ (0 ≤ (a - x) * (L - v) ∧ (a - x) * (L - v) ≤ 100000) ∧ (0 ≤ v * (x * (R - v) + (a - x) * (L - v)) ∧ v * (x * (R - v) + (a - x) * (L - v)) ≤ 40000000) ∧ 1 ≤ (L - v) * (R - v) ∧ (L - v) * (R - v) ≤ 40000)
    (FG : SE = true → (∀ W : World, Hid (Calls Try.prog 11 #[.int .i64 e1, .int .i64 e2] W fun e w' => e = .returned (.bool true) ∧ ∃ n, w' = W.drewN n)) ∧ ((1 ≤ a ∧ a ≤ 500) ∧ (1 ≤ v ∧ v < L ∧ v < R) ∧ (2 ≤ L ∧ L ≤ 200 ∧ 2 ≤ R ∧ R ≤ 200)) ∧ (0 ≤ e1 ∧ e1 ≤ 100000 ∧ 1 ≤ e2 ∧ e2 ≤ 400) ∧ e1 ≤ a * e2 ∧ e1 * (R - v) = (a * e2 - e1) * (L - v))
    (FN : NI = true → (∀ W : World, Hid (Calls Try.prog 24 #[.int .i64 n1, .int .i64 n2, .int .i64 (v * a), .int .i64 (L - v)] W fun e w' => e = .returned (.bool true) ∧ ∃ n, w' = W.drewN n)) ∧ ((1 ≤ a ∧ a ≤ 500) ∧ (1 ≤ v ∧ v < L) ∧ (2 ≤ L ∧ L ≤ 200)) ∧ (FI = true → L = R → s1 = n1 ∧ s2 = n2)) :
    Calls Try.prog 4 #[.int .i64 l, .agg #[.int .i64 h, .int .i64 p, .int .i64 s], .agg #[.int .i64 j, .int .i64 q, .int .i64 t], .int .i64 hi, .agg #[.int .i64 ch, .int .i64 cp, .int .i64 cs], .agg #[.int .i64 dh, .int .i64 dp, .int .i64 ds], .int .i64 m, .int .i64 a, .int .i64 L, .int .i64 R, .int .i64 x, .int .i64 v] w fun e w' => e = .returned (.bool true) ∧ Below w.heap.size w w' := by
  go_enter Try.func4, Try.ntmps4
  refine reframe fun T1 hT => ?_
  have hs1 : T1.size = 626 := by rw [hT]; rfl
  have f0_1 : ∀ hh : 0 < T1.size, T1[0]'hh = .int .i64 l := by subst hT; intro hh; rfl
  have f1_1 : ∀ hh : 1 < T1.size, T1[1]'hh = .agg #[.int .i64 h, .int .i64 p, .int .i64 s] := by subst hT; intro hh; rfl
  have f2_1 : ∀ hh : 2 < T1.size, T1[2]'hh = .agg #[.int .i64 j, .int .i64 q, .int .i64 t] := by subst hT; intro hh; rfl
  have f3_1 : ∀ hh : 3 < T1.size, T1[3]'hh = .int .i64 hi := by subst hT; intro hh; rfl
  have f4_1 : ∀ hh : 4 < T1.size, T1[4]'hh = .agg #[.int .i64 ch, .int .i64 cp, .int .i64 cs] := by subst hT; intro hh; rfl
  have f5_1 : ∀ hh : 5 < T1.size, T1[5]'hh = .agg #[.int .i64 dh, .int .i64 dp, .int .i64 ds] := by subst hT; intro hh; rfl
  have f6_1 : ∀ hh : 6 < T1.size, T1[6]'hh = .int .i64 m := by subst hT; intro hh; rfl
  have f7_1 : ∀ hh : 7 < T1.size, T1[7]'hh = .int .i64 a := by subst hT; intro hh; rfl
  have f8_1 : ∀ hh : 8 < T1.size, T1[8]'hh = .int .i64 L := by subst hT; intro hh; rfl
  have f9_1 : ∀ hh : 9 < T1.size, T1[9]'hh = .int .i64 R := by subst hT; intro hh; rfl
  have f10_1 : ∀ hh : 10 < T1.size, T1[10]'hh = .int .i64 x := by subst hT; intro hh; rfl
  have f11_1 : ∀ hh : 11 < T1.size, T1[11]'hh = .int .i64 v := by subst hT; intro hh; rfl
  have q0_1 := putq (by rw [hs1]; decide) f0_1
  have q1_1 := putq (by rw [hs1]; decide) f1_1
  have q2_1 := putq (by rw [hs1]; decide) f2_1
  have q3_1 := putq (by rw [hs1]; decide) f3_1
  have q4_1 := putq (by rw [hs1]; decide) f4_1
  have q5_1 := putq (by rw [hs1]; decide) f5_1
  have q6_1 := putq (by rw [hs1]; decide) f6_1
  have q7_1 := putq (by rw [hs1]; decide) f7_1
  have q8_1 := putq (by rw [hs1]; decide) f8_1
  have q9_1 := putq (by rw [hs1]; decide) f9_1
  have q10_1 := putq (by rw [hs1]; decide) f10_1
  have q11_1 := putq (by rw [hs1]; decide) f11_1
  clear hT
  go_wp2_with fail
  refine ((HA1 _).out).mono ?_
  rintro e w1 ⟨rfl, hbw1⟩
  obtain ⟨hcw1, hfw1⟩ := bcell hbw1
  have hzw1 := bsize hbw1
  (try simp only [World.size_alloc, World.size_setCell] at hzw1)
  have kw1_0_0 : w1.cell? ⟨w.heap.size, 0, none⟩ = some (.int .i64 h) := by rw [hcw1 _ _ (by first | (simp; done) | omega | (simp; omega))]; first | assumption | (simp [go_sem]; done) | (simp [go_sem]; done) | (simp [go_sem, *]; done)
  have kw1_0_1 : w1.cell? ⟨w.heap.size, 1, none⟩ = some (.int .i64 p) := by rw [hcw1 _ _ (by first | (simp; done) | omega | (simp; omega))]; first | assumption | (simp [go_sem]; done) | (simp [go_sem]; done) | (simp [go_sem, *]; done)
  have kw1_0_2 : w1.cell? ⟨w.heap.size, 2, none⟩ = some (.int .i64 s) := by rw [hcw1 _ _ (by first | (simp; done) | omega | (simp; omega))]; first | assumption | (simp [go_sem]; done) | (simp [go_sem]; done) | (simp [go_sem, *]; done)
  have sw1_0 : w.heap.size < w1.heap.size := by first | omega | (simp at *; omega)
  have kw1_1_0 : w1.cell? ⟨w.heap.size + 1, 0, none⟩ = some (.int .i64 j) := by rw [hcw1 _ _ (by first | (simp; done) | omega | (simp; omega))]; first | assumption | (simp [go_sem]; done) | (simp [go_sem]; done) | (simp [go_sem, *]; done)
  have kw1_1_1 : w1.cell? ⟨w.heap.size + 1, 1, none⟩ = some (.int .i64 q) := by rw [hcw1 _ _ (by first | (simp; done) | omega | (simp; omega))]; first | assumption | (simp [go_sem]; done) | (simp [go_sem]; done) | (simp [go_sem, *]; done)
  have kw1_1_2 : w1.cell? ⟨w.heap.size + 1, 2, none⟩ = some (.int .i64 t) := by rw [hcw1 _ _ (by first | (simp; done) | omega | (simp; omega))]; first | assumption | (simp [go_sem]; done) | (simp [go_sem]; done) | (simp [go_sem, *]; done)
  have sw1_1 : w.heap.size + 1 < w1.heap.size := by first | omega | (simp at *; omega)
  have kw1_2_0 : w1.cell? ⟨w.heap.size + 1 + 1, 0, none⟩ = some (.int .i64 ch) := by rw [hcw1 _ _ (by first | (simp; done) | omega | (simp; omega))]; first | assumption | (simp [go_sem]; done) | (simp [go_sem]; done) | (simp [go_sem, *]; done)
  have kw1_2_1 : w1.cell? ⟨w.heap.size + 1 + 1, 1, none⟩ = some (.int .i64 cp) := by rw [hcw1 _ _ (by first | (simp; done) | omega | (simp; omega))]; first | assumption | (simp [go_sem]; done) | (simp [go_sem]; done) | (simp [go_sem, *]; done)
  have kw1_2_2 : w1.cell? ⟨w.heap.size + 1 + 1, 2, none⟩ = some (.int .i64 cs) := by rw [hcw1 _ _ (by first | (simp; done) | omega | (simp; omega))]; first | assumption | (simp [go_sem]; done) | (simp [go_sem]; done) | (simp [go_sem, *]; done)
  have sw1_2 : w.heap.size + 1 + 1 < w1.heap.size := by first | omega | (simp at *; omega)
  have kw1_3_0 : w1.cell? ⟨w.heap.size + 1 + 1 + 1, 0, none⟩ = some (.int .i64 dh) := by rw [hcw1 _ _ (by first | (simp; done) | omega | (simp; omega))]; first | assumption | (simp [go_sem]; done) | (simp [go_sem]; done) | (simp [go_sem, *]; done)
  have kw1_3_1 : w1.cell? ⟨w.heap.size + 1 + 1 + 1, 1, none⟩ = some (.int .i64 dp) := by rw [hcw1 _ _ (by first | (simp; done) | omega | (simp; omega))]; first | assumption | (simp [go_sem]; done) | (simp [go_sem]; done) | (simp [go_sem, *]; done)
  have kw1_3_2 : w1.cell? ⟨w.heap.size + 1 + 1 + 1, 2, none⟩ = some (.int .i64 ds) := by rw [hcw1 _ _ (by first | (simp; done) | omega | (simp; omega))]; first | assumption | (simp [go_sem]; done) | (simp [go_sem]; done) | (simp [go_sem, *]; done)
  have sw1_3 : w.heap.size + 1 + 1 + 1 < w1.heap.size := by first | omega | (simp at *; omega)
  have hBw1 : Below w.heap.size w w1 := (by repeat (first | exact Below.refl _ _ | refine bl_alloc ?_ _ | refine bl_drewN ?_ _ | refine bl_trans (by assumption) ?_ | refine bl_set ?_ (by first | omega | (simp; done) | (simp; omega)) _))
  have HBw1 := Lib.hid hBw1
  clear hBw1 hcw1 hfw1 hbw1
  go_wp2_with fail
  refine ((HA2 _).out).mono ?_
  rintro e w2 ⟨rfl, hbw2⟩
  obtain ⟨hcw2, hfw2⟩ := bcell hbw2
  have hzw2 := bsize hbw2
  (try simp only [World.size_alloc, World.size_setCell] at hzw2)
  have hkw2 : Below w1.heap.size w1 w2 := (by repeat (first | exact Below.refl _ _ | refine bl_alloc ?_ _ | refine bl_drewN ?_ _ | refine bl_trans (by assumption) ?_ | refine bl_set ?_ (by first | omega | (simp; done) | (simp; omega)) _))
  have kw2_0_0 : w2.cell? ⟨w.heap.size, 0, none⟩ = some (.int .i64 h) := cell_after hkw2 sw1_0 kw1_0_0
  have kw2_0_1 : w2.cell? ⟨w.heap.size, 1, none⟩ = some (.int .i64 p) := cell_after hkw2 sw1_0 kw1_0_1
  have kw2_0_2 : w2.cell? ⟨w.heap.size, 2, none⟩ = some (.int .i64 s) := cell_after hkw2 sw1_0 kw1_0_2
  have sw2_0 : w.heap.size < w2.heap.size := size_after hkw2 sw1_0
  have kw2_1_0 : w2.cell? ⟨w.heap.size + 1, 0, none⟩ = some (.int .i64 j) := cell_after hkw2 sw1_1 kw1_1_0
  have kw2_1_1 : w2.cell? ⟨w.heap.size + 1, 1, none⟩ = some (.int .i64 q) := cell_after hkw2 sw1_1 kw1_1_1
  have kw2_1_2 : w2.cell? ⟨w.heap.size + 1, 2, none⟩ = some (.int .i64 t) := cell_after hkw2 sw1_1 kw1_1_2
  have sw2_1 : w.heap.size + 1 < w2.heap.size := size_after hkw2 sw1_1
  have kw2_2_0 : w2.cell? ⟨w.heap.size + 1 + 1, 0, none⟩ = some (.int .i64 ch) := cell_after hkw2 sw1_2 kw1_2_0
  have kw2_2_1 : w2.cell? ⟨w.heap.size + 1 + 1, 1, none⟩ = some (.int .i64 cp) := cell_after hkw2 sw1_2 kw1_2_1
  have kw2_2_2 : w2.cell? ⟨w.heap.size + 1 + 1, 2, none⟩ = some (.int .i64 cs) := cell_after hkw2 sw1_2 kw1_2_2
  have sw2_2 : w.heap.size + 1 + 1 < w2.heap.size := size_after hkw2 sw1_2
  have kw2_3_0 : w2.cell? ⟨w.heap.size + 1 + 1 + 1, 0, none⟩ = some (.int .i64 dh) := cell_after hkw2 sw1_3 kw1_3_0
  have kw2_3_1 : w2.cell? ⟨w.heap.size + 1 + 1 + 1, 1, none⟩ = some (.int .i64 dp) := cell_after hkw2 sw1_3 kw1_3_1
  have kw2_3_2 : w2.cell? ⟨w.heap.size + 1 + 1 + 1, 2, none⟩ = some (.int .i64 ds) := cell_after hkw2 sw1_3 kw1_3_2
  have sw2_3 : w.heap.size + 1 + 1 + 1 < w2.heap.size := size_after hkw2 sw1_3
  have hBw2 : Below w.heap.size w w2 := (by repeat (first | exact HBw1.out | exact Below.refl _ _ | refine bl_alloc ?_ _ | refine bl_drewN ?_ _ | refine bl_trans (by assumption) ?_ | refine bl_set ?_ (by first | omega | (simp; done) | (simp; omega)) _))
  have HBw2 := Lib.hid hBw2
  clear hBw2 hcw2 hfw2 hbw2 hkw2 kw1_0_0 kw1_0_1 kw1_0_2 sw1_0 kw1_1_0 kw1_1_1 kw1_1_2 sw1_1 kw1_2_0 kw1_2_1 kw1_2_2 sw1_2 kw1_3_0 kw1_3_1 kw1_3_2 sw1_3
  go_wp2_with fail
  refine ((HC1 _).out).mono ?_
  rintro e w3 ⟨rfl, hbw3⟩
  obtain ⟨hcw3, hfw3⟩ := bcell hbw3
  have hzw3 := bsize hbw3
  (try simp only [World.size_alloc, World.size_setCell] at hzw3)
  have hkw3 : Below w2.heap.size w2 w3 := (by repeat (first | exact Below.refl _ _ | refine bl_alloc ?_ _ | refine bl_drewN ?_ _ | refine bl_trans (by assumption) ?_ | refine bl_set ?_ (by first | omega | (simp; done) | (simp; omega)) _))
  have kw3_0_0 : w3.cell? ⟨w.heap.size, 0, none⟩ = some (.int .i64 h) := cell_after hkw3 sw2_0 kw2_0_0
  have kw3_0_1 : w3.cell? ⟨w.heap.size, 1, none⟩ = some (.int .i64 p) := cell_after hkw3 sw2_0 kw2_0_1
  have kw3_0_2 : w3.cell? ⟨w.heap.size, 2, none⟩ = some (.int .i64 s) := cell_after hkw3 sw2_0 kw2_0_2
  have sw3_0 : w.heap.size < w3.heap.size := size_after hkw3 sw2_0
  have kw3_1_0 : w3.cell? ⟨w.heap.size + 1, 0, none⟩ = some (.int .i64 j) := cell_after hkw3 sw2_1 kw2_1_0
  have kw3_1_1 : w3.cell? ⟨w.heap.size + 1, 1, none⟩ = some (.int .i64 q) := cell_after hkw3 sw2_1 kw2_1_1
  have kw3_1_2 : w3.cell? ⟨w.heap.size + 1, 2, none⟩ = some (.int .i64 t) := cell_after hkw3 sw2_1 kw2_1_2
  have sw3_1 : w.heap.size + 1 < w3.heap.size := size_after hkw3 sw2_1
  have kw3_2_0 : w3.cell? ⟨w.heap.size + 1 + 1, 0, none⟩ = some (.int .i64 ch) := cell_after hkw3 sw2_2 kw2_2_0
  have kw3_2_1 : w3.cell? ⟨w.heap.size + 1 + 1, 1, none⟩ = some (.int .i64 cp) := cell_after hkw3 sw2_2 kw2_2_1
  have kw3_2_2 : w3.cell? ⟨w.heap.size + 1 + 1, 2, none⟩ = some (.int .i64 cs) := cell_after hkw3 sw2_2 kw2_2_2
  have sw3_2 : w.heap.size + 1 + 1 < w3.heap.size := size_after hkw3 sw2_2
  have kw3_3_0 : w3.cell? ⟨w.heap.size + 1 + 1 + 1, 0, none⟩ = some (.int .i64 dh) := cell_after hkw3 sw2_3 kw2_3_0
  have kw3_3_1 : w3.cell? ⟨w.heap.size + 1 + 1 + 1, 1, none⟩ = some (.int .i64 dp) := cell_after hkw3 sw2_3 kw2_3_1
  have kw3_3_2 : w3.cell? ⟨w.heap.size + 1 + 1 + 1, 2, none⟩ = some (.int .i64 ds) := cell_after hkw3 sw2_3 kw2_3_2
  have sw3_3 : w.heap.size + 1 + 1 + 1 < w3.heap.size := size_after hkw3 sw2_3
  have hBw3 : Below w.heap.size w w3 := (by repeat (first | exact HBw2.out | exact Below.refl _ _ | refine bl_alloc ?_ _ | refine bl_drewN ?_ _ | refine bl_trans (by assumption) ?_ | refine bl_set ?_ (by first | omega | (simp; done) | (simp; omega)) _))
  have HBw3 := Lib.hid hBw3
  clear hBw3 hcw3 hfw3 hbw3 hkw3 kw2_0_0 kw2_0_1 kw2_0_2 sw2_0 kw2_1_0 kw2_1_1 kw2_1_2 sw2_1 kw2_2_0 kw2_2_1 kw2_2_2 sw2_2 kw2_3_0 kw2_3_1 kw2_3_2 sw2_3
  go_wp2_with fail
  refine ((HC2 _).out).mono ?_
  rintro e w4 ⟨rfl, hbw4⟩
  obtain ⟨hcw4, hfw4⟩ := bcell hbw4
  have hzw4 := bsize hbw4
  (try simp only [World.size_alloc, World.size_setCell] at hzw4)
  have hkw4 : Below w3.heap.size w3 w4 := (by repeat (first | exact Below.refl _ _ | refine bl_alloc ?_ _ | refine bl_drewN ?_ _ | refine bl_trans (by assumption) ?_ | refine bl_set ?_ (by first | omega | (simp; done) | (simp; omega)) _))
  have kw4_0_0 : w4.cell? ⟨w.heap.size, 0, none⟩ = some (.int .i64 h) := cell_after hkw4 sw3_0 kw3_0_0
  have kw4_0_1 : w4.cell? ⟨w.heap.size, 1, none⟩ = some (.int .i64 p) := cell_after hkw4 sw3_0 kw3_0_1
  have kw4_0_2 : w4.cell? ⟨w.heap.size, 2, none⟩ = some (.int .i64 s) := cell_after hkw4 sw3_0 kw3_0_2
  have sw4_0 : w.heap.size < w4.heap.size := size_after hkw4 sw3_0
  have kw4_1_0 : w4.cell? ⟨w.heap.size + 1, 0, none⟩ = some (.int .i64 j) := cell_after hkw4 sw3_1 kw3_1_0
  have kw4_1_1 : w4.cell? ⟨w.heap.size + 1, 1, none⟩ = some (.int .i64 q) := cell_after hkw4 sw3_1 kw3_1_1
  have kw4_1_2 : w4.cell? ⟨w.heap.size + 1, 2, none⟩ = some (.int .i64 t) := cell_after hkw4 sw3_1 kw3_1_2
  have sw4_1 : w.heap.size + 1 < w4.heap.size := size_after hkw4 sw3_1
  have kw4_2_0 : w4.cell? ⟨w.heap.size + 1 + 1, 0, none⟩ = some (.int .i64 ch) := cell_after hkw4 sw3_2 kw3_2_0
  have kw4_2_1 : w4.cell? ⟨w.heap.size + 1 + 1, 1, none⟩ = some (.int .i64 cp) := cell_after hkw4 sw3_2 kw3_2_1
  have kw4_2_2 : w4.cell? ⟨w.heap.size + 1 + 1, 2, none⟩ = some (.int .i64 cs) := cell_after hkw4 sw3_2 kw3_2_2
  have sw4_2 : w.heap.size + 1 + 1 < w4.heap.size := size_after hkw4 sw3_2
  have kw4_3_0 : w4.cell? ⟨w.heap.size + 1 + 1 + 1, 0, none⟩ = some (.int .i64 dh) := cell_after hkw4 sw3_3 kw3_3_0
  have kw4_3_1 : w4.cell? ⟨w.heap.size + 1 + 1 + 1, 1, none⟩ = some (.int .i64 dp) := cell_after hkw4 sw3_3 kw3_3_1
  have kw4_3_2 : w4.cell? ⟨w.heap.size + 1 + 1 + 1, 2, none⟩ = some (.int .i64 ds) := cell_after hkw4 sw3_3 kw3_3_2
  have sw4_3 : w.heap.size + 1 + 1 + 1 < w4.heap.size := size_after hkw4 sw3_3
  have hBw4 : Below w.heap.size w w4 := (by repeat (first | exact HBw3.out | exact Below.refl _ _ | refine bl_alloc ?_ _ | refine bl_drewN ?_ _ | refine bl_trans (by assumption) ?_ | refine bl_set ?_ (by first | omega | (simp; done) | (simp; omega)) _))
  have HBw4 := Lib.hid hBw4
  clear hBw4 hcw4 hfw4 hbw4 hkw4 kw3_0_0 kw3_0_1 kw3_0_2 sw3_0 kw3_1_0 kw3_1_1 kw3_1_2 sw3_1 kw3_2_0 kw3_2_1 kw3_2_2 sw3_2 kw3_3_0 kw3_3_1 kw3_3_2 sw3_3
  go_upto_region 5 with fail
  refine reframe fun T2 hT => ?_
  have hs2 : T2.size = 626 := by subst hT; simp [hs1]
  have q0_2 : T2[0]? = some (.int .i64 l) := by subst hT; exact (by first | (simp only [↓Array.getElem?_setIfInBounds_ne, ne_eq, Nat.reduceEqDiff, not_false_eq_true, q0_1]; done) | simp [hs1, f0_1, f1_1, f2_1, f3_1, f4_1, f5_1, f6_1, f7_1, f8_1, f9_1, f10_1, f11_1])
  have f0_2 := fun hh => getq q0_2 hh
  have q3_2 : T2[3]? = some (.int .i64 hi) := by subst hT; exact (by first | (simp only [↓Array.getElem?_setIfInBounds_ne, ne_eq, Nat.reduceEqDiff, not_false_eq_true, q3_1]; done) | simp [hs1, f0_1, f1_1, f2_1, f3_1, f4_1, f5_1, f6_1, f7_1, f8_1, f9_1, f10_1, f11_1])
  have f3_2 := fun hh => getq q3_2 hh
  have q6_2 : T2[6]? = some (.int .i64 m) := by subst hT; exact (by first | (simp only [↓Array.getElem?_setIfInBounds_ne, ne_eq, Nat.reduceEqDiff, not_false_eq_true, q6_1]; done) | simp [hs1, f0_1, f1_1, f2_1, f3_1, f4_1, f5_1, f6_1, f7_1, f8_1, f9_1, f10_1, f11_1])
  have f6_2 := fun hh => getq q6_2 hh
  have q7_2 : T2[7]? = some (.int .i64 a) := by subst hT; exact (by first | (simp only [↓Array.getElem?_setIfInBounds_ne, ne_eq, Nat.reduceEqDiff, not_false_eq_true, q7_1]; done) | simp [hs1, f0_1, f1_1, f2_1, f3_1, f4_1, f5_1, f6_1, f7_1, f8_1, f9_1, f10_1, f11_1])
  have f7_2 := fun hh => getq q7_2 hh
  have q8_2 : T2[8]? = some (.int .i64 L) := by subst hT; exact (by first | (simp only [↓Array.getElem?_setIfInBounds_ne, ne_eq, Nat.reduceEqDiff, not_false_eq_true, q8_1]; done) | simp [hs1, f0_1, f1_1, f2_1, f3_1, f4_1, f5_1, f6_1, f7_1, f8_1, f9_1, f10_1, f11_1])
  have f8_2 := fun hh => getq q8_2 hh
  have q9_2 : T2[9]? = some (.int .i64 R) := by subst hT; exact (by first | (simp only [↓Array.getElem?_setIfInBounds_ne, ne_eq, Nat.reduceEqDiff, not_false_eq_true, q9_1]; done) | simp [hs1, f0_1, f1_1, f2_1, f3_1, f4_1, f5_1, f6_1, f7_1, f8_1, f9_1, f10_1, f11_1])
  have f9_2 := fun hh => getq q9_2 hh
  have q10_2 : T2[10]? = some (.int .i64 x) := by subst hT; exact (by first | (simp only [↓Array.getElem?_setIfInBounds_ne, ne_eq, Nat.reduceEqDiff, not_false_eq_true, q10_1]; done) | simp [hs1, f0_1, f1_1, f2_1, f3_1, f4_1, f5_1, f6_1, f7_1, f8_1, f9_1, f10_1, f11_1])
  have f10_2 := fun hh => getq q10_2 hh
  have q11_2 : T2[11]? = some (.int .i64 v) := by subst hT; exact (by first | (simp only [↓Array.getElem?_setIfInBounds_ne, ne_eq, Nat.reduceEqDiff, not_false_eq_true, q11_1]; done) | simp [hs1, f0_1, f1_1, f2_1, f3_1, f4_1, f5_1, f6_1, f7_1, f8_1, f9_1, f10_1, f11_1])
  have f11_2 := fun hh => getq q11_2 hh
  have q13_2 : T2[13]? = some (.pointer (some ⟨w.heap.size, 0, none⟩)) := by subst hT; exact (by first | (simp only [↓Array.getElem?_setIfInBounds_ne, ne_eq, Nat.reduceEqDiff, not_false_eq_true]; done) | simp [hs1, f0_1, f1_1, f2_1, f3_1, f4_1, f5_1, f6_1, f7_1, f8_1, f9_1, f10_1, f11_1])
  have f13_2 := fun hh => getq q13_2 hh
  have q14_2 : T2[14]? = some (.pointer (some ⟨w.heap.size + 1, 0, none⟩)) := by subst hT; exact (by first | (simp only [↓Array.getElem?_setIfInBounds_ne, ne_eq, Nat.reduceEqDiff, not_false_eq_true]; done) | simp [hs1, f0_1, f1_1, f2_1, f3_1, f4_1, f5_1, f6_1, f7_1, f8_1, f9_1, f10_1, f11_1])
  have f14_2 := fun hh => getq q14_2 hh
  have q16_2 : T2[16]? = some (.pointer (some ⟨w.heap.size + 1 + 1, 0, none⟩)) := by subst hT; exact (by first | (simp only [↓Array.getElem?_setIfInBounds_ne, ne_eq, Nat.reduceEqDiff, not_false_eq_true]; done) | simp [hs1, f0_1, f1_1, f2_1, f3_1, f4_1, f5_1, f6_1, f7_1, f8_1, f9_1, f10_1, f11_1])
  have f16_2 := fun hh => getq q16_2 hh
  have q17_2 : T2[17]? = some (.pointer (some ⟨w.heap.size + 1 + 1 + 1, 0, none⟩)) := by subst hT; exact (by first | (simp only [↓Array.getElem?_setIfInBounds_ne, ne_eq, Nat.reduceEqDiff, not_false_eq_true]; done) | simp [hs1, f0_1, f1_1, f2_1, f3_1, f4_1, f5_1, f6_1, f7_1, f8_1, f9_1, f10_1, f11_1])
  have f17_2 := fun hh => getq q17_2 hh
  have q25_2 : T2[25]? = some (.int .i64 r1) := by subst hT; exact (by first | (simp only [↓Array.getElem?_setIfInBounds_ne, ne_eq, Nat.reduceEqDiff, not_false_eq_true]; done) | simp [hs1, f0_1, f1_1, f2_1, f3_1, f4_1, f5_1, f6_1, f7_1, f8_1, f9_1, f10_1, f11_1])
  have f25_2 := fun hh => getq q25_2 hh
  have q26_2 : T2[26]? = some (.int .i64 r2) := by subst hT; exact (by first | (simp only [↓Array.getElem?_setIfInBounds_ne, ne_eq, Nat.reduceEqDiff, not_false_eq_true]; done) | simp [hs1, f0_1, f1_1, f2_1, f3_1, f4_1, f5_1, f6_1, f7_1, f8_1, f9_1, f10_1, f11_1])
  have f26_2 := fun hh => getq q26_2 hh
  have q29_2 : T2[29]? = some (.bool OK) := by subst hT; exact (by first | (simp only [↓Array.getElem?_setIfInBounds_ne, ne_eq, Nat.reduceEqDiff, not_false_eq_true]; done) | simp [hs1, f0_1, f1_1, f2_1, f3_1, f4_1, f5_1, f6_1, f7_1, f8_1, f9_1, f10_1, f11_1])
  have f29_2 := fun hh => getq q29_2 hh
  have q35_2 : T2[35]? = some (.int .i64 v1) := by subst hT; exact (by first | (simp only [↓Array.getElem?_setIfInBounds_ne, ne_eq, Nat.reduceEqDiff, not_false_eq_true]; done) | simp [hs1, f0_1, f1_1, f2_1, f3_1, f4_1, f5_1, f6_1, f7_1, f8_1, f9_1, f10_1, f11_1])
  have f35_2 := fun hh => getq q35_2 hh
  have q36_2 : T2[36]? = some (.int .i64 v2) := by subst hT; exact (by first | (simp only [↓Array.getElem?_setIfInBounds_ne, ne_eq, Nat.reduceEqDiff, not_false_eq_true]; done) | simp [hs1, f0_1, f1_1, f2_1, f3_1, f4_1, f5_1, f6_1, f7_1, f8_1, f9_1, f10_1, f11_1])
  have f36_2 := fun hh => getq q36_2 hh
  have q37_2 : T2[37]? = some (.bool ON) := by subst hT; exact (by first | (simp only [↓Array.getElem?_setIfInBounds_ne, ne_eq, Nat.reduceEqDiff, not_false_eq_true]; done) | simp [hs1, f0_1, f1_1, f2_1, f3_1, f4_1, f5_1, f6_1, f7_1, f8_1, f9_1, f10_1, f11_1])
  have f37_2 := fun hh => getq q37_2 hh
  have q27_2 : T2[27]? = some (.int .i64 r3) := by subst hT; exact (by first | (simp only [↓Array.getElem?_setIfInBounds_ne, ne_eq, Nat.reduceEqDiff, not_false_eq_true]; done) | simp [hs1, f0_1, f1_1, f2_1, f3_1, f4_1, f5_1, f6_1, f7_1, f8_1, f9_1, f10_1, f11_1])
  have f27_2 := fun hh => getq q27_2 hh
  have q28_2 : T2[28]? = some (.int .i64 r4) := by subst hT; exact (by first | (simp only [↓Array.getElem?_setIfInBounds_ne, ne_eq, Nat.reduceEqDiff, not_false_eq_true]; done) | simp [hs1, f0_1, f1_1, f2_1, f3_1, f4_1, f5_1, f6_1, f7_1, f8_1, f9_1, f10_1, f11_1])
  have f28_2 := fun hh => getq q28_2 hh
  have q30_2 : T2[30]? = some (.int .i64 r1) := by subst hT; exact (by first | (simp only [↓Array.getElem?_setIfInBounds_ne, ne_eq, Nat.reduceEqDiff, not_false_eq_true]; done) | simp [hs1, f0_1, f1_1, f2_1, f3_1, f4_1, f5_1, f6_1, f7_1, f8_1, f9_1, f10_1, f11_1])
  have f30_2 := fun hh => getq q30_2 hh
  have q31_2 : T2[31]? = some (.int .i64 r2) := by subst hT; exact (by first | (simp only [↓Array.getElem?_setIfInBounds_ne, ne_eq, Nat.reduceEqDiff, not_false_eq_true]; done) | simp [hs1, f0_1, f1_1, f2_1, f3_1, f4_1, f5_1, f6_1, f7_1, f8_1, f9_1, f10_1, f11_1])
  have f31_2 := fun hh => getq q31_2 hh
  have q32_2 : T2[32]? = some (.int .i64 r3) := by subst hT; exact (by first | (simp only [↓Array.getElem?_setIfInBounds_ne, ne_eq, Nat.reduceEqDiff, not_false_eq_true]; done) | simp [hs1, f0_1, f1_1, f2_1, f3_1, f4_1, f5_1, f6_1, f7_1, f8_1, f9_1, f10_1, f11_1])
  have f32_2 := fun hh => getq q32_2 hh
  have q33_2 : T2[33]? = some (.int .i64 r4) := by subst hT; exact (by first | (simp only [↓Array.getElem?_setIfInBounds_ne, ne_eq, Nat.reduceEqDiff, not_false_eq_true]; done) | simp [hs1, f0_1, f1_1, f2_1, f3_1, f4_1, f5_1, f6_1, f7_1, f8_1, f9_1, f10_1, f11_1])
  have f33_2 := fun hh => getq q33_2 hh
  have q34_2 : T2[34]? = some (.bool OK) := by subst hT; exact (by first | (simp only [↓Array.getElem?_setIfInBounds_ne, ne_eq, Nat.reduceEqDiff, not_false_eq_true]; done) | simp [hs1, f0_1, f1_1, f2_1, f3_1, f4_1, f5_1, f6_1, f7_1, f8_1, f9_1, f10_1, f11_1])
  have f34_2 := fun hh => getq q34_2 hh
  have q38_2 : T2[38]? = some (.int .i64 v1) := by subst hT; exact (by first | (simp only [↓Array.getElem?_setIfInBounds_ne, ne_eq, Nat.reduceEqDiff, not_false_eq_true]; done) | simp [hs1, f0_1, f1_1, f2_1, f3_1, f4_1, f5_1, f6_1, f7_1, f8_1, f9_1, f10_1, f11_1])
  have f38_2 := fun hh => getq q38_2 hh
  have q39_2 : T2[39]? = some (.int .i64 v2) := by subst hT; exact (by first | (simp only [↓Array.getElem?_setIfInBounds_ne, ne_eq, Nat.reduceEqDiff, not_false_eq_true]; done) | simp [hs1, f0_1, f1_1, f2_1, f3_1, f4_1, f5_1, f6_1, f7_1, f8_1, f9_1, f10_1, f11_1])
  have f39_2 := fun hh => getq q39_2 hh
  have q40_2 : T2[40]? = some (.bool ON) := by subst hT; exact (by first | (simp only [↓Array.getElem?_setIfInBounds_ne, ne_eq, Nat.reduceEqDiff, not_false_eq_true]; done) | simp [hs1, f0_1, f1_1, f2_1, f3_1, f4_1, f5_1, f6_1, f7_1, f8_1, f9_1, f10_1, f11_1])
  have f40_2 := fun hh => getq q40_2 hh
  clear hT f11_1 f10_1 f9_1 f8_1 f7_1 f6_1 f5_1 f4_1 f3_1 f2_1 f1_1 f0_1 hs1 q0_1 q1_1 q2_1 q3_1 q4_1 q5_1 q6_1 q7_1 q8_1 q9_1 q10_1 q11_1
  go_wp2_with fail
  refine wp_cond_f ?_ ?_
  · go_simp
  go_wp2_with fail
  have HF : Hid (Four w h p s j q t ch cp cs dh dp ds w4) := Lib.hid ⟨kw4_0_0, kw4_0_1, kw4_0_2, kw4_1_0, kw4_1_1, kw4_1_2, kw4_2_0, kw4_2_1, kw4_2_2, kw4_3_0, kw4_3_1, kw4_3_2, sw4_3, (by repeat (first | exact HBw4.out | exact Below.refl _ _ | refine bl_alloc ?_ _ | refine bl_drewN ?_ _ | refine bl_trans (by assumption) ?_ | refine bl_set ?_ (by first | omega | (simp; done) | (simp; omega)) _))⟩
  refine wp_cut (fun a' wx => ∃ T : Array Value, a' = ⟨T, []⟩ ∧ T.size = 626 ∧ T[0]? = some (.int .i64 l) ∧ T[3]? = some (.int .i64 hi) ∧ T[6]? = some (.int .i64 m) ∧ T[7]? = some (.int .i64 a) ∧ T[8]? = some (.int .i64 L) ∧ T[9]? = some (.int .i64 R) ∧ T[10]? = some (.int .i64 x) ∧ T[11]? = some (.int .i64 v) ∧ T[13]? = some (.pointer (some ⟨w.heap.size, 0, none⟩)) ∧ T[14]? = some (.pointer (some ⟨w.heap.size + 1, 0, none⟩)) ∧ T[16]? = some (.pointer (some ⟨w.heap.size + 1 + 1, 0, none⟩)) ∧ T[17]? = some (.pointer (some ⟨w.heap.size + 1 + 1 + 1, 0, none⟩)) ∧ T[25]? = some (.int .i64 r1) ∧ T[26]? = some (.int .i64 r2) ∧ T[29]? = some (.bool OK) ∧ T[35]? = some (.int .i64 v1) ∧ T[36]? = some (.int .i64 v2) ∧ T[37]? = some (.bool ON) ∧ Four w h p s j q t ch cp cs dh dp ds wx) ?rest ?first
  case first =>
    intro J K' hJ hK
    clear HA1 HA2 HC1 HC2 HW1 HW2 HI1 HI2 HS1 HS2 HE1 HE2 HN1 HN2 FC FS
    cases OK
    · refine wp_cond_f ?_ ?_
      · go_simp
      go_wp2_with fail
      refine Met.intro (hJ _ _ ⟨_, rfl, by simp [hs2], by first | (simp only [↓Array.getElem?_setIfInBounds_ne, ne_eq, Nat.reduceEqDiff, not_false_eq_true, q0_2]; done) | simp [hs2, f0_2, f3_2, f6_2, f7_2, f8_2, f9_2, f10_2, f11_2, f13_2, f14_2, f16_2, f17_2, f25_2, f26_2, f29_2, f35_2, f36_2, f37_2, f27_2, f28_2, f30_2, f31_2, f32_2, f33_2, f34_2, f38_2, f39_2, f40_2], by first | (simp only [↓Array.getElem?_setIfInBounds_ne, ne_eq, Nat.reduceEqDiff, not_false_eq_true, q3_2]; done) | simp [hs2, f0_2, f3_2, f6_2, f7_2, f8_2, f9_2, f10_2, f11_2, f13_2, f14_2, f16_2, f17_2, f25_2, f26_2, f29_2, f35_2, f36_2, f37_2, f27_2, f28_2, f30_2, f31_2, f32_2, f33_2, f34_2, f38_2, f39_2, f40_2], by first | (simp only [↓Array.getElem?_setIfInBounds_ne, ne_eq, Nat.reduceEqDiff, not_false_eq_true, q6_2]; done) | simp [hs2, f0_2, f3_2, f6_2, f7_2, f8_2, f9_2, f10_2, f11_2, f13_2, f14_2, f16_2, f17_2, f25_2, f26_2, f29_2, f35_2, f36_2, f37_2, f27_2, f28_2, f30_2, f31_2, f32_2, f33_2, f34_2, f38_2, f39_2, f40_2], by first | (simp only [↓Array.getElem?_setIfInBounds_ne, ne_eq, Nat.reduceEqDiff, not_false_eq_true, q7_2]; done) | simp [hs2, f0_2, f3_2, f6_2, f7_2, f8_2, f9_2, f10_2, f11_2, f13_2, f14_2, f16_2, f17_2, f25_2, f26_2, f29_2, f35_2, f36_2, f37_2, f27_2, f28_2, f30_2, f31_2, f32_2, f33_2, f34_2, f38_2, f39_2, f40_2], by first | (simp only [↓Array.getElem?_setIfInBounds_ne, ne_eq, Nat.reduceEqDiff, not_false_eq_true, q8_2]; done) | simp [hs2, f0_2, f3_2, f6_2, f7_2, f8_2, f9_2, f10_2, f11_2, f13_2, f14_2, f16_2, f17_2, f25_2, f26_2, f29_2, f35_2, f36_2, f37_2, f27_2, f28_2, f30_2, f31_2, f32_2, f33_2, f34_2, f38_2, f39_2, f40_2], by first | (simp only [↓Array.getElem?_setIfInBounds_ne, ne_eq, Nat.reduceEqDiff, not_false_eq_true, q9_2]; done) | simp [hs2, f0_2, f3_2, f6_2, f7_2, f8_2, f9_2, f10_2, f11_2, f13_2, f14_2, f16_2, f17_2, f25_2, f26_2, f29_2, f35_2, f36_2, f37_2, f27_2, f28_2, f30_2, f31_2, f32_2, f33_2, f34_2, f38_2, f39_2, f40_2], by first | (simp only [↓Array.getElem?_setIfInBounds_ne, ne_eq, Nat.reduceEqDiff, not_false_eq_true, q10_2]; done) | simp [hs2, f0_2, f3_2, f6_2, f7_2, f8_2, f9_2, f10_2, f11_2, f13_2, f14_2, f16_2, f17_2, f25_2, f26_2, f29_2, f35_2, f36_2, f37_2, f27_2, f28_2, f30_2, f31_2, f32_2, f33_2, f34_2, f38_2, f39_2, f40_2], by first | (simp only [↓Array.getElem?_setIfInBounds_ne, ne_eq, Nat.reduceEqDiff, not_false_eq_true, q11_2]; done) | simp [hs2, f0_2, f3_2, f6_2, f7_2, f8_2, f9_2, f10_2, f11_2, f13_2, f14_2, f16_2, f17_2, f25_2, f26_2, f29_2, f35_2, f36_2, f37_2, f27_2, f28_2, f30_2, f31_2, f32_2, f33_2, f34_2, f38_2, f39_2, f40_2], by first | (simp only [↓Array.getElem?_setIfInBounds_ne, ne_eq, Nat.reduceEqDiff, not_false_eq_true, q13_2]; done) | simp [hs2, f0_2, f3_2, f6_2, f7_2, f8_2, f9_2, f10_2, f11_2, f13_2, f14_2, f16_2, f17_2, f25_2, f26_2, f29_2, f35_2, f36_2, f37_2, f27_2, f28_2, f30_2, f31_2, f32_2, f33_2, f34_2, f38_2, f39_2, f40_2], by first | (simp only [↓Array.getElem?_setIfInBounds_ne, ne_eq, Nat.reduceEqDiff, not_false_eq_true, q14_2]; done) | simp [hs2, f0_2, f3_2, f6_2, f7_2, f8_2, f9_2, f10_2, f11_2, f13_2, f14_2, f16_2, f17_2, f25_2, f26_2, f29_2, f35_2, f36_2, f37_2, f27_2, f28_2, f30_2, f31_2, f32_2, f33_2, f34_2, f38_2, f39_2, f40_2], by first | (simp only [↓Array.getElem?_setIfInBounds_ne, ne_eq, Nat.reduceEqDiff, not_false_eq_true, q16_2]; done) | simp [hs2, f0_2, f3_2, f6_2, f7_2, f8_2, f9_2, f10_2, f11_2, f13_2, f14_2, f16_2, f17_2, f25_2, f26_2, f29_2, f35_2, f36_2, f37_2, f27_2, f28_2, f30_2, f31_2, f32_2, f33_2, f34_2, f38_2, f39_2, f40_2], by first | (simp only [↓Array.getElem?_setIfInBounds_ne, ne_eq, Nat.reduceEqDiff, not_false_eq_true, q17_2]; done) | simp [hs2, f0_2, f3_2, f6_2, f7_2, f8_2, f9_2, f10_2, f11_2, f13_2, f14_2, f16_2, f17_2, f25_2, f26_2, f29_2, f35_2, f36_2, f37_2, f27_2, f28_2, f30_2, f31_2, f32_2, f33_2, f34_2, f38_2, f39_2, f40_2], by first | (simp only [↓Array.getElem?_setIfInBounds_ne, ne_eq, Nat.reduceEqDiff, not_false_eq_true, q25_2]; done) | simp [hs2, f0_2, f3_2, f6_2, f7_2, f8_2, f9_2, f10_2, f11_2, f13_2, f14_2, f16_2, f17_2, f25_2, f26_2, f29_2, f35_2, f36_2, f37_2, f27_2, f28_2, f30_2, f31_2, f32_2, f33_2, f34_2, f38_2, f39_2, f40_2], by first | (simp only [↓Array.getElem?_setIfInBounds_ne, ne_eq, Nat.reduceEqDiff, not_false_eq_true, q26_2]; done) | simp [hs2, f0_2, f3_2, f6_2, f7_2, f8_2, f9_2, f10_2, f11_2, f13_2, f14_2, f16_2, f17_2, f25_2, f26_2, f29_2, f35_2, f36_2, f37_2, f27_2, f28_2, f30_2, f31_2, f32_2, f33_2, f34_2, f38_2, f39_2, f40_2], by first | (simp only [↓Array.getElem?_setIfInBounds_ne, ne_eq, Nat.reduceEqDiff, not_false_eq_true, q29_2]; done) | simp [hs2, f0_2, f3_2, f6_2, f7_2, f8_2, f9_2, f10_2, f11_2, f13_2, f14_2, f16_2, f17_2, f25_2, f26_2, f29_2, f35_2, f36_2, f37_2, f27_2, f28_2, f30_2, f31_2, f32_2, f33_2, f34_2, f38_2, f39_2, f40_2], by first | (simp only [↓Array.getElem?_setIfInBounds_ne, ne_eq, Nat.reduceEqDiff, not_false_eq_true, q35_2]; done) | simp [hs2, f0_2, f3_2, f6_2, f7_2, f8_2, f9_2, f10_2, f11_2, f13_2, f14_2, f16_2, f17_2, f25_2, f26_2, f29_2, f35_2, f36_2, f37_2, f27_2, f28_2, f30_2, f31_2, f32_2, f33_2, f34_2, f38_2, f39_2, f40_2], by first | (simp only [↓Array.getElem?_setIfInBounds_ne, ne_eq, Nat.reduceEqDiff, not_false_eq_true, q36_2]; done) | simp [hs2, f0_2, f3_2, f6_2, f7_2, f8_2, f9_2, f10_2, f11_2, f13_2, f14_2, f16_2, f17_2, f25_2, f26_2, f29_2, f35_2, f36_2, f37_2, f27_2, f28_2, f30_2, f31_2, f32_2, f33_2, f34_2, f38_2, f39_2, f40_2], by first | (simp only [↓Array.getElem?_setIfInBounds_ne, ne_eq, Nat.reduceEqDiff, not_false_eq_true, q37_2]; done) | simp [hs2, f0_2, f3_2, f6_2, f7_2, f8_2, f9_2, f10_2, f11_2, f13_2, f14_2, f16_2, f17_2, f25_2, f26_2, f29_2, f35_2, f36_2, f37_2, f27_2, f28_2, f30_2, f31_2, f32_2, f33_2, f34_2, f38_2, f39_2, f40_2], HF.out⟩)
    · obtain ⟨hM, ⟨l1, l2, h1, h2, j1, j2⟩, ⟨p1, p2, q1, q2⟩, ⟨s1', s2', t1, t2⟩, HB⟩ := FA rfl
      obtain ⟨d1, d2, m1, m2, x1, x2, y1, y2, g1, g2, a1, a2, b1, b2, e1_, e2_⟩ := hM.out
      clear FA hM
      have HY1 := fun W => Lib.hid (yLow_int m1 (by omega) d1 (by omega) g1 W)
      have HY2 := fun W => Lib.hid (yLow_int x1 (by omega) y1 (by omega) g2 W)
      clear g1 g2
      obtain ⟨u1, u2⟩ := mul_bd2 (a := p) (b := r2) (m := 500) (k := 100000) (by omega) (by omega) (by omega) (by omega)
      obtain ⟨u3, u4⟩ := mul_abs (a := s) (b := r1) (m := 50) (k := 100000) (by omega) (by omega) (by omega) (by omega)
      obtain ⟨u5, u6⟩ := mul_bd2 (a := q) (b := r2) (m := 500) (k := 100000) (by omega) (by omega) (by omega) (by omega)
      obtain ⟨u7, u8⟩ := mul_abs (a := t) (b := r1) (m := 50) (k := 100000) (by omega) (by omega) (by omega) (by omega)
      refine wp_cond_t ?_ ?_
      · go_simp
      go_upto_region 8 with fail
      refine reframe fun T3 hT => ?_
      have hs3 : T3.size = 626 := by subst hT; simp [hs2]
      have q0_3 : T3[0]? = some (.int .i64 l) := by subst hT; exact (by first | (simp only [↓Array.getElem?_setIfInBounds_ne, ne_eq, Nat.reduceEqDiff, not_false_eq_true, q0_2]; done) | simp [hs2, f0_2, f3_2, f6_2, f7_2, f8_2, f9_2, f10_2, f11_2, f13_2, f14_2, f16_2, f17_2, f25_2, f26_2, f29_2, f35_2, f36_2, f37_2, f27_2, f28_2, f30_2, f31_2, f32_2, f33_2, f34_2, f38_2, f39_2, f40_2])
      have f0_3 := fun hh => getq q0_3 hh
      have q3_3 : T3[3]? = some (.int .i64 hi) := by subst hT; exact (by first | (simp only [↓Array.getElem?_setIfInBounds_ne, ne_eq, Nat.reduceEqDiff, not_false_eq_true, q3_2]; done) | simp [hs2, f0_2, f3_2, f6_2, f7_2, f8_2, f9_2, f10_2, f11_2, f13_2, f14_2, f16_2, f17_2, f25_2, f26_2, f29_2, f35_2, f36_2, f37_2, f27_2, f28_2, f30_2, f31_2, f32_2, f33_2, f34_2, f38_2, f39_2, f40_2])
      have f3_3 := fun hh => getq q3_3 hh
      have q6_3 : T3[6]? = some (.int .i64 m) := by subst hT; exact (by first | (simp only [↓Array.getElem?_setIfInBounds_ne, ne_eq, Nat.reduceEqDiff, not_false_eq_true, q6_2]; done) | simp [hs2, f0_2, f3_2, f6_2, f7_2, f8_2, f9_2, f10_2, f11_2, f13_2, f14_2, f16_2, f17_2, f25_2, f26_2, f29_2, f35_2, f36_2, f37_2, f27_2, f28_2, f30_2, f31_2, f32_2, f33_2, f34_2, f38_2, f39_2, f40_2])
      have f6_3 := fun hh => getq q6_3 hh
      have q7_3 : T3[7]? = some (.int .i64 a) := by subst hT; exact (by first | (simp only [↓Array.getElem?_setIfInBounds_ne, ne_eq, Nat.reduceEqDiff, not_false_eq_true, q7_2]; done) | simp [hs2, f0_2, f3_2, f6_2, f7_2, f8_2, f9_2, f10_2, f11_2, f13_2, f14_2, f16_2, f17_2, f25_2, f26_2, f29_2, f35_2, f36_2, f37_2, f27_2, f28_2, f30_2, f31_2, f32_2, f33_2, f34_2, f38_2, f39_2, f40_2])
      have f7_3 := fun hh => getq q7_3 hh
      have q8_3 : T3[8]? = some (.int .i64 L) := by subst hT; exact (by first | (simp only [↓Array.getElem?_setIfInBounds_ne, ne_eq, Nat.reduceEqDiff, not_false_eq_true, q8_2]; done) | simp [hs2, f0_2, f3_2, f6_2, f7_2, f8_2, f9_2, f10_2, f11_2, f13_2, f14_2, f16_2, f17_2, f25_2, f26_2, f29_2, f35_2, f36_2, f37_2, f27_2, f28_2, f30_2, f31_2, f32_2, f33_2, f34_2, f38_2, f39_2, f40_2])
      have f8_3 := fun hh => getq q8_3 hh
      have q9_3 : T3[9]? = some (.int .i64 R) := by subst hT; exact (by first | (simp only [↓Array.getElem?_setIfInBounds_ne, ne_eq, Nat.reduceEqDiff, not_false_eq_true, q9_2]; done) | simp [hs2, f0_2, f3_2, f6_2, f7_2, f8_2, f9_2, f10_2, f11_2, f13_2, f14_2, f16_2, f17_2, f25_2, f26_2, f29_2, f35_2, f36_2, f37_2, f27_2, f28_2, f30_2, f31_2, f32_2, f33_2, f34_2, f38_2, f39_2, f40_2])
      have f9_3 := fun hh => getq q9_3 hh
      have q10_3 : T3[10]? = some (.int .i64 x) := by subst hT; exact (by first | (simp only [↓Array.getElem?_setIfInBounds_ne, ne_eq, Nat.reduceEqDiff, not_false_eq_true, q10_2]; done) | simp [hs2, f0_2, f3_2, f6_2, f7_2, f8_2, f9_2, f10_2, f11_2, f13_2, f14_2, f16_2, f17_2, f25_2, f26_2, f29_2, f35_2, f36_2, f37_2, f27_2, f28_2, f30_2, f31_2, f32_2, f33_2, f34_2, f38_2, f39_2, f40_2])
      have f10_3 := fun hh => getq q10_3 hh
      have q11_3 : T3[11]? = some (.int .i64 v) := by subst hT; exact (by first | (simp only [↓Array.getElem?_setIfInBounds_ne, ne_eq, Nat.reduceEqDiff, not_false_eq_true, q11_2]; done) | simp [hs2, f0_2, f3_2, f6_2, f7_2, f8_2, f9_2, f10_2, f11_2, f13_2, f14_2, f16_2, f17_2, f25_2, f26_2, f29_2, f35_2, f36_2, f37_2, f27_2, f28_2, f30_2, f31_2, f32_2, f33_2, f34_2, f38_2, f39_2, f40_2])
      have f11_3 := fun hh => getq q11_3 hh
      have q13_3 : T3[13]? = some (.pointer (some ⟨w.heap.size, 0, none⟩)) := by subst hT; exact (by first | (simp only [↓Array.getElem?_setIfInBounds_ne, ne_eq, Nat.reduceEqDiff, not_false_eq_true, q13_2]; done) | simp [hs2, f0_2, f3_2, f6_2, f7_2, f8_2, f9_2, f10_2, f11_2, f13_2, f14_2, f16_2, f17_2, f25_2, f26_2, f29_2, f35_2, f36_2, f37_2, f27_2, f28_2, f30_2, f31_2, f32_2, f33_2, f34_2, f38_2, f39_2, f40_2])
      have f13_3 := fun hh => getq q13_3 hh
      have q14_3 : T3[14]? = some (.pointer (some ⟨w.heap.size + 1, 0, none⟩)) := by subst hT; exact (by first | (simp only [↓Array.getElem?_setIfInBounds_ne, ne_eq, Nat.reduceEqDiff, not_false_eq_true, q14_2]; done) | simp [hs2, f0_2, f3_2, f6_2, f7_2, f8_2, f9_2, f10_2, f11_2, f13_2, f14_2, f16_2, f17_2, f25_2, f26_2, f29_2, f35_2, f36_2, f37_2, f27_2, f28_2, f30_2, f31_2, f32_2, f33_2, f34_2, f38_2, f39_2, f40_2])
      have f14_3 := fun hh => getq q14_3 hh
      have q16_3 : T3[16]? = some (.pointer (some ⟨w.heap.size + 1 + 1, 0, none⟩)) := by subst hT; exact (by first | (simp only [↓Array.getElem?_setIfInBounds_ne, ne_eq, Nat.reduceEqDiff, not_false_eq_true, q16_2]; done) | simp [hs2, f0_2, f3_2, f6_2, f7_2, f8_2, f9_2, f10_2, f11_2, f13_2, f14_2, f16_2, f17_2, f25_2, f26_2, f29_2, f35_2, f36_2, f37_2, f27_2, f28_2, f30_2, f31_2, f32_2, f33_2, f34_2, f38_2, f39_2, f40_2])
      have f16_3 := fun hh => getq q16_3 hh
      have q17_3 : T3[17]? = some (.pointer (some ⟨w.heap.size + 1 + 1 + 1, 0, none⟩)) := by subst hT; exact (by first | (simp only [↓Array.getElem?_setIfInBounds_ne, ne_eq, Nat.reduceEqDiff, not_false_eq_true, q17_2]; done) | simp [hs2, f0_2, f3_2, f6_2, f7_2, f8_2, f9_2, f10_2, f11_2, f13_2, f14_2, f16_2, f17_2, f25_2, f26_2, f29_2, f35_2, f36_2, f37_2, f27_2, f28_2, f30_2, f31_2, f32_2, f33_2, f34_2, f38_2, f39_2, f40_2])
      have f17_3 := fun hh => getq q17_3 hh
      have q25_3 : T3[25]? = some (.int .i64 r1) := by subst hT; exact (by first | (simp only [↓Array.getElem?_setIfInBounds_ne, ne_eq, Nat.reduceEqDiff, not_false_eq_true, q25_2]; done) | simp [hs2, f0_2, f3_2, f6_2, f7_2, f8_2, f9_2, f10_2, f11_2, f13_2, f14_2, f16_2, f17_2, f25_2, f26_2, f29_2, f35_2, f36_2, f37_2, f27_2, f28_2, f30_2, f31_2, f32_2, f33_2, f34_2, f38_2, f39_2, f40_2])
      have f25_3 := fun hh => getq q25_3 hh
      have q26_3 : T3[26]? = some (.int .i64 r2) := by subst hT; exact (by first | (simp only [↓Array.getElem?_setIfInBounds_ne, ne_eq, Nat.reduceEqDiff, not_false_eq_true, q26_2]; done) | simp [hs2, f0_2, f3_2, f6_2, f7_2, f8_2, f9_2, f10_2, f11_2, f13_2, f14_2, f16_2, f17_2, f25_2, f26_2, f29_2, f35_2, f36_2, f37_2, f27_2, f28_2, f30_2, f31_2, f32_2, f33_2, f34_2, f38_2, f39_2, f40_2])
      have f26_3 := fun hh => getq q26_3 hh
      have q29_3 : T3[29]? = some (.bool true) := by subst hT; exact (by first | (simp only [↓Array.getElem?_setIfInBounds_ne, ne_eq, Nat.reduceEqDiff, not_false_eq_true, q29_2]; done) | simp [hs2, f0_2, f3_2, f6_2, f7_2, f8_2, f9_2, f10_2, f11_2, f13_2, f14_2, f16_2, f17_2, f25_2, f26_2, f29_2, f35_2, f36_2, f37_2, f27_2, f28_2, f30_2, f31_2, f32_2, f33_2, f34_2, f38_2, f39_2, f40_2])
      have f29_3 := fun hh => getq q29_3 hh
      have q35_3 : T3[35]? = some (.int .i64 v1) := by subst hT; exact (by first | (simp only [↓Array.getElem?_setIfInBounds_ne, ne_eq, Nat.reduceEqDiff, not_false_eq_true, q35_2]; done) | simp [hs2, f0_2, f3_2, f6_2, f7_2, f8_2, f9_2, f10_2, f11_2, f13_2, f14_2, f16_2, f17_2, f25_2, f26_2, f29_2, f35_2, f36_2, f37_2, f27_2, f28_2, f30_2, f31_2, f32_2, f33_2, f34_2, f38_2, f39_2, f40_2])
      have f35_3 := fun hh => getq q35_3 hh
      have q36_3 : T3[36]? = some (.int .i64 v2) := by subst hT; exact (by first | (simp only [↓Array.getElem?_setIfInBounds_ne, ne_eq, Nat.reduceEqDiff, not_false_eq_true, q36_2]; done) | simp [hs2, f0_2, f3_2, f6_2, f7_2, f8_2, f9_2, f10_2, f11_2, f13_2, f14_2, f16_2, f17_2, f25_2, f26_2, f29_2, f35_2, f36_2, f37_2, f27_2, f28_2, f30_2, f31_2, f32_2, f33_2, f34_2, f38_2, f39_2, f40_2])
      have f36_3 := fun hh => getq q36_3 hh
      have q37_3 : T3[37]? = some (.bool ON) := by subst hT; exact (by first | (simp only [↓Array.getElem?_setIfInBounds_ne, ne_eq, Nat.reduceEqDiff, not_false_eq_true, q37_2]; done) | simp [hs2, f0_2, f3_2, f6_2, f7_2, f8_2, f9_2, f10_2, f11_2, f13_2, f14_2, f16_2, f17_2, f25_2, f26_2, f29_2, f35_2, f36_2, f37_2, f27_2, f28_2, f30_2, f31_2, f32_2, f33_2, f34_2, f38_2, f39_2, f40_2])
      have f37_3 := fun hh => getq q37_3 hh
      have q27_3 : T3[27]? = some (.int .i64 r3) := by subst hT; exact (by first | (simp only [↓Array.getElem?_setIfInBounds_ne, ne_eq, Nat.reduceEqDiff, not_false_eq_true, q27_2]; done) | simp [hs2, f0_2, f3_2, f6_2, f7_2, f8_2, f9_2, f10_2, f11_2, f13_2, f14_2, f16_2, f17_2, f25_2, f26_2, f29_2, f35_2, f36_2, f37_2, f27_2, f28_2, f30_2, f31_2, f32_2, f33_2, f34_2, f38_2, f39_2, f40_2])
      have f27_3 := fun hh => getq q27_3 hh
      have q28_3 : T3[28]? = some (.int .i64 r4) := by subst hT; exact (by first | (simp only [↓Array.getElem?_setIfInBounds_ne, ne_eq, Nat.reduceEqDiff, not_false_eq_true, q28_2]; done) | simp [hs2, f0_2, f3_2, f6_2, f7_2, f8_2, f9_2, f10_2, f11_2, f13_2, f14_2, f16_2, f17_2, f25_2, f26_2, f29_2, f35_2, f36_2, f37_2, f27_2, f28_2, f30_2, f31_2, f32_2, f33_2, f34_2, f38_2, f39_2, f40_2])
      have f28_3 := fun hh => getq q28_3 hh
      clear hT f40_2 f39_2 f38_2 f34_2 f33_2 f32_2 f31_2 f30_2 f28_2 f27_2 f37_2 f36_2 f35_2 f29_2 f26_2 f25_2 f17_2 f16_2 f14_2 f13_2 f11_2 f10_2 f9_2 f8_2 f7_2 f6_2 f3_2 f0_2 hs2 q0_2 q3_2 q6_2 q7_2 q8_2 q9_2 q10_2 q11_2 q13_2 q14_2 q16_2 q17_2 q25_2 q26_2 q29_2 q35_2 q36_2 q37_2 q27_2 q28_2 q30_2 q31_2 q32_2 q33_2 q34_2 q38_2 q39_2 q40_2
      go_quiet (fail)
      have w1_ : IntKind.i64.wrap (p * r2) = p * r2 := IntWalk.i64_in _ ⟨by omega, by omega⟩
      have w2_ : IntKind.i64.wrap (s * r1) = s * r1 := IntWalk.i64_in _ ⟨by omega, by omega⟩
      have w3_ : IntKind.i64.wrap (p * r2 + s * r1) = p * r2 + s * r1 := IntWalk.i64_in _ ⟨by omega, by omega⟩
      have w4_ : IntKind.i64.wrap (q * r2) = q * r2 := IntWalk.i64_in _ ⟨by omega, by omega⟩
      have w5_ : IntKind.i64.wrap (t * r1) = t * r1 := IntWalk.i64_in _ ⟨by omega, by omega⟩
      have w6_ : IntKind.i64.wrap (q * r2 + t * r1) = q * r2 + t * r1 := IntWalk.i64_in _ ⟨by omega, by omega⟩
      go_upto_region 9 with fail
      refine reframe fun T4 hT => ?_
      have hs4 : T4.size = 626 := by subst hT; simp [hs3]
      have q0_4 : T4[0]? = some (.int .i64 l) := by subst hT; exact (by first | (simp only [↓Array.getElem?_setIfInBounds_ne, ne_eq, Nat.reduceEqDiff, not_false_eq_true, q0_3]; done) | simp [hs3, f0_3, f3_3, f6_3, f7_3, f8_3, f9_3, f10_3, f11_3, f13_3, f14_3, f16_3, f17_3, f25_3, f26_3, f29_3, f35_3, f36_3, f37_3, f27_3, f28_3, w1_, w2_, w3_, w4_, w5_, w6_])
      have f0_4 := fun hh => getq q0_4 hh
      have q3_4 : T4[3]? = some (.int .i64 hi) := by subst hT; exact (by first | (simp only [↓Array.getElem?_setIfInBounds_ne, ne_eq, Nat.reduceEqDiff, not_false_eq_true, q3_3]; done) | simp [hs3, f0_3, f3_3, f6_3, f7_3, f8_3, f9_3, f10_3, f11_3, f13_3, f14_3, f16_3, f17_3, f25_3, f26_3, f29_3, f35_3, f36_3, f37_3, f27_3, f28_3, w1_, w2_, w3_, w4_, w5_, w6_])
      have f3_4 := fun hh => getq q3_4 hh
      have q6_4 : T4[6]? = some (.int .i64 m) := by subst hT; exact (by first | (simp only [↓Array.getElem?_setIfInBounds_ne, ne_eq, Nat.reduceEqDiff, not_false_eq_true, q6_3]; done) | simp [hs3, f0_3, f3_3, f6_3, f7_3, f8_3, f9_3, f10_3, f11_3, f13_3, f14_3, f16_3, f17_3, f25_3, f26_3, f29_3, f35_3, f36_3, f37_3, f27_3, f28_3, w1_, w2_, w3_, w4_, w5_, w6_])
      have f6_4 := fun hh => getq q6_4 hh
      have q7_4 : T4[7]? = some (.int .i64 a) := by subst hT; exact (by first | (simp only [↓Array.getElem?_setIfInBounds_ne, ne_eq, Nat.reduceEqDiff, not_false_eq_true, q7_3]; done) | simp [hs3, f0_3, f3_3, f6_3, f7_3, f8_3, f9_3, f10_3, f11_3, f13_3, f14_3, f16_3, f17_3, f25_3, f26_3, f29_3, f35_3, f36_3, f37_3, f27_3, f28_3, w1_, w2_, w3_, w4_, w5_, w6_])
      have f7_4 := fun hh => getq q7_4 hh
      have q8_4 : T4[8]? = some (.int .i64 L) := by subst hT; exact (by first | (simp only [↓Array.getElem?_setIfInBounds_ne, ne_eq, Nat.reduceEqDiff, not_false_eq_true, q8_3]; done) | simp [hs3, f0_3, f3_3, f6_3, f7_3, f8_3, f9_3, f10_3, f11_3, f13_3, f14_3, f16_3, f17_3, f25_3, f26_3, f29_3, f35_3, f36_3, f37_3, f27_3, f28_3, w1_, w2_, w3_, w4_, w5_, w6_])
      have f8_4 := fun hh => getq q8_4 hh
      have q9_4 : T4[9]? = some (.int .i64 R) := by subst hT; exact (by first | (simp only [↓Array.getElem?_setIfInBounds_ne, ne_eq, Nat.reduceEqDiff, not_false_eq_true, q9_3]; done) | simp [hs3, f0_3, f3_3, f6_3, f7_3, f8_3, f9_3, f10_3, f11_3, f13_3, f14_3, f16_3, f17_3, f25_3, f26_3, f29_3, f35_3, f36_3, f37_3, f27_3, f28_3, w1_, w2_, w3_, w4_, w5_, w6_])
      have f9_4 := fun hh => getq q9_4 hh
      have q10_4 : T4[10]? = some (.int .i64 x) := by subst hT; exact (by first | (simp only [↓Array.getElem?_setIfInBounds_ne, ne_eq, Nat.reduceEqDiff, not_false_eq_true, q10_3]; done) | simp [hs3, f0_3, f3_3, f6_3, f7_3, f8_3, f9_3, f10_3, f11_3, f13_3, f14_3, f16_3, f17_3, f25_3, f26_3, f29_3, f35_3, f36_3, f37_3, f27_3, f28_3, w1_, w2_, w3_, w4_, w5_, w6_])
      have f10_4 := fun hh => getq q10_4 hh
      have q11_4 : T4[11]? = some (.int .i64 v) := by subst hT; exact (by first | (simp only [↓Array.getElem?_setIfInBounds_ne, ne_eq, Nat.reduceEqDiff, not_false_eq_true, q11_3]; done) | simp [hs3, f0_3, f3_3, f6_3, f7_3, f8_3, f9_3, f10_3, f11_3, f13_3, f14_3, f16_3, f17_3, f25_3, f26_3, f29_3, f35_3, f36_3, f37_3, f27_3, f28_3, w1_, w2_, w3_, w4_, w5_, w6_])
      have f11_4 := fun hh => getq q11_4 hh
      have q13_4 : T4[13]? = some (.pointer (some ⟨w.heap.size, 0, none⟩)) := by subst hT; exact (by first | (simp only [↓Array.getElem?_setIfInBounds_ne, ne_eq, Nat.reduceEqDiff, not_false_eq_true, q13_3]; done) | simp [hs3, f0_3, f3_3, f6_3, f7_3, f8_3, f9_3, f10_3, f11_3, f13_3, f14_3, f16_3, f17_3, f25_3, f26_3, f29_3, f35_3, f36_3, f37_3, f27_3, f28_3, w1_, w2_, w3_, w4_, w5_, w6_])
      have f13_4 := fun hh => getq q13_4 hh
      have q14_4 : T4[14]? = some (.pointer (some ⟨w.heap.size + 1, 0, none⟩)) := by subst hT; exact (by first | (simp only [↓Array.getElem?_setIfInBounds_ne, ne_eq, Nat.reduceEqDiff, not_false_eq_true, q14_3]; done) | simp [hs3, f0_3, f3_3, f6_3, f7_3, f8_3, f9_3, f10_3, f11_3, f13_3, f14_3, f16_3, f17_3, f25_3, f26_3, f29_3, f35_3, f36_3, f37_3, f27_3, f28_3, w1_, w2_, w3_, w4_, w5_, w6_])
      have f14_4 := fun hh => getq q14_4 hh
      have q16_4 : T4[16]? = some (.pointer (some ⟨w.heap.size + 1 + 1, 0, none⟩)) := by subst hT; exact (by first | (simp only [↓Array.getElem?_setIfInBounds_ne, ne_eq, Nat.reduceEqDiff, not_false_eq_true, q16_3]; done) | simp [hs3, f0_3, f3_3, f6_3, f7_3, f8_3, f9_3, f10_3, f11_3, f13_3, f14_3, f16_3, f17_3, f25_3, f26_3, f29_3, f35_3, f36_3, f37_3, f27_3, f28_3, w1_, w2_, w3_, w4_, w5_, w6_])
      have f16_4 := fun hh => getq q16_4 hh
      have q17_4 : T4[17]? = some (.pointer (some ⟨w.heap.size + 1 + 1 + 1, 0, none⟩)) := by subst hT; exact (by first | (simp only [↓Array.getElem?_setIfInBounds_ne, ne_eq, Nat.reduceEqDiff, not_false_eq_true, q17_3]; done) | simp [hs3, f0_3, f3_3, f6_3, f7_3, f8_3, f9_3, f10_3, f11_3, f13_3, f14_3, f16_3, f17_3, f25_3, f26_3, f29_3, f35_3, f36_3, f37_3, f27_3, f28_3, w1_, w2_, w3_, w4_, w5_, w6_])
      have f17_4 := fun hh => getq q17_4 hh
      have q25_4 : T4[25]? = some (.int .i64 r1) := by subst hT; exact (by first | (simp only [↓Array.getElem?_setIfInBounds_ne, ne_eq, Nat.reduceEqDiff, not_false_eq_true, q25_3]; done) | simp [hs3, f0_3, f3_3, f6_3, f7_3, f8_3, f9_3, f10_3, f11_3, f13_3, f14_3, f16_3, f17_3, f25_3, f26_3, f29_3, f35_3, f36_3, f37_3, f27_3, f28_3, w1_, w2_, w3_, w4_, w5_, w6_])
      have f25_4 := fun hh => getq q25_4 hh
      have q26_4 : T4[26]? = some (.int .i64 r2) := by subst hT; exact (by first | (simp only [↓Array.getElem?_setIfInBounds_ne, ne_eq, Nat.reduceEqDiff, not_false_eq_true, q26_3]; done) | simp [hs3, f0_3, f3_3, f6_3, f7_3, f8_3, f9_3, f10_3, f11_3, f13_3, f14_3, f16_3, f17_3, f25_3, f26_3, f29_3, f35_3, f36_3, f37_3, f27_3, f28_3, w1_, w2_, w3_, w4_, w5_, w6_])
      have f26_4 := fun hh => getq q26_4 hh
      have q29_4 : T4[29]? = some (.bool true) := by subst hT; exact (by first | (simp only [↓Array.getElem?_setIfInBounds_ne, ne_eq, Nat.reduceEqDiff, not_false_eq_true, q29_3]; done) | simp [hs3, f0_3, f3_3, f6_3, f7_3, f8_3, f9_3, f10_3, f11_3, f13_3, f14_3, f16_3, f17_3, f25_3, f26_3, f29_3, f35_3, f36_3, f37_3, f27_3, f28_3, w1_, w2_, w3_, w4_, w5_, w6_])
      have f29_4 := fun hh => getq q29_4 hh
      have q35_4 : T4[35]? = some (.int .i64 v1) := by subst hT; exact (by first | (simp only [↓Array.getElem?_setIfInBounds_ne, ne_eq, Nat.reduceEqDiff, not_false_eq_true, q35_3]; done) | simp [hs3, f0_3, f3_3, f6_3, f7_3, f8_3, f9_3, f10_3, f11_3, f13_3, f14_3, f16_3, f17_3, f25_3, f26_3, f29_3, f35_3, f36_3, f37_3, f27_3, f28_3, w1_, w2_, w3_, w4_, w5_, w6_])
      have f35_4 := fun hh => getq q35_4 hh
      have q36_4 : T4[36]? = some (.int .i64 v2) := by subst hT; exact (by first | (simp only [↓Array.getElem?_setIfInBounds_ne, ne_eq, Nat.reduceEqDiff, not_false_eq_true, q36_3]; done) | simp [hs3, f0_3, f3_3, f6_3, f7_3, f8_3, f9_3, f10_3, f11_3, f13_3, f14_3, f16_3, f17_3, f25_3, f26_3, f29_3, f35_3, f36_3, f37_3, f27_3, f28_3, w1_, w2_, w3_, w4_, w5_, w6_])
      have f36_4 := fun hh => getq q36_4 hh
      have q37_4 : T4[37]? = some (.bool ON) := by subst hT; exact (by first | (simp only [↓Array.getElem?_setIfInBounds_ne, ne_eq, Nat.reduceEqDiff, not_false_eq_true, q37_3]; done) | simp [hs3, f0_3, f3_3, f6_3, f7_3, f8_3, f9_3, f10_3, f11_3, f13_3, f14_3, f16_3, f17_3, f25_3, f26_3, f29_3, f35_3, f36_3, f37_3, f27_3, f28_3, w1_, w2_, w3_, w4_, w5_, w6_])
      have f37_4 := fun hh => getq q37_4 hh
      have q27_4 : T4[27]? = some (.int .i64 r3) := by subst hT; exact (by first | (simp only [↓Array.getElem?_setIfInBounds_ne, ne_eq, Nat.reduceEqDiff, not_false_eq_true, q27_3]; done) | simp [hs3, f0_3, f3_3, f6_3, f7_3, f8_3, f9_3, f10_3, f11_3, f13_3, f14_3, f16_3, f17_3, f25_3, f26_3, f29_3, f35_3, f36_3, f37_3, f27_3, f28_3, w1_, w2_, w3_, w4_, w5_, w6_])
      have f27_4 := fun hh => getq q27_4 hh
      have q28_4 : T4[28]? = some (.int .i64 r4) := by subst hT; exact (by first | (simp only [↓Array.getElem?_setIfInBounds_ne, ne_eq, Nat.reduceEqDiff, not_false_eq_true, q28_3]; done) | simp [hs3, f0_3, f3_3, f6_3, f7_3, f8_3, f9_3, f10_3, f11_3, f13_3, f14_3, f16_3, f17_3, f25_3, f26_3, f29_3, f35_3, f36_3, f37_3, f27_3, f28_3, w1_, w2_, w3_, w4_, w5_, w6_])
      have f28_4 := fun hh => getq q28_4 hh
      have q41_4 : T4[41]? = some (.int .i64 (p * r2 + s * r1)) := by subst hT; exact (by first | (simp only [↓Array.getElem?_setIfInBounds_ne, ne_eq, Nat.reduceEqDiff, not_false_eq_true]; done) | simp [hs3, f0_3, f3_3, f6_3, f7_3, f8_3, f9_3, f10_3, f11_3, f13_3, f14_3, f16_3, f17_3, f25_3, f26_3, f29_3, f35_3, f36_3, f37_3, f27_3, f28_3, w1_, w2_, w3_, w4_, w5_, w6_])
      have f41_4 := fun hh => getq q41_4 hh
      have q42_4 : T4[42]? = some (.int .i64 (q * r2 + t * r1)) := by subst hT; exact (by first | (simp only [↓Array.getElem?_setIfInBounds_ne, ne_eq, Nat.reduceEqDiff, not_false_eq_true]; done) | simp [hs3, f0_3, f3_3, f6_3, f7_3, f8_3, f9_3, f10_3, f11_3, f13_3, f14_3, f16_3, f17_3, f25_3, f26_3, f29_3, f35_3, f36_3, f37_3, f27_3, f28_3, w1_, w2_, w3_, w4_, w5_, w6_])
      have f42_4 := fun hh => getq q42_4 hh
      clear hT f28_3 f27_3 f37_3 f36_3 f35_3 f29_3 f26_3 f25_3 f17_3 f16_3 f14_3 f13_3 f11_3 f10_3 f9_3 f8_3 f7_3 f6_3 f3_3 f0_3 hs3 q0_3 q3_3 q6_3 q7_3 q8_3 q9_3 q10_3 q11_3 q13_3 q14_3 q16_3 q17_3 q25_3 q26_3 q29_3 q35_3 q36_3 q37_3 q27_3 q28_3
      clear w1_ w2_ w3_ w4_ w5_ w6_
      generalize p * r2 + s * r1 = P at *
      generalize q * r2 + t * r1 = Q at *
      clear u1 u2 u3 u4 u5 u6 u7 u8
      have a3 : ¬ P < 0 := by omega
      have b3 : ¬ Q < 0 := by omega
      obtain ⟨z1, z2⟩ := mul_bd2 (a := P) (b := l) (m := 60000000) (k := 200) (by omega) (by omega) (by omega) (by omega)
      obtain ⟨z3, z4⟩ := mul_bd2 (a := P * l) (b := r4) (m := 12000000000) (k := 20000000) (by omega) (by omega) (by omega) (by omega)
      obtain ⟨z5, z6⟩ := mul_bd2 (a := Q) (b := l) (m := 60000000) (k := 200) (by omega) (by omega) (by omega) (by omega)
      obtain ⟨z7, z8⟩ := mul_bd2 (a := Q * l) (b := r4) (m := 12000000000) (k := 20000000) (by omega) (by omega) (by omega) (by omega)
      obtain ⟨z9, z10⟩ := mul_bd2 (a := r3) (b := r2) (m := 100000000000) (k := 100000) (by omega) (by omega) (by omega) (by omega)
      obtain ⟨z11, z12⟩ := mul_bd2 (a := r3 * r2) (b := l - h) (m := 10000000000000000) (k := 200) (by omega) (by omega) (by omega) (by omega)
      obtain ⟨z13, z14⟩ := mul_bd2 (a := r3 * r2) (b := l - j) (m := 10000000000000000) (k := 200) (by omega) (by omega) (by omega) (by omega)
      go_wp2_with fail
      refine ((HY1 _).out).mono ?_
      rintro e w' ⟨rfl, nA, rfl⟩
      go_wp2_with fail
      refine ((HY2 _).out).mono ?_
      rintro e w' ⟨rfl, nB, rfl⟩
      go_wp2_with fail
      clear z1 z2 z3 z4 z5 z6 z7 z8 z9 z10 z11 z12 z13 z14
      refine wp_cond_f ?_ ?_
      · go_simp
      go_upto_region 11 with fail
      refine reframe fun T5 hT => ?_
      have hs5 : T5.size = 626 := by subst hT; simp [hs4]
      have q0_5 : T5[0]? = some (.int .i64 l) := by subst hT; exact (by first | (simp only [↓Array.getElem?_setIfInBounds_ne, ne_eq, Nat.reduceEqDiff, not_false_eq_true, q0_4]; done) | simp [hs4, f0_4, f3_4, f6_4, f7_4, f8_4, f9_4, f10_4, f11_4, f13_4, f14_4, f16_4, f17_4, f25_4, f26_4, f29_4, f35_4, f36_4, f37_4, f27_4, f28_4, f41_4, f42_4])
      have f0_5 := fun hh => getq q0_5 hh
      have q3_5 : T5[3]? = some (.int .i64 hi) := by subst hT; exact (by first | (simp only [↓Array.getElem?_setIfInBounds_ne, ne_eq, Nat.reduceEqDiff, not_false_eq_true, q3_4]; done) | simp [hs4, f0_4, f3_4, f6_4, f7_4, f8_4, f9_4, f10_4, f11_4, f13_4, f14_4, f16_4, f17_4, f25_4, f26_4, f29_4, f35_4, f36_4, f37_4, f27_4, f28_4, f41_4, f42_4])
      have f3_5 := fun hh => getq q3_5 hh
      have q6_5 : T5[6]? = some (.int .i64 m) := by subst hT; exact (by first | (simp only [↓Array.getElem?_setIfInBounds_ne, ne_eq, Nat.reduceEqDiff, not_false_eq_true, q6_4]; done) | simp [hs4, f0_4, f3_4, f6_4, f7_4, f8_4, f9_4, f10_4, f11_4, f13_4, f14_4, f16_4, f17_4, f25_4, f26_4, f29_4, f35_4, f36_4, f37_4, f27_4, f28_4, f41_4, f42_4])
      have f6_5 := fun hh => getq q6_5 hh
      have q7_5 : T5[7]? = some (.int .i64 a) := by subst hT; exact (by first | (simp only [↓Array.getElem?_setIfInBounds_ne, ne_eq, Nat.reduceEqDiff, not_false_eq_true, q7_4]; done) | simp [hs4, f0_4, f3_4, f6_4, f7_4, f8_4, f9_4, f10_4, f11_4, f13_4, f14_4, f16_4, f17_4, f25_4, f26_4, f29_4, f35_4, f36_4, f37_4, f27_4, f28_4, f41_4, f42_4])
      have f7_5 := fun hh => getq q7_5 hh
      have q8_5 : T5[8]? = some (.int .i64 L) := by subst hT; exact (by first | (simp only [↓Array.getElem?_setIfInBounds_ne, ne_eq, Nat.reduceEqDiff, not_false_eq_true, q8_4]; done) | simp [hs4, f0_4, f3_4, f6_4, f7_4, f8_4, f9_4, f10_4, f11_4, f13_4, f14_4, f16_4, f17_4, f25_4, f26_4, f29_4, f35_4, f36_4, f37_4, f27_4, f28_4, f41_4, f42_4])
      have f8_5 := fun hh => getq q8_5 hh
      have q9_5 : T5[9]? = some (.int .i64 R) := by subst hT; exact (by first | (simp only [↓Array.getElem?_setIfInBounds_ne, ne_eq, Nat.reduceEqDiff, not_false_eq_true, q9_4]; done) | simp [hs4, f0_4, f3_4, f6_4, f7_4, f8_4, f9_4, f10_4, f11_4, f13_4, f14_4, f16_4, f17_4, f25_4, f26_4, f29_4, f35_4, f36_4, f37_4, f27_4, f28_4, f41_4, f42_4])
      have f9_5 := fun hh => getq q9_5 hh
      have q10_5 : T5[10]? = some (.int .i64 x) := by subst hT; exact (by first | (simp only [↓Array.getElem?_setIfInBounds_ne, ne_eq, Nat.reduceEqDiff, not_false_eq_true, q10_4]; done) | simp [hs4, f0_4, f3_4, f6_4, f7_4, f8_4, f9_4, f10_4, f11_4, f13_4, f14_4, f16_4, f17_4, f25_4, f26_4, f29_4, f35_4, f36_4, f37_4, f27_4, f28_4, f41_4, f42_4])
      have f10_5 := fun hh => getq q10_5 hh
      have q11_5 : T5[11]? = some (.int .i64 v) := by subst hT; exact (by first | (simp only [↓Array.getElem?_setIfInBounds_ne, ne_eq, Nat.reduceEqDiff, not_false_eq_true, q11_4]; done) | simp [hs4, f0_4, f3_4, f6_4, f7_4, f8_4, f9_4, f10_4, f11_4, f13_4, f14_4, f16_4, f17_4, f25_4, f26_4, f29_4, f35_4, f36_4, f37_4, f27_4, f28_4, f41_4, f42_4])
      have f11_5 := fun hh => getq q11_5 hh
      have q13_5 : T5[13]? = some (.pointer (some ⟨w.heap.size, 0, none⟩)) := by subst hT; exact (by first | (simp only [↓Array.getElem?_setIfInBounds_ne, ne_eq, Nat.reduceEqDiff, not_false_eq_true, q13_4]; done) | simp [hs4, f0_4, f3_4, f6_4, f7_4, f8_4, f9_4, f10_4, f11_4, f13_4, f14_4, f16_4, f17_4, f25_4, f26_4, f29_4, f35_4, f36_4, f37_4, f27_4, f28_4, f41_4, f42_4])
      have f13_5 := fun hh => getq q13_5 hh
      have q14_5 : T5[14]? = some (.pointer (some ⟨w.heap.size + 1, 0, none⟩)) := by subst hT; exact (by first | (simp only [↓Array.getElem?_setIfInBounds_ne, ne_eq, Nat.reduceEqDiff, not_false_eq_true, q14_4]; done) | simp [hs4, f0_4, f3_4, f6_4, f7_4, f8_4, f9_4, f10_4, f11_4, f13_4, f14_4, f16_4, f17_4, f25_4, f26_4, f29_4, f35_4, f36_4, f37_4, f27_4, f28_4, f41_4, f42_4])
      have f14_5 := fun hh => getq q14_5 hh
      have q16_5 : T5[16]? = some (.pointer (some ⟨w.heap.size + 1 + 1, 0, none⟩)) := by subst hT; exact (by first | (simp only [↓Array.getElem?_setIfInBounds_ne, ne_eq, Nat.reduceEqDiff, not_false_eq_true, q16_4]; done) | simp [hs4, f0_4, f3_4, f6_4, f7_4, f8_4, f9_4, f10_4, f11_4, f13_4, f14_4, f16_4, f17_4, f25_4, f26_4, f29_4, f35_4, f36_4, f37_4, f27_4, f28_4, f41_4, f42_4])
      have f16_5 := fun hh => getq q16_5 hh
      have q17_5 : T5[17]? = some (.pointer (some ⟨w.heap.size + 1 + 1 + 1, 0, none⟩)) := by subst hT; exact (by first | (simp only [↓Array.getElem?_setIfInBounds_ne, ne_eq, Nat.reduceEqDiff, not_false_eq_true, q17_4]; done) | simp [hs4, f0_4, f3_4, f6_4, f7_4, f8_4, f9_4, f10_4, f11_4, f13_4, f14_4, f16_4, f17_4, f25_4, f26_4, f29_4, f35_4, f36_4, f37_4, f27_4, f28_4, f41_4, f42_4])
      have f17_5 := fun hh => getq q17_5 hh
      have q25_5 : T5[25]? = some (.int .i64 r1) := by subst hT; exact (by first | (simp only [↓Array.getElem?_setIfInBounds_ne, ne_eq, Nat.reduceEqDiff, not_false_eq_true, q25_4]; done) | simp [hs4, f0_4, f3_4, f6_4, f7_4, f8_4, f9_4, f10_4, f11_4, f13_4, f14_4, f16_4, f17_4, f25_4, f26_4, f29_4, f35_4, f36_4, f37_4, f27_4, f28_4, f41_4, f42_4])
      have f25_5 := fun hh => getq q25_5 hh
      have q26_5 : T5[26]? = some (.int .i64 r2) := by subst hT; exact (by first | (simp only [↓Array.getElem?_setIfInBounds_ne, ne_eq, Nat.reduceEqDiff, not_false_eq_true, q26_4]; done) | simp [hs4, f0_4, f3_4, f6_4, f7_4, f8_4, f9_4, f10_4, f11_4, f13_4, f14_4, f16_4, f17_4, f25_4, f26_4, f29_4, f35_4, f36_4, f37_4, f27_4, f28_4, f41_4, f42_4])
      have f26_5 := fun hh => getq q26_5 hh
      have q29_5 : T5[29]? = some (.bool true) := by subst hT; exact (by first | (simp only [↓Array.getElem?_setIfInBounds_ne, ne_eq, Nat.reduceEqDiff, not_false_eq_true, q29_4]; done) | simp [hs4, f0_4, f3_4, f6_4, f7_4, f8_4, f9_4, f10_4, f11_4, f13_4, f14_4, f16_4, f17_4, f25_4, f26_4, f29_4, f35_4, f36_4, f37_4, f27_4, f28_4, f41_4, f42_4])
      have f29_5 := fun hh => getq q29_5 hh
      have q35_5 : T5[35]? = some (.int .i64 v1) := by subst hT; exact (by first | (simp only [↓Array.getElem?_setIfInBounds_ne, ne_eq, Nat.reduceEqDiff, not_false_eq_true, q35_4]; done) | simp [hs4, f0_4, f3_4, f6_4, f7_4, f8_4, f9_4, f10_4, f11_4, f13_4, f14_4, f16_4, f17_4, f25_4, f26_4, f29_4, f35_4, f36_4, f37_4, f27_4, f28_4, f41_4, f42_4])
      have f35_5 := fun hh => getq q35_5 hh
      have q36_5 : T5[36]? = some (.int .i64 v2) := by subst hT; exact (by first | (simp only [↓Array.getElem?_setIfInBounds_ne, ne_eq, Nat.reduceEqDiff, not_false_eq_true, q36_4]; done) | simp [hs4, f0_4, f3_4, f6_4, f7_4, f8_4, f9_4, f10_4, f11_4, f13_4, f14_4, f16_4, f17_4, f25_4, f26_4, f29_4, f35_4, f36_4, f37_4, f27_4, f28_4, f41_4, f42_4])
      have f36_5 := fun hh => getq q36_5 hh
      have q37_5 : T5[37]? = some (.bool ON) := by subst hT; exact (by first | (simp only [↓Array.getElem?_setIfInBounds_ne, ne_eq, Nat.reduceEqDiff, not_false_eq_true, q37_4]; done) | simp [hs4, f0_4, f3_4, f6_4, f7_4, f8_4, f9_4, f10_4, f11_4, f13_4, f14_4, f16_4, f17_4, f25_4, f26_4, f29_4, f35_4, f36_4, f37_4, f27_4, f28_4, f41_4, f42_4])
      have f37_5 := fun hh => getq q37_5 hh
      have q27_5 : T5[27]? = some (.int .i64 r3) := by subst hT; exact (by first | (simp only [↓Array.getElem?_setIfInBounds_ne, ne_eq, Nat.reduceEqDiff, not_false_eq_true, q27_4]; done) | simp [hs4, f0_4, f3_4, f6_4, f7_4, f8_4, f9_4, f10_4, f11_4, f13_4, f14_4, f16_4, f17_4, f25_4, f26_4, f29_4, f35_4, f36_4, f37_4, f27_4, f28_4, f41_4, f42_4])
      have f27_5 := fun hh => getq q27_5 hh
      have q28_5 : T5[28]? = some (.int .i64 r4) := by subst hT; exact (by first | (simp only [↓Array.getElem?_setIfInBounds_ne, ne_eq, Nat.reduceEqDiff, not_false_eq_true, q28_4]; done) | simp [hs4, f0_4, f3_4, f6_4, f7_4, f8_4, f9_4, f10_4, f11_4, f13_4, f14_4, f16_4, f17_4, f25_4, f26_4, f29_4, f35_4, f36_4, f37_4, f27_4, f28_4, f41_4, f42_4])
      have f28_5 := fun hh => getq q28_5 hh
      clear hT f42_4 f41_4 f28_4 f27_4 f37_4 f36_4 f35_4 f29_4 f26_4 f25_4 f17_4 f16_4 f14_4 f13_4 f11_4 f10_4 f9_4 f8_4 f7_4 f6_4 f3_4 f0_4 hs4 q0_4 q3_4 q6_4 q7_4 q8_4 q9_4 q10_4 q11_4 q13_4 q14_4 q16_4 q17_4 q25_4 q26_4 q29_4 q35_4 q36_4 q37_4 q27_4 q28_4 q41_4 q42_4
      go_wp2_with fail
      refine ((HB _).out).mono ?_
      rintro e w5 ⟨rfl, hb5⟩
      have HF5 := Lib.hid (Four.after (show Four w h p s j q t ch cp cs dh dp ds _ from (by repeat (first | exact HF.out | refine Four.drewN ?_ _))) hb5)
      clear hb5
      go_wp2_with fail
      refine wp_cond_f ?_ ?_
      · go_simp
      go_wp2_with fail
      refine Met.intro (hJ _ _ ⟨_, rfl, by simp [hs5], by first | (simp only [↓Array.getElem?_setIfInBounds_ne, ne_eq, Nat.reduceEqDiff, not_false_eq_true, q0_5]; done) | simp [hs5, f0_5, f3_5, f6_5, f7_5, f8_5, f9_5, f10_5, f11_5, f13_5, f14_5, f16_5, f17_5, f25_5, f26_5, f29_5, f35_5, f36_5, f37_5, f27_5, f28_5], by first | (simp only [↓Array.getElem?_setIfInBounds_ne, ne_eq, Nat.reduceEqDiff, not_false_eq_true, q3_5]; done) | simp [hs5, f0_5, f3_5, f6_5, f7_5, f8_5, f9_5, f10_5, f11_5, f13_5, f14_5, f16_5, f17_5, f25_5, f26_5, f29_5, f35_5, f36_5, f37_5, f27_5, f28_5], by first | (simp only [↓Array.getElem?_setIfInBounds_ne, ne_eq, Nat.reduceEqDiff, not_false_eq_true, q6_5]; done) | simp [hs5, f0_5, f3_5, f6_5, f7_5, f8_5, f9_5, f10_5, f11_5, f13_5, f14_5, f16_5, f17_5, f25_5, f26_5, f29_5, f35_5, f36_5, f37_5, f27_5, f28_5], by first | (simp only [↓Array.getElem?_setIfInBounds_ne, ne_eq, Nat.reduceEqDiff, not_false_eq_true, q7_5]; done) | simp [hs5, f0_5, f3_5, f6_5, f7_5, f8_5, f9_5, f10_5, f11_5, f13_5, f14_5, f16_5, f17_5, f25_5, f26_5, f29_5, f35_5, f36_5, f37_5, f27_5, f28_5], by first | (simp only [↓Array.getElem?_setIfInBounds_ne, ne_eq, Nat.reduceEqDiff, not_false_eq_true, q8_5]; done) | simp [hs5, f0_5, f3_5, f6_5, f7_5, f8_5, f9_5, f10_5, f11_5, f13_5, f14_5, f16_5, f17_5, f25_5, f26_5, f29_5, f35_5, f36_5, f37_5, f27_5, f28_5], by first | (simp only [↓Array.getElem?_setIfInBounds_ne, ne_eq, Nat.reduceEqDiff, not_false_eq_true, q9_5]; done) | simp [hs5, f0_5, f3_5, f6_5, f7_5, f8_5, f9_5, f10_5, f11_5, f13_5, f14_5, f16_5, f17_5, f25_5, f26_5, f29_5, f35_5, f36_5, f37_5, f27_5, f28_5], by first | (simp only [↓Array.getElem?_setIfInBounds_ne, ne_eq, Nat.reduceEqDiff, not_false_eq_true, q10_5]; done) | simp [hs5, f0_5, f3_5, f6_5, f7_5, f8_5, f9_5, f10_5, f11_5, f13_5, f14_5, f16_5, f17_5, f25_5, f26_5, f29_5, f35_5, f36_5, f37_5, f27_5, f28_5], by first | (simp only [↓Array.getElem?_setIfInBounds_ne, ne_eq, Nat.reduceEqDiff, not_false_eq_true, q11_5]; done) | simp [hs5, f0_5, f3_5, f6_5, f7_5, f8_5, f9_5, f10_5, f11_5, f13_5, f14_5, f16_5, f17_5, f25_5, f26_5, f29_5, f35_5, f36_5, f37_5, f27_5, f28_5], by first | (simp only [↓Array.getElem?_setIfInBounds_ne, ne_eq, Nat.reduceEqDiff, not_false_eq_true, q13_5]; done) | simp [hs5, f0_5, f3_5, f6_5, f7_5, f8_5, f9_5, f10_5, f11_5, f13_5, f14_5, f16_5, f17_5, f25_5, f26_5, f29_5, f35_5, f36_5, f37_5, f27_5, f28_5], by first | (simp only [↓Array.getElem?_setIfInBounds_ne, ne_eq, Nat.reduceEqDiff, not_false_eq_true, q14_5]; done) | simp [hs5, f0_5, f3_5, f6_5, f7_5, f8_5, f9_5, f10_5, f11_5, f13_5, f14_5, f16_5, f17_5, f25_5, f26_5, f29_5, f35_5, f36_5, f37_5, f27_5, f28_5], by first | (simp only [↓Array.getElem?_setIfInBounds_ne, ne_eq, Nat.reduceEqDiff, not_false_eq_true, q16_5]; done) | simp [hs5, f0_5, f3_5, f6_5, f7_5, f8_5, f9_5, f10_5, f11_5, f13_5, f14_5, f16_5, f17_5, f25_5, f26_5, f29_5, f35_5, f36_5, f37_5, f27_5, f28_5], by first | (simp only [↓Array.getElem?_setIfInBounds_ne, ne_eq, Nat.reduceEqDiff, not_false_eq_true, q17_5]; done) | simp [hs5, f0_5, f3_5, f6_5, f7_5, f8_5, f9_5, f10_5, f11_5, f13_5, f14_5, f16_5, f17_5, f25_5, f26_5, f29_5, f35_5, f36_5, f37_5, f27_5, f28_5], by first | (simp only [↓Array.getElem?_setIfInBounds_ne, ne_eq, Nat.reduceEqDiff, not_false_eq_true, q25_5]; done) | simp [hs5, f0_5, f3_5, f6_5, f7_5, f8_5, f9_5, f10_5, f11_5, f13_5, f14_5, f16_5, f17_5, f25_5, f26_5, f29_5, f35_5, f36_5, f37_5, f27_5, f28_5], by first | (simp only [↓Array.getElem?_setIfInBounds_ne, ne_eq, Nat.reduceEqDiff, not_false_eq_true, q26_5]; done) | simp [hs5, f0_5, f3_5, f6_5, f7_5, f8_5, f9_5, f10_5, f11_5, f13_5, f14_5, f16_5, f17_5, f25_5, f26_5, f29_5, f35_5, f36_5, f37_5, f27_5, f28_5], by first | (simp only [↓Array.getElem?_setIfInBounds_ne, ne_eq, Nat.reduceEqDiff, not_false_eq_true, q29_5]; done) | simp [hs5, f0_5, f3_5, f6_5, f7_5, f8_5, f9_5, f10_5, f11_5, f13_5, f14_5, f16_5, f17_5, f25_5, f26_5, f29_5, f35_5, f36_5, f37_5, f27_5, f28_5], by first | (simp only [↓Array.getElem?_setIfInBounds_ne, ne_eq, Nat.reduceEqDiff, not_false_eq_true, q35_5]; done) | simp [hs5, f0_5, f3_5, f6_5, f7_5, f8_5, f9_5, f10_5, f11_5, f13_5, f14_5, f16_5, f17_5, f25_5, f26_5, f29_5, f35_5, f36_5, f37_5, f27_5, f28_5], by first | (simp only [↓Array.getElem?_setIfInBounds_ne, ne_eq, Nat.reduceEqDiff, not_false_eq_true, q36_5]; done) | simp [hs5, f0_5, f3_5, f6_5, f7_5, f8_5, f9_5, f10_5, f11_5, f13_5, f14_5, f16_5, f17_5, f25_5, f26_5, f29_5, f35_5, f36_5, f37_5, f27_5, f28_5], by first | (simp only [↓Array.getElem?_setIfInBounds_ne, ne_eq, Nat.reduceEqDiff, not_false_eq_true, q37_5]; done) | simp [hs5, f0_5, f3_5, f6_5, f7_5, f8_5, f9_5, f10_5, f11_5, f13_5, f14_5, f16_5, f17_5, f25_5, f26_5, f29_5, f35_5, f36_5, f37_5, f27_5, f28_5], HF5.out⟩)
  case rest =>
    intro a' wc hR
    obtain ⟨T6, rfl, hs6, q0_6, q3_6, q6_6, q7_6, q8_6, q9_6, q10_6, q11_6, q13_6, q14_6, q16_6, q17_6, q25_6, q26_6, q29_6, q35_6, q36_6, q37_6, h4⟩ := hR
    have f0_6 := fun hh => getq q0_6 hh
    have f3_6 := fun hh => getq q3_6 hh
    have f6_6 := fun hh => getq q6_6 hh
    have f7_6 := fun hh => getq q7_6 hh
    have f8_6 := fun hh => getq q8_6 hh
    have f9_6 := fun hh => getq q9_6 hh
    have f10_6 := fun hh => getq q10_6 hh
    have f11_6 := fun hh => getq q11_6 hh
    have f13_6 := fun hh => getq q13_6 hh
    have f14_6 := fun hh => getq q14_6 hh
    have f16_6 := fun hh => getq q16_6 hh
    have f17_6 := fun hh => getq q17_6 hh
    have f25_6 := fun hh => getq q25_6 hh
    have f26_6 := fun hh => getq q26_6 hh
    have f29_6 := fun hh => getq q29_6 hh
    have f35_6 := fun hh => getq q35_6 hh
    have f36_6 := fun hh => getq q36_6 hh
    have f37_6 := fun hh => getq q37_6 hh
    obtain ⟨c00, c01, c02, c10, c11, c12, c20, c21, c22, c30, c31, c32, hz, hbl⟩ := h4
    have HF := Lib.hid (show Four w h p s j q t ch cp cs dh dp ds wc from ⟨c00, c01, c02, c10, c11, c12, c20, c21, c22, c30, c31, c32, hz, hbl⟩)
    go_upto_region 14 with fail
    refine wp_cut (fun a' wx => ∃ T : Array Value, a' = ⟨T, []⟩ ∧ T.size = 626 ∧ T[0]? = some (.int .i64 l) ∧ T[3]? = some (.int .i64 hi) ∧ T[6]? = some (.int .i64 m) ∧ T[7]? = some (.int .i64 a) ∧ T[8]? = some (.int .i64 L) ∧ T[9]? = some (.int .i64 R) ∧ T[10]? = some (.int .i64 x) ∧ T[11]? = some (.int .i64 v) ∧ T[13]? = some (.pointer (some ⟨w.heap.size, 0, none⟩)) ∧ T[14]? = some (.pointer (some ⟨w.heap.size + 1, 0, none⟩)) ∧ T[16]? = some (.pointer (some ⟨w.heap.size + 1 + 1, 0, none⟩)) ∧ T[17]? = some (.pointer (some ⟨w.heap.size + 1 + 1 + 1, 0, none⟩)) ∧ T[25]? = some (.int .i64 r1) ∧ T[26]? = some (.int .i64 r2) ∧ T[29]? = some (.bool OK) ∧ T[35]? = some (.int .i64 v1) ∧ T[36]? = some (.int .i64 v2) ∧ T[37]? = some (.bool ON) ∧ T[298]? = some (.bool false) ∧ Four w h p s j q t ch cp cs dh dp ds wx) ?rest2 ?first2
    case first2 =>
      intro J K' hJ hK
      clear HA1 HA2 HC1 HC2 HW1 HW2 HI1 HI2 HS1 HS2 HE1 HE2 HN1 HN2 FA FS
      cases ON
      · go_wp2_with fail
        all_goals refine Met.intro (hJ _ _ ⟨_, rfl, by simp [hs6], by first | (simp only [↓Array.getElem?_setIfInBounds_ne, ne_eq, Nat.reduceEqDiff, not_false_eq_true, q0_6]; done) | simp [hs6, f0_6, f3_6, f6_6, f7_6, f8_6, f9_6, f10_6, f11_6, f13_6, f14_6, f16_6, f17_6, f25_6, f26_6, f29_6, f35_6, f36_6, f37_6], by first | (simp only [↓Array.getElem?_setIfInBounds_ne, ne_eq, Nat.reduceEqDiff, not_false_eq_true, q3_6]; done) | simp [hs6, f0_6, f3_6, f6_6, f7_6, f8_6, f9_6, f10_6, f11_6, f13_6, f14_6, f16_6, f17_6, f25_6, f26_6, f29_6, f35_6, f36_6, f37_6], by first | (simp only [↓Array.getElem?_setIfInBounds_ne, ne_eq, Nat.reduceEqDiff, not_false_eq_true, q6_6]; done) | simp [hs6, f0_6, f3_6, f6_6, f7_6, f8_6, f9_6, f10_6, f11_6, f13_6, f14_6, f16_6, f17_6, f25_6, f26_6, f29_6, f35_6, f36_6, f37_6], by first | (simp only [↓Array.getElem?_setIfInBounds_ne, ne_eq, Nat.reduceEqDiff, not_false_eq_true, q7_6]; done) | simp [hs6, f0_6, f3_6, f6_6, f7_6, f8_6, f9_6, f10_6, f11_6, f13_6, f14_6, f16_6, f17_6, f25_6, f26_6, f29_6, f35_6, f36_6, f37_6], by first | (simp only [↓Array.getElem?_setIfInBounds_ne, ne_eq, Nat.reduceEqDiff, not_false_eq_true, q8_6]; done) | simp [hs6, f0_6, f3_6, f6_6, f7_6, f8_6, f9_6, f10_6, f11_6, f13_6, f14_6, f16_6, f17_6, f25_6, f26_6, f29_6, f35_6, f36_6, f37_6], by first | (simp only [↓Array.getElem?_setIfInBounds_ne, ne_eq, Nat.reduceEqDiff, not_false_eq_true, q9_6]; done) | simp [hs6, f0_6, f3_6, f6_6, f7_6, f8_6, f9_6, f10_6, f11_6, f13_6, f14_6, f16_6, f17_6, f25_6, f26_6, f29_6, f35_6, f36_6, f37_6], by first | (simp only [↓Array.getElem?_setIfInBounds_ne, ne_eq, Nat.reduceEqDiff, not_false_eq_true, q10_6]; done) | simp [hs6, f0_6, f3_6, f6_6, f7_6, f8_6, f9_6, f10_6, f11_6, f13_6, f14_6, f16_6, f17_6, f25_6, f26_6, f29_6, f35_6, f36_6, f37_6], by first | (simp only [↓Array.getElem?_setIfInBounds_ne, ne_eq, Nat.reduceEqDiff, not_false_eq_true, q11_6]; done) | simp [hs6, f0_6, f3_6, f6_6, f7_6, f8_6, f9_6, f10_6, f11_6, f13_6, f14_6, f16_6, f17_6, f25_6, f26_6, f29_6, f35_6, f36_6, f37_6], by first | (simp only [↓Array.getElem?_setIfInBounds_ne, ne_eq, Nat.reduceEqDiff, not_false_eq_true, q13_6]; done) | simp [hs6, f0_6, f3_6, f6_6, f7_6, f8_6, f9_6, f10_6, f11_6, f13_6, f14_6, f16_6, f17_6, f25_6, f26_6, f29_6, f35_6, f36_6, f37_6], by first | (simp only [↓Array.getElem?_setIfInBounds_ne, ne_eq, Nat.reduceEqDiff, not_false_eq_true, q14_6]; done) | simp [hs6, f0_6, f3_6, f6_6, f7_6, f8_6, f9_6, f10_6, f11_6, f13_6, f14_6, f16_6, f17_6, f25_6, f26_6, f29_6, f35_6, f36_6, f37_6], by first | (simp only [↓Array.getElem?_setIfInBounds_ne, ne_eq, Nat.reduceEqDiff, not_false_eq_true, q16_6]; done) | simp [hs6, f0_6, f3_6, f6_6, f7_6, f8_6, f9_6, f10_6, f11_6, f13_6, f14_6, f16_6, f17_6, f25_6, f26_6, f29_6, f35_6, f36_6, f37_6], by first | (simp only [↓Array.getElem?_setIfInBounds_ne, ne_eq, Nat.reduceEqDiff, not_false_eq_true, q17_6]; done) | simp [hs6, f0_6, f3_6, f6_6, f7_6, f8_6, f9_6, f10_6, f11_6, f13_6, f14_6, f16_6, f17_6, f25_6, f26_6, f29_6, f35_6, f36_6, f37_6], by first | (simp only [↓Array.getElem?_setIfInBounds_ne, ne_eq, Nat.reduceEqDiff, not_false_eq_true, q25_6]; done) | simp [hs6, f0_6, f3_6, f6_6, f7_6, f8_6, f9_6, f10_6, f11_6, f13_6, f14_6, f16_6, f17_6, f25_6, f26_6, f29_6, f35_6, f36_6, f37_6], by first | (simp only [↓Array.getElem?_setIfInBounds_ne, ne_eq, Nat.reduceEqDiff, not_false_eq_true, q26_6]; done) | simp [hs6, f0_6, f3_6, f6_6, f7_6, f8_6, f9_6, f10_6, f11_6, f13_6, f14_6, f16_6, f17_6, f25_6, f26_6, f29_6, f35_6, f36_6, f37_6], by first | (simp only [↓Array.getElem?_setIfInBounds_ne, ne_eq, Nat.reduceEqDiff, not_false_eq_true, q29_6]; done) | simp [hs6, f0_6, f3_6, f6_6, f7_6, f8_6, f9_6, f10_6, f11_6, f13_6, f14_6, f16_6, f17_6, f25_6, f26_6, f29_6, f35_6, f36_6, f37_6], by first | (simp only [↓Array.getElem?_setIfInBounds_ne, ne_eq, Nat.reduceEqDiff, not_false_eq_true, q35_6]; done) | simp [hs6, f0_6, f3_6, f6_6, f7_6, f8_6, f9_6, f10_6, f11_6, f13_6, f14_6, f16_6, f17_6, f25_6, f26_6, f29_6, f35_6, f36_6, f37_6], by first | (simp only [↓Array.getElem?_setIfInBounds_ne, ne_eq, Nat.reduceEqDiff, not_false_eq_true, q36_6]; done) | simp [hs6, f0_6, f3_6, f6_6, f7_6, f8_6, f9_6, f10_6, f11_6, f13_6, f14_6, f16_6, f17_6, f25_6, f26_6, f29_6, f35_6, f36_6, f37_6], by first | (simp only [↓Array.getElem?_setIfInBounds_ne, ne_eq, Nat.reduceEqDiff, not_false_eq_true, q37_6]; done) | simp [hs6, f0_6, f3_6, f6_6, f7_6, f8_6, f9_6, f10_6, f11_6, f13_6, f14_6, f16_6, f17_6, f25_6, f26_6, f29_6, f35_6, f36_6, f37_6], by first | (simp only [↓Array.getElem?_setIfInBounds_ne, ne_eq, Nat.reduceEqDiff, not_false_eq_true]; done) | simp [hs6, f0_6, f3_6, f6_6, f7_6, f8_6, f9_6, f10_6, f11_6, f13_6, f14_6, f16_6, f17_6, f25_6, f26_6, f29_6, f35_6, f36_6, f37_6], HF.out⟩)
      · obtain ⟨hM, ⟨p1, p2, q1, q2⟩, s1', s2', t1, t2⟩ := FC rfl
        obtain ⟨d1, d2, m1, m2, g1, a1, e1_⟩ := hM.out
        clear FC hM
        have HY1 := fun W => Lib.hid (yLow_int m1 (by omega) d1 (by omega) g1 W)
        clear g1
        obtain ⟨u1, u2⟩ := mul_bd2 (a := p) (b := v2) (m := 500) (k := 100) (by omega) (by omega) (by omega) (by omega)
        obtain ⟨u3, u4⟩ := mul_abs (a := s) (b := v1) (m := 50) (k := 500) (by omega) (by omega) (by omega) (by omega)
        obtain ⟨u5, u6⟩ := mul_bd2 (a := q) (b := v2) (m := 500) (k := 100) (by omega) (by omega) (by omega) (by omega)
        obtain ⟨u7, u8⟩ := mul_abs (a := t) (b := v1) (m := 50) (k := 500) (by omega) (by omega) (by omega) (by omega)
        have a3 : ¬ p * v2 + s * v1 < 0 := by omega
        have b3 : ¬ q * v2 + t * v1 < 0 := by omega
        go_wp2_with fail
        refine ((HY1 _).out).mono ?_
        rintro e w' ⟨rfl, nA, rfl⟩
        go_wp2_with fail
        have b4 : 0 ≤ q * v2 + t * v1 := by omega
        refine Met.intro (hJ _ _ ⟨_, rfl, by simp [hs6], by first | (simp only [↓Array.getElem?_setIfInBounds_ne, ne_eq, Nat.reduceEqDiff, not_false_eq_true, q0_6]; done) | simp [hs6, f0_6, f3_6, f6_6, f7_6, f8_6, f9_6, f10_6, f11_6, f13_6, f14_6, f16_6, f17_6, f25_6, f26_6, f29_6, f35_6, f36_6, f37_6, m1, b4], by first | (simp only [↓Array.getElem?_setIfInBounds_ne, ne_eq, Nat.reduceEqDiff, not_false_eq_true, q3_6]; done) | simp [hs6, f0_6, f3_6, f6_6, f7_6, f8_6, f9_6, f10_6, f11_6, f13_6, f14_6, f16_6, f17_6, f25_6, f26_6, f29_6, f35_6, f36_6, f37_6, m1, b4], by first | (simp only [↓Array.getElem?_setIfInBounds_ne, ne_eq, Nat.reduceEqDiff, not_false_eq_true, q6_6]; done) | simp [hs6, f0_6, f3_6, f6_6, f7_6, f8_6, f9_6, f10_6, f11_6, f13_6, f14_6, f16_6, f17_6, f25_6, f26_6, f29_6, f35_6, f36_6, f37_6, m1, b4], by first | (simp only [↓Array.getElem?_setIfInBounds_ne, ne_eq, Nat.reduceEqDiff, not_false_eq_true, q7_6]; done) | simp [hs6, f0_6, f3_6, f6_6, f7_6, f8_6, f9_6, f10_6, f11_6, f13_6, f14_6, f16_6, f17_6, f25_6, f26_6, f29_6, f35_6, f36_6, f37_6, m1, b4], by first | (simp only [↓Array.getElem?_setIfInBounds_ne, ne_eq, Nat.reduceEqDiff, not_false_eq_true, q8_6]; done) | simp [hs6, f0_6, f3_6, f6_6, f7_6, f8_6, f9_6, f10_6, f11_6, f13_6, f14_6, f16_6, f17_6, f25_6, f26_6, f29_6, f35_6, f36_6, f37_6, m1, b4], by first | (simp only [↓Array.getElem?_setIfInBounds_ne, ne_eq, Nat.reduceEqDiff, not_false_eq_true, q9_6]; done) | simp [hs6, f0_6, f3_6, f6_6, f7_6, f8_6, f9_6, f10_6, f11_6, f13_6, f14_6, f16_6, f17_6, f25_6, f26_6, f29_6, f35_6, f36_6, f37_6, m1, b4], by first | (simp only [↓Array.getElem?_setIfInBounds_ne, ne_eq, Nat.reduceEqDiff, not_false_eq_true, q10_6]; done) | simp [hs6, f0_6, f3_6, f6_6, f7_6, f8_6, f9_6, f10_6, f11_6, f13_6, f14_6, f16_6, f17_6, f25_6, f26_6, f29_6, f35_6, f36_6, f37_6, m1, b4], by first | (simp only [↓Array.getElem?_setIfInBounds_ne, ne_eq, Nat.reduceEqDiff, not_false_eq_true, q11_6]; done) | simp [hs6, f0_6, f3_6, f6_6, f7_6, f8_6, f9_6, f10_6, f11_6, f13_6, f14_6, f16_6, f17_6, f25_6, f26_6, f29_6, f35_6, f36_6, f37_6, m1, b4], by first | (simp only [↓Array.getElem?_setIfInBounds_ne, ne_eq, Nat.reduceEqDiff, not_false_eq_true, q13_6]; done) | simp [hs6, f0_6, f3_6, f6_6, f7_6, f8_6, f9_6, f10_6, f11_6, f13_6, f14_6, f16_6, f17_6, f25_6, f26_6, f29_6, f35_6, f36_6, f37_6, m1, b4], by first | (simp only [↓Array.getElem?_setIfInBounds_ne, ne_eq, Nat.reduceEqDiff, not_false_eq_true, q14_6]; done) | simp [hs6, f0_6, f3_6, f6_6, f7_6, f8_6, f9_6, f10_6, f11_6, f13_6, f14_6, f16_6, f17_6, f25_6, f26_6, f29_6, f35_6, f36_6, f37_6, m1, b4], by first | (simp only [↓Array.getElem?_setIfInBounds_ne, ne_eq, Nat.reduceEqDiff, not_false_eq_true, q16_6]; done) | simp [hs6, f0_6, f3_6, f6_6, f7_6, f8_6, f9_6, f10_6, f11_6, f13_6, f14_6, f16_6, f17_6, f25_6, f26_6, f29_6, f35_6, f36_6, f37_6, m1, b4], by first | (simp only [↓Array.getElem?_setIfInBounds_ne, ne_eq, Nat.reduceEqDiff, not_false_eq_true, q17_6]; done) | simp [hs6, f0_6, f3_6, f6_6, f7_6, f8_6, f9_6, f10_6, f11_6, f13_6, f14_6, f16_6, f17_6, f25_6, f26_6, f29_6, f35_6, f36_6, f37_6, m1, b4], by first | (simp only [↓Array.getElem?_setIfInBounds_ne, ne_eq, Nat.reduceEqDiff, not_false_eq_true, q25_6]; done) | simp [hs6, f0_6, f3_6, f6_6, f7_6, f8_6, f9_6, f10_6, f11_6, f13_6, f14_6, f16_6, f17_6, f25_6, f26_6, f29_6, f35_6, f36_6, f37_6, m1, b4], by first | (simp only [↓Array.getElem?_setIfInBounds_ne, ne_eq, Nat.reduceEqDiff, not_false_eq_true, q26_6]; done) | simp [hs6, f0_6, f3_6, f6_6, f7_6, f8_6, f9_6, f10_6, f11_6, f13_6, f14_6, f16_6, f17_6, f25_6, f26_6, f29_6, f35_6, f36_6, f37_6, m1, b4], by first | (simp only [↓Array.getElem?_setIfInBounds_ne, ne_eq, Nat.reduceEqDiff, not_false_eq_true, q29_6]; done) | simp [hs6, f0_6, f3_6, f6_6, f7_6, f8_6, f9_6, f10_6, f11_6, f13_6, f14_6, f16_6, f17_6, f25_6, f26_6, f29_6, f35_6, f36_6, f37_6, m1, b4], by first | (simp only [↓Array.getElem?_setIfInBounds_ne, ne_eq, Nat.reduceEqDiff, not_false_eq_true, q35_6]; done) | simp [hs6, f0_6, f3_6, f6_6, f7_6, f8_6, f9_6, f10_6, f11_6, f13_6, f14_6, f16_6, f17_6, f25_6, f26_6, f29_6, f35_6, f36_6, f37_6, m1, b4], by first | (simp only [↓Array.getElem?_setIfInBounds_ne, ne_eq, Nat.reduceEqDiff, not_false_eq_true, q36_6]; done) | simp [hs6, f0_6, f3_6, f6_6, f7_6, f8_6, f9_6, f10_6, f11_6, f13_6, f14_6, f16_6, f17_6, f25_6, f26_6, f29_6, f35_6, f36_6, f37_6, m1, b4], by first | (simp only [↓Array.getElem?_setIfInBounds_ne, ne_eq, Nat.reduceEqDiff, not_false_eq_true, q37_6]; done) | simp [hs6, f0_6, f3_6, f6_6, f7_6, f8_6, f9_6, f10_6, f11_6, f13_6, f14_6, f16_6, f17_6, f25_6, f26_6, f29_6, f35_6, f36_6, f37_6, m1, b4], by first | (simp only [↓Array.getElem?_setIfInBounds_ne, ne_eq, Nat.reduceEqDiff, not_false_eq_true]; done) | simp [hs6, f0_6, f3_6, f6_6, f7_6, f8_6, f9_6, f10_6, f11_6, f13_6, f14_6, f16_6, f17_6, f25_6, f26_6, f29_6, f35_6, f36_6, f37_6, m1, b4], (by repeat (first | exact HF.out | refine Four.drewN ?_ _))⟩)
    case rest2 =>
      intro a' wc2 hR2
      obtain ⟨T7, rfl, hs7, q0_7, q3_7, q6_7, q7_7, q8_7, q9_7, q10_7, q11_7, q13_7, q14_7, q16_7, q17_7, q25_7, q26_7, q29_7, q35_7, q36_7, q37_7, q298_7, h42⟩ := hR2
      have f0_7 := fun hh => getq q0_7 hh
      have f3_7 := fun hh => getq q3_7 hh
      have f6_7 := fun hh => getq q6_7 hh
      have f7_7 := fun hh => getq q7_7 hh
      have f8_7 := fun hh => getq q8_7 hh
      have f9_7 := fun hh => getq q9_7 hh
      have f10_7 := fun hh => getq q10_7 hh
      have f11_7 := fun hh => getq q11_7 hh
      have f13_7 := fun hh => getq q13_7 hh
      have f14_7 := fun hh => getq q14_7 hh
      have f16_7 := fun hh => getq q16_7 hh
      have f17_7 := fun hh => getq q17_7 hh
      have f25_7 := fun hh => getq q25_7 hh
      have f26_7 := fun hh => getq q26_7 hh
      have f29_7 := fun hh => getq q29_7 hh
      have f35_7 := fun hh => getq q35_7 hh
      have f36_7 := fun hh => getq q36_7 hh
      have f37_7 := fun hh => getq q37_7 hh
      have f298_7 := fun hh => getq q298_7 hh
      obtain ⟨c00, c01, c02, c10, c11, c12, c20, c21, c22, c30, c31, c32, hz, hbl⟩ := h42
      have HF := Lib.hid (show Four w h p s j q t ch cp cs dh dp ds wc2 from ⟨c00, c01, c02, c10, c11, c12, c20, c21, c22, c30, c31, c32, hz, hbl⟩)
      go_wp2_with fail
      refine wp_cond_f ?_ ?_
      · go_simp
      go_upto_region 16 with fail
      refine wp_cut (fun a' wx => ∃ T : Array Value, a' = ⟨T, []⟩ ∧ T.size = 626 ∧ T[0]? = some (.int .i64 l) ∧ T[3]? = some (.int .i64 hi) ∧ T[6]? = some (.int .i64 m) ∧ T[7]? = some (.int .i64 a) ∧ T[8]? = some (.int .i64 L) ∧ T[9]? = some (.int .i64 R) ∧ T[10]? = some (.int .i64 x) ∧ T[11]? = some (.int .i64 v) ∧ T[13]? = some (.pointer (some ⟨w.heap.size, 0, none⟩)) ∧ T[14]? = some (.pointer (some ⟨w.heap.size + 1, 0, none⟩)) ∧ T[16]? = some (.pointer (some ⟨w.heap.size + 1 + 1, 0, none⟩)) ∧ T[17]? = some (.pointer (some ⟨w.heap.size + 1 + 1 + 1, 0, none⟩)) ∧ T[25]? = some (.int .i64 r1) ∧ T[26]? = some (.int .i64 r2) ∧ T[29]? = some (.bool OK) ∧ T[35]? = some (.int .i64 v1) ∧ T[36]? = some (.int .i64 v2) ∧ T[37]? = some (.bool ON) ∧ T[331]? = some (.bool false) ∧ Four w h p s j q t ch cp cs dh dp ds wx) ?rest3 ?first3
      case first3 =>
        intro J K' hJ hK
        clear HA1 HA2 HC1 HC2 HI1 HI2 HS1 HS2 HE1 HE2 HN1 HN2 FA FC hbl
        cases KA
        · go_wp2_with fail
          refine ((HW1 _).out).mono ?_
          rintro e w6 ⟨rfl, hb_⟩
          have HFw6 := Lib.hid (Four.after HF.out hb_)
          obtain ⟨c00, c01, c02, c10, c11, c12, c20, c21, c22, c30, c31, c32, hz, hbl⟩ := HFw6.out
          clear hb_ hbl
          go_wp2_with fail
          all_goals refine Met.intro (hJ _ _ ⟨_, rfl, by simp [hs7], by first | (simp only [↓Array.getElem?_setIfInBounds_ne, ne_eq, Nat.reduceEqDiff, not_false_eq_true, q0_7]; done) | simp [hs7, f0_7, f3_7, f6_7, f7_7, f8_7, f9_7, f10_7, f11_7, f13_7, f14_7, f16_7, f17_7, f25_7, f26_7, f29_7, f35_7, f36_7, f37_7, f298_7], by first | (simp only [↓Array.getElem?_setIfInBounds_ne, ne_eq, Nat.reduceEqDiff, not_false_eq_true, q3_7]; done) | simp [hs7, f0_7, f3_7, f6_7, f7_7, f8_7, f9_7, f10_7, f11_7, f13_7, f14_7, f16_7, f17_7, f25_7, f26_7, f29_7, f35_7, f36_7, f37_7, f298_7], by first | (simp only [↓Array.getElem?_setIfInBounds_ne, ne_eq, Nat.reduceEqDiff, not_false_eq_true, q6_7]; done) | simp [hs7, f0_7, f3_7, f6_7, f7_7, f8_7, f9_7, f10_7, f11_7, f13_7, f14_7, f16_7, f17_7, f25_7, f26_7, f29_7, f35_7, f36_7, f37_7, f298_7], by first | (simp only [↓Array.getElem?_setIfInBounds_ne, ne_eq, Nat.reduceEqDiff, not_false_eq_true, q7_7]; done) | simp [hs7, f0_7, f3_7, f6_7, f7_7, f8_7, f9_7, f10_7, f11_7, f13_7, f14_7, f16_7, f17_7, f25_7, f26_7, f29_7, f35_7, f36_7, f37_7, f298_7], by first | (simp only [↓Array.getElem?_setIfInBounds_ne, ne_eq, Nat.reduceEqDiff, not_false_eq_true, q8_7]; done) | simp [hs7, f0_7, f3_7, f6_7, f7_7, f8_7, f9_7, f10_7, f11_7, f13_7, f14_7, f16_7, f17_7, f25_7, f26_7, f29_7, f35_7, f36_7, f37_7, f298_7], by first | (simp only [↓Array.getElem?_setIfInBounds_ne, ne_eq, Nat.reduceEqDiff, not_false_eq_true, q9_7]; done) | simp [hs7, f0_7, f3_7, f6_7, f7_7, f8_7, f9_7, f10_7, f11_7, f13_7, f14_7, f16_7, f17_7, f25_7, f26_7, f29_7, f35_7, f36_7, f37_7, f298_7], by first | (simp only [↓Array.getElem?_setIfInBounds_ne, ne_eq, Nat.reduceEqDiff, not_false_eq_true, q10_7]; done) | simp [hs7, f0_7, f3_7, f6_7, f7_7, f8_7, f9_7, f10_7, f11_7, f13_7, f14_7, f16_7, f17_7, f25_7, f26_7, f29_7, f35_7, f36_7, f37_7, f298_7], by first | (simp only [↓Array.getElem?_setIfInBounds_ne, ne_eq, Nat.reduceEqDiff, not_false_eq_true, q11_7]; done) | simp [hs7, f0_7, f3_7, f6_7, f7_7, f8_7, f9_7, f10_7, f11_7, f13_7, f14_7, f16_7, f17_7, f25_7, f26_7, f29_7, f35_7, f36_7, f37_7, f298_7], by first | (simp only [↓Array.getElem?_setIfInBounds_ne, ne_eq, Nat.reduceEqDiff, not_false_eq_true, q13_7]; done) | simp [hs7, f0_7, f3_7, f6_7, f7_7, f8_7, f9_7, f10_7, f11_7, f13_7, f14_7, f16_7, f17_7, f25_7, f26_7, f29_7, f35_7, f36_7, f37_7, f298_7], by first | (simp only [↓Array.getElem?_setIfInBounds_ne, ne_eq, Nat.reduceEqDiff, not_false_eq_true, q14_7]; done) | simp [hs7, f0_7, f3_7, f6_7, f7_7, f8_7, f9_7, f10_7, f11_7, f13_7, f14_7, f16_7, f17_7, f25_7, f26_7, f29_7, f35_7, f36_7, f37_7, f298_7], by first | (simp only [↓Array.getElem?_setIfInBounds_ne, ne_eq, Nat.reduceEqDiff, not_false_eq_true, q16_7]; done) | simp [hs7, f0_7, f3_7, f6_7, f7_7, f8_7, f9_7, f10_7, f11_7, f13_7, f14_7, f16_7, f17_7, f25_7, f26_7, f29_7, f35_7, f36_7, f37_7, f298_7], by first | (simp only [↓Array.getElem?_setIfInBounds_ne, ne_eq, Nat.reduceEqDiff, not_false_eq_true, q17_7]; done) | simp [hs7, f0_7, f3_7, f6_7, f7_7, f8_7, f9_7, f10_7, f11_7, f13_7, f14_7, f16_7, f17_7, f25_7, f26_7, f29_7, f35_7, f36_7, f37_7, f298_7], by first | (simp only [↓Array.getElem?_setIfInBounds_ne, ne_eq, Nat.reduceEqDiff, not_false_eq_true, q25_7]; done) | simp [hs7, f0_7, f3_7, f6_7, f7_7, f8_7, f9_7, f10_7, f11_7, f13_7, f14_7, f16_7, f17_7, f25_7, f26_7, f29_7, f35_7, f36_7, f37_7, f298_7], by first | (simp only [↓Array.getElem?_setIfInBounds_ne, ne_eq, Nat.reduceEqDiff, not_false_eq_true, q26_7]; done) | simp [hs7, f0_7, f3_7, f6_7, f7_7, f8_7, f9_7, f10_7, f11_7, f13_7, f14_7, f16_7, f17_7, f25_7, f26_7, f29_7, f35_7, f36_7, f37_7, f298_7], by first | (simp only [↓Array.getElem?_setIfInBounds_ne, ne_eq, Nat.reduceEqDiff, not_false_eq_true, q29_7]; done) | simp [hs7, f0_7, f3_7, f6_7, f7_7, f8_7, f9_7, f10_7, f11_7, f13_7, f14_7, f16_7, f17_7, f25_7, f26_7, f29_7, f35_7, f36_7, f37_7, f298_7], by first | (simp only [↓Array.getElem?_setIfInBounds_ne, ne_eq, Nat.reduceEqDiff, not_false_eq_true, q35_7]; done) | simp [hs7, f0_7, f3_7, f6_7, f7_7, f8_7, f9_7, f10_7, f11_7, f13_7, f14_7, f16_7, f17_7, f25_7, f26_7, f29_7, f35_7, f36_7, f37_7, f298_7], by first | (simp only [↓Array.getElem?_setIfInBounds_ne, ne_eq, Nat.reduceEqDiff, not_false_eq_true, q36_7]; done) | simp [hs7, f0_7, f3_7, f6_7, f7_7, f8_7, f9_7, f10_7, f11_7, f13_7, f14_7, f16_7, f17_7, f25_7, f26_7, f29_7, f35_7, f36_7, f37_7, f298_7], by first | (simp only [↓Array.getElem?_setIfInBounds_ne, ne_eq, Nat.reduceEqDiff, not_false_eq_true, q37_7]; done) | simp [hs7, f0_7, f3_7, f6_7, f7_7, f8_7, f9_7, f10_7, f11_7, f13_7, f14_7, f16_7, f17_7, f25_7, f26_7, f29_7, f35_7, f36_7, f37_7, f298_7], by first | (simp only [↓Array.getElem?_setIfInBounds_ne, ne_eq, Nat.reduceEqDiff, not_false_eq_true]; done) | simp [hs7, f0_7, f3_7, f6_7, f7_7, f8_7, f9_7, f10_7, f11_7, f13_7, f14_7, f16_7, f17_7, f25_7, f26_7, f29_7, f35_7, f36_7, f37_7, f298_7], HFw6.out⟩)
        · cases KB
          · skip
            go_wp2_with fail
            refine ((HW1 _).out).mono ?_
            rintro e w6 ⟨rfl, hb_⟩
            have HFw6 := Lib.hid (Four.after HF.out hb_)
            obtain ⟨c00, c01, c02, c10, c11, c12, c20, c21, c22, c30, c31, c32, hz, hbl⟩ := HFw6.out
            clear hb_ hbl
            go_wp2_with fail
            refine ((HW2 _).out).mono ?_
            rintro e w7 ⟨rfl, hb_⟩
            have HFw7 := Lib.hid (Four.after HFw6.out hb_)
            obtain ⟨c00, c01, c02, c10, c11, c12, c20, c21, c22, c30, c31, c32, hz, hbl⟩ := HFw7.out
            clear hb_ hbl
            go_wp2_with fail
            all_goals refine Met.intro (hJ _ _ ⟨_, rfl, by simp [hs7], by first | (simp only [↓Array.getElem?_setIfInBounds_ne, ne_eq, Nat.reduceEqDiff, not_false_eq_true, q0_7]; done) | simp [hs7, f0_7, f3_7, f6_7, f7_7, f8_7, f9_7, f10_7, f11_7, f13_7, f14_7, f16_7, f17_7, f25_7, f26_7, f29_7, f35_7, f36_7, f37_7, f298_7], by first | (simp only [↓Array.getElem?_setIfInBounds_ne, ne_eq, Nat.reduceEqDiff, not_false_eq_true, q3_7]; done) | simp [hs7, f0_7, f3_7, f6_7, f7_7, f8_7, f9_7, f10_7, f11_7, f13_7, f14_7, f16_7, f17_7, f25_7, f26_7, f29_7, f35_7, f36_7, f37_7, f298_7], by first | (simp only [↓Array.getElem?_setIfInBounds_ne, ne_eq, Nat.reduceEqDiff, not_false_eq_true, q6_7]; done) | simp [hs7, f0_7, f3_7, f6_7, f7_7, f8_7, f9_7, f10_7, f11_7, f13_7, f14_7, f16_7, f17_7, f25_7, f26_7, f29_7, f35_7, f36_7, f37_7, f298_7], by first | (simp only [↓Array.getElem?_setIfInBounds_ne, ne_eq, Nat.reduceEqDiff, not_false_eq_true, q7_7]; done) | simp [hs7, f0_7, f3_7, f6_7, f7_7, f8_7, f9_7, f10_7, f11_7, f13_7, f14_7, f16_7, f17_7, f25_7, f26_7, f29_7, f35_7, f36_7, f37_7, f298_7], by first | (simp only [↓Array.getElem?_setIfInBounds_ne, ne_eq, Nat.reduceEqDiff, not_false_eq_true, q8_7]; done) | simp [hs7, f0_7, f3_7, f6_7, f7_7, f8_7, f9_7, f10_7, f11_7, f13_7, f14_7, f16_7, f17_7, f25_7, f26_7, f29_7, f35_7, f36_7, f37_7, f298_7], by first | (simp only [↓Array.getElem?_setIfInBounds_ne, ne_eq, Nat.reduceEqDiff, not_false_eq_true, q9_7]; done) | simp [hs7, f0_7, f3_7, f6_7, f7_7, f8_7, f9_7, f10_7, f11_7, f13_7, f14_7, f16_7, f17_7, f25_7, f26_7, f29_7, f35_7, f36_7, f37_7, f298_7], by first | (simp only [↓Array.getElem?_setIfInBounds_ne, ne_eq, Nat.reduceEqDiff, not_false_eq_true, q10_7]; done) | simp [hs7, f0_7, f3_7, f6_7, f7_7, f8_7, f9_7, f10_7, f11_7, f13_7, f14_7, f16_7, f17_7, f25_7, f26_7, f29_7, f35_7, f36_7, f37_7, f298_7], by first | (simp only [↓Array.getElem?_setIfInBounds_ne, ne_eq, Nat.reduceEqDiff, not_false_eq_true, q11_7]; done) | simp [hs7, f0_7, f3_7, f6_7, f7_7, f8_7, f9_7, f10_7, f11_7, f13_7, f14_7, f16_7, f17_7, f25_7, f26_7, f29_7, f35_7, f36_7, f37_7, f298_7], by first | (simp only [↓Array.getElem?_setIfInBounds_ne, ne_eq, Nat.reduceEqDiff, not_false_eq_true, q13_7]; done) | simp [hs7, f0_7, f3_7, f6_7, f7_7, f8_7, f9_7, f10_7, f11_7, f13_7, f14_7, f16_7, f17_7, f25_7, f26_7, f29_7, f35_7, f36_7, f37_7, f298_7], by first | (simp only [↓Array.getElem?_setIfInBounds_ne, ne_eq, Nat.reduceEqDiff, not_false_eq_true, q14_7]; done) | simp [hs7, f0_7, f3_7, f6_7, f7_7, f8_7, f9_7, f10_7, f11_7, f13_7, f14_7, f16_7, f17_7, f25_7, f26_7, f29_7, f35_7, f36_7, f37_7, f298_7], by first | (simp only [↓Array.getElem?_setIfInBounds_ne, ne_eq, Nat.reduceEqDiff, not_false_eq_true, q16_7]; done) | simp [hs7, f0_7, f3_7, f6_7, f7_7, f8_7, f9_7, f10_7, f11_7, f13_7, f14_7, f16_7, f17_7, f25_7, f26_7, f29_7, f35_7, f36_7, f37_7, f298_7], by first | (simp only [↓Array.getElem?_setIfInBounds_ne, ne_eq, Nat.reduceEqDiff, not_false_eq_true, q17_7]; done) | simp [hs7, f0_7, f3_7, f6_7, f7_7, f8_7, f9_7, f10_7, f11_7, f13_7, f14_7, f16_7, f17_7, f25_7, f26_7, f29_7, f35_7, f36_7, f37_7, f298_7], by first | (simp only [↓Array.getElem?_setIfInBounds_ne, ne_eq, Nat.reduceEqDiff, not_false_eq_true, q25_7]; done) | simp [hs7, f0_7, f3_7, f6_7, f7_7, f8_7, f9_7, f10_7, f11_7, f13_7, f14_7, f16_7, f17_7, f25_7, f26_7, f29_7, f35_7, f36_7, f37_7, f298_7], by first | (simp only [↓Array.getElem?_setIfInBounds_ne, ne_eq, Nat.reduceEqDiff, not_false_eq_true, q26_7]; done) | simp [hs7, f0_7, f3_7, f6_7, f7_7, f8_7, f9_7, f10_7, f11_7, f13_7, f14_7, f16_7, f17_7, f25_7, f26_7, f29_7, f35_7, f36_7, f37_7, f298_7], by first | (simp only [↓Array.getElem?_setIfInBounds_ne, ne_eq, Nat.reduceEqDiff, not_false_eq_true, q29_7]; done) | simp [hs7, f0_7, f3_7, f6_7, f7_7, f8_7, f9_7, f10_7, f11_7, f13_7, f14_7, f16_7, f17_7, f25_7, f26_7, f29_7, f35_7, f36_7, f37_7, f298_7], by first | (simp only [↓Array.getElem?_setIfInBounds_ne, ne_eq, Nat.reduceEqDiff, not_false_eq_true, q35_7]; done) | simp [hs7, f0_7, f3_7, f6_7, f7_7, f8_7, f9_7, f10_7, f11_7, f13_7, f14_7, f16_7, f17_7, f25_7, f26_7, f29_7, f35_7, f36_7, f37_7, f298_7], by first | (simp only [↓Array.getElem?_setIfInBounds_ne, ne_eq, Nat.reduceEqDiff, not_false_eq_true, q36_7]; done) | simp [hs7, f0_7, f3_7, f6_7, f7_7, f8_7, f9_7, f10_7, f11_7, f13_7, f14_7, f16_7, f17_7, f25_7, f26_7, f29_7, f35_7, f36_7, f37_7, f298_7], by first | (simp only [↓Array.getElem?_setIfInBounds_ne, ne_eq, Nat.reduceEqDiff, not_false_eq_true, q37_7]; done) | simp [hs7, f0_7, f3_7, f6_7, f7_7, f8_7, f9_7, f10_7, f11_7, f13_7, f14_7, f16_7, f17_7, f25_7, f26_7, f29_7, f35_7, f36_7, f37_7, f298_7], by first | (simp only [↓Array.getElem?_setIfInBounds_ne, ne_eq, Nat.reduceEqDiff, not_false_eq_true]; done) | simp [hs7, f0_7, f3_7, f6_7, f7_7, f8_7, f9_7, f10_7, f11_7, f13_7, f14_7, f16_7, f17_7, f25_7, f26_7, f29_7, f35_7, f36_7, f37_7, f298_7], HFw7.out⟩)
          · by_cases hj : h = j
            · obtain ⟨e1_, e2_⟩ := FS rfl rfl hj
              subst hj
              subst e1_
              cases ON
              · skip
                go_wp2_with fail
                refine ((HW1 _).out).mono ?_
                rintro e w6 ⟨rfl, hb_⟩
                have HFw6 := Lib.hid (Four.after HF.out hb_)
                obtain ⟨c00, c01, c02, c10, c11, c12, c20, c21, c22, c30, c31, c32, hz, hbl⟩ := HFw6.out
                clear hb_ hbl
                go_wp2_with fail
                refine ((HW2 _).out).mono ?_
                rintro e w7 ⟨rfl, hb_⟩
                have HFw7 := Lib.hid (Four.after HFw6.out hb_)
                obtain ⟨c00, c01, c02, c10, c11, c12, c20, c21, c22, c30, c31, c32, hz, hbl⟩ := HFw7.out
                clear hb_ hbl
                go_wp2_with fail
                all_goals refine Met.intro (hJ _ _ ⟨_, rfl, by simp [hs7], by first | (simp only [↓Array.getElem?_setIfInBounds_ne, ne_eq, Nat.reduceEqDiff, not_false_eq_true, q0_7]; done) | simp [hs7, f0_7, f3_7, f6_7, f7_7, f8_7, f9_7, f10_7, f11_7, f13_7, f14_7, f16_7, f17_7, f25_7, f26_7, f29_7, f35_7, f36_7, f37_7, f298_7], by first | (simp only [↓Array.getElem?_setIfInBounds_ne, ne_eq, Nat.reduceEqDiff, not_false_eq_true, q3_7]; done) | simp [hs7, f0_7, f3_7, f6_7, f7_7, f8_7, f9_7, f10_7, f11_7, f13_7, f14_7, f16_7, f17_7, f25_7, f26_7, f29_7, f35_7, f36_7, f37_7, f298_7], by first | (simp only [↓Array.getElem?_setIfInBounds_ne, ne_eq, Nat.reduceEqDiff, not_false_eq_true, q6_7]; done) | simp [hs7, f0_7, f3_7, f6_7, f7_7, f8_7, f9_7, f10_7, f11_7, f13_7, f14_7, f16_7, f17_7, f25_7, f26_7, f29_7, f35_7, f36_7, f37_7, f298_7], by first | (simp only [↓Array.getElem?_setIfInBounds_ne, ne_eq, Nat.reduceEqDiff, not_false_eq_true, q7_7]; done) | simp [hs7, f0_7, f3_7, f6_7, f7_7, f8_7, f9_7, f10_7, f11_7, f13_7, f14_7, f16_7, f17_7, f25_7, f26_7, f29_7, f35_7, f36_7, f37_7, f298_7], by first | (simp only [↓Array.getElem?_setIfInBounds_ne, ne_eq, Nat.reduceEqDiff, not_false_eq_true, q8_7]; done) | simp [hs7, f0_7, f3_7, f6_7, f7_7, f8_7, f9_7, f10_7, f11_7, f13_7, f14_7, f16_7, f17_7, f25_7, f26_7, f29_7, f35_7, f36_7, f37_7, f298_7], by first | (simp only [↓Array.getElem?_setIfInBounds_ne, ne_eq, Nat.reduceEqDiff, not_false_eq_true, q9_7]; done) | simp [hs7, f0_7, f3_7, f6_7, f7_7, f8_7, f9_7, f10_7, f11_7, f13_7, f14_7, f16_7, f17_7, f25_7, f26_7, f29_7, f35_7, f36_7, f37_7, f298_7], by first | (simp only [↓Array.getElem?_setIfInBounds_ne, ne_eq, Nat.reduceEqDiff, not_false_eq_true, q10_7]; done) | simp [hs7, f0_7, f3_7, f6_7, f7_7, f8_7, f9_7, f10_7, f11_7, f13_7, f14_7, f16_7, f17_7, f25_7, f26_7, f29_7, f35_7, f36_7, f37_7, f298_7], by first | (simp only [↓Array.getElem?_setIfInBounds_ne, ne_eq, Nat.reduceEqDiff, not_false_eq_true, q11_7]; done) | simp [hs7, f0_7, f3_7, f6_7, f7_7, f8_7, f9_7, f10_7, f11_7, f13_7, f14_7, f16_7, f17_7, f25_7, f26_7, f29_7, f35_7, f36_7, f37_7, f298_7], by first | (simp only [↓Array.getElem?_setIfInBounds_ne, ne_eq, Nat.reduceEqDiff, not_false_eq_true, q13_7]; done) | simp [hs7, f0_7, f3_7, f6_7, f7_7, f8_7, f9_7, f10_7, f11_7, f13_7, f14_7, f16_7, f17_7, f25_7, f26_7, f29_7, f35_7, f36_7, f37_7, f298_7], by first | (simp only [↓Array.getElem?_setIfInBounds_ne, ne_eq, Nat.reduceEqDiff, not_false_eq_true, q14_7]; done) | simp [hs7, f0_7, f3_7, f6_7, f7_7, f8_7, f9_7, f10_7, f11_7, f13_7, f14_7, f16_7, f17_7, f25_7, f26_7, f29_7, f35_7, f36_7, f37_7, f298_7], by first | (simp only [↓Array.getElem?_setIfInBounds_ne, ne_eq, Nat.reduceEqDiff, not_false_eq_true, q16_7]; done) | simp [hs7, f0_7, f3_7, f6_7, f7_7, f8_7, f9_7, f10_7, f11_7, f13_7, f14_7, f16_7, f17_7, f25_7, f26_7, f29_7, f35_7, f36_7, f37_7, f298_7], by first | (simp only [↓Array.getElem?_setIfInBounds_ne, ne_eq, Nat.reduceEqDiff, not_false_eq_true, q17_7]; done) | simp [hs7, f0_7, f3_7, f6_7, f7_7, f8_7, f9_7, f10_7, f11_7, f13_7, f14_7, f16_7, f17_7, f25_7, f26_7, f29_7, f35_7, f36_7, f37_7, f298_7], by first | (simp only [↓Array.getElem?_setIfInBounds_ne, ne_eq, Nat.reduceEqDiff, not_false_eq_true, q25_7]; done) | simp [hs7, f0_7, f3_7, f6_7, f7_7, f8_7, f9_7, f10_7, f11_7, f13_7, f14_7, f16_7, f17_7, f25_7, f26_7, f29_7, f35_7, f36_7, f37_7, f298_7], by first | (simp only [↓Array.getElem?_setIfInBounds_ne, ne_eq, Nat.reduceEqDiff, not_false_eq_true, q26_7]; done) | simp [hs7, f0_7, f3_7, f6_7, f7_7, f8_7, f9_7, f10_7, f11_7, f13_7, f14_7, f16_7, f17_7, f25_7, f26_7, f29_7, f35_7, f36_7, f37_7, f298_7], by first | (simp only [↓Array.getElem?_setIfInBounds_ne, ne_eq, Nat.reduceEqDiff, not_false_eq_true, q29_7]; done) | simp [hs7, f0_7, f3_7, f6_7, f7_7, f8_7, f9_7, f10_7, f11_7, f13_7, f14_7, f16_7, f17_7, f25_7, f26_7, f29_7, f35_7, f36_7, f37_7, f298_7], by first | (simp only [↓Array.getElem?_setIfInBounds_ne, ne_eq, Nat.reduceEqDiff, not_false_eq_true, q35_7]; done) | simp [hs7, f0_7, f3_7, f6_7, f7_7, f8_7, f9_7, f10_7, f11_7, f13_7, f14_7, f16_7, f17_7, f25_7, f26_7, f29_7, f35_7, f36_7, f37_7, f298_7], by first | (simp only [↓Array.getElem?_setIfInBounds_ne, ne_eq, Nat.reduceEqDiff, not_false_eq_true, q36_7]; done) | simp [hs7, f0_7, f3_7, f6_7, f7_7, f8_7, f9_7, f10_7, f11_7, f13_7, f14_7, f16_7, f17_7, f25_7, f26_7, f29_7, f35_7, f36_7, f37_7, f298_7], by first | (simp only [↓Array.getElem?_setIfInBounds_ne, ne_eq, Nat.reduceEqDiff, not_false_eq_true, q37_7]; done) | simp [hs7, f0_7, f3_7, f6_7, f7_7, f8_7, f9_7, f10_7, f11_7, f13_7, f14_7, f16_7, f17_7, f25_7, f26_7, f29_7, f35_7, f36_7, f37_7, f298_7], by first | (simp only [↓Array.getElem?_setIfInBounds_ne, ne_eq, Nat.reduceEqDiff, not_false_eq_true]; done) | simp [hs7, f0_7, f3_7, f6_7, f7_7, f8_7, f9_7, f10_7, f11_7, f13_7, f14_7, f16_7, f17_7, f25_7, f26_7, f29_7, f35_7, f36_7, f37_7, f298_7], HFw7.out⟩)
              · obtain ⟨rfl, rfl⟩ := e2_ rfl
                go_wp2_with fail
                refine ((HW1 _).out).mono ?_
                rintro e w6 ⟨rfl, hb_⟩
                have HFw6 := Lib.hid (Four.after HF.out hb_)
                obtain ⟨c00, c01, c02, c10, c11, c12, c20, c21, c22, c30, c31, c32, hz, hbl⟩ := HFw6.out
                clear hb_ hbl
                go_wp2_with fail
                refine ((HW2 _).out).mono ?_
                rintro e w7 ⟨rfl, hb_⟩
                have HFw7 := Lib.hid (Four.after HFw6.out hb_)
                obtain ⟨c00, c01, c02, c10, c11, c12, c20, c21, c22, c30, c31, c32, hz, hbl⟩ := HFw7.out
                clear hb_ hbl
                go_wp2_with fail
                all_goals refine Met.intro (hJ _ _ ⟨_, rfl, by simp [hs7], by first | (simp only [↓Array.getElem?_setIfInBounds_ne, ne_eq, Nat.reduceEqDiff, not_false_eq_true, q0_7]; done) | simp [hs7, f0_7, f3_7, f6_7, f7_7, f8_7, f9_7, f10_7, f11_7, f13_7, f14_7, f16_7, f17_7, f25_7, f26_7, f29_7, f35_7, f36_7, f37_7, f298_7], by first | (simp only [↓Array.getElem?_setIfInBounds_ne, ne_eq, Nat.reduceEqDiff, not_false_eq_true, q3_7]; done) | simp [hs7, f0_7, f3_7, f6_7, f7_7, f8_7, f9_7, f10_7, f11_7, f13_7, f14_7, f16_7, f17_7, f25_7, f26_7, f29_7, f35_7, f36_7, f37_7, f298_7], by first | (simp only [↓Array.getElem?_setIfInBounds_ne, ne_eq, Nat.reduceEqDiff, not_false_eq_true, q6_7]; done) | simp [hs7, f0_7, f3_7, f6_7, f7_7, f8_7, f9_7, f10_7, f11_7, f13_7, f14_7, f16_7, f17_7, f25_7, f26_7, f29_7, f35_7, f36_7, f37_7, f298_7], by first | (simp only [↓Array.getElem?_setIfInBounds_ne, ne_eq, Nat.reduceEqDiff, not_false_eq_true, q7_7]; done) | simp [hs7, f0_7, f3_7, f6_7, f7_7, f8_7, f9_7, f10_7, f11_7, f13_7, f14_7, f16_7, f17_7, f25_7, f26_7, f29_7, f35_7, f36_7, f37_7, f298_7], by first | (simp only [↓Array.getElem?_setIfInBounds_ne, ne_eq, Nat.reduceEqDiff, not_false_eq_true, q8_7]; done) | simp [hs7, f0_7, f3_7, f6_7, f7_7, f8_7, f9_7, f10_7, f11_7, f13_7, f14_7, f16_7, f17_7, f25_7, f26_7, f29_7, f35_7, f36_7, f37_7, f298_7], by first | (simp only [↓Array.getElem?_setIfInBounds_ne, ne_eq, Nat.reduceEqDiff, not_false_eq_true, q9_7]; done) | simp [hs7, f0_7, f3_7, f6_7, f7_7, f8_7, f9_7, f10_7, f11_7, f13_7, f14_7, f16_7, f17_7, f25_7, f26_7, f29_7, f35_7, f36_7, f37_7, f298_7], by first | (simp only [↓Array.getElem?_setIfInBounds_ne, ne_eq, Nat.reduceEqDiff, not_false_eq_true, q10_7]; done) | simp [hs7, f0_7, f3_7, f6_7, f7_7, f8_7, f9_7, f10_7, f11_7, f13_7, f14_7, f16_7, f17_7, f25_7, f26_7, f29_7, f35_7, f36_7, f37_7, f298_7], by first | (simp only [↓Array.getElem?_setIfInBounds_ne, ne_eq, Nat.reduceEqDiff, not_false_eq_true, q11_7]; done) | simp [hs7, f0_7, f3_7, f6_7, f7_7, f8_7, f9_7, f10_7, f11_7, f13_7, f14_7, f16_7, f17_7, f25_7, f26_7, f29_7, f35_7, f36_7, f37_7, f298_7], by first | (simp only [↓Array.getElem?_setIfInBounds_ne, ne_eq, Nat.reduceEqDiff, not_false_eq_true, q13_7]; done) | simp [hs7, f0_7, f3_7, f6_7, f7_7, f8_7, f9_7, f10_7, f11_7, f13_7, f14_7, f16_7, f17_7, f25_7, f26_7, f29_7, f35_7, f36_7, f37_7, f298_7], by first | (simp only [↓Array.getElem?_setIfInBounds_ne, ne_eq, Nat.reduceEqDiff, not_false_eq_true, q14_7]; done) | simp [hs7, f0_7, f3_7, f6_7, f7_7, f8_7, f9_7, f10_7, f11_7, f13_7, f14_7, f16_7, f17_7, f25_7, f26_7, f29_7, f35_7, f36_7, f37_7, f298_7], by first | (simp only [↓Array.getElem?_setIfInBounds_ne, ne_eq, Nat.reduceEqDiff, not_false_eq_true, q16_7]; done) | simp [hs7, f0_7, f3_7, f6_7, f7_7, f8_7, f9_7, f10_7, f11_7, f13_7, f14_7, f16_7, f17_7, f25_7, f26_7, f29_7, f35_7, f36_7, f37_7, f298_7], by first | (simp only [↓Array.getElem?_setIfInBounds_ne, ne_eq, Nat.reduceEqDiff, not_false_eq_true, q17_7]; done) | simp [hs7, f0_7, f3_7, f6_7, f7_7, f8_7, f9_7, f10_7, f11_7, f13_7, f14_7, f16_7, f17_7, f25_7, f26_7, f29_7, f35_7, f36_7, f37_7, f298_7], by first | (simp only [↓Array.getElem?_setIfInBounds_ne, ne_eq, Nat.reduceEqDiff, not_false_eq_true, q25_7]; done) | simp [hs7, f0_7, f3_7, f6_7, f7_7, f8_7, f9_7, f10_7, f11_7, f13_7, f14_7, f16_7, f17_7, f25_7, f26_7, f29_7, f35_7, f36_7, f37_7, f298_7], by first | (simp only [↓Array.getElem?_setIfInBounds_ne, ne_eq, Nat.reduceEqDiff, not_false_eq_true, q26_7]; done) | simp [hs7, f0_7, f3_7, f6_7, f7_7, f8_7, f9_7, f10_7, f11_7, f13_7, f14_7, f16_7, f17_7, f25_7, f26_7, f29_7, f35_7, f36_7, f37_7, f298_7], by first | (simp only [↓Array.getElem?_setIfInBounds_ne, ne_eq, Nat.reduceEqDiff, not_false_eq_true, q29_7]; done) | simp [hs7, f0_7, f3_7, f6_7, f7_7, f8_7, f9_7, f10_7, f11_7, f13_7, f14_7, f16_7, f17_7, f25_7, f26_7, f29_7, f35_7, f36_7, f37_7, f298_7], by first | (simp only [↓Array.getElem?_setIfInBounds_ne, ne_eq, Nat.reduceEqDiff, not_false_eq_true, q35_7]; done) | simp [hs7, f0_7, f3_7, f6_7, f7_7, f8_7, f9_7, f10_7, f11_7, f13_7, f14_7, f16_7, f17_7, f25_7, f26_7, f29_7, f35_7, f36_7, f37_7, f298_7], by first | (simp only [↓Array.getElem?_setIfInBounds_ne, ne_eq, Nat.reduceEqDiff, not_false_eq_true, q36_7]; done) | simp [hs7, f0_7, f3_7, f6_7, f7_7, f8_7, f9_7, f10_7, f11_7, f13_7, f14_7, f16_7, f17_7, f25_7, f26_7, f29_7, f35_7, f36_7, f37_7, f298_7], by first | (simp only [↓Array.getElem?_setIfInBounds_ne, ne_eq, Nat.reduceEqDiff, not_false_eq_true, q37_7]; done) | simp [hs7, f0_7, f3_7, f6_7, f7_7, f8_7, f9_7, f10_7, f11_7, f13_7, f14_7, f16_7, f17_7, f25_7, f26_7, f29_7, f35_7, f36_7, f37_7, f298_7], by first | (simp only [↓Array.getElem?_setIfInBounds_ne, ne_eq, Nat.reduceEqDiff, not_false_eq_true]; done) | simp [hs7, f0_7, f3_7, f6_7, f7_7, f8_7, f9_7, f10_7, f11_7, f13_7, f14_7, f16_7, f17_7, f25_7, f26_7, f29_7, f35_7, f36_7, f37_7, f298_7], HFw7.out⟩)
            · have hjb : (h == j) = false := beq_eq_false_iff_ne.2 hj
              go_wp2_with fail
              refine ((HW1 _).out).mono ?_
              rintro e w6 ⟨rfl, hb_⟩
              have HFw6 := Lib.hid (Four.after HF.out hb_)
              obtain ⟨c00, c01, c02, c10, c11, c12, c20, c21, c22, c30, c31, c32, hz, hbl⟩ := HFw6.out
              clear hb_ hbl
              go_wp2_with fail
              refine ((HW2 _).out).mono ?_
              rintro e w7 ⟨rfl, hb_⟩
              have HFw7 := Lib.hid (Four.after HFw6.out hb_)
              obtain ⟨c00, c01, c02, c10, c11, c12, c20, c21, c22, c30, c31, c32, hz, hbl⟩ := HFw7.out
              clear hb_ hbl
              go_wp2_with fail
              all_goals refine Met.intro (hJ _ _ ⟨_, rfl, by simp [hs7], by first | (simp only [↓Array.getElem?_setIfInBounds_ne, ne_eq, Nat.reduceEqDiff, not_false_eq_true, q0_7]; done) | simp [hs7, f0_7, f3_7, f6_7, f7_7, f8_7, f9_7, f10_7, f11_7, f13_7, f14_7, f16_7, f17_7, f25_7, f26_7, f29_7, f35_7, f36_7, f37_7, f298_7], by first | (simp only [↓Array.getElem?_setIfInBounds_ne, ne_eq, Nat.reduceEqDiff, not_false_eq_true, q3_7]; done) | simp [hs7, f0_7, f3_7, f6_7, f7_7, f8_7, f9_7, f10_7, f11_7, f13_7, f14_7, f16_7, f17_7, f25_7, f26_7, f29_7, f35_7, f36_7, f37_7, f298_7], by first | (simp only [↓Array.getElem?_setIfInBounds_ne, ne_eq, Nat.reduceEqDiff, not_false_eq_true, q6_7]; done) | simp [hs7, f0_7, f3_7, f6_7, f7_7, f8_7, f9_7, f10_7, f11_7, f13_7, f14_7, f16_7, f17_7, f25_7, f26_7, f29_7, f35_7, f36_7, f37_7, f298_7], by first | (simp only [↓Array.getElem?_setIfInBounds_ne, ne_eq, Nat.reduceEqDiff, not_false_eq_true, q7_7]; done) | simp [hs7, f0_7, f3_7, f6_7, f7_7, f8_7, f9_7, f10_7, f11_7, f13_7, f14_7, f16_7, f17_7, f25_7, f26_7, f29_7, f35_7, f36_7, f37_7, f298_7], by first | (simp only [↓Array.getElem?_setIfInBounds_ne, ne_eq, Nat.reduceEqDiff, not_false_eq_true, q8_7]; done) | simp [hs7, f0_7, f3_7, f6_7, f7_7, f8_7, f9_7, f10_7, f11_7, f13_7, f14_7, f16_7, f17_7, f25_7, f26_7, f29_7, f35_7, f36_7, f37_7, f298_7], by first | (simp only [↓Array.getElem?_setIfInBounds_ne, ne_eq, Nat.reduceEqDiff, not_false_eq_true, q9_7]; done) | simp [hs7, f0_7, f3_7, f6_7, f7_7, f8_7, f9_7, f10_7, f11_7, f13_7, f14_7, f16_7, f17_7, f25_7, f26_7, f29_7, f35_7, f36_7, f37_7, f298_7], by first | (simp only [↓Array.getElem?_setIfInBounds_ne, ne_eq, Nat.reduceEqDiff, not_false_eq_true, q10_7]; done) | simp [hs7, f0_7, f3_7, f6_7, f7_7, f8_7, f9_7, f10_7, f11_7, f13_7, f14_7, f16_7, f17_7, f25_7, f26_7, f29_7, f35_7, f36_7, f37_7, f298_7], by first | (simp only [↓Array.getElem?_setIfInBounds_ne, ne_eq, Nat.reduceEqDiff, not_false_eq_true, q11_7]; done) | simp [hs7, f0_7, f3_7, f6_7, f7_7, f8_7, f9_7, f10_7, f11_7, f13_7, f14_7, f16_7, f17_7, f25_7, f26_7, f29_7, f35_7, f36_7, f37_7, f298_7], by first | (simp only [↓Array.getElem?_setIfInBounds_ne, ne_eq, Nat.reduceEqDiff, not_false_eq_true, q13_7]; done) | simp [hs7, f0_7, f3_7, f6_7, f7_7, f8_7, f9_7, f10_7, f11_7, f13_7, f14_7, f16_7, f17_7, f25_7, f26_7, f29_7, f35_7, f36_7, f37_7, f298_7], by first | (simp only [↓Array.getElem?_setIfInBounds_ne, ne_eq, Nat.reduceEqDiff, not_false_eq_true, q14_7]; done) | simp [hs7, f0_7, f3_7, f6_7, f7_7, f8_7, f9_7, f10_7, f11_7, f13_7, f14_7, f16_7, f17_7, f25_7, f26_7, f29_7, f35_7, f36_7, f37_7, f298_7], by first | (simp only [↓Array.getElem?_setIfInBounds_ne, ne_eq, Nat.reduceEqDiff, not_false_eq_true, q16_7]; done) | simp [hs7, f0_7, f3_7, f6_7, f7_7, f8_7, f9_7, f10_7, f11_7, f13_7, f14_7, f16_7, f17_7, f25_7, f26_7, f29_7, f35_7, f36_7, f37_7, f298_7], by first | (simp only [↓Array.getElem?_setIfInBounds_ne, ne_eq, Nat.reduceEqDiff, not_false_eq_true, q17_7]; done) | simp [hs7, f0_7, f3_7, f6_7, f7_7, f8_7, f9_7, f10_7, f11_7, f13_7, f14_7, f16_7, f17_7, f25_7, f26_7, f29_7, f35_7, f36_7, f37_7, f298_7], by first | (simp only [↓Array.getElem?_setIfInBounds_ne, ne_eq, Nat.reduceEqDiff, not_false_eq_true, q25_7]; done) | simp [hs7, f0_7, f3_7, f6_7, f7_7, f8_7, f9_7, f10_7, f11_7, f13_7, f14_7, f16_7, f17_7, f25_7, f26_7, f29_7, f35_7, f36_7, f37_7, f298_7], by first | (simp only [↓Array.getElem?_setIfInBounds_ne, ne_eq, Nat.reduceEqDiff, not_false_eq_true, q26_7]; done) | simp [hs7, f0_7, f3_7, f6_7, f7_7, f8_7, f9_7, f10_7, f11_7, f13_7, f14_7, f16_7, f17_7, f25_7, f26_7, f29_7, f35_7, f36_7, f37_7, f298_7], by first | (simp only [↓Array.getElem?_setIfInBounds_ne, ne_eq, Nat.reduceEqDiff, not_false_eq_true, q29_7]; done) | simp [hs7, f0_7, f3_7, f6_7, f7_7, f8_7, f9_7, f10_7, f11_7, f13_7, f14_7, f16_7, f17_7, f25_7, f26_7, f29_7, f35_7, f36_7, f37_7, f298_7], by first | (simp only [↓Array.getElem?_setIfInBounds_ne, ne_eq, Nat.reduceEqDiff, not_false_eq_true, q35_7]; done) | simp [hs7, f0_7, f3_7, f6_7, f7_7, f8_7, f9_7, f10_7, f11_7, f13_7, f14_7, f16_7, f17_7, f25_7, f26_7, f29_7, f35_7, f36_7, f37_7, f298_7], by first | (simp only [↓Array.getElem?_setIfInBounds_ne, ne_eq, Nat.reduceEqDiff, not_false_eq_true, q36_7]; done) | simp [hs7, f0_7, f3_7, f6_7, f7_7, f8_7, f9_7, f10_7, f11_7, f13_7, f14_7, f16_7, f17_7, f25_7, f26_7, f29_7, f35_7, f36_7, f37_7, f298_7], by first | (simp only [↓Array.getElem?_setIfInBounds_ne, ne_eq, Nat.reduceEqDiff, not_false_eq_true, q37_7]; done) | simp [hs7, f0_7, f3_7, f6_7, f7_7, f8_7, f9_7, f10_7, f11_7, f13_7, f14_7, f16_7, f17_7, f25_7, f26_7, f29_7, f35_7, f36_7, f37_7, f298_7], by first | (simp only [↓Array.getElem?_setIfInBounds_ne, ne_eq, Nat.reduceEqDiff, not_false_eq_true]; done) | simp [hs7, f0_7, f3_7, f6_7, f7_7, f8_7, f9_7, f10_7, f11_7, f13_7, f14_7, f16_7, f17_7, f25_7, f26_7, f29_7, f35_7, f36_7, f37_7, f298_7], HFw7.out⟩)
      case rest3 =>
        intro a' wc3 hR3
        obtain ⟨T8, rfl, hs8, q0_8, q3_8, q6_8, q7_8, q8_8, q9_8, q10_8, q11_8, q13_8, q14_8, q16_8, q17_8, q25_8, q26_8, q29_8, q35_8, q36_8, q37_8, q331_8, h43⟩ := hR3
        have f0_8 := fun hh => getq q0_8 hh
        have f3_8 := fun hh => getq q3_8 hh
        have f6_8 := fun hh => getq q6_8 hh
        have f7_8 := fun hh => getq q7_8 hh
        have f8_8 := fun hh => getq q8_8 hh
        have f9_8 := fun hh => getq q9_8 hh
        have f10_8 := fun hh => getq q10_8 hh
        have f11_8 := fun hh => getq q11_8 hh
        have f13_8 := fun hh => getq q13_8 hh
        have f14_8 := fun hh => getq q14_8 hh
        have f16_8 := fun hh => getq q16_8 hh
        have f17_8 := fun hh => getq q17_8 hh
        have f25_8 := fun hh => getq q25_8 hh
        have f26_8 := fun hh => getq q26_8 hh
        have f29_8 := fun hh => getq q29_8 hh
        have f35_8 := fun hh => getq q35_8 hh
        have f36_8 := fun hh => getq q36_8 hh
        have f37_8 := fun hh => getq q37_8 hh
        have f331_8 := fun hh => getq q331_8 hh
        obtain ⟨c00, c01, c02, c10, c11, c12, c20, c21, c22, c30, c31, c32, hz, hbl⟩ := h43
        have HF := Lib.hid (show Four w h p s j q t ch cp cs dh dp ds wc3 from ⟨c00, c01, c02, c10, c11, c12, c20, c21, c22, c30, c31, c32, hz, hbl⟩)
        clear hbl FA FC FS HA1 HA2 HC1 HC2 HW1 HW2
        go_wp2_with fail
        refine wp_cond_f ?_ ?_
        · go_simp
        go_upto_region 18 with fail
        refine reframe fun T9 hT => ?_
        have hs9 : T9.size = 626 := by subst hT; simp [hs8]
        have q3_9 : T9[3]? = some (.int .i64 hi) := by subst hT; exact (by first | (simp only [↓Array.getElem?_setIfInBounds_ne, ne_eq, Nat.reduceEqDiff, not_false_eq_true, q3_8]; done) | simp [hs8, f0_8, f3_8, f6_8, f7_8, f8_8, f9_8, f10_8, f11_8, f13_8, f14_8, f16_8, f17_8, f25_8, f26_8, f29_8, f35_8, f36_8, f37_8, f331_8])
        have f3_9 := fun hh => getq q3_9 hh
        have q6_9 : T9[6]? = some (.int .i64 m) := by subst hT; exact (by first | (simp only [↓Array.getElem?_setIfInBounds_ne, ne_eq, Nat.reduceEqDiff, not_false_eq_true, q6_8]; done) | simp [hs8, f0_8, f3_8, f6_8, f7_8, f8_8, f9_8, f10_8, f11_8, f13_8, f14_8, f16_8, f17_8, f25_8, f26_8, f29_8, f35_8, f36_8, f37_8, f331_8])
        have f6_9 := fun hh => getq q6_9 hh
        have q7_9 : T9[7]? = some (.int .i64 a) := by subst hT; exact (by first | (simp only [↓Array.getElem?_setIfInBounds_ne, ne_eq, Nat.reduceEqDiff, not_false_eq_true, q7_8]; done) | simp [hs8, f0_8, f3_8, f6_8, f7_8, f8_8, f9_8, f10_8, f11_8, f13_8, f14_8, f16_8, f17_8, f25_8, f26_8, f29_8, f35_8, f36_8, f37_8, f331_8])
        have f7_9 := fun hh => getq q7_9 hh
        have q8_9 : T9[8]? = some (.int .i64 L) := by subst hT; exact (by first | (simp only [↓Array.getElem?_setIfInBounds_ne, ne_eq, Nat.reduceEqDiff, not_false_eq_true, q8_8]; done) | simp [hs8, f0_8, f3_8, f6_8, f7_8, f8_8, f9_8, f10_8, f11_8, f13_8, f14_8, f16_8, f17_8, f25_8, f26_8, f29_8, f35_8, f36_8, f37_8, f331_8])
        have f8_9 := fun hh => getq q8_9 hh
        have q9_9 : T9[9]? = some (.int .i64 R) := by subst hT; exact (by first | (simp only [↓Array.getElem?_setIfInBounds_ne, ne_eq, Nat.reduceEqDiff, not_false_eq_true, q9_8]; done) | simp [hs8, f0_8, f3_8, f6_8, f7_8, f8_8, f9_8, f10_8, f11_8, f13_8, f14_8, f16_8, f17_8, f25_8, f26_8, f29_8, f35_8, f36_8, f37_8, f331_8])
        have f9_9 := fun hh => getq q9_9 hh
        have q10_9 : T9[10]? = some (.int .i64 x) := by subst hT; exact (by first | (simp only [↓Array.getElem?_setIfInBounds_ne, ne_eq, Nat.reduceEqDiff, not_false_eq_true, q10_8]; done) | simp [hs8, f0_8, f3_8, f6_8, f7_8, f8_8, f9_8, f10_8, f11_8, f13_8, f14_8, f16_8, f17_8, f25_8, f26_8, f29_8, f35_8, f36_8, f37_8, f331_8])
        have f10_9 := fun hh => getq q10_9 hh
        have q11_9 : T9[11]? = some (.int .i64 v) := by subst hT; exact (by first | (simp only [↓Array.getElem?_setIfInBounds_ne, ne_eq, Nat.reduceEqDiff, not_false_eq_true, q11_8]; done) | simp [hs8, f0_8, f3_8, f6_8, f7_8, f8_8, f9_8, f10_8, f11_8, f13_8, f14_8, f16_8, f17_8, f25_8, f26_8, f29_8, f35_8, f36_8, f37_8, f331_8])
        have f11_9 := fun hh => getq q11_9 hh
        have q16_9 : T9[16]? = some (.pointer (some ⟨w.heap.size + 1 + 1, 0, none⟩)) := by subst hT; exact (by first | (simp only [↓Array.getElem?_setIfInBounds_ne, ne_eq, Nat.reduceEqDiff, not_false_eq_true, q16_8]; done) | simp [hs8, f0_8, f3_8, f6_8, f7_8, f8_8, f9_8, f10_8, f11_8, f13_8, f14_8, f16_8, f17_8, f25_8, f26_8, f29_8, f35_8, f36_8, f37_8, f331_8])
        have f16_9 := fun hh => getq q16_9 hh
        have q17_9 : T9[17]? = some (.pointer (some ⟨w.heap.size + 1 + 1 + 1, 0, none⟩)) := by subst hT; exact (by first | (simp only [↓Array.getElem?_setIfInBounds_ne, ne_eq, Nat.reduceEqDiff, not_false_eq_true, q17_8]; done) | simp [hs8, f0_8, f3_8, f6_8, f7_8, f8_8, f9_8, f10_8, f11_8, f13_8, f14_8, f16_8, f17_8, f25_8, f26_8, f29_8, f35_8, f36_8, f37_8, f331_8])
        have f17_9 := fun hh => getq q17_9 hh
        clear hT f331_8 f37_8 f36_8 f35_8 f29_8 f26_8 f25_8 f17_8 f16_8 f14_8 f13_8 f11_8 f10_8 f9_8 f8_8 f7_8 f6_8 f3_8 f0_8 hs8 q0_8 q3_8 q6_8 q7_8 q8_8 q9_8 q10_8 q11_8 q13_8 q14_8 q16_8 q17_8 q25_8 q26_8 q29_8 q35_8 q36_8 q37_8 q331_8
        go_wp2_with fail
        refine ((HI1 _).out).mono ?_
        rintro e w101 ⟨rfl, hb_⟩
        have HFw101 := Lib.hid (Four.after HF.out hb_)
        clear hb_ hz c00 c01 c02 c10 c11 c12 c20 c21 c22 c30 c31 c32
        obtain ⟨c00, c01, c02, c10, c11, c12, c20, c21, c22, c30, c31, c32, hz, hbl⟩ := HFw101.out
        clear hbl
        go_wp2_with fail
        refine ((HI2 _).out).mono ?_
        rintro e w102 ⟨rfl, hb_⟩
        have HFw102 := Lib.hid (Four.after HFw101.out hb_)
        clear hb_ hz c00 c01 c02 c10 c11 c12 c20 c21 c22 c30 c31 c32
        obtain ⟨c00, c01, c02, c10, c11, c12, c20, c21, c22, c30, c31, c32, hz, hbl⟩ := HFw102.out
        clear hbl
        go_upto_region 20 with fail
        refine reframe fun T10 hT => ?_
        have hs10 : T10.size = 626 := by subst hT; simp [hs9]
        have q3_10 : T10[3]? = some (.int .i64 hi) := by subst hT; exact (by first | (simp only [↓Array.getElem?_setIfInBounds_ne, ne_eq, Nat.reduceEqDiff, not_false_eq_true, q3_9]; done) | simp [hs9, f3_9, f6_9, f7_9, f8_9, f9_9, f10_9, f11_9, f16_9, f17_9])
        have f3_10 := fun hh => getq q3_10 hh
        have q6_10 : T10[6]? = some (.int .i64 m) := by subst hT; exact (by first | (simp only [↓Array.getElem?_setIfInBounds_ne, ne_eq, Nat.reduceEqDiff, not_false_eq_true, q6_9]; done) | simp [hs9, f3_9, f6_9, f7_9, f8_9, f9_9, f10_9, f11_9, f16_9, f17_9])
        have f6_10 := fun hh => getq q6_10 hh
        have q7_10 : T10[7]? = some (.int .i64 a) := by subst hT; exact (by first | (simp only [↓Array.getElem?_setIfInBounds_ne, ne_eq, Nat.reduceEqDiff, not_false_eq_true, q7_9]; done) | simp [hs9, f3_9, f6_9, f7_9, f8_9, f9_9, f10_9, f11_9, f16_9, f17_9])
        have f7_10 := fun hh => getq q7_10 hh
        have q8_10 : T10[8]? = some (.int .i64 L) := by subst hT; exact (by first | (simp only [↓Array.getElem?_setIfInBounds_ne, ne_eq, Nat.reduceEqDiff, not_false_eq_true, q8_9]; done) | simp [hs9, f3_9, f6_9, f7_9, f8_9, f9_9, f10_9, f11_9, f16_9, f17_9])
        have f8_10 := fun hh => getq q8_10 hh
        have q9_10 : T10[9]? = some (.int .i64 R) := by subst hT; exact (by first | (simp only [↓Array.getElem?_setIfInBounds_ne, ne_eq, Nat.reduceEqDiff, not_false_eq_true, q9_9]; done) | simp [hs9, f3_9, f6_9, f7_9, f8_9, f9_9, f10_9, f11_9, f16_9, f17_9])
        have f9_10 := fun hh => getq q9_10 hh
        have q10_10 : T10[10]? = some (.int .i64 x) := by subst hT; exact (by first | (simp only [↓Array.getElem?_setIfInBounds_ne, ne_eq, Nat.reduceEqDiff, not_false_eq_true, q10_9]; done) | simp [hs9, f3_9, f6_9, f7_9, f8_9, f9_9, f10_9, f11_9, f16_9, f17_9])
        have f10_10 := fun hh => getq q10_10 hh
        have q11_10 : T10[11]? = some (.int .i64 v) := by subst hT; exact (by first | (simp only [↓Array.getElem?_setIfInBounds_ne, ne_eq, Nat.reduceEqDiff, not_false_eq_true, q11_9]; done) | simp [hs9, f3_9, f6_9, f7_9, f8_9, f9_9, f10_9, f11_9, f16_9, f17_9])
        have f11_10 := fun hh => getq q11_10 hh
        have q16_10 : T10[16]? = some (.pointer (some ⟨w.heap.size + 1 + 1, 0, none⟩)) := by subst hT; exact (by first | (simp only [↓Array.getElem?_setIfInBounds_ne, ne_eq, Nat.reduceEqDiff, not_false_eq_true, q16_9]; done) | simp [hs9, f3_9, f6_9, f7_9, f8_9, f9_9, f10_9, f11_9, f16_9, f17_9])
        have f16_10 := fun hh => getq q16_10 hh
        have q17_10 : T10[17]? = some (.pointer (some ⟨w.heap.size + 1 + 1 + 1, 0, none⟩)) := by subst hT; exact (by first | (simp only [↓Array.getElem?_setIfInBounds_ne, ne_eq, Nat.reduceEqDiff, not_false_eq_true, q17_9]; done) | simp [hs9, f3_9, f6_9, f7_9, f8_9, f9_9, f10_9, f11_9, f16_9, f17_9])
        have f17_10 := fun hh => getq q17_10 hh
        have q48_10 : T10[48]? = some (.bool IS) := by subst hT; exact (by first | (simp only [↓Array.getElem?_setIfInBounds_ne, ne_eq, Nat.reduceEqDiff, not_false_eq_true]; done) | simp [hs9, f3_9, f6_9, f7_9, f8_9, f9_9, f10_9, f11_9, f16_9, f17_9])
        have f48_10 := fun hh => getq q48_10 hh
        have q49_10 : T10[49]? = some (.bool TH) := by subst hT; exact (by first | (simp only [↓Array.getElem?_setIfInBounds_ne, ne_eq, Nat.reduceEqDiff, not_false_eq_true]; done) | simp [hs9, f3_9, f6_9, f7_9, f8_9, f9_9, f10_9, f11_9, f16_9, f17_9])
        have f49_10 := fun hh => getq q49_10 hh
        have q50_10 : T10[50]? = some (.bool IS) := by subst hT; exact (by first | (simp only [↓Array.getElem?_setIfInBounds_ne, ne_eq, Nat.reduceEqDiff, not_false_eq_true]; done) | simp [hs9, f3_9, f6_9, f7_9, f8_9, f9_9, f10_9, f11_9, f16_9, f17_9])
        have f50_10 := fun hh => getq q50_10 hh
        have q51_10 : T10[51]? = some (.bool TH) := by subst hT; exact (by first | (simp only [↓Array.getElem?_setIfInBounds_ne, ne_eq, Nat.reduceEqDiff, not_false_eq_true]; done) | simp [hs9, f3_9, f6_9, f7_9, f8_9, f9_9, f10_9, f11_9, f16_9, f17_9])
        have f51_10 := fun hh => getq q51_10 hh
        clear hT f17_9 f16_9 f11_9 f10_9 f9_9 f8_9 f7_9 f6_9 f3_9 hs9 q3_9 q6_9 q7_9 q8_9 q9_9 q10_9 q11_9 q16_9 q17_9
        go_wp2_with fail
        refine ((HS1 _).out).mono ?_
        rintro e w103 ⟨rfl, hb_⟩
        have HFw103 := Lib.hid (Four.after HFw102.out hb_)
        clear hb_ hz c00 c01 c02 c10 c11 c12 c20 c21 c22 c30 c31 c32
        obtain ⟨c00, c01, c02, c10, c11, c12, c20, c21, c22, c30, c31, c32, hz, hbl⟩ := HFw103.out
        clear hbl
        go_wp2_with fail
        refine ((HS2 _).out).mono ?_
        rintro e w104 ⟨rfl, hb_⟩
        have HFw104 := Lib.hid (Four.after HFw103.out hb_)
        clear hb_ hz c00 c01 c02 c10 c11 c12 c20 c21 c22 c30 c31 c32
        obtain ⟨c00, c01, c02, c10, c11, c12, c20, c21, c22, c30, c31, c32, hz, hbl⟩ := HFw104.out
        clear hbl
        go_upto_region 22 with fail
        refine reframe fun T11 hT => ?_
        have hs11 : T11.size = 626 := by subst hT; simp [hs10]
        have q3_11 : T11[3]? = some (.int .i64 hi) := by subst hT; exact (by first | (simp only [↓Array.getElem?_setIfInBounds_ne, ne_eq, Nat.reduceEqDiff, not_false_eq_true, q3_10]; done) | simp [hs10, f3_10, f6_10, f7_10, f8_10, f9_10, f10_10, f11_10, f16_10, f17_10, f48_10, f49_10, f50_10, f51_10])
        have f3_11 := fun hh => getq q3_11 hh
        have q6_11 : T11[6]? = some (.int .i64 m) := by subst hT; exact (by first | (simp only [↓Array.getElem?_setIfInBounds_ne, ne_eq, Nat.reduceEqDiff, not_false_eq_true, q6_10]; done) | simp [hs10, f3_10, f6_10, f7_10, f8_10, f9_10, f10_10, f11_10, f16_10, f17_10, f48_10, f49_10, f50_10, f51_10])
        have f6_11 := fun hh => getq q6_11 hh
        have q7_11 : T11[7]? = some (.int .i64 a) := by subst hT; exact (by first | (simp only [↓Array.getElem?_setIfInBounds_ne, ne_eq, Nat.reduceEqDiff, not_false_eq_true, q7_10]; done) | simp [hs10, f3_10, f6_10, f7_10, f8_10, f9_10, f10_10, f11_10, f16_10, f17_10, f48_10, f49_10, f50_10, f51_10])
        have f7_11 := fun hh => getq q7_11 hh
        have q8_11 : T11[8]? = some (.int .i64 L) := by subst hT; exact (by first | (simp only [↓Array.getElem?_setIfInBounds_ne, ne_eq, Nat.reduceEqDiff, not_false_eq_true, q8_10]; done) | simp [hs10, f3_10, f6_10, f7_10, f8_10, f9_10, f10_10, f11_10, f16_10, f17_10, f48_10, f49_10, f50_10, f51_10])
        have f8_11 := fun hh => getq q8_11 hh
        have q9_11 : T11[9]? = some (.int .i64 R) := by subst hT; exact (by first | (simp only [↓Array.getElem?_setIfInBounds_ne, ne_eq, Nat.reduceEqDiff, not_false_eq_true, q9_10]; done) | simp [hs10, f3_10, f6_10, f7_10, f8_10, f9_10, f10_10, f11_10, f16_10, f17_10, f48_10, f49_10, f50_10, f51_10])
        have f9_11 := fun hh => getq q9_11 hh
        have q10_11 : T11[10]? = some (.int .i64 x) := by subst hT; exact (by first | (simp only [↓Array.getElem?_setIfInBounds_ne, ne_eq, Nat.reduceEqDiff, not_false_eq_true, q10_10]; done) | simp [hs10, f3_10, f6_10, f7_10, f8_10, f9_10, f10_10, f11_10, f16_10, f17_10, f48_10, f49_10, f50_10, f51_10])
        have f10_11 := fun hh => getq q10_11 hh
        have q11_11 : T11[11]? = some (.int .i64 v) := by subst hT; exact (by first | (simp only [↓Array.getElem?_setIfInBounds_ne, ne_eq, Nat.reduceEqDiff, not_false_eq_true, q11_10]; done) | simp [hs10, f3_10, f6_10, f7_10, f8_10, f9_10, f10_10, f11_10, f16_10, f17_10, f48_10, f49_10, f50_10, f51_10])
        have f11_11 := fun hh => getq q11_11 hh
        have q16_11 : T11[16]? = some (.pointer (some ⟨w.heap.size + 1 + 1, 0, none⟩)) := by subst hT; exact (by first | (simp only [↓Array.getElem?_setIfInBounds_ne, ne_eq, Nat.reduceEqDiff, not_false_eq_true, q16_10]; done) | simp [hs10, f3_10, f6_10, f7_10, f8_10, f9_10, f10_10, f11_10, f16_10, f17_10, f48_10, f49_10, f50_10, f51_10])
        have f16_11 := fun hh => getq q16_11 hh
        have q17_11 : T11[17]? = some (.pointer (some ⟨w.heap.size + 1 + 1 + 1, 0, none⟩)) := by subst hT; exact (by first | (simp only [↓Array.getElem?_setIfInBounds_ne, ne_eq, Nat.reduceEqDiff, not_false_eq_true, q17_10]; done) | simp [hs10, f3_10, f6_10, f7_10, f8_10, f9_10, f10_10, f11_10, f16_10, f17_10, f48_10, f49_10, f50_10, f51_10])
        have f17_11 := fun hh => getq q17_11 hh
        have q48_11 : T11[48]? = some (.bool IS) := by subst hT; exact (by first | (simp only [↓Array.getElem?_setIfInBounds_ne, ne_eq, Nat.reduceEqDiff, not_false_eq_true, q48_10]; done) | simp [hs10, f3_10, f6_10, f7_10, f8_10, f9_10, f10_10, f11_10, f16_10, f17_10, f48_10, f49_10, f50_10, f51_10])
        have f48_11 := fun hh => getq q48_11 hh
        have q49_11 : T11[49]? = some (.bool TH) := by subst hT; exact (by first | (simp only [↓Array.getElem?_setIfInBounds_ne, ne_eq, Nat.reduceEqDiff, not_false_eq_true, q49_10]; done) | simp [hs10, f3_10, f6_10, f7_10, f8_10, f9_10, f10_10, f11_10, f16_10, f17_10, f48_10, f49_10, f50_10, f51_10])
        have f49_11 := fun hh => getq q49_11 hh
        have q50_11 : T11[50]? = some (.bool IS) := by subst hT; exact (by first | (simp only [↓Array.getElem?_setIfInBounds_ne, ne_eq, Nat.reduceEqDiff, not_false_eq_true, q50_10]; done) | simp [hs10, f3_10, f6_10, f7_10, f8_10, f9_10, f10_10, f11_10, f16_10, f17_10, f48_10, f49_10, f50_10, f51_10])
        have f50_11 := fun hh => getq q50_11 hh
        have q51_11 : T11[51]? = some (.bool TH) := by subst hT; exact (by first | (simp only [↓Array.getElem?_setIfInBounds_ne, ne_eq, Nat.reduceEqDiff, not_false_eq_true, q51_10]; done) | simp [hs10, f3_10, f6_10, f7_10, f8_10, f9_10, f10_10, f11_10, f16_10, f17_10, f48_10, f49_10, f50_10, f51_10])
        have f51_11 := fun hh => getq q51_11 hh
        have q52_11 : T11[52]? = some (.int .i64 s1) := by subst hT; exact (by first | (simp only [↓Array.getElem?_setIfInBounds_ne, ne_eq, Nat.reduceEqDiff, not_false_eq_true]; done) | simp [hs10, f3_10, f6_10, f7_10, f8_10, f9_10, f10_10, f11_10, f16_10, f17_10, f48_10, f49_10, f50_10, f51_10])
        have f52_11 := fun hh => getq q52_11 hh
        have q53_11 : T11[53]? = some (.int .i64 s2) := by subst hT; exact (by first | (simp only [↓Array.getElem?_setIfInBounds_ne, ne_eq, Nat.reduceEqDiff, not_false_eq_true]; done) | simp [hs10, f3_10, f6_10, f7_10, f8_10, f9_10, f10_10, f11_10, f16_10, f17_10, f48_10, f49_10, f50_10, f51_10])
        have f53_11 := fun hh => getq q53_11 hh
        have q54_11 : T11[54]? = some (.bool FI) := by subst hT; exact (by first | (simp only [↓Array.getElem?_setIfInBounds_ne, ne_eq, Nat.reduceEqDiff, not_false_eq_true]; done) | simp [hs10, f3_10, f6_10, f7_10, f8_10, f9_10, f10_10, f11_10, f16_10, f17_10, f48_10, f49_10, f50_10, f51_10])
        have f54_11 := fun hh => getq q54_11 hh
        have q55_11 : T11[55]? = some (.int .i64 s1) := by subst hT; exact (by first | (simp only [↓Array.getElem?_setIfInBounds_ne, ne_eq, Nat.reduceEqDiff, not_false_eq_true]; done) | simp [hs10, f3_10, f6_10, f7_10, f8_10, f9_10, f10_10, f11_10, f16_10, f17_10, f48_10, f49_10, f50_10, f51_10])
        have f55_11 := fun hh => getq q55_11 hh
        have q56_11 : T11[56]? = some (.int .i64 s2) := by subst hT; exact (by first | (simp only [↓Array.getElem?_setIfInBounds_ne, ne_eq, Nat.reduceEqDiff, not_false_eq_true]; done) | simp [hs10, f3_10, f6_10, f7_10, f8_10, f9_10, f10_10, f11_10, f16_10, f17_10, f48_10, f49_10, f50_10, f51_10])
        have f56_11 := fun hh => getq q56_11 hh
        have q57_11 : T11[57]? = some (.bool FI) := by subst hT; exact (by first | (simp only [↓Array.getElem?_setIfInBounds_ne, ne_eq, Nat.reduceEqDiff, not_false_eq_true]; done) | simp [hs10, f3_10, f6_10, f7_10, f8_10, f9_10, f10_10, f11_10, f16_10, f17_10, f48_10, f49_10, f50_10, f51_10])
        have f57_11 := fun hh => getq q57_11 hh
        clear hT f51_10 f50_10 f49_10 f48_10 f17_10 f16_10 f11_10 f10_10 f9_10 f8_10 f7_10 f6_10 f3_10 hs10 q3_10 q6_10 q7_10 q8_10 q9_10 q10_10 q11_10 q16_10 q17_10 q48_10 q49_10 q50_10 q51_10
        go_wp2_with fail
        refine ((HE1 _).out).mono ?_
        rintro e w105 ⟨rfl, hb_⟩
        have HFw105 := Lib.hid (Four.after HFw104.out hb_)
        clear hb_ hz c00 c01 c02 c10 c11 c12 c20 c21 c22 c30 c31 c32
        obtain ⟨c00, c01, c02, c10, c11, c12, c20, c21, c22, c30, c31, c32, hz, hbl⟩ := HFw105.out
        clear hbl
        go_wp2_with fail
        refine ((HE2 _).out).mono ?_
        rintro e w106 ⟨rfl, hb_⟩
        have HFw106 := Lib.hid (Four.after HFw105.out hb_)
        clear hb_ hz c00 c01 c02 c10 c11 c12 c20 c21 c22 c30 c31 c32
        obtain ⟨c00, c01, c02, c10, c11, c12, c20, c21, c22, c30, c31, c32, hz, hbl⟩ := HFw106.out
        clear hbl
        go_upto_region 24 with fail
        refine reframe fun T12 hT => ?_
        have hs12 : T12.size = 626 := by subst hT; simp [hs11]
        have q3_12 : T12[3]? = some (.int .i64 hi) := by subst hT; exact (by first | (simp only [↓Array.getElem?_setIfInBounds_ne, ne_eq, Nat.reduceEqDiff, not_false_eq_true, q3_11]; done) | simp [hs11, f3_11, f6_11, f7_11, f8_11, f9_11, f10_11, f11_11, f16_11, f17_11, f48_11, f49_11, f50_11, f51_11, f52_11, f53_11, f54_11, f55_11, f56_11, f57_11])
        have f3_12 := fun hh => getq q3_12 hh
        have q6_12 : T12[6]? = some (.int .i64 m) := by subst hT; exact (by first | (simp only [↓Array.getElem?_setIfInBounds_ne, ne_eq, Nat.reduceEqDiff, not_false_eq_true, q6_11]; done) | simp [hs11, f3_11, f6_11, f7_11, f8_11, f9_11, f10_11, f11_11, f16_11, f17_11, f48_11, f49_11, f50_11, f51_11, f52_11, f53_11, f54_11, f55_11, f56_11, f57_11])
        have f6_12 := fun hh => getq q6_12 hh
        have q7_12 : T12[7]? = some (.int .i64 a) := by subst hT; exact (by first | (simp only [↓Array.getElem?_setIfInBounds_ne, ne_eq, Nat.reduceEqDiff, not_false_eq_true, q7_11]; done) | simp [hs11, f3_11, f6_11, f7_11, f8_11, f9_11, f10_11, f11_11, f16_11, f17_11, f48_11, f49_11, f50_11, f51_11, f52_11, f53_11, f54_11, f55_11, f56_11, f57_11])
        have f7_12 := fun hh => getq q7_12 hh
        have q8_12 : T12[8]? = some (.int .i64 L) := by subst hT; exact (by first | (simp only [↓Array.getElem?_setIfInBounds_ne, ne_eq, Nat.reduceEqDiff, not_false_eq_true, q8_11]; done) | simp [hs11, f3_11, f6_11, f7_11, f8_11, f9_11, f10_11, f11_11, f16_11, f17_11, f48_11, f49_11, f50_11, f51_11, f52_11, f53_11, f54_11, f55_11, f56_11, f57_11])
        have f8_12 := fun hh => getq q8_12 hh
        have q9_12 : T12[9]? = some (.int .i64 R) := by subst hT; exact (by first | (simp only [↓Array.getElem?_setIfInBounds_ne, ne_eq, Nat.reduceEqDiff, not_false_eq_true, q9_11]; done) | simp [hs11, f3_11, f6_11, f7_11, f8_11, f9_11, f10_11, f11_11, f16_11, f17_11, f48_11, f49_11, f50_11, f51_11, f52_11, f53_11, f54_11, f55_11, f56_11, f57_11])
        have f9_12 := fun hh => getq q9_12 hh
        have q10_12 : T12[10]? = some (.int .i64 x) := by subst hT; exact (by first | (simp only [↓Array.getElem?_setIfInBounds_ne, ne_eq, Nat.reduceEqDiff, not_false_eq_true, q10_11]; done) | simp [hs11, f3_11, f6_11, f7_11, f8_11, f9_11, f10_11, f11_11, f16_11, f17_11, f48_11, f49_11, f50_11, f51_11, f52_11, f53_11, f54_11, f55_11, f56_11, f57_11])
        have f10_12 := fun hh => getq q10_12 hh
        have q11_12 : T12[11]? = some (.int .i64 v) := by subst hT; exact (by first | (simp only [↓Array.getElem?_setIfInBounds_ne, ne_eq, Nat.reduceEqDiff, not_false_eq_true, q11_11]; done) | simp [hs11, f3_11, f6_11, f7_11, f8_11, f9_11, f10_11, f11_11, f16_11, f17_11, f48_11, f49_11, f50_11, f51_11, f52_11, f53_11, f54_11, f55_11, f56_11, f57_11])
        have f11_12 := fun hh => getq q11_12 hh
        have q16_12 : T12[16]? = some (.pointer (some ⟨w.heap.size + 1 + 1, 0, none⟩)) := by subst hT; exact (by first | (simp only [↓Array.getElem?_setIfInBounds_ne, ne_eq, Nat.reduceEqDiff, not_false_eq_true, q16_11]; done) | simp [hs11, f3_11, f6_11, f7_11, f8_11, f9_11, f10_11, f11_11, f16_11, f17_11, f48_11, f49_11, f50_11, f51_11, f52_11, f53_11, f54_11, f55_11, f56_11, f57_11])
        have f16_12 := fun hh => getq q16_12 hh
        have q17_12 : T12[17]? = some (.pointer (some ⟨w.heap.size + 1 + 1 + 1, 0, none⟩)) := by subst hT; exact (by first | (simp only [↓Array.getElem?_setIfInBounds_ne, ne_eq, Nat.reduceEqDiff, not_false_eq_true, q17_11]; done) | simp [hs11, f3_11, f6_11, f7_11, f8_11, f9_11, f10_11, f11_11, f16_11, f17_11, f48_11, f49_11, f50_11, f51_11, f52_11, f53_11, f54_11, f55_11, f56_11, f57_11])
        have f17_12 := fun hh => getq q17_12 hh
        have q48_12 : T12[48]? = some (.bool IS) := by subst hT; exact (by first | (simp only [↓Array.getElem?_setIfInBounds_ne, ne_eq, Nat.reduceEqDiff, not_false_eq_true, q48_11]; done) | simp [hs11, f3_11, f6_11, f7_11, f8_11, f9_11, f10_11, f11_11, f16_11, f17_11, f48_11, f49_11, f50_11, f51_11, f52_11, f53_11, f54_11, f55_11, f56_11, f57_11])
        have f48_12 := fun hh => getq q48_12 hh
        have q49_12 : T12[49]? = some (.bool TH) := by subst hT; exact (by first | (simp only [↓Array.getElem?_setIfInBounds_ne, ne_eq, Nat.reduceEqDiff, not_false_eq_true, q49_11]; done) | simp [hs11, f3_11, f6_11, f7_11, f8_11, f9_11, f10_11, f11_11, f16_11, f17_11, f48_11, f49_11, f50_11, f51_11, f52_11, f53_11, f54_11, f55_11, f56_11, f57_11])
        have f49_12 := fun hh => getq q49_12 hh
        have q50_12 : T12[50]? = some (.bool IS) := by subst hT; exact (by first | (simp only [↓Array.getElem?_setIfInBounds_ne, ne_eq, Nat.reduceEqDiff, not_false_eq_true, q50_11]; done) | simp [hs11, f3_11, f6_11, f7_11, f8_11, f9_11, f10_11, f11_11, f16_11, f17_11, f48_11, f49_11, f50_11, f51_11, f52_11, f53_11, f54_11, f55_11, f56_11, f57_11])
        have f50_12 := fun hh => getq q50_12 hh
        have q51_12 : T12[51]? = some (.bool TH) := by subst hT; exact (by first | (simp only [↓Array.getElem?_setIfInBounds_ne, ne_eq, Nat.reduceEqDiff, not_false_eq_true, q51_11]; done) | simp [hs11, f3_11, f6_11, f7_11, f8_11, f9_11, f10_11, f11_11, f16_11, f17_11, f48_11, f49_11, f50_11, f51_11, f52_11, f53_11, f54_11, f55_11, f56_11, f57_11])
        have f51_12 := fun hh => getq q51_12 hh
        have q52_12 : T12[52]? = some (.int .i64 s1) := by subst hT; exact (by first | (simp only [↓Array.getElem?_setIfInBounds_ne, ne_eq, Nat.reduceEqDiff, not_false_eq_true, q52_11]; done) | simp [hs11, f3_11, f6_11, f7_11, f8_11, f9_11, f10_11, f11_11, f16_11, f17_11, f48_11, f49_11, f50_11, f51_11, f52_11, f53_11, f54_11, f55_11, f56_11, f57_11])
        have f52_12 := fun hh => getq q52_12 hh
        have q53_12 : T12[53]? = some (.int .i64 s2) := by subst hT; exact (by first | (simp only [↓Array.getElem?_setIfInBounds_ne, ne_eq, Nat.reduceEqDiff, not_false_eq_true, q53_11]; done) | simp [hs11, f3_11, f6_11, f7_11, f8_11, f9_11, f10_11, f11_11, f16_11, f17_11, f48_11, f49_11, f50_11, f51_11, f52_11, f53_11, f54_11, f55_11, f56_11, f57_11])
        have f53_12 := fun hh => getq q53_12 hh
        have q54_12 : T12[54]? = some (.bool FI) := by subst hT; exact (by first | (simp only [↓Array.getElem?_setIfInBounds_ne, ne_eq, Nat.reduceEqDiff, not_false_eq_true, q54_11]; done) | simp [hs11, f3_11, f6_11, f7_11, f8_11, f9_11, f10_11, f11_11, f16_11, f17_11, f48_11, f49_11, f50_11, f51_11, f52_11, f53_11, f54_11, f55_11, f56_11, f57_11])
        have f54_12 := fun hh => getq q54_12 hh
        have q55_12 : T12[55]? = some (.int .i64 s1) := by subst hT; exact (by first | (simp only [↓Array.getElem?_setIfInBounds_ne, ne_eq, Nat.reduceEqDiff, not_false_eq_true, q55_11]; done) | simp [hs11, f3_11, f6_11, f7_11, f8_11, f9_11, f10_11, f11_11, f16_11, f17_11, f48_11, f49_11, f50_11, f51_11, f52_11, f53_11, f54_11, f55_11, f56_11, f57_11])
        have f55_12 := fun hh => getq q55_12 hh
        have q56_12 : T12[56]? = some (.int .i64 s2) := by subst hT; exact (by first | (simp only [↓Array.getElem?_setIfInBounds_ne, ne_eq, Nat.reduceEqDiff, not_false_eq_true, q56_11]; done) | simp [hs11, f3_11, f6_11, f7_11, f8_11, f9_11, f10_11, f11_11, f16_11, f17_11, f48_11, f49_11, f50_11, f51_11, f52_11, f53_11, f54_11, f55_11, f56_11, f57_11])
        have f56_12 := fun hh => getq q56_12 hh
        have q57_12 : T12[57]? = some (.bool FI) := by subst hT; exact (by first | (simp only [↓Array.getElem?_setIfInBounds_ne, ne_eq, Nat.reduceEqDiff, not_false_eq_true, q57_11]; done) | simp [hs11, f3_11, f6_11, f7_11, f8_11, f9_11, f10_11, f11_11, f16_11, f17_11, f48_11, f49_11, f50_11, f51_11, f52_11, f53_11, f54_11, f55_11, f56_11, f57_11])
        have f57_12 := fun hh => getq q57_12 hh
        have q58_12 : T12[58]? = some (.int .i64 e1) := by subst hT; exact (by first | (simp only [↓Array.getElem?_setIfInBounds_ne, ne_eq, Nat.reduceEqDiff, not_false_eq_true]; done) | simp [hs11, f3_11, f6_11, f7_11, f8_11, f9_11, f10_11, f11_11, f16_11, f17_11, f48_11, f49_11, f50_11, f51_11, f52_11, f53_11, f54_11, f55_11, f56_11, f57_11])
        have f58_12 := fun hh => getq q58_12 hh
        have q59_12 : T12[59]? = some (.int .i64 e2) := by subst hT; exact (by first | (simp only [↓Array.getElem?_setIfInBounds_ne, ne_eq, Nat.reduceEqDiff, not_false_eq_true]; done) | simp [hs11, f3_11, f6_11, f7_11, f8_11, f9_11, f10_11, f11_11, f16_11, f17_11, f48_11, f49_11, f50_11, f51_11, f52_11, f53_11, f54_11, f55_11, f56_11, f57_11])
        have f59_12 := fun hh => getq q59_12 hh
        have q60_12 : T12[60]? = some (.bool SE) := by subst hT; exact (by first | (simp only [↓Array.getElem?_setIfInBounds_ne, ne_eq, Nat.reduceEqDiff, not_false_eq_true]; done) | simp [hs11, f3_11, f6_11, f7_11, f8_11, f9_11, f10_11, f11_11, f16_11, f17_11, f48_11, f49_11, f50_11, f51_11, f52_11, f53_11, f54_11, f55_11, f56_11, f57_11])
        have f60_12 := fun hh => getq q60_12 hh
        have q61_12 : T12[61]? = some (.int .i64 e1) := by subst hT; exact (by first | (simp only [↓Array.getElem?_setIfInBounds_ne, ne_eq, Nat.reduceEqDiff, not_false_eq_true]; done) | simp [hs11, f3_11, f6_11, f7_11, f8_11, f9_11, f10_11, f11_11, f16_11, f17_11, f48_11, f49_11, f50_11, f51_11, f52_11, f53_11, f54_11, f55_11, f56_11, f57_11])
        have f61_12 := fun hh => getq q61_12 hh
        have q62_12 : T12[62]? = some (.int .i64 e2) := by subst hT; exact (by first | (simp only [↓Array.getElem?_setIfInBounds_ne, ne_eq, Nat.reduceEqDiff, not_false_eq_true]; done) | simp [hs11, f3_11, f6_11, f7_11, f8_11, f9_11, f10_11, f11_11, f16_11, f17_11, f48_11, f49_11, f50_11, f51_11, f52_11, f53_11, f54_11, f55_11, f56_11, f57_11])
        have f62_12 := fun hh => getq q62_12 hh
        have q63_12 : T12[63]? = some (.bool SE) := by subst hT; exact (by first | (simp only [↓Array.getElem?_setIfInBounds_ne, ne_eq, Nat.reduceEqDiff, not_false_eq_true]; done) | simp [hs11, f3_11, f6_11, f7_11, f8_11, f9_11, f10_11, f11_11, f16_11, f17_11, f48_11, f49_11, f50_11, f51_11, f52_11, f53_11, f54_11, f55_11, f56_11, f57_11])
        have f63_12 := fun hh => getq q63_12 hh
        clear hT f57_11 f56_11 f55_11 f54_11 f53_11 f52_11 f51_11 f50_11 f49_11 f48_11 f17_11 f16_11 f11_11 f10_11 f9_11 f8_11 f7_11 f6_11 f3_11 hs11 q3_11 q6_11 q7_11 q8_11 q9_11 q10_11 q11_11 q16_11 q17_11 q48_11 q49_11 q50_11 q51_11 q52_11 q53_11 q54_11 q55_11 q56_11 q57_11
        go_wp2_with fail
        refine ((HN1 _).out).mono ?_
        rintro e w107 ⟨rfl, hb_⟩
        have HFw107 := Lib.hid (Four.after HFw106.out hb_)
        clear hb_ hz c00 c01 c02 c10 c11 c12 c20 c21 c22 c30 c31 c32
        obtain ⟨c00, c01, c02, c10, c11, c12, c20, c21, c22, c30, c31, c32, hz, hbl⟩ := HFw107.out
        clear hbl
        go_wp2_with fail
        refine ((HN2 _).out).mono ?_
        rintro e w108 ⟨rfl, hb_⟩
        have HFw108 := Lib.hid (Four.after HFw107.out hb_)
        clear hb_ hz c00 c01 c02 c10 c11 c12 c20 c21 c22 c30 c31 c32
        obtain ⟨c00, c01, c02, c10, c11, c12, c20, c21, c22, c30, c31, c32, hz, hbl⟩ := HFw108.out
        clear hbl
        go_upto_region 26 with fail
        refine reframe fun T13 hT => ?_
        have hs13 : T13.size = 626 := by subst hT; simp [hs12]
        have q3_13 : T13[3]? = some (.int .i64 hi) := by subst hT; exact (by first | (simp only [↓Array.getElem?_setIfInBounds_ne, ne_eq, Nat.reduceEqDiff, not_false_eq_true, q3_12]; done) | simp [hs12, f3_12, f6_12, f7_12, f8_12, f9_12, f10_12, f11_12, f16_12, f17_12, f48_12, f49_12, f50_12, f51_12, f52_12, f53_12, f54_12, f55_12, f56_12, f57_12, f58_12, f59_12, f60_12, f61_12, f62_12, f63_12])
        have f3_13 := fun hh => getq q3_13 hh
        have q6_13 : T13[6]? = some (.int .i64 m) := by subst hT; exact (by first | (simp only [↓Array.getElem?_setIfInBounds_ne, ne_eq, Nat.reduceEqDiff, not_false_eq_true, q6_12]; done) | simp [hs12, f3_12, f6_12, f7_12, f8_12, f9_12, f10_12, f11_12, f16_12, f17_12, f48_12, f49_12, f50_12, f51_12, f52_12, f53_12, f54_12, f55_12, f56_12, f57_12, f58_12, f59_12, f60_12, f61_12, f62_12, f63_12])
        have f6_13 := fun hh => getq q6_13 hh
        have q7_13 : T13[7]? = some (.int .i64 a) := by subst hT; exact (by first | (simp only [↓Array.getElem?_setIfInBounds_ne, ne_eq, Nat.reduceEqDiff, not_false_eq_true, q7_12]; done) | simp [hs12, f3_12, f6_12, f7_12, f8_12, f9_12, f10_12, f11_12, f16_12, f17_12, f48_12, f49_12, f50_12, f51_12, f52_12, f53_12, f54_12, f55_12, f56_12, f57_12, f58_12, f59_12, f60_12, f61_12, f62_12, f63_12])
        have f7_13 := fun hh => getq q7_13 hh
        have q8_13 : T13[8]? = some (.int .i64 L) := by subst hT; exact (by first | (simp only [↓Array.getElem?_setIfInBounds_ne, ne_eq, Nat.reduceEqDiff, not_false_eq_true, q8_12]; done) | simp [hs12, f3_12, f6_12, f7_12, f8_12, f9_12, f10_12, f11_12, f16_12, f17_12, f48_12, f49_12, f50_12, f51_12, f52_12, f53_12, f54_12, f55_12, f56_12, f57_12, f58_12, f59_12, f60_12, f61_12, f62_12, f63_12])
        have f8_13 := fun hh => getq q8_13 hh
        have q9_13 : T13[9]? = some (.int .i64 R) := by subst hT; exact (by first | (simp only [↓Array.getElem?_setIfInBounds_ne, ne_eq, Nat.reduceEqDiff, not_false_eq_true, q9_12]; done) | simp [hs12, f3_12, f6_12, f7_12, f8_12, f9_12, f10_12, f11_12, f16_12, f17_12, f48_12, f49_12, f50_12, f51_12, f52_12, f53_12, f54_12, f55_12, f56_12, f57_12, f58_12, f59_12, f60_12, f61_12, f62_12, f63_12])
        have f9_13 := fun hh => getq q9_13 hh
        have q10_13 : T13[10]? = some (.int .i64 x) := by subst hT; exact (by first | (simp only [↓Array.getElem?_setIfInBounds_ne, ne_eq, Nat.reduceEqDiff, not_false_eq_true, q10_12]; done) | simp [hs12, f3_12, f6_12, f7_12, f8_12, f9_12, f10_12, f11_12, f16_12, f17_12, f48_12, f49_12, f50_12, f51_12, f52_12, f53_12, f54_12, f55_12, f56_12, f57_12, f58_12, f59_12, f60_12, f61_12, f62_12, f63_12])
        have f10_13 := fun hh => getq q10_13 hh
        have q11_13 : T13[11]? = some (.int .i64 v) := by subst hT; exact (by first | (simp only [↓Array.getElem?_setIfInBounds_ne, ne_eq, Nat.reduceEqDiff, not_false_eq_true, q11_12]; done) | simp [hs12, f3_12, f6_12, f7_12, f8_12, f9_12, f10_12, f11_12, f16_12, f17_12, f48_12, f49_12, f50_12, f51_12, f52_12, f53_12, f54_12, f55_12, f56_12, f57_12, f58_12, f59_12, f60_12, f61_12, f62_12, f63_12])
        have f11_13 := fun hh => getq q11_13 hh
        have q16_13 : T13[16]? = some (.pointer (some ⟨w.heap.size + 1 + 1, 0, none⟩)) := by subst hT; exact (by first | (simp only [↓Array.getElem?_setIfInBounds_ne, ne_eq, Nat.reduceEqDiff, not_false_eq_true, q16_12]; done) | simp [hs12, f3_12, f6_12, f7_12, f8_12, f9_12, f10_12, f11_12, f16_12, f17_12, f48_12, f49_12, f50_12, f51_12, f52_12, f53_12, f54_12, f55_12, f56_12, f57_12, f58_12, f59_12, f60_12, f61_12, f62_12, f63_12])
        have f16_13 := fun hh => getq q16_13 hh
        have q17_13 : T13[17]? = some (.pointer (some ⟨w.heap.size + 1 + 1 + 1, 0, none⟩)) := by subst hT; exact (by first | (simp only [↓Array.getElem?_setIfInBounds_ne, ne_eq, Nat.reduceEqDiff, not_false_eq_true, q17_12]; done) | simp [hs12, f3_12, f6_12, f7_12, f8_12, f9_12, f10_12, f11_12, f16_12, f17_12, f48_12, f49_12, f50_12, f51_12, f52_12, f53_12, f54_12, f55_12, f56_12, f57_12, f58_12, f59_12, f60_12, f61_12, f62_12, f63_12])
        have f17_13 := fun hh => getq q17_13 hh
        have q48_13 : T13[48]? = some (.bool IS) := by subst hT; exact (by first | (simp only [↓Array.getElem?_setIfInBounds_ne, ne_eq, Nat.reduceEqDiff, not_false_eq_true, q48_12]; done) | simp [hs12, f3_12, f6_12, f7_12, f8_12, f9_12, f10_12, f11_12, f16_12, f17_12, f48_12, f49_12, f50_12, f51_12, f52_12, f53_12, f54_12, f55_12, f56_12, f57_12, f58_12, f59_12, f60_12, f61_12, f62_12, f63_12])
        have f48_13 := fun hh => getq q48_13 hh
        have q49_13 : T13[49]? = some (.bool TH) := by subst hT; exact (by first | (simp only [↓Array.getElem?_setIfInBounds_ne, ne_eq, Nat.reduceEqDiff, not_false_eq_true, q49_12]; done) | simp [hs12, f3_12, f6_12, f7_12, f8_12, f9_12, f10_12, f11_12, f16_12, f17_12, f48_12, f49_12, f50_12, f51_12, f52_12, f53_12, f54_12, f55_12, f56_12, f57_12, f58_12, f59_12, f60_12, f61_12, f62_12, f63_12])
        have f49_13 := fun hh => getq q49_13 hh
        have q50_13 : T13[50]? = some (.bool IS) := by subst hT; exact (by first | (simp only [↓Array.getElem?_setIfInBounds_ne, ne_eq, Nat.reduceEqDiff, not_false_eq_true, q50_12]; done) | simp [hs12, f3_12, f6_12, f7_12, f8_12, f9_12, f10_12, f11_12, f16_12, f17_12, f48_12, f49_12, f50_12, f51_12, f52_12, f53_12, f54_12, f55_12, f56_12, f57_12, f58_12, f59_12, f60_12, f61_12, f62_12, f63_12])
        have f50_13 := fun hh => getq q50_13 hh
        have q51_13 : T13[51]? = some (.bool TH) := by subst hT; exact (by first | (simp only [↓Array.getElem?_setIfInBounds_ne, ne_eq, Nat.reduceEqDiff, not_false_eq_true, q51_12]; done) | simp [hs12, f3_12, f6_12, f7_12, f8_12, f9_12, f10_12, f11_12, f16_12, f17_12, f48_12, f49_12, f50_12, f51_12, f52_12, f53_12, f54_12, f55_12, f56_12, f57_12, f58_12, f59_12, f60_12, f61_12, f62_12, f63_12])
        have f51_13 := fun hh => getq q51_13 hh
        have q52_13 : T13[52]? = some (.int .i64 s1) := by subst hT; exact (by first | (simp only [↓Array.getElem?_setIfInBounds_ne, ne_eq, Nat.reduceEqDiff, not_false_eq_true, q52_12]; done) | simp [hs12, f3_12, f6_12, f7_12, f8_12, f9_12, f10_12, f11_12, f16_12, f17_12, f48_12, f49_12, f50_12, f51_12, f52_12, f53_12, f54_12, f55_12, f56_12, f57_12, f58_12, f59_12, f60_12, f61_12, f62_12, f63_12])
        have f52_13 := fun hh => getq q52_13 hh
        have q53_13 : T13[53]? = some (.int .i64 s2) := by subst hT; exact (by first | (simp only [↓Array.getElem?_setIfInBounds_ne, ne_eq, Nat.reduceEqDiff, not_false_eq_true, q53_12]; done) | simp [hs12, f3_12, f6_12, f7_12, f8_12, f9_12, f10_12, f11_12, f16_12, f17_12, f48_12, f49_12, f50_12, f51_12, f52_12, f53_12, f54_12, f55_12, f56_12, f57_12, f58_12, f59_12, f60_12, f61_12, f62_12, f63_12])
        have f53_13 := fun hh => getq q53_13 hh
        have q54_13 : T13[54]? = some (.bool FI) := by subst hT; exact (by first | (simp only [↓Array.getElem?_setIfInBounds_ne, ne_eq, Nat.reduceEqDiff, not_false_eq_true, q54_12]; done) | simp [hs12, f3_12, f6_12, f7_12, f8_12, f9_12, f10_12, f11_12, f16_12, f17_12, f48_12, f49_12, f50_12, f51_12, f52_12, f53_12, f54_12, f55_12, f56_12, f57_12, f58_12, f59_12, f60_12, f61_12, f62_12, f63_12])
        have f54_13 := fun hh => getq q54_13 hh
        have q55_13 : T13[55]? = some (.int .i64 s1) := by subst hT; exact (by first | (simp only [↓Array.getElem?_setIfInBounds_ne, ne_eq, Nat.reduceEqDiff, not_false_eq_true, q55_12]; done) | simp [hs12, f3_12, f6_12, f7_12, f8_12, f9_12, f10_12, f11_12, f16_12, f17_12, f48_12, f49_12, f50_12, f51_12, f52_12, f53_12, f54_12, f55_12, f56_12, f57_12, f58_12, f59_12, f60_12, f61_12, f62_12, f63_12])
        have f55_13 := fun hh => getq q55_13 hh
        have q56_13 : T13[56]? = some (.int .i64 s2) := by subst hT; exact (by first | (simp only [↓Array.getElem?_setIfInBounds_ne, ne_eq, Nat.reduceEqDiff, not_false_eq_true, q56_12]; done) | simp [hs12, f3_12, f6_12, f7_12, f8_12, f9_12, f10_12, f11_12, f16_12, f17_12, f48_12, f49_12, f50_12, f51_12, f52_12, f53_12, f54_12, f55_12, f56_12, f57_12, f58_12, f59_12, f60_12, f61_12, f62_12, f63_12])
        have f56_13 := fun hh => getq q56_13 hh
        have q57_13 : T13[57]? = some (.bool FI) := by subst hT; exact (by first | (simp only [↓Array.getElem?_setIfInBounds_ne, ne_eq, Nat.reduceEqDiff, not_false_eq_true, q57_12]; done) | simp [hs12, f3_12, f6_12, f7_12, f8_12, f9_12, f10_12, f11_12, f16_12, f17_12, f48_12, f49_12, f50_12, f51_12, f52_12, f53_12, f54_12, f55_12, f56_12, f57_12, f58_12, f59_12, f60_12, f61_12, f62_12, f63_12])
        have f57_13 := fun hh => getq q57_13 hh
        have q58_13 : T13[58]? = some (.int .i64 e1) := by subst hT; exact (by first | (simp only [↓Array.getElem?_setIfInBounds_ne, ne_eq, Nat.reduceEqDiff, not_false_eq_true, q58_12]; done) | simp [hs12, f3_12, f6_12, f7_12, f8_12, f9_12, f10_12, f11_12, f16_12, f17_12, f48_12, f49_12, f50_12, f51_12, f52_12, f53_12, f54_12, f55_12, f56_12, f57_12, f58_12, f59_12, f60_12, f61_12, f62_12, f63_12])
        have f58_13 := fun hh => getq q58_13 hh
        have q59_13 : T13[59]? = some (.int .i64 e2) := by subst hT; exact (by first | (simp only [↓Array.getElem?_setIfInBounds_ne, ne_eq, Nat.reduceEqDiff, not_false_eq_true, q59_12]; done) | simp [hs12, f3_12, f6_12, f7_12, f8_12, f9_12, f10_12, f11_12, f16_12, f17_12, f48_12, f49_12, f50_12, f51_12, f52_12, f53_12, f54_12, f55_12, f56_12, f57_12, f58_12, f59_12, f60_12, f61_12, f62_12, f63_12])
        have f59_13 := fun hh => getq q59_13 hh
        have q60_13 : T13[60]? = some (.bool SE) := by subst hT; exact (by first | (simp only [↓Array.getElem?_setIfInBounds_ne, ne_eq, Nat.reduceEqDiff, not_false_eq_true, q60_12]; done) | simp [hs12, f3_12, f6_12, f7_12, f8_12, f9_12, f10_12, f11_12, f16_12, f17_12, f48_12, f49_12, f50_12, f51_12, f52_12, f53_12, f54_12, f55_12, f56_12, f57_12, f58_12, f59_12, f60_12, f61_12, f62_12, f63_12])
        have f60_13 := fun hh => getq q60_13 hh
        have q61_13 : T13[61]? = some (.int .i64 e1) := by subst hT; exact (by first | (simp only [↓Array.getElem?_setIfInBounds_ne, ne_eq, Nat.reduceEqDiff, not_false_eq_true, q61_12]; done) | simp [hs12, f3_12, f6_12, f7_12, f8_12, f9_12, f10_12, f11_12, f16_12, f17_12, f48_12, f49_12, f50_12, f51_12, f52_12, f53_12, f54_12, f55_12, f56_12, f57_12, f58_12, f59_12, f60_12, f61_12, f62_12, f63_12])
        have f61_13 := fun hh => getq q61_13 hh
        have q62_13 : T13[62]? = some (.int .i64 e2) := by subst hT; exact (by first | (simp only [↓Array.getElem?_setIfInBounds_ne, ne_eq, Nat.reduceEqDiff, not_false_eq_true, q62_12]; done) | simp [hs12, f3_12, f6_12, f7_12, f8_12, f9_12, f10_12, f11_12, f16_12, f17_12, f48_12, f49_12, f50_12, f51_12, f52_12, f53_12, f54_12, f55_12, f56_12, f57_12, f58_12, f59_12, f60_12, f61_12, f62_12, f63_12])
        have f62_13 := fun hh => getq q62_13 hh
        have q63_13 : T13[63]? = some (.bool SE) := by subst hT; exact (by first | (simp only [↓Array.getElem?_setIfInBounds_ne, ne_eq, Nat.reduceEqDiff, not_false_eq_true, q63_12]; done) | simp [hs12, f3_12, f6_12, f7_12, f8_12, f9_12, f10_12, f11_12, f16_12, f17_12, f48_12, f49_12, f50_12, f51_12, f52_12, f53_12, f54_12, f55_12, f56_12, f57_12, f58_12, f59_12, f60_12, f61_12, f62_12, f63_12])
        have f63_13 := fun hh => getq q63_13 hh
        have q64_13 : T13[64]? = some (.int .i64 n1) := by subst hT; exact (by first | (simp only [↓Array.getElem?_setIfInBounds_ne, ne_eq, Nat.reduceEqDiff, not_false_eq_true]; done) | simp [hs12, f3_12, f6_12, f7_12, f8_12, f9_12, f10_12, f11_12, f16_12, f17_12, f48_12, f49_12, f50_12, f51_12, f52_12, f53_12, f54_12, f55_12, f56_12, f57_12, f58_12, f59_12, f60_12, f61_12, f62_12, f63_12])
        have f64_13 := fun hh => getq q64_13 hh
        have q65_13 : T13[65]? = some (.int .i64 n2) := by subst hT; exact (by first | (simp only [↓Array.getElem?_setIfInBounds_ne, ne_eq, Nat.reduceEqDiff, not_false_eq_true]; done) | simp [hs12, f3_12, f6_12, f7_12, f8_12, f9_12, f10_12, f11_12, f16_12, f17_12, f48_12, f49_12, f50_12, f51_12, f52_12, f53_12, f54_12, f55_12, f56_12, f57_12, f58_12, f59_12, f60_12, f61_12, f62_12, f63_12])
        have f65_13 := fun hh => getq q65_13 hh
        have q66_13 : T13[66]? = some (.bool NI) := by subst hT; exact (by first | (simp only [↓Array.getElem?_setIfInBounds_ne, ne_eq, Nat.reduceEqDiff, not_false_eq_true]; done) | simp [hs12, f3_12, f6_12, f7_12, f8_12, f9_12, f10_12, f11_12, f16_12, f17_12, f48_12, f49_12, f50_12, f51_12, f52_12, f53_12, f54_12, f55_12, f56_12, f57_12, f58_12, f59_12, f60_12, f61_12, f62_12, f63_12])
        have f66_13 := fun hh => getq q66_13 hh
        have q67_13 : T13[67]? = some (.int .i64 n1) := by subst hT; exact (by first | (simp only [↓Array.getElem?_setIfInBounds_ne, ne_eq, Nat.reduceEqDiff, not_false_eq_true]; done) | simp [hs12, f3_12, f6_12, f7_12, f8_12, f9_12, f10_12, f11_12, f16_12, f17_12, f48_12, f49_12, f50_12, f51_12, f52_12, f53_12, f54_12, f55_12, f56_12, f57_12, f58_12, f59_12, f60_12, f61_12, f62_12, f63_12])
        have f67_13 := fun hh => getq q67_13 hh
        have q68_13 : T13[68]? = some (.int .i64 n2) := by subst hT; exact (by first | (simp only [↓Array.getElem?_setIfInBounds_ne, ne_eq, Nat.reduceEqDiff, not_false_eq_true]; done) | simp [hs12, f3_12, f6_12, f7_12, f8_12, f9_12, f10_12, f11_12, f16_12, f17_12, f48_12, f49_12, f50_12, f51_12, f52_12, f53_12, f54_12, f55_12, f56_12, f57_12, f58_12, f59_12, f60_12, f61_12, f62_12, f63_12])
        have f68_13 := fun hh => getq q68_13 hh
        have q69_13 : T13[69]? = some (.bool NI) := by subst hT; exact (by first | (simp only [↓Array.getElem?_setIfInBounds_ne, ne_eq, Nat.reduceEqDiff, not_false_eq_true]; done) | simp [hs12, f3_12, f6_12, f7_12, f8_12, f9_12, f10_12, f11_12, f16_12, f17_12, f48_12, f49_12, f50_12, f51_12, f52_12, f53_12, f54_12, f55_12, f56_12, f57_12, f58_12, f59_12, f60_12, f61_12, f62_12, f63_12])
        have f69_13 := fun hh => getq q69_13 hh
        clear hT f63_12 f62_12 f61_12 f60_12 f59_12 f58_12 f57_12 f56_12 f55_12 f54_12 f53_12 f52_12 f51_12 f50_12 f49_12 f48_12 f17_12 f16_12 f11_12 f10_12 f9_12 f8_12 f7_12 f6_12 f3_12 hs12 q3_12 q6_12 q7_12 q8_12 q9_12 q10_12 q11_12 q16_12 q17_12 q48_12 q49_12 q50_12 q51_12 q52_12 q53_12 q54_12 q55_12 q56_12 q57_12 q58_12 q59_12 q60_12 q61_12 q62_12 q63_12
        clear HI1 HI2 HS1 HS2 HE1 HE2 HN1 HN2
        refine wp_cut (fun a' wx => ∃ T : Array Value, a' = ⟨T, []⟩ ∧ T.size = 626 ∧ T[3]? = some (.int .i64 hi) ∧ T[6]? = some (.int .i64 m) ∧ T[7]? = some (.int .i64 a) ∧ T[8]? = some (.int .i64 L) ∧ T[9]? = some (.int .i64 R) ∧ T[10]? = some (.int .i64 x) ∧ T[11]? = some (.int .i64 v) ∧ T[16]? = some (.pointer (some ⟨w.heap.size + 1 + 1, 0, none⟩)) ∧ T[17]? = some (.pointer (some ⟨w.heap.size + 1 + 1 + 1, 0, none⟩)) ∧ T[48]? = some (.bool IS) ∧ T[49]? = some (.bool TH) ∧ T[52]? = some (.int .i64 s1) ∧ T[53]? = some (.int .i64 s2) ∧ T[54]? = some (.bool FI) ∧ T[58]? = some (.int .i64 e1) ∧ T[59]? = some (.int .i64 e2) ∧ T[60]? = some (.bool SE) ∧ T[64]? = some (.int .i64 n1) ∧ T[65]? = some (.int .i64 n2) ∧ T[66]? = some (.bool NI) ∧ T[468]? = some (.bool false) ∧ Four w h p s j q t ch cp cs dh dp ds wx) ?rest4 ?first4
        case first4 =>
          intro J K' hJ hK
          clear FE FF FG FN
          cases FI <;> cases SE <;> cases NI <;> first | (exact absurd (HFS rfl) (by decide)) | (exact absurd (HSN rfl) (by decide)) | (go_wp2_with fail; refine Met.intro (hJ _ _ ⟨_, rfl, by simp [hs13], by first | (simp only [↓Array.getElem?_setIfInBounds_ne, ne_eq, Nat.reduceEqDiff, not_false_eq_true, q3_13]; done) | simp [hs13, f3_13, f6_13, f7_13, f8_13, f9_13, f10_13, f11_13, f16_13, f17_13, f48_13, f49_13, f50_13, f51_13, f52_13, f53_13, f54_13, f55_13, f56_13, f57_13, f58_13, f59_13, f60_13, f61_13, f62_13, f63_13, f64_13, f65_13, f66_13, f67_13, f68_13, f69_13], by first | (simp only [↓Array.getElem?_setIfInBounds_ne, ne_eq, Nat.reduceEqDiff, not_false_eq_true, q6_13]; done) | simp [hs13, f3_13, f6_13, f7_13, f8_13, f9_13, f10_13, f11_13, f16_13, f17_13, f48_13, f49_13, f50_13, f51_13, f52_13, f53_13, f54_13, f55_13, f56_13, f57_13, f58_13, f59_13, f60_13, f61_13, f62_13, f63_13, f64_13, f65_13, f66_13, f67_13, f68_13, f69_13], by first | (simp only [↓Array.getElem?_setIfInBounds_ne, ne_eq, Nat.reduceEqDiff, not_false_eq_true, q7_13]; done) | simp [hs13, f3_13, f6_13, f7_13, f8_13, f9_13, f10_13, f11_13, f16_13, f17_13, f48_13, f49_13, f50_13, f51_13, f52_13, f53_13, f54_13, f55_13, f56_13, f57_13, f58_13, f59_13, f60_13, f61_13, f62_13, f63_13, f64_13, f65_13, f66_13, f67_13, f68_13, f69_13], by first | (simp only [↓Array.getElem?_setIfInBounds_ne, ne_eq, Nat.reduceEqDiff, not_false_eq_true, q8_13]; done) | simp [hs13, f3_13, f6_13, f7_13, f8_13, f9_13, f10_13, f11_13, f16_13, f17_13, f48_13, f49_13, f50_13, f51_13, f52_13, f53_13, f54_13, f55_13, f56_13, f57_13, f58_13, f59_13, f60_13, f61_13, f62_13, f63_13, f64_13, f65_13, f66_13, f67_13, f68_13, f69_13], by first | (simp only [↓Array.getElem?_setIfInBounds_ne, ne_eq, Nat.reduceEqDiff, not_false_eq_true, q9_13]; done) | simp [hs13, f3_13, f6_13, f7_13, f8_13, f9_13, f10_13, f11_13, f16_13, f17_13, f48_13, f49_13, f50_13, f51_13, f52_13, f53_13, f54_13, f55_13, f56_13, f57_13, f58_13, f59_13, f60_13, f61_13, f62_13, f63_13, f64_13, f65_13, f66_13, f67_13, f68_13, f69_13], by first | (simp only [↓Array.getElem?_setIfInBounds_ne, ne_eq, Nat.reduceEqDiff, not_false_eq_true, q10_13]; done) | simp [hs13, f3_13, f6_13, f7_13, f8_13, f9_13, f10_13, f11_13, f16_13, f17_13, f48_13, f49_13, f50_13, f51_13, f52_13, f53_13, f54_13, f55_13, f56_13, f57_13, f58_13, f59_13, f60_13, f61_13, f62_13, f63_13, f64_13, f65_13, f66_13, f67_13, f68_13, f69_13], by first | (simp only [↓Array.getElem?_setIfInBounds_ne, ne_eq, Nat.reduceEqDiff, not_false_eq_true, q11_13]; done) | simp [hs13, f3_13, f6_13, f7_13, f8_13, f9_13, f10_13, f11_13, f16_13, f17_13, f48_13, f49_13, f50_13, f51_13, f52_13, f53_13, f54_13, f55_13, f56_13, f57_13, f58_13, f59_13, f60_13, f61_13, f62_13, f63_13, f64_13, f65_13, f66_13, f67_13, f68_13, f69_13], by first | (simp only [↓Array.getElem?_setIfInBounds_ne, ne_eq, Nat.reduceEqDiff, not_false_eq_true, q16_13]; done) | simp [hs13, f3_13, f6_13, f7_13, f8_13, f9_13, f10_13, f11_13, f16_13, f17_13, f48_13, f49_13, f50_13, f51_13, f52_13, f53_13, f54_13, f55_13, f56_13, f57_13, f58_13, f59_13, f60_13, f61_13, f62_13, f63_13, f64_13, f65_13, f66_13, f67_13, f68_13, f69_13], by first | (simp only [↓Array.getElem?_setIfInBounds_ne, ne_eq, Nat.reduceEqDiff, not_false_eq_true, q17_13]; done) | simp [hs13, f3_13, f6_13, f7_13, f8_13, f9_13, f10_13, f11_13, f16_13, f17_13, f48_13, f49_13, f50_13, f51_13, f52_13, f53_13, f54_13, f55_13, f56_13, f57_13, f58_13, f59_13, f60_13, f61_13, f62_13, f63_13, f64_13, f65_13, f66_13, f67_13, f68_13, f69_13], by first | (simp only [↓Array.getElem?_setIfInBounds_ne, ne_eq, Nat.reduceEqDiff, not_false_eq_true, q48_13]; done) | simp [hs13, f3_13, f6_13, f7_13, f8_13, f9_13, f10_13, f11_13, f16_13, f17_13, f48_13, f49_13, f50_13, f51_13, f52_13, f53_13, f54_13, f55_13, f56_13, f57_13, f58_13, f59_13, f60_13, f61_13, f62_13, f63_13, f64_13, f65_13, f66_13, f67_13, f68_13, f69_13], by first | (simp only [↓Array.getElem?_setIfInBounds_ne, ne_eq, Nat.reduceEqDiff, not_false_eq_true, q49_13]; done) | simp [hs13, f3_13, f6_13, f7_13, f8_13, f9_13, f10_13, f11_13, f16_13, f17_13, f48_13, f49_13, f50_13, f51_13, f52_13, f53_13, f54_13, f55_13, f56_13, f57_13, f58_13, f59_13, f60_13, f61_13, f62_13, f63_13, f64_13, f65_13, f66_13, f67_13, f68_13, f69_13], by first | (simp only [↓Array.getElem?_setIfInBounds_ne, ne_eq, Nat.reduceEqDiff, not_false_eq_true, q52_13]; done) | simp [hs13, f3_13, f6_13, f7_13, f8_13, f9_13, f10_13, f11_13, f16_13, f17_13, f48_13, f49_13, f50_13, f51_13, f52_13, f53_13, f54_13, f55_13, f56_13, f57_13, f58_13, f59_13, f60_13, f61_13, f62_13, f63_13, f64_13, f65_13, f66_13, f67_13, f68_13, f69_13], by first | (simp only [↓Array.getElem?_setIfInBounds_ne, ne_eq, Nat.reduceEqDiff, not_false_eq_true, q53_13]; done) | simp [hs13, f3_13, f6_13, f7_13, f8_13, f9_13, f10_13, f11_13, f16_13, f17_13, f48_13, f49_13, f50_13, f51_13, f52_13, f53_13, f54_13, f55_13, f56_13, f57_13, f58_13, f59_13, f60_13, f61_13, f62_13, f63_13, f64_13, f65_13, f66_13, f67_13, f68_13, f69_13], by first | (simp only [↓Array.getElem?_setIfInBounds_ne, ne_eq, Nat.reduceEqDiff, not_false_eq_true, q54_13]; done) | simp [hs13, f3_13, f6_13, f7_13, f8_13, f9_13, f10_13, f11_13, f16_13, f17_13, f48_13, f49_13, f50_13, f51_13, f52_13, f53_13, f54_13, f55_13, f56_13, f57_13, f58_13, f59_13, f60_13, f61_13, f62_13, f63_13, f64_13, f65_13, f66_13, f67_13, f68_13, f69_13], by first | (simp only [↓Array.getElem?_setIfInBounds_ne, ne_eq, Nat.reduceEqDiff, not_false_eq_true, q58_13]; done) | simp [hs13, f3_13, f6_13, f7_13, f8_13, f9_13, f10_13, f11_13, f16_13, f17_13, f48_13, f49_13, f50_13, f51_13, f52_13, f53_13, f54_13, f55_13, f56_13, f57_13, f58_13, f59_13, f60_13, f61_13, f62_13, f63_13, f64_13, f65_13, f66_13, f67_13, f68_13, f69_13], by first | (simp only [↓Array.getElem?_setIfInBounds_ne, ne_eq, Nat.reduceEqDiff, not_false_eq_true, q59_13]; done) | simp [hs13, f3_13, f6_13, f7_13, f8_13, f9_13, f10_13, f11_13, f16_13, f17_13, f48_13, f49_13, f50_13, f51_13, f52_13, f53_13, f54_13, f55_13, f56_13, f57_13, f58_13, f59_13, f60_13, f61_13, f62_13, f63_13, f64_13, f65_13, f66_13, f67_13, f68_13, f69_13], by first | (simp only [↓Array.getElem?_setIfInBounds_ne, ne_eq, Nat.reduceEqDiff, not_false_eq_true, q60_13]; done) | simp [hs13, f3_13, f6_13, f7_13, f8_13, f9_13, f10_13, f11_13, f16_13, f17_13, f48_13, f49_13, f50_13, f51_13, f52_13, f53_13, f54_13, f55_13, f56_13, f57_13, f58_13, f59_13, f60_13, f61_13, f62_13, f63_13, f64_13, f65_13, f66_13, f67_13, f68_13, f69_13], by first | (simp only [↓Array.getElem?_setIfInBounds_ne, ne_eq, Nat.reduceEqDiff, not_false_eq_true, q64_13]; done) | simp [hs13, f3_13, f6_13, f7_13, f8_13, f9_13, f10_13, f11_13, f16_13, f17_13, f48_13, f49_13, f50_13, f51_13, f52_13, f53_13, f54_13, f55_13, f56_13, f57_13, f58_13, f59_13, f60_13, f61_13, f62_13, f63_13, f64_13, f65_13, f66_13, f67_13, f68_13, f69_13], by first | (simp only [↓Array.getElem?_setIfInBounds_ne, ne_eq, Nat.reduceEqDiff, not_false_eq_true, q65_13]; done) | simp [hs13, f3_13, f6_13, f7_13, f8_13, f9_13, f10_13, f11_13, f16_13, f17_13, f48_13, f49_13, f50_13, f51_13, f52_13, f53_13, f54_13, f55_13, f56_13, f57_13, f58_13, f59_13, f60_13, f61_13, f62_13, f63_13, f64_13, f65_13, f66_13, f67_13, f68_13, f69_13], by first | (simp only [↓Array.getElem?_setIfInBounds_ne, ne_eq, Nat.reduceEqDiff, not_false_eq_true, q66_13]; done) | simp [hs13, f3_13, f6_13, f7_13, f8_13, f9_13, f10_13, f11_13, f16_13, f17_13, f48_13, f49_13, f50_13, f51_13, f52_13, f53_13, f54_13, f55_13, f56_13, f57_13, f58_13, f59_13, f60_13, f61_13, f62_13, f63_13, f64_13, f65_13, f66_13, f67_13, f68_13, f69_13], by first | (simp only [↓Array.getElem?_setIfInBounds_ne, ne_eq, Nat.reduceEqDiff, not_false_eq_true]; done) | simp [hs13, f3_13, f6_13, f7_13, f8_13, f9_13, f10_13, f11_13, f16_13, f17_13, f48_13, f49_13, f50_13, f51_13, f52_13, f53_13, f54_13, f55_13, f56_13, f57_13, f58_13, f59_13, f60_13, f61_13, f62_13, f63_13, f64_13, f65_13, f66_13, f67_13, f68_13, f69_13], HFw108.out⟩))
        case rest4 =>
          intro a' wc4 hR4
          obtain ⟨T14, rfl, hs14, q3_14, q6_14, q7_14, q8_14, q9_14, q10_14, q11_14, q16_14, q17_14, q48_14, q49_14, q52_14, q53_14, q54_14, q58_14, q59_14, q60_14, q64_14, q65_14, q66_14, q468_14, h44⟩ := hR4
          have f3_14 := fun hh => getq q3_14 hh
          have f6_14 := fun hh => getq q6_14 hh
          have f7_14 := fun hh => getq q7_14 hh
          have f8_14 := fun hh => getq q8_14 hh
          have f9_14 := fun hh => getq q9_14 hh
          have f10_14 := fun hh => getq q10_14 hh
          have f11_14 := fun hh => getq q11_14 hh
          have f16_14 := fun hh => getq q16_14 hh
          have f17_14 := fun hh => getq q17_14 hh
          have f48_14 := fun hh => getq q48_14 hh
          have f49_14 := fun hh => getq q49_14 hh
          have f52_14 := fun hh => getq q52_14 hh
          have f53_14 := fun hh => getq q53_14 hh
          have f54_14 := fun hh => getq q54_14 hh
          have f58_14 := fun hh => getq q58_14 hh
          have f59_14 := fun hh => getq q59_14 hh
          have f60_14 := fun hh => getq q60_14 hh
          have f64_14 := fun hh => getq q64_14 hh
          have f65_14 := fun hh => getq q65_14 hh
          have f66_14 := fun hh => getq q66_14 hh
          have f468_14 := fun hh => getq q468_14 hh
          obtain ⟨c00, c01, c02, c10, c11, c12, c20, c21, c22, c30, c31, c32, hz, hbl⟩ := h44
          have HF4 := Lib.hid (show Four w h p s j q t ch cp cs dh dp ds wc4 from ⟨c00, c01, c02, c10, c11, c12, c20, c21, c22, c30, c31, c32, hz, hbl⟩)
          clear hbl
          go_wp2_with fail
          refine wp_cond_f ?_ ?_
          · go_simp
          go_wp2_with fail
          refine wp_cut (fun a' wx => ∃ T : Array Value, a' = ⟨T, []⟩ ∧ T.size = 626 ∧ T[7]? = some (.int .i64 a) ∧ T[8]? = some (.int .i64 L) ∧ T[9]? = some (.int .i64 R) ∧ T[10]? = some (.int .i64 x) ∧ T[11]? = some (.int .i64 v) ∧ T[52]? = some (.int .i64 s1) ∧ T[53]? = some (.int .i64 s2) ∧ T[54]? = some (.bool FI) ∧ T[58]? = some (.int .i64 e1) ∧ T[59]? = some (.int .i64 e2) ∧ T[60]? = some (.bool SE) ∧ T[64]? = some (.int .i64 n1) ∧ T[65]? = some (.int .i64 n2) ∧ T[66]? = some (.bool NI) ∧ Below w.heap.size w wx) ?rest5 ?first5
          case first5 =>
            intro J K' hJ hK
            clear FF FG FN HFS HSN
            cases TH
            · refine wp_cond_f ?_ ?_
              · go_simp
              go_wp2_with fail
              refine Met.intro (hJ _ _ ⟨_, rfl, by simp [hs14], by first | (simp only [↓Array.getElem?_setIfInBounds_ne, ne_eq, Nat.reduceEqDiff, not_false_eq_true, q7_14]; done) | simp [hs14, f3_14, f6_14, f7_14, f8_14, f9_14, f10_14, f11_14, f16_14, f17_14, f48_14, f49_14, f52_14, f53_14, f54_14, f58_14, f59_14, f60_14, f64_14, f65_14, f66_14, f468_14], by first | (simp only [↓Array.getElem?_setIfInBounds_ne, ne_eq, Nat.reduceEqDiff, not_false_eq_true, q8_14]; done) | simp [hs14, f3_14, f6_14, f7_14, f8_14, f9_14, f10_14, f11_14, f16_14, f17_14, f48_14, f49_14, f52_14, f53_14, f54_14, f58_14, f59_14, f60_14, f64_14, f65_14, f66_14, f468_14], by first | (simp only [↓Array.getElem?_setIfInBounds_ne, ne_eq, Nat.reduceEqDiff, not_false_eq_true, q9_14]; done) | simp [hs14, f3_14, f6_14, f7_14, f8_14, f9_14, f10_14, f11_14, f16_14, f17_14, f48_14, f49_14, f52_14, f53_14, f54_14, f58_14, f59_14, f60_14, f64_14, f65_14, f66_14, f468_14], by first | (simp only [↓Array.getElem?_setIfInBounds_ne, ne_eq, Nat.reduceEqDiff, not_false_eq_true, q10_14]; done) | simp [hs14, f3_14, f6_14, f7_14, f8_14, f9_14, f10_14, f11_14, f16_14, f17_14, f48_14, f49_14, f52_14, f53_14, f54_14, f58_14, f59_14, f60_14, f64_14, f65_14, f66_14, f468_14], by first | (simp only [↓Array.getElem?_setIfInBounds_ne, ne_eq, Nat.reduceEqDiff, not_false_eq_true, q11_14]; done) | simp [hs14, f3_14, f6_14, f7_14, f8_14, f9_14, f10_14, f11_14, f16_14, f17_14, f48_14, f49_14, f52_14, f53_14, f54_14, f58_14, f59_14, f60_14, f64_14, f65_14, f66_14, f468_14], by first | (simp only [↓Array.getElem?_setIfInBounds_ne, ne_eq, Nat.reduceEqDiff, not_false_eq_true, q52_14]; done) | simp [hs14, f3_14, f6_14, f7_14, f8_14, f9_14, f10_14, f11_14, f16_14, f17_14, f48_14, f49_14, f52_14, f53_14, f54_14, f58_14, f59_14, f60_14, f64_14, f65_14, f66_14, f468_14], by first | (simp only [↓Array.getElem?_setIfInBounds_ne, ne_eq, Nat.reduceEqDiff, not_false_eq_true, q53_14]; done) | simp [hs14, f3_14, f6_14, f7_14, f8_14, f9_14, f10_14, f11_14, f16_14, f17_14, f48_14, f49_14, f52_14, f53_14, f54_14, f58_14, f59_14, f60_14, f64_14, f65_14, f66_14, f468_14], by first | (simp only [↓Array.getElem?_setIfInBounds_ne, ne_eq, Nat.reduceEqDiff, not_false_eq_true, q54_14]; done) | simp [hs14, f3_14, f6_14, f7_14, f8_14, f9_14, f10_14, f11_14, f16_14, f17_14, f48_14, f49_14, f52_14, f53_14, f54_14, f58_14, f59_14, f60_14, f64_14, f65_14, f66_14, f468_14], by first | (simp only [↓Array.getElem?_setIfInBounds_ne, ne_eq, Nat.reduceEqDiff, not_false_eq_true, q58_14]; done) | simp [hs14, f3_14, f6_14, f7_14, f8_14, f9_14, f10_14, f11_14, f16_14, f17_14, f48_14, f49_14, f52_14, f53_14, f54_14, f58_14, f59_14, f60_14, f64_14, f65_14, f66_14, f468_14], by first | (simp only [↓Array.getElem?_setIfInBounds_ne, ne_eq, Nat.reduceEqDiff, not_false_eq_true, q59_14]; done) | simp [hs14, f3_14, f6_14, f7_14, f8_14, f9_14, f10_14, f11_14, f16_14, f17_14, f48_14, f49_14, f52_14, f53_14, f54_14, f58_14, f59_14, f60_14, f64_14, f65_14, f66_14, f468_14], by first | (simp only [↓Array.getElem?_setIfInBounds_ne, ne_eq, Nat.reduceEqDiff, not_false_eq_true, q60_14]; done) | simp [hs14, f3_14, f6_14, f7_14, f8_14, f9_14, f10_14, f11_14, f16_14, f17_14, f48_14, f49_14, f52_14, f53_14, f54_14, f58_14, f59_14, f60_14, f64_14, f65_14, f66_14, f468_14], by first | (simp only [↓Array.getElem?_setIfInBounds_ne, ne_eq, Nat.reduceEqDiff, not_false_eq_true, q64_14]; done) | simp [hs14, f3_14, f6_14, f7_14, f8_14, f9_14, f10_14, f11_14, f16_14, f17_14, f48_14, f49_14, f52_14, f53_14, f54_14, f58_14, f59_14, f60_14, f64_14, f65_14, f66_14, f468_14], by first | (simp only [↓Array.getElem?_setIfInBounds_ne, ne_eq, Nat.reduceEqDiff, not_false_eq_true, q65_14]; done) | simp [hs14, f3_14, f6_14, f7_14, f8_14, f9_14, f10_14, f11_14, f16_14, f17_14, f48_14, f49_14, f52_14, f53_14, f54_14, f58_14, f59_14, f60_14, f64_14, f65_14, f66_14, f468_14], by first | (simp only [↓Array.getElem?_setIfInBounds_ne, ne_eq, Nat.reduceEqDiff, not_false_eq_true, q66_14]; done) | simp [hs14, f3_14, f6_14, f7_14, f8_14, f9_14, f10_14, f11_14, f16_14, f17_14, f48_14, f49_14, f52_14, f53_14, f54_14, f58_14, f59_14, f60_14, f64_14, f65_14, f66_14, f468_14], Four.bl (HF4.out)⟩)
            · obtain ⟨HP1, HP2, ⟨⟨b1, b2, b3, b4, b5, b6⟩, p1, p2, q1, q2⟩, HX0, HX1⟩ := FE rfl
              clear FE
              have HX0 := Lib.hid HX0
              have HX1 := Lib.hid HX1
              refine wp_cond_t ?_ ?_
              · go_simp
              go_wp2_with fail
              refine ((HP1 _).out).mono ?_
              rintro e w109 ⟨rfl, hb_⟩
              have HFw109 := Lib.hid (Four.after HF4.out hb_)
              clear hb_ hz c00 c01 c02 c10 c11 c12 c20 c21 c22 c30 c31 c32
              obtain ⟨c00, c01, c02, c10, c11, c12, c20, c21, c22, c30, c31, c32, hz, hbl⟩ := HFw109.out
              clear hbl
              go_wp2_with fail
              refine ((HP2 _).out).mono ?_
              rintro e w110 ⟨rfl, hb_⟩
              have HFw110 := Lib.hid (Four.after HFw109.out hb_)
              clear hb_ hz c00 c01 c02 c10 c11 c12 c20 c21 c22 c30 c31 c32
              obtain ⟨c00, c01, c02, c10, c11, c12, c20, c21, c22, c30, c31, c32, hz, hbl⟩ := HFw110.out
              clear hbl
              go_upto_region 31 with fail
              refine reframe fun T15 hT => ?_
              have hs15 : T15.size = 626 := by subst hT; simp [hs14]
              have q7_15 : T15[7]? = some (.int .i64 a) := by subst hT; exact (by first | (simp only [↓Array.getElem?_setIfInBounds_ne, ne_eq, Nat.reduceEqDiff, not_false_eq_true, q7_14]; done) | simp [hs14, f3_14, f6_14, f7_14, f8_14, f9_14, f10_14, f11_14, f16_14, f17_14, f48_14, f49_14, f52_14, f53_14, f54_14, f58_14, f59_14, f60_14, f64_14, f65_14, f66_14, f468_14])
              have f7_15 := fun hh => getq q7_15 hh
              have q8_15 : T15[8]? = some (.int .i64 L) := by subst hT; exact (by first | (simp only [↓Array.getElem?_setIfInBounds_ne, ne_eq, Nat.reduceEqDiff, not_false_eq_true, q8_14]; done) | simp [hs14, f3_14, f6_14, f7_14, f8_14, f9_14, f10_14, f11_14, f16_14, f17_14, f48_14, f49_14, f52_14, f53_14, f54_14, f58_14, f59_14, f60_14, f64_14, f65_14, f66_14, f468_14])
              have f8_15 := fun hh => getq q8_15 hh
              have q9_15 : T15[9]? = some (.int .i64 R) := by subst hT; exact (by first | (simp only [↓Array.getElem?_setIfInBounds_ne, ne_eq, Nat.reduceEqDiff, not_false_eq_true, q9_14]; done) | simp [hs14, f3_14, f6_14, f7_14, f8_14, f9_14, f10_14, f11_14, f16_14, f17_14, f48_14, f49_14, f52_14, f53_14, f54_14, f58_14, f59_14, f60_14, f64_14, f65_14, f66_14, f468_14])
              have f9_15 := fun hh => getq q9_15 hh
              have q10_15 : T15[10]? = some (.int .i64 x) := by subst hT; exact (by first | (simp only [↓Array.getElem?_setIfInBounds_ne, ne_eq, Nat.reduceEqDiff, not_false_eq_true, q10_14]; done) | simp [hs14, f3_14, f6_14, f7_14, f8_14, f9_14, f10_14, f11_14, f16_14, f17_14, f48_14, f49_14, f52_14, f53_14, f54_14, f58_14, f59_14, f60_14, f64_14, f65_14, f66_14, f468_14])
              have f10_15 := fun hh => getq q10_15 hh
              have q11_15 : T15[11]? = some (.int .i64 v) := by subst hT; exact (by first | (simp only [↓Array.getElem?_setIfInBounds_ne, ne_eq, Nat.reduceEqDiff, not_false_eq_true, q11_14]; done) | simp [hs14, f3_14, f6_14, f7_14, f8_14, f9_14, f10_14, f11_14, f16_14, f17_14, f48_14, f49_14, f52_14, f53_14, f54_14, f58_14, f59_14, f60_14, f64_14, f65_14, f66_14, f468_14])
              have f11_15 := fun hh => getq q11_15 hh
              have q52_15 : T15[52]? = some (.int .i64 s1) := by subst hT; exact (by first | (simp only [↓Array.getElem?_setIfInBounds_ne, ne_eq, Nat.reduceEqDiff, not_false_eq_true, q52_14]; done) | simp [hs14, f3_14, f6_14, f7_14, f8_14, f9_14, f10_14, f11_14, f16_14, f17_14, f48_14, f49_14, f52_14, f53_14, f54_14, f58_14, f59_14, f60_14, f64_14, f65_14, f66_14, f468_14])
              have f52_15 := fun hh => getq q52_15 hh
              have q53_15 : T15[53]? = some (.int .i64 s2) := by subst hT; exact (by first | (simp only [↓Array.getElem?_setIfInBounds_ne, ne_eq, Nat.reduceEqDiff, not_false_eq_true, q53_14]; done) | simp [hs14, f3_14, f6_14, f7_14, f8_14, f9_14, f10_14, f11_14, f16_14, f17_14, f48_14, f49_14, f52_14, f53_14, f54_14, f58_14, f59_14, f60_14, f64_14, f65_14, f66_14, f468_14])
              have f53_15 := fun hh => getq q53_15 hh
              have q54_15 : T15[54]? = some (.bool FI) := by subst hT; exact (by first | (simp only [↓Array.getElem?_setIfInBounds_ne, ne_eq, Nat.reduceEqDiff, not_false_eq_true, q54_14]; done) | simp [hs14, f3_14, f6_14, f7_14, f8_14, f9_14, f10_14, f11_14, f16_14, f17_14, f48_14, f49_14, f52_14, f53_14, f54_14, f58_14, f59_14, f60_14, f64_14, f65_14, f66_14, f468_14])
              have f54_15 := fun hh => getq q54_15 hh
              have q58_15 : T15[58]? = some (.int .i64 e1) := by subst hT; exact (by first | (simp only [↓Array.getElem?_setIfInBounds_ne, ne_eq, Nat.reduceEqDiff, not_false_eq_true, q58_14]; done) | simp [hs14, f3_14, f6_14, f7_14, f8_14, f9_14, f10_14, f11_14, f16_14, f17_14, f48_14, f49_14, f52_14, f53_14, f54_14, f58_14, f59_14, f60_14, f64_14, f65_14, f66_14, f468_14])
              have f58_15 := fun hh => getq q58_15 hh
              have q59_15 : T15[59]? = some (.int .i64 e2) := by subst hT; exact (by first | (simp only [↓Array.getElem?_setIfInBounds_ne, ne_eq, Nat.reduceEqDiff, not_false_eq_true, q59_14]; done) | simp [hs14, f3_14, f6_14, f7_14, f8_14, f9_14, f10_14, f11_14, f16_14, f17_14, f48_14, f49_14, f52_14, f53_14, f54_14, f58_14, f59_14, f60_14, f64_14, f65_14, f66_14, f468_14])
              have f59_15 := fun hh => getq q59_15 hh
              have q60_15 : T15[60]? = some (.bool SE) := by subst hT; exact (by first | (simp only [↓Array.getElem?_setIfInBounds_ne, ne_eq, Nat.reduceEqDiff, not_false_eq_true, q60_14]; done) | simp [hs14, f3_14, f6_14, f7_14, f8_14, f9_14, f10_14, f11_14, f16_14, f17_14, f48_14, f49_14, f52_14, f53_14, f54_14, f58_14, f59_14, f60_14, f64_14, f65_14, f66_14, f468_14])
              have f60_15 := fun hh => getq q60_15 hh
              have q64_15 : T15[64]? = some (.int .i64 n1) := by subst hT; exact (by first | (simp only [↓Array.getElem?_setIfInBounds_ne, ne_eq, Nat.reduceEqDiff, not_false_eq_true, q64_14]; done) | simp [hs14, f3_14, f6_14, f7_14, f8_14, f9_14, f10_14, f11_14, f16_14, f17_14, f48_14, f49_14, f52_14, f53_14, f54_14, f58_14, f59_14, f60_14, f64_14, f65_14, f66_14, f468_14])
              have f64_15 := fun hh => getq q64_15 hh
              have q65_15 : T15[65]? = some (.int .i64 n2) := by subst hT; exact (by first | (simp only [↓Array.getElem?_setIfInBounds_ne, ne_eq, Nat.reduceEqDiff, not_false_eq_true, q65_14]; done) | simp [hs14, f3_14, f6_14, f7_14, f8_14, f9_14, f10_14, f11_14, f16_14, f17_14, f48_14, f49_14, f52_14, f53_14, f54_14, f58_14, f59_14, f60_14, f64_14, f65_14, f66_14, f468_14])
              have f65_15 := fun hh => getq q65_15 hh
              have q66_15 : T15[66]? = some (.bool NI) := by subst hT; exact (by first | (simp only [↓Array.getElem?_setIfInBounds_ne, ne_eq, Nat.reduceEqDiff, not_false_eq_true, q66_14]; done) | simp [hs14, f3_14, f6_14, f7_14, f8_14, f9_14, f10_14, f11_14, f16_14, f17_14, f48_14, f49_14, f52_14, f53_14, f54_14, f58_14, f59_14, f60_14, f64_14, f65_14, f66_14, f468_14])
              have f66_15 := fun hh => getq q66_15 hh
              have q3_15 : T15[3]? = some (.int .i64 hi) := by subst hT; exact (by first | (simp only [↓Array.getElem?_setIfInBounds_ne, ne_eq, Nat.reduceEqDiff, not_false_eq_true, q3_14]; done) | simp [hs14, f3_14, f6_14, f7_14, f8_14, f9_14, f10_14, f11_14, f16_14, f17_14, f48_14, f49_14, f52_14, f53_14, f54_14, f58_14, f59_14, f60_14, f64_14, f65_14, f66_14, f468_14])
              have f3_15 := fun hh => getq q3_15 hh
              have q6_15 : T15[6]? = some (.int .i64 m) := by subst hT; exact (by first | (simp only [↓Array.getElem?_setIfInBounds_ne, ne_eq, Nat.reduceEqDiff, not_false_eq_true, q6_14]; done) | simp [hs14, f3_14, f6_14, f7_14, f8_14, f9_14, f10_14, f11_14, f16_14, f17_14, f48_14, f49_14, f52_14, f53_14, f54_14, f58_14, f59_14, f60_14, f64_14, f65_14, f66_14, f468_14])
              have f6_15 := fun hh => getq q6_15 hh
              have q16_15 : T15[16]? = some (.pointer (some ⟨w.heap.size + 1 + 1, 0, none⟩)) := by subst hT; exact (by first | (simp only [↓Array.getElem?_setIfInBounds_ne, ne_eq, Nat.reduceEqDiff, not_false_eq_true, q16_14]; done) | simp [hs14, f3_14, f6_14, f7_14, f8_14, f9_14, f10_14, f11_14, f16_14, f17_14, f48_14, f49_14, f52_14, f53_14, f54_14, f58_14, f59_14, f60_14, f64_14, f65_14, f66_14, f468_14])
              have f16_15 := fun hh => getq q16_15 hh
              have q17_15 : T15[17]? = some (.pointer (some ⟨w.heap.size + 1 + 1 + 1, 0, none⟩)) := by subst hT; exact (by first | (simp only [↓Array.getElem?_setIfInBounds_ne, ne_eq, Nat.reduceEqDiff, not_false_eq_true, q17_14]; done) | simp [hs14, f3_14, f6_14, f7_14, f8_14, f9_14, f10_14, f11_14, f16_14, f17_14, f48_14, f49_14, f52_14, f53_14, f54_14, f58_14, f59_14, f60_14, f64_14, f65_14, f66_14, f468_14])
              have f17_15 := fun hh => getq q17_15 hh
              have q48_15 : T15[48]? = some (.bool IS) := by subst hT; exact (by first | (simp only [↓Array.getElem?_setIfInBounds_ne, ne_eq, Nat.reduceEqDiff, not_false_eq_true, q48_14]; done) | simp [hs14, f3_14, f6_14, f7_14, f8_14, f9_14, f10_14, f11_14, f16_14, f17_14, f48_14, f49_14, f52_14, f53_14, f54_14, f58_14, f59_14, f60_14, f64_14, f65_14, f66_14, f468_14])
              have f48_15 := fun hh => getq q48_15 hh
              have q70_15 : T15[70]? = some (.int .i64 P) := by subst hT; exact (by first | (simp only [↓Array.getElem?_setIfInBounds_ne, ne_eq, Nat.reduceEqDiff, not_false_eq_true]; done) | simp [hs14, f3_14, f6_14, f7_14, f8_14, f9_14, f10_14, f11_14, f16_14, f17_14, f48_14, f49_14, f52_14, f53_14, f54_14, f58_14, f59_14, f60_14, f64_14, f65_14, f66_14, f468_14])
              have f70_15 := fun hh => getq q70_15 hh
              have q71_15 : T15[71]? = some (.bool true) := by subst hT; exact (by first | (simp only [↓Array.getElem?_setIfInBounds_ne, ne_eq, Nat.reduceEqDiff, not_false_eq_true]; done) | simp [hs14, f3_14, f6_14, f7_14, f8_14, f9_14, f10_14, f11_14, f16_14, f17_14, f48_14, f49_14, f52_14, f53_14, f54_14, f58_14, f59_14, f60_14, f64_14, f65_14, f66_14, f468_14])
              have f71_15 := fun hh => getq q71_15 hh
              have q72_15 : T15[72]? = some (.int .i64 Q) := by subst hT; exact (by first | (simp only [↓Array.getElem?_setIfInBounds_ne, ne_eq, Nat.reduceEqDiff, not_false_eq_true]; done) | simp [hs14, f3_14, f6_14, f7_14, f8_14, f9_14, f10_14, f11_14, f16_14, f17_14, f48_14, f49_14, f52_14, f53_14, f54_14, f58_14, f59_14, f60_14, f64_14, f65_14, f66_14, f468_14])
              have f72_15 := fun hh => getq q72_15 hh
              have q73_15 : T15[73]? = some (.bool true) := by subst hT; exact (by first | (simp only [↓Array.getElem?_setIfInBounds_ne, ne_eq, Nat.reduceEqDiff, not_false_eq_true]; done) | simp [hs14, f3_14, f6_14, f7_14, f8_14, f9_14, f10_14, f11_14, f16_14, f17_14, f48_14, f49_14, f52_14, f53_14, f54_14, f58_14, f59_14, f60_14, f64_14, f65_14, f66_14, f468_14])
              have f73_15 := fun hh => getq q73_15 hh
              clear hT f468_14 f66_14 f65_14 f64_14 f60_14 f59_14 f58_14 f54_14 f53_14 f52_14 f49_14 f48_14 f17_14 f16_14 f11_14 f10_14 f9_14 f8_14 f7_14 f6_14 f3_14 hs14 q3_14 q6_14 q7_14 q8_14 q9_14 q10_14 q11_14 q16_14 q17_14 q48_14 q49_14 q52_14 q53_14 q54_14 q58_14 q59_14 q60_14 q64_14 q65_14 q66_14 q468_14
              obtain ⟨z1, z2⟩ := mul_bd2 (a := dh) (b := P) (m := 200) (k := 3500) (by omega) (by omega) (by omega) (by omega)
              obtain ⟨z3, z4⟩ := mul_bd2 (a := hi) (b := P) (m := 200) (k := 3500) (by omega) (by omega) (by omega) (by omega)
              obtain ⟨z5, z6⟩ := mul_bd2 (a := hi - ch) (b := Q) (m := 200) (k := 3500) (by omega) (by omega) (by omega) (by omega)
              have w1_ : IntKind.i64.wrap (dh * P) = dh * P := IntWalk.i64_in _ ⟨by omega, by omega⟩
              have w2_ : IntKind.i64.wrap (hi * P) = hi * P := IntWalk.i64_in _ ⟨by omega, by omega⟩
              have w3_ : IntKind.i64.wrap (hi - ch) = hi - ch := IntWalk.i64_in _ ⟨by omega, by omega⟩
              have w4_ : IntKind.i64.wrap ((hi - ch) * Q) = (hi - ch) * Q := IntWalk.i64_in _ ⟨by omega, by omega⟩
              have w5_ : IntKind.i64.wrap (hi * P - (hi - ch) * Q) = hi * P - (hi - ch) * Q := IntWalk.i64_in _ ⟨by omega, by omega⟩
              cases IS
              · by_cases hpq : P < Q
                · have hle := HX0.out rfl hpq
                  go_wp2_with fail
                  refine wp_cond_f ?_ ?_
                  · go_simp
                  go_wp2_with fail
                  refine wp_cond_f ?_ ?_
                  · go_simp
                  go_wp2_with fail
                  refine Met.intro (hJ _ _ ⟨_, rfl, by simp [hs15], by first | (simp only [↓Array.getElem?_setIfInBounds_ne, ne_eq, Nat.reduceEqDiff, not_false_eq_true, q7_15]; done) | simp [hs15, f7_15, f8_15, f9_15, f10_15, f11_15, f52_15, f53_15, f54_15, f58_15, f59_15, f60_15, f64_15, f65_15, f66_15, f3_15, f6_15, f16_15, f17_15, f48_15, f70_15, f71_15, f72_15, f73_15], by first | (simp only [↓Array.getElem?_setIfInBounds_ne, ne_eq, Nat.reduceEqDiff, not_false_eq_true, q8_15]; done) | simp [hs15, f7_15, f8_15, f9_15, f10_15, f11_15, f52_15, f53_15, f54_15, f58_15, f59_15, f60_15, f64_15, f65_15, f66_15, f3_15, f6_15, f16_15, f17_15, f48_15, f70_15, f71_15, f72_15, f73_15], by first | (simp only [↓Array.getElem?_setIfInBounds_ne, ne_eq, Nat.reduceEqDiff, not_false_eq_true, q9_15]; done) | simp [hs15, f7_15, f8_15, f9_15, f10_15, f11_15, f52_15, f53_15, f54_15, f58_15, f59_15, f60_15, f64_15, f65_15, f66_15, f3_15, f6_15, f16_15, f17_15, f48_15, f70_15, f71_15, f72_15, f73_15], by first | (simp only [↓Array.getElem?_setIfInBounds_ne, ne_eq, Nat.reduceEqDiff, not_false_eq_true, q10_15]; done) | simp [hs15, f7_15, f8_15, f9_15, f10_15, f11_15, f52_15, f53_15, f54_15, f58_15, f59_15, f60_15, f64_15, f65_15, f66_15, f3_15, f6_15, f16_15, f17_15, f48_15, f70_15, f71_15, f72_15, f73_15], by first | (simp only [↓Array.getElem?_setIfInBounds_ne, ne_eq, Nat.reduceEqDiff, not_false_eq_true, q11_15]; done) | simp [hs15, f7_15, f8_15, f9_15, f10_15, f11_15, f52_15, f53_15, f54_15, f58_15, f59_15, f60_15, f64_15, f65_15, f66_15, f3_15, f6_15, f16_15, f17_15, f48_15, f70_15, f71_15, f72_15, f73_15], by first | (simp only [↓Array.getElem?_setIfInBounds_ne, ne_eq, Nat.reduceEqDiff, not_false_eq_true, q52_15]; done) | simp [hs15, f7_15, f8_15, f9_15, f10_15, f11_15, f52_15, f53_15, f54_15, f58_15, f59_15, f60_15, f64_15, f65_15, f66_15, f3_15, f6_15, f16_15, f17_15, f48_15, f70_15, f71_15, f72_15, f73_15], by first | (simp only [↓Array.getElem?_setIfInBounds_ne, ne_eq, Nat.reduceEqDiff, not_false_eq_true, q53_15]; done) | simp [hs15, f7_15, f8_15, f9_15, f10_15, f11_15, f52_15, f53_15, f54_15, f58_15, f59_15, f60_15, f64_15, f65_15, f66_15, f3_15, f6_15, f16_15, f17_15, f48_15, f70_15, f71_15, f72_15, f73_15], by first | (simp only [↓Array.getElem?_setIfInBounds_ne, ne_eq, Nat.reduceEqDiff, not_false_eq_true, q54_15]; done) | simp [hs15, f7_15, f8_15, f9_15, f10_15, f11_15, f52_15, f53_15, f54_15, f58_15, f59_15, f60_15, f64_15, f65_15, f66_15, f3_15, f6_15, f16_15, f17_15, f48_15, f70_15, f71_15, f72_15, f73_15], by first | (simp only [↓Array.getElem?_setIfInBounds_ne, ne_eq, Nat.reduceEqDiff, not_false_eq_true, q58_15]; done) | simp [hs15, f7_15, f8_15, f9_15, f10_15, f11_15, f52_15, f53_15, f54_15, f58_15, f59_15, f60_15, f64_15, f65_15, f66_15, f3_15, f6_15, f16_15, f17_15, f48_15, f70_15, f71_15, f72_15, f73_15], by first | (simp only [↓Array.getElem?_setIfInBounds_ne, ne_eq, Nat.reduceEqDiff, not_false_eq_true, q59_15]; done) | simp [hs15, f7_15, f8_15, f9_15, f10_15, f11_15, f52_15, f53_15, f54_15, f58_15, f59_15, f60_15, f64_15, f65_15, f66_15, f3_15, f6_15, f16_15, f17_15, f48_15, f70_15, f71_15, f72_15, f73_15], by first | (simp only [↓Array.getElem?_setIfInBounds_ne, ne_eq, Nat.reduceEqDiff, not_false_eq_true, q60_15]; done) | simp [hs15, f7_15, f8_15, f9_15, f10_15, f11_15, f52_15, f53_15, f54_15, f58_15, f59_15, f60_15, f64_15, f65_15, f66_15, f3_15, f6_15, f16_15, f17_15, f48_15, f70_15, f71_15, f72_15, f73_15], by first | (simp only [↓Array.getElem?_setIfInBounds_ne, ne_eq, Nat.reduceEqDiff, not_false_eq_true, q64_15]; done) | simp [hs15, f7_15, f8_15, f9_15, f10_15, f11_15, f52_15, f53_15, f54_15, f58_15, f59_15, f60_15, f64_15, f65_15, f66_15, f3_15, f6_15, f16_15, f17_15, f48_15, f70_15, f71_15, f72_15, f73_15], by first | (simp only [↓Array.getElem?_setIfInBounds_ne, ne_eq, Nat.reduceEqDiff, not_false_eq_true, q65_15]; done) | simp [hs15, f7_15, f8_15, f9_15, f10_15, f11_15, f52_15, f53_15, f54_15, f58_15, f59_15, f60_15, f64_15, f65_15, f66_15, f3_15, f6_15, f16_15, f17_15, f48_15, f70_15, f71_15, f72_15, f73_15], by first | (simp only [↓Array.getElem?_setIfInBounds_ne, ne_eq, Nat.reduceEqDiff, not_false_eq_true, q66_15]; done) | simp [hs15, f7_15, f8_15, f9_15, f10_15, f11_15, f52_15, f53_15, f54_15, f58_15, f59_15, f60_15, f64_15, f65_15, f66_15, f3_15, f6_15, f16_15, f17_15, f48_15, f70_15, f71_15, f72_15, f73_15], Four.bl (HFw110.out)⟩)
                · go_wp2_with fail
                  refine wp_cond_f ?_ ?_
                  · go_simp
                  go_wp2_with fail
                  refine wp_cond_f ?_ ?_
                  · go_simp
                  go_wp2_with fail
                  refine Met.intro (hJ _ _ ⟨_, rfl, by simp [hs15], by first | (simp only [↓Array.getElem?_setIfInBounds_ne, ne_eq, Nat.reduceEqDiff, not_false_eq_true, q7_15]; done) | simp [hs15, f7_15, f8_15, f9_15, f10_15, f11_15, f52_15, f53_15, f54_15, f58_15, f59_15, f60_15, f64_15, f65_15, f66_15, f3_15, f6_15, f16_15, f17_15, f48_15, f70_15, f71_15, f72_15, f73_15], by first | (simp only [↓Array.getElem?_setIfInBounds_ne, ne_eq, Nat.reduceEqDiff, not_false_eq_true, q8_15]; done) | simp [hs15, f7_15, f8_15, f9_15, f10_15, f11_15, f52_15, f53_15, f54_15, f58_15, f59_15, f60_15, f64_15, f65_15, f66_15, f3_15, f6_15, f16_15, f17_15, f48_15, f70_15, f71_15, f72_15, f73_15], by first | (simp only [↓Array.getElem?_setIfInBounds_ne, ne_eq, Nat.reduceEqDiff, not_false_eq_true, q9_15]; done) | simp [hs15, f7_15, f8_15, f9_15, f10_15, f11_15, f52_15, f53_15, f54_15, f58_15, f59_15, f60_15, f64_15, f65_15, f66_15, f3_15, f6_15, f16_15, f17_15, f48_15, f70_15, f71_15, f72_15, f73_15], by first | (simp only [↓Array.getElem?_setIfInBounds_ne, ne_eq, Nat.reduceEqDiff, not_false_eq_true, q10_15]; done) | simp [hs15, f7_15, f8_15, f9_15, f10_15, f11_15, f52_15, f53_15, f54_15, f58_15, f59_15, f60_15, f64_15, f65_15, f66_15, f3_15, f6_15, f16_15, f17_15, f48_15, f70_15, f71_15, f72_15, f73_15], by first | (simp only [↓Array.getElem?_setIfInBounds_ne, ne_eq, Nat.reduceEqDiff, not_false_eq_true, q11_15]; done) | simp [hs15, f7_15, f8_15, f9_15, f10_15, f11_15, f52_15, f53_15, f54_15, f58_15, f59_15, f60_15, f64_15, f65_15, f66_15, f3_15, f6_15, f16_15, f17_15, f48_15, f70_15, f71_15, f72_15, f73_15], by first | (simp only [↓Array.getElem?_setIfInBounds_ne, ne_eq, Nat.reduceEqDiff, not_false_eq_true, q52_15]; done) | simp [hs15, f7_15, f8_15, f9_15, f10_15, f11_15, f52_15, f53_15, f54_15, f58_15, f59_15, f60_15, f64_15, f65_15, f66_15, f3_15, f6_15, f16_15, f17_15, f48_15, f70_15, f71_15, f72_15, f73_15], by first | (simp only [↓Array.getElem?_setIfInBounds_ne, ne_eq, Nat.reduceEqDiff, not_false_eq_true, q53_15]; done) | simp [hs15, f7_15, f8_15, f9_15, f10_15, f11_15, f52_15, f53_15, f54_15, f58_15, f59_15, f60_15, f64_15, f65_15, f66_15, f3_15, f6_15, f16_15, f17_15, f48_15, f70_15, f71_15, f72_15, f73_15], by first | (simp only [↓Array.getElem?_setIfInBounds_ne, ne_eq, Nat.reduceEqDiff, not_false_eq_true, q54_15]; done) | simp [hs15, f7_15, f8_15, f9_15, f10_15, f11_15, f52_15, f53_15, f54_15, f58_15, f59_15, f60_15, f64_15, f65_15, f66_15, f3_15, f6_15, f16_15, f17_15, f48_15, f70_15, f71_15, f72_15, f73_15], by first | (simp only [↓Array.getElem?_setIfInBounds_ne, ne_eq, Nat.reduceEqDiff, not_false_eq_true, q58_15]; done) | simp [hs15, f7_15, f8_15, f9_15, f10_15, f11_15, f52_15, f53_15, f54_15, f58_15, f59_15, f60_15, f64_15, f65_15, f66_15, f3_15, f6_15, f16_15, f17_15, f48_15, f70_15, f71_15, f72_15, f73_15], by first | (simp only [↓Array.getElem?_setIfInBounds_ne, ne_eq, Nat.reduceEqDiff, not_false_eq_true, q59_15]; done) | simp [hs15, f7_15, f8_15, f9_15, f10_15, f11_15, f52_15, f53_15, f54_15, f58_15, f59_15, f60_15, f64_15, f65_15, f66_15, f3_15, f6_15, f16_15, f17_15, f48_15, f70_15, f71_15, f72_15, f73_15], by first | (simp only [↓Array.getElem?_setIfInBounds_ne, ne_eq, Nat.reduceEqDiff, not_false_eq_true, q60_15]; done) | simp [hs15, f7_15, f8_15, f9_15, f10_15, f11_15, f52_15, f53_15, f54_15, f58_15, f59_15, f60_15, f64_15, f65_15, f66_15, f3_15, f6_15, f16_15, f17_15, f48_15, f70_15, f71_15, f72_15, f73_15], by first | (simp only [↓Array.getElem?_setIfInBounds_ne, ne_eq, Nat.reduceEqDiff, not_false_eq_true, q64_15]; done) | simp [hs15, f7_15, f8_15, f9_15, f10_15, f11_15, f52_15, f53_15, f54_15, f58_15, f59_15, f60_15, f64_15, f65_15, f66_15, f3_15, f6_15, f16_15, f17_15, f48_15, f70_15, f71_15, f72_15, f73_15], by first | (simp only [↓Array.getElem?_setIfInBounds_ne, ne_eq, Nat.reduceEqDiff, not_false_eq_true, q65_15]; done) | simp [hs15, f7_15, f8_15, f9_15, f10_15, f11_15, f52_15, f53_15, f54_15, f58_15, f59_15, f60_15, f64_15, f65_15, f66_15, f3_15, f6_15, f16_15, f17_15, f48_15, f70_15, f71_15, f72_15, f73_15], by first | (simp only [↓Array.getElem?_setIfInBounds_ne, ne_eq, Nat.reduceEqDiff, not_false_eq_true, q66_15]; done) | simp [hs15, f7_15, f8_15, f9_15, f10_15, f11_15, f52_15, f53_15, f54_15, f58_15, f59_15, f60_15, f64_15, f65_15, f66_15, f3_15, f6_15, f16_15, f17_15, f48_15, f70_15, f71_15, f72_15, f73_15], Four.bl (HFw110.out)⟩)
              · obtain ⟨hpq, hle, hp0, HIO⟩ := HX1.out rfl
                have hp0b : (P == 0) = false := beq_eq_false_iff_ne.2 hp0
                go_wp2_with fail
                refine wp_cond_f ?_ ?_
                · go_simp
                go_wp2_with fail
                refine wp_cond_t ?_ ?_
                · go_simp
                go_wp2_with fail
                refine ((HIO _).out).mono ?_
                rintro e w111 ⟨rfl, hb_⟩
                have HFw111 := Lib.hid (Four.after HFw110.out hb_)
                clear hb_ hz c00 c01 c02 c10 c11 c12 c20 c21 c22 c30 c31 c32
                obtain ⟨c00, c01, c02, c10, c11, c12, c20, c21, c22, c30, c31, c32, hz, hbl⟩ := HFw111.out
                clear hbl
                go_wp2_with fail
                refine wp_cond_f ?_ ?_
                · go_simp
                go_wp2_with fail
                refine Met.intro (hJ _ _ ⟨_, rfl, by simp [hs15], by first | (simp only [↓Array.getElem?_setIfInBounds_ne, ne_eq, Nat.reduceEqDiff, not_false_eq_true, q7_15]; done) | simp [hs15, f7_15, f8_15, f9_15, f10_15, f11_15, f52_15, f53_15, f54_15, f58_15, f59_15, f60_15, f64_15, f65_15, f66_15, f3_15, f6_15, f16_15, f17_15, f48_15, f70_15, f71_15, f72_15, f73_15], by first | (simp only [↓Array.getElem?_setIfInBounds_ne, ne_eq, Nat.reduceEqDiff, not_false_eq_true, q8_15]; done) | simp [hs15, f7_15, f8_15, f9_15, f10_15, f11_15, f52_15, f53_15, f54_15, f58_15, f59_15, f60_15, f64_15, f65_15, f66_15, f3_15, f6_15, f16_15, f17_15, f48_15, f70_15, f71_15, f72_15, f73_15], by first | (simp only [↓Array.getElem?_setIfInBounds_ne, ne_eq, Nat.reduceEqDiff, not_false_eq_true, q9_15]; done) | simp [hs15, f7_15, f8_15, f9_15, f10_15, f11_15, f52_15, f53_15, f54_15, f58_15, f59_15, f60_15, f64_15, f65_15, f66_15, f3_15, f6_15, f16_15, f17_15, f48_15, f70_15, f71_15, f72_15, f73_15], by first | (simp only [↓Array.getElem?_setIfInBounds_ne, ne_eq, Nat.reduceEqDiff, not_false_eq_true, q10_15]; done) | simp [hs15, f7_15, f8_15, f9_15, f10_15, f11_15, f52_15, f53_15, f54_15, f58_15, f59_15, f60_15, f64_15, f65_15, f66_15, f3_15, f6_15, f16_15, f17_15, f48_15, f70_15, f71_15, f72_15, f73_15], by first | (simp only [↓Array.getElem?_setIfInBounds_ne, ne_eq, Nat.reduceEqDiff, not_false_eq_true, q11_15]; done) | simp [hs15, f7_15, f8_15, f9_15, f10_15, f11_15, f52_15, f53_15, f54_15, f58_15, f59_15, f60_15, f64_15, f65_15, f66_15, f3_15, f6_15, f16_15, f17_15, f48_15, f70_15, f71_15, f72_15, f73_15], by first | (simp only [↓Array.getElem?_setIfInBounds_ne, ne_eq, Nat.reduceEqDiff, not_false_eq_true, q52_15]; done) | simp [hs15, f7_15, f8_15, f9_15, f10_15, f11_15, f52_15, f53_15, f54_15, f58_15, f59_15, f60_15, f64_15, f65_15, f66_15, f3_15, f6_15, f16_15, f17_15, f48_15, f70_15, f71_15, f72_15, f73_15], by first | (simp only [↓Array.getElem?_setIfInBounds_ne, ne_eq, Nat.reduceEqDiff, not_false_eq_true, q53_15]; done) | simp [hs15, f7_15, f8_15, f9_15, f10_15, f11_15, f52_15, f53_15, f54_15, f58_15, f59_15, f60_15, f64_15, f65_15, f66_15, f3_15, f6_15, f16_15, f17_15, f48_15, f70_15, f71_15, f72_15, f73_15], by first | (simp only [↓Array.getElem?_setIfInBounds_ne, ne_eq, Nat.reduceEqDiff, not_false_eq_true, q54_15]; done) | simp [hs15, f7_15, f8_15, f9_15, f10_15, f11_15, f52_15, f53_15, f54_15, f58_15, f59_15, f60_15, f64_15, f65_15, f66_15, f3_15, f6_15, f16_15, f17_15, f48_15, f70_15, f71_15, f72_15, f73_15], by first | (simp only [↓Array.getElem?_setIfInBounds_ne, ne_eq, Nat.reduceEqDiff, not_false_eq_true, q58_15]; done) | simp [hs15, f7_15, f8_15, f9_15, f10_15, f11_15, f52_15, f53_15, f54_15, f58_15, f59_15, f60_15, f64_15, f65_15, f66_15, f3_15, f6_15, f16_15, f17_15, f48_15, f70_15, f71_15, f72_15, f73_15], by first | (simp only [↓Array.getElem?_setIfInBounds_ne, ne_eq, Nat.reduceEqDiff, not_false_eq_true, q59_15]; done) | simp [hs15, f7_15, f8_15, f9_15, f10_15, f11_15, f52_15, f53_15, f54_15, f58_15, f59_15, f60_15, f64_15, f65_15, f66_15, f3_15, f6_15, f16_15, f17_15, f48_15, f70_15, f71_15, f72_15, f73_15], by first | (simp only [↓Array.getElem?_setIfInBounds_ne, ne_eq, Nat.reduceEqDiff, not_false_eq_true, q60_15]; done) | simp [hs15, f7_15, f8_15, f9_15, f10_15, f11_15, f52_15, f53_15, f54_15, f58_15, f59_15, f60_15, f64_15, f65_15, f66_15, f3_15, f6_15, f16_15, f17_15, f48_15, f70_15, f71_15, f72_15, f73_15], by first | (simp only [↓Array.getElem?_setIfInBounds_ne, ne_eq, Nat.reduceEqDiff, not_false_eq_true, q64_15]; done) | simp [hs15, f7_15, f8_15, f9_15, f10_15, f11_15, f52_15, f53_15, f54_15, f58_15, f59_15, f60_15, f64_15, f65_15, f66_15, f3_15, f6_15, f16_15, f17_15, f48_15, f70_15, f71_15, f72_15, f73_15], by first | (simp only [↓Array.getElem?_setIfInBounds_ne, ne_eq, Nat.reduceEqDiff, not_false_eq_true, q65_15]; done) | simp [hs15, f7_15, f8_15, f9_15, f10_15, f11_15, f52_15, f53_15, f54_15, f58_15, f59_15, f60_15, f64_15, f65_15, f66_15, f3_15, f6_15, f16_15, f17_15, f48_15, f70_15, f71_15, f72_15, f73_15], by first | (simp only [↓Array.getElem?_setIfInBounds_ne, ne_eq, Nat.reduceEqDiff, not_false_eq_true, q66_15]; done) | simp [hs15, f7_15, f8_15, f9_15, f10_15, f11_15, f52_15, f53_15, f54_15, f58_15, f59_15, f60_15, f64_15, f65_15, f66_15, f3_15, f6_15, f16_15, f17_15, f48_15, f70_15, f71_15, f72_15, f73_15], Four.bl (HFw111.out)⟩)
          case rest5 =>
            intro a' wc5 hR5
            obtain ⟨T16, rfl, hs16, q7_16, q8_16, q9_16, q10_16, q11_16, q52_16, q53_16, q54_16, q58_16, q59_16, q60_16, q64_16, q65_16, q66_16, hB5⟩ := hR5
            have f7_16 := fun hh => getq q7_16 hh
            have f8_16 := fun hh => getq q8_16 hh
            have f9_16 := fun hh => getq q9_16 hh
            have f10_16 := fun hh => getq q10_16 hh
            have f11_16 := fun hh => getq q11_16 hh
            have f52_16 := fun hh => getq q52_16 hh
            have f53_16 := fun hh => getq q53_16 hh
            have f54_16 := fun hh => getq q54_16 hh
            have f58_16 := fun hh => getq q58_16 hh
            have f59_16 := fun hh => getq q59_16 hh
            have f60_16 := fun hh => getq q60_16 hh
            have f64_16 := fun hh => getq q64_16 hh
            have f65_16 := fun hh => getq q65_16 hh
            have f66_16 := fun hh => getq q66_16 hh
            clear FE
            have HB5 := Lib.hid hB5
            clear hB5
            go_upto_region 37 with fail
            refine wp_cut (fun a' wx => ∃ T : Array Value, a' = ⟨T, []⟩ ∧ T.size = 626 ∧ T[7]? = some (.int .i64 a) ∧ T[8]? = some (.int .i64 L) ∧ T[9]? = some (.int .i64 R) ∧ T[11]? = some (.int .i64 v) ∧ T[52]? = some (.int .i64 s1) ∧ T[53]? = some (.int .i64 s2) ∧ T[54]? = some (.bool FI) ∧ T[58]? = some (.int .i64 e1) ∧ T[59]? = some (.int .i64 e2) ∧ T[60]? = some (.bool SE) ∧ T[64]? = some (.int .i64 n1) ∧ T[65]? = some (.int .i64 n2) ∧ T[66]? = some (.bool NI) ∧ T[563]? = some (.bool false) ∧ Below w.heap.size w wx) ?rest6 ?first6
            case first6 =>
              intro J K' hJ hK
              clear FG FN HFS HSN
              cases FI
              · go_wp2_with fail
                refine Met.intro (hJ _ _ ⟨_, rfl, by simp [hs16], by first | (simp only [↓Array.getElem?_setIfInBounds_ne, ne_eq, Nat.reduceEqDiff, not_false_eq_true, q7_16]; done) | simp [hs16, f7_16, f8_16, f9_16, f10_16, f11_16, f52_16, f53_16, f54_16, f58_16, f59_16, f60_16, f64_16, f65_16, f66_16], by first | (simp only [↓Array.getElem?_setIfInBounds_ne, ne_eq, Nat.reduceEqDiff, not_false_eq_true, q8_16]; done) | simp [hs16, f7_16, f8_16, f9_16, f10_16, f11_16, f52_16, f53_16, f54_16, f58_16, f59_16, f60_16, f64_16, f65_16, f66_16], by first | (simp only [↓Array.getElem?_setIfInBounds_ne, ne_eq, Nat.reduceEqDiff, not_false_eq_true, q9_16]; done) | simp [hs16, f7_16, f8_16, f9_16, f10_16, f11_16, f52_16, f53_16, f54_16, f58_16, f59_16, f60_16, f64_16, f65_16, f66_16], by first | (simp only [↓Array.getElem?_setIfInBounds_ne, ne_eq, Nat.reduceEqDiff, not_false_eq_true, q11_16]; done) | simp [hs16, f7_16, f8_16, f9_16, f10_16, f11_16, f52_16, f53_16, f54_16, f58_16, f59_16, f60_16, f64_16, f65_16, f66_16], by first | (simp only [↓Array.getElem?_setIfInBounds_ne, ne_eq, Nat.reduceEqDiff, not_false_eq_true, q52_16]; done) | simp [hs16, f7_16, f8_16, f9_16, f10_16, f11_16, f52_16, f53_16, f54_16, f58_16, f59_16, f60_16, f64_16, f65_16, f66_16], by first | (simp only [↓Array.getElem?_setIfInBounds_ne, ne_eq, Nat.reduceEqDiff, not_false_eq_true, q53_16]; done) | simp [hs16, f7_16, f8_16, f9_16, f10_16, f11_16, f52_16, f53_16, f54_16, f58_16, f59_16, f60_16, f64_16, f65_16, f66_16], by first | (simp only [↓Array.getElem?_setIfInBounds_ne, ne_eq, Nat.reduceEqDiff, not_false_eq_true, q54_16]; done) | simp [hs16, f7_16, f8_16, f9_16, f10_16, f11_16, f52_16, f53_16, f54_16, f58_16, f59_16, f60_16, f64_16, f65_16, f66_16], by first | (simp only [↓Array.getElem?_setIfInBounds_ne, ne_eq, Nat.reduceEqDiff, not_false_eq_true, q58_16]; done) | simp [hs16, f7_16, f8_16, f9_16, f10_16, f11_16, f52_16, f53_16, f54_16, f58_16, f59_16, f60_16, f64_16, f65_16, f66_16], by first | (simp only [↓Array.getElem?_setIfInBounds_ne, ne_eq, Nat.reduceEqDiff, not_false_eq_true, q59_16]; done) | simp [hs16, f7_16, f8_16, f9_16, f10_16, f11_16, f52_16, f53_16, f54_16, f58_16, f59_16, f60_16, f64_16, f65_16, f66_16], by first | (simp only [↓Array.getElem?_setIfInBounds_ne, ne_eq, Nat.reduceEqDiff, not_false_eq_true, q60_16]; done) | simp [hs16, f7_16, f8_16, f9_16, f10_16, f11_16, f52_16, f53_16, f54_16, f58_16, f59_16, f60_16, f64_16, f65_16, f66_16], by first | (simp only [↓Array.getElem?_setIfInBounds_ne, ne_eq, Nat.reduceEqDiff, not_false_eq_true, q64_16]; done) | simp [hs16, f7_16, f8_16, f9_16, f10_16, f11_16, f52_16, f53_16, f54_16, f58_16, f59_16, f60_16, f64_16, f65_16, f66_16], by first | (simp only [↓Array.getElem?_setIfInBounds_ne, ne_eq, Nat.reduceEqDiff, not_false_eq_true, q65_16]; done) | simp [hs16, f7_16, f8_16, f9_16, f10_16, f11_16, f52_16, f53_16, f54_16, f58_16, f59_16, f60_16, f64_16, f65_16, f66_16], by first | (simp only [↓Array.getElem?_setIfInBounds_ne, ne_eq, Nat.reduceEqDiff, not_false_eq_true, q66_16]; done) | simp [hs16, f7_16, f8_16, f9_16, f10_16, f11_16, f52_16, f53_16, f54_16, f58_16, f59_16, f60_16, f64_16, f65_16, f66_16], by first | (simp only [↓Array.getElem?_setIfInBounds_ne, ne_eq, Nat.reduceEqDiff, not_false_eq_true]; done) | simp [hs16, f7_16, f8_16, f9_16, f10_16, f11_16, f52_16, f53_16, f54_16, f58_16, f59_16, f60_16, f64_16, f65_16, f66_16], HB5.out⟩)
              · obtain ⟨HYS, ⟨⟨a1, a2⟩, ⟨a3, a4, a5⟩, a6, a7, a8, a9⟩, ⟨x1, x2⟩, ⟨z1, z2⟩, ⟨z3, z4⟩, ⟨z5, z6⟩, z7, z8⟩ := FF rfl
                clear FF
                have w1_ : IntKind.i64.wrap (R - v) = R - v := IntWalk.i64_in _ ⟨by omega, by omega⟩
                have w2_ : IntKind.i64.wrap (x * (R - v)) = x * (R - v) := IntWalk.i64_in _ ⟨by omega, by omega⟩
                have w3_ : IntKind.i64.wrap (a - x) = a - x := IntWalk.i64_in _ ⟨by omega, by omega⟩
                have w4_ : IntKind.i64.wrap (L - v) = L - v := IntWalk.i64_in _ ⟨by omega, by omega⟩
                have w5_ : IntKind.i64.wrap ((a - x) * (L - v)) = (a - x) * (L - v) := IntWalk.i64_in _ ⟨by omega, by omega⟩
                have w6_ : IntKind.i64.wrap (x * (R - v) + (a - x) * (L - v)) = x * (R - v) + (a - x) * (L - v) := IntWalk.i64_in _ ⟨by omega, by omega⟩
                have w7_ : IntKind.i64.wrap (v * (x * (R - v) + (a - x) * (L - v))) = v * (x * (R - v) + (a - x) * (L - v)) := IntWalk.i64_in _ ⟨by omega, by omega⟩
                have w8_ : IntKind.i64.wrap ((L - v) * (R - v)) = (L - v) * (R - v) := IntWalk.i64_in _ ⟨by omega, by omega⟩
                clear z1 z2 z3 z4 z5 z6 z7 z8
                go_wp2_with fail
                refine ((HYS _).out).mono ?_
                rintro e w' ⟨rfl, nA, rfl⟩
                go_wp2_with fail
                refine Met.intro (hJ _ _ ⟨_, rfl, by simp [hs16], by first | (simp only [↓Array.getElem?_setIfInBounds_ne, ne_eq, Nat.reduceEqDiff, not_false_eq_true, q7_16]; done) | simp [hs16, f7_16, f8_16, f9_16, f10_16, f11_16, f52_16, f53_16, f54_16, f58_16, f59_16, f60_16, f64_16, f65_16, f66_16], by first | (simp only [↓Array.getElem?_setIfInBounds_ne, ne_eq, Nat.reduceEqDiff, not_false_eq_true, q8_16]; done) | simp [hs16, f7_16, f8_16, f9_16, f10_16, f11_16, f52_16, f53_16, f54_16, f58_16, f59_16, f60_16, f64_16, f65_16, f66_16], by first | (simp only [↓Array.getElem?_setIfInBounds_ne, ne_eq, Nat.reduceEqDiff, not_false_eq_true, q9_16]; done) | simp [hs16, f7_16, f8_16, f9_16, f10_16, f11_16, f52_16, f53_16, f54_16, f58_16, f59_16, f60_16, f64_16, f65_16, f66_16], by first | (simp only [↓Array.getElem?_setIfInBounds_ne, ne_eq, Nat.reduceEqDiff, not_false_eq_true, q11_16]; done) | simp [hs16, f7_16, f8_16, f9_16, f10_16, f11_16, f52_16, f53_16, f54_16, f58_16, f59_16, f60_16, f64_16, f65_16, f66_16], by first | (simp only [↓Array.getElem?_setIfInBounds_ne, ne_eq, Nat.reduceEqDiff, not_false_eq_true, q52_16]; done) | simp [hs16, f7_16, f8_16, f9_16, f10_16, f11_16, f52_16, f53_16, f54_16, f58_16, f59_16, f60_16, f64_16, f65_16, f66_16], by first | (simp only [↓Array.getElem?_setIfInBounds_ne, ne_eq, Nat.reduceEqDiff, not_false_eq_true, q53_16]; done) | simp [hs16, f7_16, f8_16, f9_16, f10_16, f11_16, f52_16, f53_16, f54_16, f58_16, f59_16, f60_16, f64_16, f65_16, f66_16], by first | (simp only [↓Array.getElem?_setIfInBounds_ne, ne_eq, Nat.reduceEqDiff, not_false_eq_true, q54_16]; done) | simp [hs16, f7_16, f8_16, f9_16, f10_16, f11_16, f52_16, f53_16, f54_16, f58_16, f59_16, f60_16, f64_16, f65_16, f66_16], by first | (simp only [↓Array.getElem?_setIfInBounds_ne, ne_eq, Nat.reduceEqDiff, not_false_eq_true, q58_16]; done) | simp [hs16, f7_16, f8_16, f9_16, f10_16, f11_16, f52_16, f53_16, f54_16, f58_16, f59_16, f60_16, f64_16, f65_16, f66_16], by first | (simp only [↓Array.getElem?_setIfInBounds_ne, ne_eq, Nat.reduceEqDiff, not_false_eq_true, q59_16]; done) | simp [hs16, f7_16, f8_16, f9_16, f10_16, f11_16, f52_16, f53_16, f54_16, f58_16, f59_16, f60_16, f64_16, f65_16, f66_16], by first | (simp only [↓Array.getElem?_setIfInBounds_ne, ne_eq, Nat.reduceEqDiff, not_false_eq_true, q60_16]; done) | simp [hs16, f7_16, f8_16, f9_16, f10_16, f11_16, f52_16, f53_16, f54_16, f58_16, f59_16, f60_16, f64_16, f65_16, f66_16], by first | (simp only [↓Array.getElem?_setIfInBounds_ne, ne_eq, Nat.reduceEqDiff, not_false_eq_true, q64_16]; done) | simp [hs16, f7_16, f8_16, f9_16, f10_16, f11_16, f52_16, f53_16, f54_16, f58_16, f59_16, f60_16, f64_16, f65_16, f66_16], by first | (simp only [↓Array.getElem?_setIfInBounds_ne, ne_eq, Nat.reduceEqDiff, not_false_eq_true, q65_16]; done) | simp [hs16, f7_16, f8_16, f9_16, f10_16, f11_16, f52_16, f53_16, f54_16, f58_16, f59_16, f60_16, f64_16, f65_16, f66_16], by first | (simp only [↓Array.getElem?_setIfInBounds_ne, ne_eq, Nat.reduceEqDiff, not_false_eq_true, q66_16]; done) | simp [hs16, f7_16, f8_16, f9_16, f10_16, f11_16, f52_16, f53_16, f54_16, f58_16, f59_16, f60_16, f64_16, f65_16, f66_16], by first | (simp only [↓Array.getElem?_setIfInBounds_ne, ne_eq, Nat.reduceEqDiff, not_false_eq_true]; done) | simp [hs16, f7_16, f8_16, f9_16, f10_16, f11_16, f52_16, f53_16, f54_16, f58_16, f59_16, f60_16, f64_16, f65_16, f66_16], below_drewN HB5.out nA⟩)
            case rest6 =>
              intro a' wc6 hR6
              obtain ⟨T17, rfl, hs17, q7_17, q8_17, q9_17, q11_17, q52_17, q53_17, q54_17, q58_17, q59_17, q60_17, q64_17, q65_17, q66_17, q563_17, hB6⟩ := hR6
              have f7_17 := fun hh => getq q7_17 hh
              have f8_17 := fun hh => getq q8_17 hh
              have f9_17 := fun hh => getq q9_17 hh
              have f11_17 := fun hh => getq q11_17 hh
              have f52_17 := fun hh => getq q52_17 hh
              have f53_17 := fun hh => getq q53_17 hh
              have f54_17 := fun hh => getq q54_17 hh
              have f58_17 := fun hh => getq q58_17 hh
              have f59_17 := fun hh => getq q59_17 hh
              have f60_17 := fun hh => getq q60_17 hh
              have f64_17 := fun hh => getq q64_17 hh
              have f65_17 := fun hh => getq q65_17 hh
              have f66_17 := fun hh => getq q66_17 hh
              have f563_17 := fun hh => getq q563_17 hh
              have HB6 := Lib.hid hB6
              clear hB6 FF
              go_wp2_with fail
              refine wp_cond_f ?_ ?_
              · go_simp
              go_upto_region 39 with fail
              refine wp_cut (fun a' wx => ∃ T : Array Value, a' = ⟨T, []⟩ ∧ T.size = 626 ∧ T[7]? = some (.int .i64 a) ∧ T[8]? = some (.int .i64 L) ∧ T[9]? = some (.int .i64 R) ∧ T[11]? = some (.int .i64 v) ∧ T[52]? = some (.int .i64 s1) ∧ T[53]? = some (.int .i64 s2) ∧ T[54]? = some (.bool FI) ∧ T[64]? = some (.int .i64 n1) ∧ T[65]? = some (.int .i64 n2) ∧ T[66]? = some (.bool NI) ∧ T[598]? = some (.bool false) ∧ Below w.heap.size w wx) ?rest7 ?first7
              case first7 =>
                intro J K' hJ hK
                clear FN HFS HSN
                cases SE
                · go_wp2_with fail
                  all_goals refine Met.intro (hJ _ _ ⟨_, rfl, by simp [hs17], by first | (simp only [↓Array.getElem?_setIfInBounds_ne, ne_eq, Nat.reduceEqDiff, not_false_eq_true, q7_17]; done) | simp [hs17, f7_17, f8_17, f9_17, f11_17, f52_17, f53_17, f54_17, f58_17, f59_17, f60_17, f64_17, f65_17, f66_17, f563_17], by first | (simp only [↓Array.getElem?_setIfInBounds_ne, ne_eq, Nat.reduceEqDiff, not_false_eq_true, q8_17]; done) | simp [hs17, f7_17, f8_17, f9_17, f11_17, f52_17, f53_17, f54_17, f58_17, f59_17, f60_17, f64_17, f65_17, f66_17, f563_17], by first | (simp only [↓Array.getElem?_setIfInBounds_ne, ne_eq, Nat.reduceEqDiff, not_false_eq_true, q9_17]; done) | simp [hs17, f7_17, f8_17, f9_17, f11_17, f52_17, f53_17, f54_17, f58_17, f59_17, f60_17, f64_17, f65_17, f66_17, f563_17], by first | (simp only [↓Array.getElem?_setIfInBounds_ne, ne_eq, Nat.reduceEqDiff, not_false_eq_true, q11_17]; done) | simp [hs17, f7_17, f8_17, f9_17, f11_17, f52_17, f53_17, f54_17, f58_17, f59_17, f60_17, f64_17, f65_17, f66_17, f563_17], by first | (simp only [↓Array.getElem?_setIfInBounds_ne, ne_eq, Nat.reduceEqDiff, not_false_eq_true, q52_17]; done) | simp [hs17, f7_17, f8_17, f9_17, f11_17, f52_17, f53_17, f54_17, f58_17, f59_17, f60_17, f64_17, f65_17, f66_17, f563_17], by first | (simp only [↓Array.getElem?_setIfInBounds_ne, ne_eq, Nat.reduceEqDiff, not_false_eq_true, q53_17]; done) | simp [hs17, f7_17, f8_17, f9_17, f11_17, f52_17, f53_17, f54_17, f58_17, f59_17, f60_17, f64_17, f65_17, f66_17, f563_17], by first | (simp only [↓Array.getElem?_setIfInBounds_ne, ne_eq, Nat.reduceEqDiff, not_false_eq_true, q54_17]; done) | simp [hs17, f7_17, f8_17, f9_17, f11_17, f52_17, f53_17, f54_17, f58_17, f59_17, f60_17, f64_17, f65_17, f66_17, f563_17], by first | (simp only [↓Array.getElem?_setIfInBounds_ne, ne_eq, Nat.reduceEqDiff, not_false_eq_true, q64_17]; done) | simp [hs17, f7_17, f8_17, f9_17, f11_17, f52_17, f53_17, f54_17, f58_17, f59_17, f60_17, f64_17, f65_17, f66_17, f563_17], by first | (simp only [↓Array.getElem?_setIfInBounds_ne, ne_eq, Nat.reduceEqDiff, not_false_eq_true, q65_17]; done) | simp [hs17, f7_17, f8_17, f9_17, f11_17, f52_17, f53_17, f54_17, f58_17, f59_17, f60_17, f64_17, f65_17, f66_17, f563_17], by first | (simp only [↓Array.getElem?_setIfInBounds_ne, ne_eq, Nat.reduceEqDiff, not_false_eq_true, q66_17]; done) | simp [hs17, f7_17, f8_17, f9_17, f11_17, f52_17, f53_17, f54_17, f58_17, f59_17, f60_17, f64_17, f65_17, f66_17, f563_17], by first | (simp only [↓Array.getElem?_setIfInBounds_ne, ne_eq, Nat.reduceEqDiff, not_false_eq_true]; done) | simp [hs17, f7_17, f8_17, f9_17, f11_17, f52_17, f53_17, f54_17, f58_17, f59_17, f60_17, f64_17, f65_17, f66_17, f563_17], HB6.out⟩)
                · obtain ⟨HYS, ⟨⟨a1, a2⟩, ⟨a3, a4, a5⟩, a6, a7, a8, a9⟩, ⟨x1, x2, x3, x4⟩, hle, heq⟩ := FG rfl
                  clear FG
                  obtain ⟨z1, z2⟩ := mul_bd2 (a := a) (b := e2) (m := 500) (k := 400) (by omega) (by omega) (by omega) (by omega)
                  obtain ⟨z3, z4⟩ := mul_bd2 (a := e1) (b := R - v) (m := 100000) (k := 200) (by omega) (by omega) (by omega) (by omega)
                  have w1_ : IntKind.i64.wrap (a * e2) = a * e2 := IntWalk.i64_in _ ⟨by omega, by omega⟩
                  have w2_ : IntKind.i64.wrap (R - v) = R - v := IntWalk.i64_in _ ⟨by omega, by omega⟩
                  have w3_ : IntKind.i64.wrap (e1 * (R - v)) = e1 * (R - v) := IntWalk.i64_in _ ⟨by omega, by omega⟩
                  have w4_ : IntKind.i64.wrap (a * e2 - e1) = a * e2 - e1 := IntWalk.i64_in _ ⟨by omega, by omega⟩
                  have w5_ : IntKind.i64.wrap (L - v) = L - v := IntWalk.i64_in _ ⟨by omega, by omega⟩
                  have z5 : 0 ≤ (a * e2 - e1) * (L - v) := by omega
                  have z6 : (a * e2 - e1) * (L - v) ≤ 20000000 := by omega
                  have w6_ : IntKind.i64.wrap ((a * e2 - e1) * (L - v)) = (a * e2 - e1) * (L - v) := IntWalk.i64_in _ ⟨by omega, by omega⟩
                  have hle1 : ¬ a * e2 < e1 := by omega
                  have hn1 : ¬ e1 < 0 := by omega
                  clear z1 z2 z3 z4 z5 z6
                  go_wp2_with fail
                  refine ((HYS _).out).mono ?_
                  rintro e w' ⟨rfl, nA, rfl⟩
                  go_wp2_with fail
                  all_goals refine Met.intro (hJ _ _ ⟨_, rfl, by simp [hs17], by first | (simp only [↓Array.getElem?_setIfInBounds_ne, ne_eq, Nat.reduceEqDiff, not_false_eq_true, q7_17]; done) | simp [hs17, f7_17, f8_17, f9_17, f11_17, f52_17, f53_17, f54_17, f58_17, f59_17, f60_17, f64_17, f65_17, f66_17, f563_17, x1, hle], by first | (simp only [↓Array.getElem?_setIfInBounds_ne, ne_eq, Nat.reduceEqDiff, not_false_eq_true, q8_17]; done) | simp [hs17, f7_17, f8_17, f9_17, f11_17, f52_17, f53_17, f54_17, f58_17, f59_17, f60_17, f64_17, f65_17, f66_17, f563_17, x1, hle], by first | (simp only [↓Array.getElem?_setIfInBounds_ne, ne_eq, Nat.reduceEqDiff, not_false_eq_true, q9_17]; done) | simp [hs17, f7_17, f8_17, f9_17, f11_17, f52_17, f53_17, f54_17, f58_17, f59_17, f60_17, f64_17, f65_17, f66_17, f563_17, x1, hle], by first | (simp only [↓Array.getElem?_setIfInBounds_ne, ne_eq, Nat.reduceEqDiff, not_false_eq_true, q11_17]; done) | simp [hs17, f7_17, f8_17, f9_17, f11_17, f52_17, f53_17, f54_17, f58_17, f59_17, f60_17, f64_17, f65_17, f66_17, f563_17, x1, hle], by first | (simp only [↓Array.getElem?_setIfInBounds_ne, ne_eq, Nat.reduceEqDiff, not_false_eq_true, q52_17]; done) | simp [hs17, f7_17, f8_17, f9_17, f11_17, f52_17, f53_17, f54_17, f58_17, f59_17, f60_17, f64_17, f65_17, f66_17, f563_17, x1, hle], by first | (simp only [↓Array.getElem?_setIfInBounds_ne, ne_eq, Nat.reduceEqDiff, not_false_eq_true, q53_17]; done) | simp [hs17, f7_17, f8_17, f9_17, f11_17, f52_17, f53_17, f54_17, f58_17, f59_17, f60_17, f64_17, f65_17, f66_17, f563_17, x1, hle], by first | (simp only [↓Array.getElem?_setIfInBounds_ne, ne_eq, Nat.reduceEqDiff, not_false_eq_true, q54_17]; done) | simp [hs17, f7_17, f8_17, f9_17, f11_17, f52_17, f53_17, f54_17, f58_17, f59_17, f60_17, f64_17, f65_17, f66_17, f563_17, x1, hle], by first | (simp only [↓Array.getElem?_setIfInBounds_ne, ne_eq, Nat.reduceEqDiff, not_false_eq_true, q64_17]; done) | simp [hs17, f7_17, f8_17, f9_17, f11_17, f52_17, f53_17, f54_17, f58_17, f59_17, f60_17, f64_17, f65_17, f66_17, f563_17, x1, hle], by first | (simp only [↓Array.getElem?_setIfInBounds_ne, ne_eq, Nat.reduceEqDiff, not_false_eq_true, q65_17]; done) | simp [hs17, f7_17, f8_17, f9_17, f11_17, f52_17, f53_17, f54_17, f58_17, f59_17, f60_17, f64_17, f65_17, f66_17, f563_17, x1, hle], by first | (simp only [↓Array.getElem?_setIfInBounds_ne, ne_eq, Nat.reduceEqDiff, not_false_eq_true, q66_17]; done) | simp [hs17, f7_17, f8_17, f9_17, f11_17, f52_17, f53_17, f54_17, f58_17, f59_17, f60_17, f64_17, f65_17, f66_17, f563_17, x1, hle], by first | (simp only [↓Array.getElem?_setIfInBounds_ne, ne_eq, Nat.reduceEqDiff, not_false_eq_true]; done) | simp [hs17, f7_17, f8_17, f9_17, f11_17, f52_17, f53_17, f54_17, f58_17, f59_17, f60_17, f64_17, f65_17, f66_17, f563_17, x1, hle], below_drewN HB6.out nA⟩)
              case rest7 =>
                intro a' wc7 hR7
                obtain ⟨T18, rfl, hs18, q7_18, q8_18, q9_18, q11_18, q52_18, q53_18, q54_18, q64_18, q65_18, q66_18, q598_18, hB7⟩ := hR7
                have f7_18 := fun hh => getq q7_18 hh
                have f8_18 := fun hh => getq q8_18 hh
                have f9_18 := fun hh => getq q9_18 hh
                have f11_18 := fun hh => getq q11_18 hh
                have f52_18 := fun hh => getq q52_18 hh
                have f53_18 := fun hh => getq q53_18 hh
                have f54_18 := fun hh => getq q54_18 hh
                have f64_18 := fun hh => getq q64_18 hh
                have f65_18 := fun hh => getq q65_18 hh
                have f66_18 := fun hh => getq q66_18 hh
                have f598_18 := fun hh => getq q598_18 hh
                have HB7 := Lib.hid hB7
                clear hB7 FG HFS HSN
                go_wp2_with fail
                refine wp_cond_f ?_ ?_
                · go_simp
                go_wp2_with fail
                cases NI
                · refine wp_cond_f ?_ ?_
                  · go_simp
                  go_wp2
                  go_ret
                  exact ⟨by simp [hs18], HB7.out⟩
                · obtain ⟨HYS, ⟨⟨a1, a2⟩, ⟨a3, a4⟩, a5, a6⟩, HEQ⟩ := FN rfl
                  clear FN
                  obtain ⟨z1, z2⟩ := mul_bd2 (a := v) (b := a) (m := 200) (k := 500) (by omega) (by omega) (by omega) (by omega)
                  have w1_ : IntKind.i64.wrap (v * a) = v * a := IntWalk.i64_in _ ⟨by omega, by omega⟩
                  have w2_ : IntKind.i64.wrap (L - v) = L - v := IntWalk.i64_in _ ⟨by omega, by omega⟩
                  clear z1 z2
                  have HEQ := Lib.hid HEQ
                  cases FI
                  · skip
                    refine wp_cond_t ?_ ?_
                    · go_simp
                    go_wp2_with fail
                    refine ((HYS _).out).mono ?_
                    rintro e w' ⟨rfl, nA, rfl⟩
                    go_wp2_with fail
                    refine wp_cond_f ?_ ?_
                    · go_simp
                    go_wp2_with fail
                    all_goals
                      refine wp_cond_f ?_ ?_
                      · go_simp
                      go_wp2
                      go_ret
                      exact ⟨by simp [hs18], below_drewN HB7.out nA⟩
                  · by_cases hlr : L = R
                    · obtain ⟨rfl, rfl⟩ := HEQ.out rfl hlr
                      subst hlr
                      refine wp_cond_t ?_ ?_
                      · go_simp
                      go_wp2_with fail
                      refine ((HYS _).out).mono ?_
                      rintro e w' ⟨rfl, nA, rfl⟩
                      go_wp2_with fail
                      refine wp_cond_f ?_ ?_
                      · go_simp
                      go_wp2_with fail
                      all_goals
                        refine wp_cond_f ?_ ?_
                        · go_simp
                        go_wp2
                        go_ret
                        exact ⟨by simp [hs18], below_drewN HB7.out nA⟩
                    · have hlrb : (L == R) = false := beq_eq_false_iff_ne.2 hlr
                      refine wp_cond_t ?_ ?_
                      · go_simp
                      go_wp2_with fail
                      refine ((HYS _).out).mono ?_
                      rintro e w' ⟨rfl, nA, rfl⟩
                      go_wp2_with fail
                      refine wp_cond_f ?_ ?_
                      · go_simp
                      go_wp2_with fail
                      all_goals
                        refine wp_cond_f ?_ ?_
                        · go_simp
                        go_wp2
                        go_ret
                        exact ⟨by simp [hs18], below_drewN HB7.out nA⟩
end Go.Proofs.Ytfnamahdofigaaa
