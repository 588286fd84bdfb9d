/- What the law FnLaddersCrossOfAll asks of the calls. -/
import Derived.Test.YtohlbnfncllhoaaDoorLC0
import Derived.Test.YtohlbnfncllhoaaDoorT8
namespace Go.Proofs.YtohlbnfncllhoaaDoor
open Go.RowKit
set_option linter.unusedVariables false
set_option linter.unusedSimpArgs false
theorem okL_swap {a b c : Int} (h : okL a b c = true) : okL a c b = true := by
  simp only [okL, Bool.and_eq_true] at h ⊢
  exact ⟨⟨h.1.1, h.2⟩, h.1.2⟩
theorem back_read {a b c : Int} (h : okL a b c = true) (hs : (txt a b c).size ≤ 1048576) : plB (txt a b c) = true ∧ Z (plB (txt a b c)) (pnV (cutA (txt a b c) 58)) = a ∧ Z (plB (txt a b c)) (pnV (cutA (cutB (txt a b c) 58) 47)) = b ∧ Z (plB (txt a b c)) (pnV (cutB (cutB (txt a b c) 58) 47)) = c := by
  have hr := (pl_read (txt a b c)).1
  have hk := hr.2 a b c h rfl
  obtain ⟨h1, h2⟩ := hr.1 hk
  obtain ⟨e1, e2, e3⟩ := txt_inj h1 h h2
  exact ⟨hk, e1, e2, e3⟩
theorem txt_size {a b c : Int} (h : okL a b c = true) : (txt a b c).size ≤ 1048576 := by
  obtain ⟨⟨a1, a2⟩, ⟨b1, b2⟩, c1, c2⟩ := okL_true h
  have := dec_size a (by omega) (by omega)
  have := dec_size b (by omega) (by omega)
  have := dec_size c (by omega) (by omega)
  simp only [txt, ByteArray.size_append]
  have h1 : (⟨#[58]⟩ : ByteArray).size = 1 := rfl
  have h2 : (⟨#[47]⟩ : ByteArray).size = 1 := rfl
  omega
theorem pack_LA (a b c : Int) : ∃ (N D X Y G H U V K M m1 m2 m3 : Int) (tx : ByteArray) (OK : Bool), (∀ W : World, Hid (Calls Tryd.prog 7 #[.agg #[.int .i64 a, .int .i64 b, .int .i64 c]] W fun e w' => e = .returned (.tuple #[.int .i64 N, .int .i64 D, .bool OK]) ∧ Below W.heap.size W w')) ∧ (∀ W : World, Hid (Calls Tryd.prog 8 #[.agg #[.int .i64 a, .int .i64 b, .int .i64 c]] W fun e w' => e = .returned (.tuple #[.int .i64 N, .int .i64 D, .bool OK]) ∧ Below W.heap.size W w')) ∧ (∀ W : World, Hid (Calls Tryd.prog 9 #[.agg #[.int .i64 a, .int .i64 b, .int .i64 c]] W fun e w' => e = .returned (.tuple #[.int .i64 X, .int .i64 Y, .bool OK]) ∧ Below W.heap.size W w')) ∧ (∀ W : World, Hid (Calls Tryd.prog 10 #[.agg #[.int .i64 a, .int .i64 b, .int .i64 c]] W fun e w' => e = .returned (.tuple #[.int .i64 X, .int .i64 Y, .bool OK]) ∧ Below W.heap.size W w')) ∧ (∀ W : World, Hid (Calls Tryd.prog 11 #[.agg #[.int .i64 a, .int .i64 b, .int .i64 c]] W fun e w' => e = .returned (.tuple #[.int .i64 G, .int .i64 H, .bool OK]) ∧ Below W.heap.size W w')) ∧ (∀ W : World, Hid (Calls Tryd.prog 12 #[.agg #[.int .i64 a, .int .i64 b, .int .i64 c]] W fun e w' => e = .returned (.tuple #[.int .i64 G, .int .i64 H, .bool OK]) ∧ Below W.heap.size W w')) ∧ (∀ W : World, Hid (Calls Tryd.prog 13 #[.agg #[.int .i64 a, .int .i64 b, .int .i64 c]] W fun e w' => e = .returned (.tuple #[.int .i64 U, .int .i64 V, .bool OK]) ∧ Below W.heap.size W w')) ∧ (∀ W : World, Hid (Calls Tryd.prog 14 #[.agg #[.int .i64 a, .int .i64 b, .int .i64 c]] W fun e w' => e = .returned (.tuple #[.int .i64 U, .int .i64 V, .bool OK]) ∧ Below W.heap.size W w')) ∧ (∀ W : World, Hid (Calls Tryd.prog 15 #[.agg #[.int .i64 a, .int .i64 b, .int .i64 c]] W fun e w' => e = .returned (.tuple #[.int .i64 K, .bool OK]) ∧ Below W.heap.size W w')) ∧ (∀ W : World, Hid (Calls Tryd.prog 16 #[.agg #[.int .i64 a, .int .i64 b, .int .i64 c]] W fun e w' => e = .returned (.tuple #[.int .i64 K, .bool OK]) ∧ Below W.heap.size W w')) ∧ (∀ W : World, Tab W → Hid (Calls Tryd.prog 17 #[.agg #[.int .i64 a, .int .i64 b, .int .i64 c]] W fun e w' => e = .returned (.tuple #[.string tx, .bool OK]) ∧ Below W.heap.size W w')) ∧ (∀ W : World, Hid (Calls Tryd.prog 18 #[.agg #[.int .i64 a, .int .i64 b, .int .i64 c]] W fun e w' => e = .returned (.tuple #[.string tx, .bool OK]) ∧ Below W.heap.size W w')) ∧ (∀ W : World, Hid (Calls Tryd.prog 19 #[.agg #[.int .i64 a, .int .i64 b, .int .i64 c]] W fun e w' => e = .returned (.tuple #[.agg #[.int .i64 m1, .int .i64 m2, .int .i64 m3], .bool OK]) ∧ Below W.heap.size W w')) ∧ (∀ W : World, Hid (Calls Tryd.prog 20 #[.agg #[.int .i64 a, .int .i64 b, .int .i64 c]] W fun e w' => e = .returned (.tuple #[.agg #[.int .i64 m1, .int .i64 m2, .int .i64 m3], .bool OK]) ∧ Below W.heap.size W w')) ∧ (∀ W : World, Hid (Calls Tryd.prog 21 #[.agg #[.int .i64 a, .int .i64 b, .int .i64 c]] W fun e w' => e = .returned (.bool OK) ∧ Below W.heap.size W w')) ∧ (∀ W : World, Hid (Calls Tryd.prog 22 #[.agg #[.int .i64 a, .int .i64 b, .int .i64 c]] W fun e w' => e = .returned (.bool OK) ∧ Below W.heap.size W w')) ∧
    (OK = true → (a = m1 ∧ c = m2 ∧ b = m3) ∧ (∀ W : World, Hid (Calls Tryd.prog 7 #[.agg #[.int .i64 a, .int .i64 c, .int .i64 b]] W fun e w' => e = .returned (.tuple #[.int .i64 N, .int .i64 D, .bool true]) ∧ Below W.heap.size W w')) ∧ (∀ W : World, Hid (Calls Tryd.prog 9 #[.agg #[.int .i64 a, .int .i64 c, .int .i64 b]] W fun e w' => e = .returned (.tuple #[.int .i64 M, .int .i64 Y, .bool true]) ∧ Below W.heap.size W w')) ∧ (∀ W : World, Tab W → Errs W → MaxL W → Hid (Calls Tryd.prog 23 #[.string tx] W fun e w' => e = .returned (.tuple #[.agg #[.int .i64 a, .int .i64 b, .int .i64 c], .bool true]) ∧ Below W.heap.size W w')) ∧ (∀ W : World, Hid (Calls Tryd.prog 24 #[.int .i64 N, .int .i64 D, .int .i64 (b * c), .int .i64 (b + c)] W fun e w' => e = .returned (.bool true) ∧ ∃ n, w' = W.drewN n)) ∧ (∀ W : World, Hid (Calls Tryd.prog 24 #[.int .i64 X, .int .i64 Y, .int .i64 (a * b), .int .i64 (b + c)] W fun e w' => e = .returned (.bool true) ∧ ∃ n, w' = W.drewN n)) ∧ (∀ W : World, Hid (Calls Tryd.prog 25 #[.int .i64 G, .int .i64 H] W fun e w' => e = .returned (.bool true) ∧ ∃ n, w' = W.drewN n)) ∧ (∀ W : World, Hid (Calls Tryd.prog 25 #[.int .i64 U, .int .i64 V] W fun e w' => e = .returned (.bool true) ∧ ∃ n, w' = W.drewN n)) ∧ M + X = a * Y ∧ G * 2 * D = H * a * N ∧ K = N.tdiv D ∧ U * H * 2 + G * V * 2 = a * (b + c) * V * H ∧ (N ≤ 1000 → D ≤ 1000 → (∀ W : World, Hid (Calls Tryd.prog 26 #[.int .i64 b, .int .i64 N, .int .i64 D] W fun e w' => e = .returned (.tuple #[.int .i64 c, .int .i64 1, .bool true]) ∧ Below W.heap.size W w'))) ∧ ((1 ≤ a ∧ a ≤ 1000) ∧ (1 ≤ b ∧ b ≤ 1000) ∧ 1 ≤ c ∧ c ≤ 1000) ∧ (0 ≤ N ∧ N ≤ 1000000) ∧ (1 ≤ D ∧ D ≤ 2000) ∧ (0 ≤ X ∧ X ≤ 1000000) ∧ (1 ≤ Y ∧ Y ≤ 2000) ∧ (0 ≤ M ∧ M ≤ 1000000) ∧ (0 ≤ G ∧ G ≤ 1000000000) ∧ (1 ≤ H ∧ H ≤ 4000) ∧ (0 ≤ U ∧ U ≤ 4000000000) ∧ 1 ≤ V ∧ V ≤ 4000) := by
  refine ⟨_, _, _, _, _, _, _, _, _, CP ln a c b, _, _, _, _, _, fun W => Lib.hid (impl_CrossHeight a b c W), fun W => Lib.hid (spec_CrossHeight a b c W), fun W => Lib.hid (impl_CrossPlace a b c W), fun W => Lib.hid (spec_CrossPlace a b c W), fun W => Lib.hid (impl_AreaBelow a b c W), fun W => Lib.hid (spec_AreaBelow a b c W), fun W => Lib.hid (impl_AreaBetween a b c W), fun W => Lib.hid (spec_AreaBetween a b c W), fun W => Lib.hid (impl_LongestStick a b c W), fun W => Lib.hid (spec_LongestStick a b c W), fun W T => Lib.hid (impl_LaddersText a b c W T), fun W => Lib.hid (spec_LaddersText a b c W), fun W => Lib.hid (impl_MirrorLadders a b c W), fun W => Lib.hid (spec_MirrorLadders a b c W), fun W => Lib.hid (impl_AreLadders a b c W), fun W => Lib.hid (spec_AreLadders a b c W), ?_⟩
  intro hk
  obtain ⟨⟨a1, a2⟩, ⟨b1, b2⟩, c1, c2⟩ := okL_true hk
  have hs := okL_swap hk
  have e1 := fun W => impl_CrossHeight a c b W
  have e2 := fun W => impl_CrossPlace a c b W
  obtain ⟨q1, q2⟩ := mul_bd (a := b) (b := c) (m := 1000) (by omega) (by omega) (by omega) (by omega)
  obtain ⟨q3, q4⟩ := mul_bd (a := a) (b := b) (m := 1000) (by omega) (by omega) (by omega) (by omega)
  obtain ⟨q5, q6⟩ := mul_bd (a := a) (b := c) (m := 1000) (by omega) (by omega) (by omega) (by omega)
  obtain ⟨q7, q8⟩ := mul_bdx (a := a) (b := b * c) (m := 1000) (k := 1000000) (by omega) q1 (by omega) (by omega)
  have hq := sum_sq (b := b) (c := c) (by omega) (by omega)
  obtain ⟨q9, q10⟩ := mul_bd (a := b + c) (b := b + c) (m := 2000) (by omega) (by omega) (by omega) (by omega)
  obtain ⟨q11, q12⟩ := mul_bdx (a := a) (b := (b + c) * (b + c) - b * c) (m := 1000) (k := 4000000) (by omega) (by omega) (by omega) (by omega)
  obtain ⟨n1, d1, x1, g1⟩ := low_all (n := b * c) (r := b + c) (m := 1000000) q1 (by omega) (by omega)
  obtain ⟨n2, d2, x2, g2⟩ := low_all (n := a * b) (r := b + c) (m := 1000000) q3 (by omega) (by omega)
  obtain ⟨n3, d3, x3, g3⟩ := low_all (n := a * b * c) (r := 2 * (b + c)) (m := 1000000000) (by rw [Int.mul_assoc]; exact q7) (by rw [Int.mul_assoc]; omega) (by omega)
  obtain ⟨n4, d4, x4, g4⟩ := low_all (n := a * ((b + c) * (b + c) - b * c)) (r := 2 * (b + c)) (m := 4000000000) q11 (by omega) (by omega)
  obtain ⟨n5, d5, x5, g5⟩ := low_all (n := a * c) (r := c + b) (m := 1000000) q5 (by omega) (by omega)
  obtain ⟨t1, t2⟩ := two_places (a := a) (b := b) (c := c) (by omega) (by omega) (by omega)
  have hdiv := low_div (n := b * c) (r := b + c) q1 (by omega)
  obtain ⟨r1, r2, r3, r4⟩ := back_read hk (txt_size hk)
  have hbc : c * b = b * c := Int.mul_comm _ _
  have hsum : c + b = b + c := Int.add_comm _ _
  simp only [CH, CP, hs, if_true, hbc] at e1 e2
  rw [hsum] at e1
  rw [t1] at e2
  simp only [CH, CP, AB, AW, LS, LT, hk, hs, if_true, Z_t]
  have hbc1 : 1 ≤ b * c := Int.mul_pos (by omega) (by omega)
  generalize ln (b * c) (b + c) = N at *
  generalize ld (b * c) (b + c) = D at *
  generalize ln (a * b) (b + c) = X at *
  generalize ld (a * b) (b + c) = Y at *
  generalize ln (a * b * c) (2 * (b + c)) = G at *
  generalize ld (a * b * c) (2 * (b + c)) = H at *
  generalize ln (a * ((b + c) * (b + c) - b * c)) (2 * (b + c)) = U at *
  generalize ld (a * ((b + c) * (b + c) - b * c)) (2 * (b + c)) = V at *
  generalize ln (a * c) (c + b) = M at *
  have A1 := area_below (a := a) (b := b) (c := c) (s := b + c) (by omega) x3 x1
  have A2 := areas (a := a) (s := b + c) (t := b * c) (by omega) (by rw [x3, Int.mul_assoc a b c]) x4
  refine ⟨⟨by first | rfl | trivial, by first | rfl | trivial, by first | rfl | trivial⟩, fun W => Lib.hid (e1 W), fun W => Lib.hid (e2 W), fun W T E M => ?_, jIs_yes n1.1 (by omega) d1.1 (by omega) g1 (by omega) (by omega) q1 (by omega) (by rw [x1, Int.mul_comm]), jIs_yes n2.1 (by omega) d2.1 (by omega) g2 (by omega) (by omega) q3 (by omega) (by rw [x2, Int.mul_comm]),
    low_low n3.1 (by omega) d3.1 (by omega) g3, low_low n4.1 (by omega) d4.1 (by omega) g4, t2, A1, hdiv.symm, A2, fun hN hD W => ?_, ⟨⟨a1, a2⟩, ⟨b1, b2⟩, c1, c2⟩, ⟨n1.1, n1.2⟩, ⟨d1.1, by omega⟩, ⟨n2.1, n2.2⟩, ⟨d2.1, by omega⟩, ⟨n5.1, n5.2⟩, ⟨n3.1, n3.2⟩, ⟨d3.1, by omega⟩, ⟨n4.1, n4.2⟩, d4.1, by omega⟩
  · have h := impl_ParseLadders (txt a b c) (txt_size hk) W T E M
    rw [r2, r3, r4, r1] at h
    exact Lib.hid h
  · have hN1 : 1 ≤ N := by
      rcases Int.lt_or_le 0 N with k | k
      · omega
      · have hz : N = 0 := by omega
        rw [hz, Int.zero_mul] at x1
        have := Int.mul_pos (show 0 < D by omega) (show 0 < b * c by omega)
        omega
    obtain ⟨o1, o2⟩ := other_height (b := b) (c := c) (s := b + c) rfl b1 c1 hN1 d1.1 x1
    have h := impl_OtherHeight b N D W
    have hO : okO b N D = true := by
      simp only [okO, within, Bool.and_eq_true, decide_eq_true_eq]
      omega
    simp only [OH, hO, if_true] at h
    rw [o2] at h
    have hu := low_unique (a := (D * b - N) * c) (b := D * b - N) (c := c) (d := 1) (Int.mul_nonneg (by omega) (by omega)) (by omega) (by omega) (by omega) (by rw [Int.mul_one, Int.mul_comm])
    rw [hu.1, hu.2] at h
    have l1 : ln c 1 = c := by simp [ln]
    have l2 : ld c 1 = 1 := by simp [ld]
    rw [l1, l2] at h
    exact Lib.hid h
theorem pack_LB (a b c : Int) (r : Bool) (p : Int) : ∃ (R S X Y P Q : Int) (OK : Bool), (∀ W : World, Hid (Calls Tryd.prog 28 #[.agg #[.int .i64 a, .int .i64 b, .int .i64 c], .bool r, .int .i64 p] W fun e w' => e = .returned (.tuple #[.int .i64 R, .int .i64 S, .bool OK]) ∧ Below W.heap.size W w')) ∧ (∀ W : World, Hid (Calls Tryd.prog 29 #[.agg #[.int .i64 a, .int .i64 b, .int .i64 c], .bool r, .int .i64 p] W fun e w' => e = .returned (.tuple #[.int .i64 R, .int .i64 S, .bool OK]) ∧ Below W.heap.size W w')) ∧ (∀ W : World, Hid (Calls Tryd.prog 30 #[.agg #[.int .i64 a, .int .i64 b, .int .i64 c], .int .i64 p] W fun e w' => e = .returned (.tuple #[.int .i64 X, .int .i64 Y, .bool OK]) ∧ Below W.heap.size W w')) ∧ (∀ W : World, Hid (Calls Tryd.prog 31 #[.agg #[.int .i64 a, .int .i64 b, .int .i64 c], .int .i64 p] W fun e w' => e = .returned (.tuple #[.int .i64 X, .int .i64 Y, .bool OK]) ∧ Below W.heap.size W w')) ∧
    (OK = true → (∀ W : World, Hid (Calls Tryd.prog 28 #[.agg #[.int .i64 a, .int .i64 b, .int .i64 c], .bool (!r), .int .i64 p] W fun e w' => e = .returned (.tuple #[.int .i64 P, .int .i64 Q, .bool true]) ∧ Below W.heap.size W w')) ∧ (R * Y ≤ X * S ∧ P * Y ≤ X * Q ∧ (X * S = R * Y ∨ X * Q = P * Y)) ∧ (0 ≤ R ∧ R ≤ 1000000 ∧ 0 ≤ P ∧ P ≤ 1000000 ∧ 0 ≤ X ∧ X ≤ 1000000) ∧ (1 ≤ S ∧ S ≤ 1000 ∧ 1 ≤ Q ∧ Q ≤ 1000 ∧ 1 ≤ Y ∧ Y ≤ 1000)) := by
  refine ⟨_, _, _, _, HA ln a b c (!r) p, HA ld a b c (!r) p, _, fun W => Lib.hid (impl_HeightAt a b c r p W), fun W => Lib.hid (spec_HeightAt a b c r p W), fun W => Lib.hid (impl_HighestAt a b c p W), fun W => Lib.hid (spec_HighestAt a b c p W), ?_⟩
  intro hk
  obtain ⟨_, _, ⟨a1, a2⟩, _⟩ := okH_true hk
  obtain ⟨f1, f2⟩ := at_bd hk false
  obtain ⟨g1, g2⟩ := at_bd hk true
  have e := fun W => impl_HeightAt a b c (!r) p W
  rw [hk] at e
  unfold HA HI
  rw [if_pos hk, if_pos hk, if_pos hk, if_pos hk, if_pos hk, if_pos hk]
  simp only [HA, hk, if_true] at e
  have hm : at_ a b c r p ≤ max (at_ a b c false p) (at_ a b c true p) ∧ at_ a b c (!r) p ≤ max (at_ a b c false p) (at_ a b c true p) ∧ (max (at_ a b c false p) (at_ a b c true p) = at_ a b c r p ∨ max (at_ a b c false p) (at_ a b c true p) = at_ a b c (!r) p) := by
    cases r <;> simp only [Bool.not_true, Bool.not_false] <;> omega
  have hb : (0 ≤ at_ a b c r p ∧ at_ a b c r p ≤ 1000000) ∧ 0 ≤ at_ a b c (!r) p ∧ at_ a b c (!r) p ≤ 1000000 := by
    cases r <;> simp only [Bool.not_true, Bool.not_false] <;> omega
  have hx : 0 ≤ max (at_ a b c false p) (at_ a b c true p) ∧ max (at_ a b c false p) (at_ a b c true p) ≤ 1000000 := by omega
  generalize max (at_ a b c false p) (at_ a b c true p) = z at *
  generalize at_ a b c r p = x at *
  generalize at_ a b c (!r) p = y at *
  obtain ⟨n1, d1, x1, _⟩ := low_all (n := x) (r := a) (m := 1000000) hb.1.1 hb.1.2 a1
  obtain ⟨n2, d2, x2, _⟩ := low_all (n := y) (r := a) (m := 1000000) hb.2.1 hb.2.2 a1
  obtain ⟨n3, d3, x3, _⟩ := low_all (n := z) (r := a) (m := 1000000) hx.1 hx.2 a1
  have le : ∀ {u v n d m e : Int}, 1 ≤ a → n * a = d * u → m * a = e * v → u ≤ v → 1 ≤ d → 1 ≤ e → n * e ≤ m * d := by
    intro u v n d m e ha h1 h2 huv hd he
    have h3 : n * e * a = (d * e) * u := by rw [Int.mul_right_comm, h1]; grind
    have h4 : m * d * a = (d * e) * v := by rw [Int.mul_right_comm, h2]; grind
    have h5 : (d * e) * u ≤ (d * e) * v := Int.mul_le_mul_of_nonneg_left huv (Int.mul_nonneg (by omega) (by omega))
    rw [← h3, ← h4] at h5
    exact Int.le_of_mul_le_mul_right h5 (by omega)
  refine ⟨fun W => Lib.hid (e W), ⟨le a1 x1 x3 hm.1 d1.1 d3.1, le a1 x2 x3 hm.2.1 d2.1 d3.1, ?_⟩, ⟨n1.1, n1.2, n2.1, n2.2, n3.1, n3.2⟩, d1.1, by omega, d2.1, by omega, d3.1, by omega⟩
  rcases hm.2.2 with h | h
  · left
    subst h
    exact Int.le_antisymm (le a1 x3 x1 (Int.le_refl _) d3.1 d1.1) (le a1 x1 x3 (Int.le_refl _) d1.1 d3.1)
  · right
    subst h
    exact Int.le_antisymm (le a1 x3 x2 (Int.le_refl _) d3.1 d2.1) (le a1 x2 x3 (Int.le_refl _) d2.1 d3.1)
theorem pack_LC (h n d : Int) : ∃ (P Q : Int) (OK : Bool), (∀ W : World, Hid (Calls Tryd.prog 26 #[.int .i64 h, .int .i64 n, .int .i64 d] W fun e w' => e = .returned (.tuple #[.int .i64 P, .int .i64 Q, .bool OK]) ∧ Below W.heap.size W w')) ∧ (∀ W : World, Hid (Calls Tryd.prog 33 #[.int .i64 h, .int .i64 n, .int .i64 d] W fun e w' => e = .returned (.tuple #[.int .i64 P, .int .i64 Q, .bool OK]) ∧ Below W.heap.size W w')) ∧
    (OK = true → (∀ W : World, Hid (Calls Tryd.prog 25 #[.int .i64 P, .int .i64 Q] W fun e w' => e = .returned (.bool true) ∧ ∃ n, w' = W.drewN n)) ∧ n * (P + h * Q) = d * h * P ∧ (1 ≤ h ∧ h ≤ 1000 ∧ 1 ≤ n ∧ n ≤ 1000 ∧ 1 ≤ d ∧ d ≤ 1000) ∧ (0 ≤ P ∧ P ≤ 1000000 ∧ 1 ≤ Q ∧ Q ≤ 1000000)) := by
  refine ⟨_, _, _, fun W => Lib.hid (impl_OtherHeight h n d W), fun W => Lib.hid (spec_OtherHeight h n d W), ?_⟩
  intro hk
  have hk0 := hk
  simp only [okO, Bool.and_eq_true, decide_eq_true_eq] at hk0
  obtain ⟨⟨⟨k1, k2⟩, k3⟩, k4⟩ := hk0
  obtain ⟨h1, h2⟩ := within_true k1
  obtain ⟨n1, n2⟩ := within_true k2
  obtain ⟨d1, d2⟩ := within_true k3
  obtain ⟨q1, q2⟩ := mul_bd (a := n) (b := h) (m := 1000) (by omega) (by omega) (by omega) (by omega)
  obtain ⟨q3, q4⟩ := mul_bd (a := d) (b := h) (m := 1000) (by omega) (by omega) (by omega) (by omega)
  obtain ⟨p1, e1, x1, g1⟩ := low_all (n := n * h) (r := d * h - n) (m := 1000000) q1 (by omega) (by omega)
  unfold OH
  rw [if_pos hk, if_pos hk]
  generalize ln (n * h) (d * h - n) = P at *
  generalize ld (n * h) (d * h - n) = Q at *
  exact ⟨low_low p1.1 (by omega) e1.1 (by omega) g1, by grind, ⟨h1, h2, n1, n2, d1, d2⟩, p1.1, p1.2, e1.1, by omega⟩
theorem pack_LD (a b c d : Int) : ∃ (m1 m2 m3 P Q : Int) (OK : Bool), (∀ W : World, Hid (Calls Tryd.prog 35 #[.agg #[.int .i64 a, .int .i64 b, .int .i64 c], .int .i64 d] W fun e w' => e = .returned (.tuple #[.agg #[.int .i64 m1, .int .i64 m2, .int .i64 m3], .bool OK]) ∧ Below W.heap.size W w')) ∧ (∀ W : World, Hid (Calls Tryd.prog 36 #[.agg #[.int .i64 a, .int .i64 b, .int .i64 c], .int .i64 d] W fun e w' => e = .returned (.tuple #[.agg #[.int .i64 m1, .int .i64 m2, .int .i64 m3], .bool OK]) ∧ Below W.heap.size W w')) ∧
    (OK = true → (∀ W : World, Hid (Calls Tryd.prog 7 #[.agg #[.int .i64 a, .int .i64 b, .int .i64 c]] W fun e w' => e = .returned (.tuple #[.int .i64 P, .int .i64 Q, .bool true]) ∧ Below W.heap.size W w')) ∧ (∀ W : World, Hid (Calls Tryd.prog 7 #[.agg #[.int .i64 m1, .int .i64 m2, .int .i64 m3]] W fun e w' => e = .returned (.tuple #[.int .i64 P, .int .i64 Q, .bool true]) ∧ Below W.heap.size W w')) ∧ (∀ W : World, Hid (Calls Tryd.prog 35 #[.agg #[.int .i64 m1, .int .i64 m2, .int .i64 m3], .int .i64 (-d)] W fun e w' => e = .returned (.tuple #[.agg #[.int .i64 a, .int .i64 b, .int .i64 c], .bool true]) ∧ Below W.heap.size W w')) ∧ (-1000 ≤ d ∧ d ≤ 1000)) := by
  refine ⟨_, _, _, CH ln a b c, CH ld a b c, _, fun W => Lib.hid (impl_MoveWall a b c d W), fun W => Lib.hid (spec_MoveWall a b c d W), ?_⟩
  intro hk
  have hk0 := hk
  simp only [okM, Bool.and_eq_true] at hk0
  obtain ⟨⟨k1, k2⟩, k3⟩ := hk0
  obtain ⟨d1, d2⟩ := within_true k2
  obtain ⟨s1, s2⟩ := within_true k3
  obtain ⟨⟨a1, a2⟩, ⟨b1, b2⟩, c1, c2⟩ := okL_true k1
  have hL : okL (a + d) b c = true := by
    simp only [okL, within, Bool.and_eq_true, decide_eq_true_eq]
    omega
  have hM : okM (a + d) b c (-d) = true := by
    simp only [okM, okL, within, Bool.and_eq_true, decide_eq_true_eq]
    omega
  have e1 := fun W => impl_CrossHeight a b c W
  have e2 := fun W => impl_CrossHeight (a + d) b c W
  have e3 := fun W => impl_MoveWall (a + d) b c (-d) W
  simp only [CH, k1, hL, if_true] at e1 e2
  simp only [hM, Z_t, show a + d + -d = a by omega] at e3
  simp only [hk, Z_t, CH, k1, if_true]
  exact ⟨fun W => Lib.hid (e1 W), fun W => Lib.hid (e2 W), fun W => Lib.hid (e3 W), d1, d2⟩
end Go.Proofs.YtohlbnfncllhoaaDoor
