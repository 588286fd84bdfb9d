/- The lowest whole crossing, by the program and by the model. -/
import Derived.Test.YtophkahaefbkiaaW3
namespace Go.Proofs.Ytophkahaefbkiaa
open Go.RowKit
set_option linter.unusedVariables false
set_option linter.unusedSimpArgs false
/-- a list of whole crossings, three numbers each -/
inductive WL (m : Nat) : List Int → Prop
  | nil : WL m []
  | push {xs : List Int} {x l r : Nat} (h : WL m xs) (hc : cr m x l r = true) (hm : m ≤ 150) : WL m (xs ++ [(x : Int), (l : Int), (r : Int)])
theorem WL.wcR {m x l : Nat} {xs : List Int} (hm : m ≤ 150) (h : WL m xs) : ∀ r, WL m (xs ++ Go.Proofs.Ytophkahaefbkiaa.wcR m x l r)
  | 0 => by rw [Go.Proofs.Ytophkahaefbkiaa.wcR, List.append_nil]; exact h
  | r + 1 => by
    cases hc : cr m x l r
    · rw [wcR_no hc]; exact WL.wcR hm h r
    · rw [wcR_yes hc, ← List.append_assoc]; exact .push (WL.wcR hm h r) hc hm
theorem WL.wcL {m x : Nat} {xs : List Int} (hm : m ≤ 150) (h : WL m xs) : ∀ l, WL m (xs ++ Go.Proofs.Ytophkahaefbkiaa.wcL m x l)
  | 0 => by rw [Go.Proofs.Ytophkahaefbkiaa.wcL, List.append_nil]; exact h
  | l + 1 => by rw [Go.Proofs.Ytophkahaefbkiaa.wcL, ← List.append_assoc]; exact WL.wcR hm (WL.wcL hm h l) _
theorem WL.wcX {m : Nat} (hm : m ≤ 150) : ∀ x, WL m (Go.Proofs.Ytophkahaefbkiaa.wcX m x)
  | 0 => .nil
  | x + 1 => by rw [Go.Proofs.Ytophkahaefbkiaa.wcX]; exact WL.wcL hm (WL.wcX hm x) _
theorem cr_bd {m x l r : Nat} (hm : m ≤ 150) (h : cr m x l r = true) : (1 ≤ x ∧ x ≤ 150) ∧ (1 ≤ l ∧ l ≤ 150) ∧ (1 ≤ r ∧ r ≤ 150) ∧ cwI l r = true := by
  simp only [cr, Bool.and_eq_true, decide_eq_true_eq] at h
  obtain ⟨⟨⟨h1, h2⟩, h3⟩, h4, h5, h6⟩ := h
  have a := wh_far h1 h2 h4
  have b := wh_far h1 h3 h5
  exact ⟨⟨h1, by omega⟩, ⟨h2, by omega⟩, ⟨h3, by omega⟩, h6⟩
theorem WL.at_ {m : Nat} {xs : List Int} (h : WL m xs) : ∀ {n i : Nat}, xs.length = n * 3 → i < n → ∃ x l r : Nat, xs.getD (i * 3) 0 = (x : Int) ∧ xs.getD (i * 3 + 1) 0 = (l : Int) ∧ xs.getD (i * 3 + 2) 0 = (r : Int) ∧ (1 ≤ x ∧ x ≤ 150) ∧ (1 ≤ l ∧ l ≤ 150) ∧ (1 ≤ r ∧ r ≤ 150) ∧ cwI l r = true := by
  induction h with
  | nil => intro n i hl hi; simp at hl; omega
  | push h hc hm ih =>
    rename_i xs x l r
    intro n i hl hi
    simp only [List.length_append, List.length_cons, List.length_nil] at hl
    by_cases e : i * 3 < xs.length
    · obtain ⟨x', l', r', h1, h2, h3, h4⟩ := ih (n := n - 1) (i := i) (by omega) (by omega)
      refine ⟨x', l', r', ?_, ?_, ?_, h4⟩
      · rw [← h1]; simp [List.getD, List.getElem?_append_left (show i * 3 < xs.length by omega)]
      · rw [← h2]; simp [List.getD, List.getElem?_append_left (show i * 3 + 1 < xs.length by omega)]
      · rw [← h3]; simp [List.getD, List.getElem?_append_left (show i * 3 + 2 < xs.length by omega)]
    · have e2 : i * 3 = xs.length := by omega
      refine ⟨x, l, r, ?_, ?_, ?_, cr_bd hm hc⟩
      · rw [e2]; simp [List.getD]
      · rw [e2]; simp [List.getD]
      · rw [e2]; simp [List.getD]
def G3 (xs : List Int) (i k : Nat) : Int := xs.getD (i * 3 + k) 0
def crs (xs : List Int) (i : Nat) : Int := G3 xs i 1 * G3 xs i 2 / (G3 xs i 1 + G3 xs i 2)
/-- the first of the lowest up to j -/
def lw (xs : List Int) : Nat → Nat
  | 0 => 0
  | j + 1 => if crs xs (j + 1) < crs xs (lw xs j) then j + 1 else lw xs j
theorem lw_le (xs : List Int) : ∀ j, lw xs j ≤ j
  | 0 => Nat.le_refl _
  | j + 1 => by
    have := lw_le xs j
    simp only [lw]
    split <;> omega
def LN (most : Int) : Nat := (WCL most).length / 3
def LW (most : Int) (k : Nat) : Int := if LN most = 0 then 0 else G3 (WCL most) (lw (WCL most) (LN most - 1)) k
def LWC (most : Int) : Int := if LN most = 0 then 0 else crs (WCL most) (lw (WCL most) (LN most - 1))
theorem LW_bad {most : Int} (h : within most 1 150 = false) : LN most = 0 := by simp [LN, WCL, h]
theorem WL_of {most : Int} : WL most.toNat (WCL most) := by
  unfold WCL
  cases h : within most 1 150
  · exact .nil
  · obtain ⟨h1, h2⟩ := within_true h
    exact WL.wcX (by omega) _
structure T3 (xs : List Int) (i : Nat) : Prop where
  x : 1 ≤ G3 xs i 0 ∧ G3 xs i 0 ≤ 150
  l : 1 ≤ G3 xs i 1 ∧ G3 xs i 1 ≤ 150
  r : 1 ≤ G3 xs i 2 ∧ G3 xs i 2 ≤ 150
  m : G3 xs i 1 * G3 xs i 2 ≤ 22500
  m0 : 1 ≤ G3 xs i 1 * G3 xs i 2
  c : 1 ≤ crs xs i ∧ crs xs i ≤ 22500
theorem T3_of {m : Nat} {xs : List Int} (h : WL m xs) {n i : Nat} (hl : xs.length = n * 3) (hi : i < n) : T3 xs i := by
  obtain ⟨x, l, r, h1, h2, h3, ⟨x0, x1⟩, ⟨l0, l1⟩, ⟨r0, r1⟩, hc⟩ := h.at_ hl hi
  have e1 : G3 xs i 0 = (x : Int) := h1
  have e2 : G3 xs i 1 = (l : Int) := h2
  have e3 : G3 xs i 2 = (r : Int) := h3
  obtain ⟨f1, f2⟩ := mul_bd (a := (l : Int)) (b := (r : Int)) (m := 150) (by omega) (by omega) (by omega) (by omega)
  have f3 : (1 : Int) * 1 ≤ (l : Int) * (r : Int) := Int.mul_le_mul (by omega) (by omega) (by omega) (by omega)
  have hd : (l : Int) * (r : Int) % ((l : Int) + (r : Int)) = 0 := by simpa [cwI] using hc
  have hdm := Int.emod_add_mul_ediv ((l : Int) * (r : Int)) ((l : Int) + (r : Int))
  rw [hd, Int.zero_add] at hdm
  have hq : 1 ≤ (l : Int) * (r : Int) / ((l : Int) + (r : Int)) := by
    refine Int.not_lt.1 fun c => ?_
    have : ((l : Int) + (r : Int)) * ((l : Int) * (r : Int) / ((l : Int) + (r : Int))) ≤ 0 := Int.mul_nonpos_of_nonneg_of_nonpos (by omega) (by omega)
    omega
  have hq2 : (l : Int) * (r : Int) / ((l : Int) + (r : Int)) ≤ (l : Int) * (r : Int) := Int.ediv_le_self _ (by omega)
  refine ⟨by omega, by omega, by omega, by rw [e2, e3]; omega, by rw [e2, e3]; omega, ?_⟩
  unfold crs
  rw [e2, e3]
  omega
/-- a box of three numbers -/
def Box3 (w : World) (b : Nat) (x y z : Int) : Prop :=
  w.cell? ⟨b, 0, none⟩ = some (.int .i64 x) ∧ w.cell? ⟨b, 1, none⟩ = some (.int .i64 y) ∧ w.cell? ⟨b, 2, none⟩ = some (.int .i64 z) ∧ w.frozen? ⟨b, 0, none⟩ = false ∧ w.frozen? ⟨b, 1, none⟩ = false ∧ w.frozen? ⟨b, 2, none⟩ = false ∧ b < w.heap.size
theorem Box3.keep {w w' : World} {b : Nat} {x y z : Int} (h : Box3 w b x y z) (k : Below w.heap.size w w') : Box3 w' b x y z := by
  obtain ⟨h1, h2, h3, h4, h5, h6, h7⟩ := h
  obtain ⟨hc, hf⟩ := bcell k
  exact ⟨by rw [hc _ _ h7]; exact h1, by rw [hc _ _ h7]; exact h2, by rw [hc _ _ h7]; exact h3, by rw [hf _ _ h7]; exact h4, by rw [hf _ _ h7]; exact h5, by rw [hf _ _ h7]; exact h6, Nat.lt_of_lt_of_le h7 k.size⟩
theorem Box3.keepB {w w' : World} {B b : Nat} {x y z : Int} (h : Box3 w b x y z) (k : Below B w w') (hB : b < B) : Box3 w' b x y z := by
  obtain ⟨h1, h2, h3, h4, h5, h6, h7⟩ := h
  have hb := k.block b hB
  refine ⟨?_, ?_, ?_, ?_, ?_, ?_, Nat.lt_of_lt_of_le h7 k.size⟩
  all_goals (simp only [World.cell?, World.frozen?, hb] at *; assumption)
theorem Box3.made (w : World) (x y z : Int) (T : TypeId) : Box3 (w.alloc (.cells #[.int .i64 x, .int .i64 y, .int .i64 z] T)) w.heap.size x y z := by
  refine ⟨?_, ?_, ?_, ?_, ?_, ?_, ?_⟩ <;> simp
theorem Box3.set {w : World} {b : Nat} {x y z : Int} (h : Box3 w b x y z) (x' y' z' : Int) : Box3 (((w.setCell ⟨b, 0, none⟩ (.int .i64 x')).setCell ⟨b, 1, none⟩ (.int .i64 y')).setCell ⟨b, 2, none⟩ (.int .i64 z')) b x' y' z' := by
  obtain ⟨h1, h2, h3, h4, h5, h6, h7⟩ := h
  refine ⟨?_, ?_, ?_, ?_, ?_, ?_, ?_⟩ <;> simp [go_sem, *]
set_option maxHeartbeats 400000 in
theorem floor_i (a b c : Int) (hb : 1 ≤ b) (hb' : b ≤ 1000) (hc : 1 ≤ c) (hc' : c ≤ 1000) (w : World) :
    Calls Try.prog 35 #[.agg #[.int .i64 a, .int .i64 b, .int .i64 c]] w fun e w' => e = .returned (.int .i64 (b * c / (b + c))) ∧ Below w.heap.size w w' := by
  obtain ⟨f1, f2⟩ := mul_bd (a := b) (b := c) (by omega) (by omega) hb' hc'
  go_enter Try.func35, Try.ntmps35
  go_wp2
  go_ret
  exact ⟨rfl, (by repeat (first | exact Below.refl _ _ | refine bl_alloc ?_ _ | refine bl_drewN ?_ _ | refine bl_trans (by assumption) ?_ | refine bl_set ?_ (by first | omega | (simp; done) | (simp; omega)) _))⟩
set_option maxRecDepth 100000 in
set_option maxHeartbeats 4000000 in
theorem impl_LowestWhole (most : Int) (w : World) :
    Calls Try.prog 14 #[.int .i64 most] w fun e w' => e = .returned (.tuple #[.agg #[.int .i64 (LW most 0), .int .i64 (LW most 1), .int .i64 (LW most 2)], .int .i64 (LWC most), .bool (decide (0 < LN most))]) ∧ Below w.heap.size w w' := by
  go_enter Try.func14, Try.ntmps14
  go_wp2_with fail
  refine (impl_WholeCrossings _ _).mono ?_
  rintro e w1 ⟨v, n, rfl, hR, hW⟩
  have hBX := (Box3.made w 0 0 0 29).keep hW
  have hlen := hR.1
  have hLN : LN most = n := by unfold LN; omega
  have HP := Lib.hid hR.2.toP
  have hW0 := Lib.hid (bl_trans hW (bl_alloc (Below.refl _ _) _))
  have hnl := hR.2.toP.len_le
  have HB := Lib.hid hBX
  obtain ⟨k1, k2, k3, k4, k5, k6, k7⟩ := hBX
  by_cases hn0 : n = 0
  · subst hn0
    obtain ⟨a, c, rfl⟩ := HP.out.shape
    have HLN := Lib.hid hLN
    have HZ := Lib.hid (show ∀ k, LW most k = 0 from fun k => by simp [LW, hLN])
    have HZC := Lib.hid (show LWC most = 0 by simp [LWC, hLN])
    clear hR hLN hlen hW
    cases hk : within most 1 150
    all_goals
      go_wp2
      refine bodyPost_ret (v := .tuple #[.agg #[.int .i64 0, .int .i64 0, .int .i64 0], .int .i64 0, .bool false]) (by simp [results, Try.results14, go_sem, *]) rfl ⟨by simp [HZ.out, HZC.out, HLN.out], ?_⟩
      exact bl_set (bl_set (bl_set hW0.out (p := ⟨_, 0, none⟩) (Nat.le_refl _) _) (p := ⟨_, 1, none⟩) (Nat.le_refl _) _) (p := ⟨_, 2, none⟩) (Nat.le_refl _) _
  · have hk : within most 1 150 = true := by
      cases hk : within most 1 150
      · have := LW_bad hk
        omega
      · rfl
    rw [hk]
    clear hk
    rcases hR.2.open_ with ⟨_, h0⟩ | ⟨b, cap, rfl, hBg, hb, hnc, hcm, hc, _⟩
    · exact absurd h0 hn0
    have HC := Lib.hid hc
    have p1 := hc 0 (by omega)
    have p2 := hc 1 (by omega)
    have p3 := hc 2 (by omega)
    have HT := Lib.hid (fun i (hi : i < n) => T3_of WL_of hlen hi)
    obtain ⟨⟨x0, x1⟩, ⟨l0, l1⟩, ⟨r0, r1⟩, -, -, -⟩ := HT.out 0 (by omega)
    have hn1 : 1 ≤ n := by omega
    have hn1' : (1 : Int) ≤ (n : Int) := by omega
    have HLN := Lib.hid hLN
    have HE := Lib.hid (show (∀ k, LW most k = G3 (WCL most) (lw (WCL most) (n - 1)) k) ∧ LWC most = crs (WCL most) (lw (WCL most) (n - 1)) by simp [LW, LWC, hLN, hn0])
    generalize WCL most = xs at *
    have p1' : w1.cell? ⟨b, 0, none⟩ = some (.int .i64 (G3 xs 0 0)) := by simpa [G3] using p1
    have p2' : w1.cell? ⟨b, 1, none⟩ = some (.int .i64 (G3 xs 0 1)) := by simpa [G3] using p2
    have p3' : w1.cell? ⟨b, 2, none⟩ = some (.int .i64 (G3 xs 0 2)) := by simpa [G3] using p3
    clear hR hLN hlen hW hc p1 p2 p3 hn0
    go_wp2_with fail
    refine (floor_i _ _ _ (by omega) (by omega) (by omega) (by omega) _).mono ?_
    rintro e w2 ⟨rfl, hb2⟩
    have BB := Lib.hid ((Box3.made w1 _ _ _ _).keep hb2)
    have HW2 := Lib.hid (show Below w1.heap.size w1 w2 from bl_trans hb2 (bl_alloc (Below.refl _ _) _))
    have ec : G3 xs 0 1 * G3 xs 0 2 / (G3 xs 0 1 + G3 xs 0 2) = crs xs (lw xs 0) := rfl
    rw [ec]
    clear hb2 ec p1' p2' p3' k1 k2 k3 k4 k5 k6
    have hcp : (1 : Int) ≤ (cap : Int) := by omega
    have hnc' : (n : Int) ≤ (cap : Int) := by omega
    by_cases hcap1 : (cap : Int) = 1
    · go_wp2
      go_loopw [8, 33] (fun lo i wr => ∃ j : Nat, j + 1 ≤ n ∧ i = .int .i64 (j : Int) ∧ lo = .int .i64 (crs xs (lw xs j)) ∧ Box3 wr w1.heap.size (G3 xs (lw xs j) 0) (G3 xs (lw xs j) 1) (G3 xs (lw xs j) 2) ∧ Below w1.heap.size w1 wr) (fun _ i _ => n - (intOf i).toNat)
      case atStart => exact ⟨0, by omega, rfl, rfl, BB.out, HW2.out⟩
      case round =>
        clear BB HW2
        obtain ⟨j, hj, rfl, rfl, hB, hW⟩ := hrel
        have BB := Lib.hid hB
        have HW := Lib.hid hW
        clear hB hW
        by_cases hlt : j + 1 < n
        · omega
        · obtain rfl : n = j + 1 := by omega
          obtain ⟨t1, t2, t3, t4, t5, t6, t7⟩ := BB.out
          have HR0 := HB.out.keep HW.out
          obtain ⟨q1, q2, q3, q4, q5, q6, q7⟩ := HR0
          obtain ⟨e1, e2⟩ := HE.out
          have E0 := Lib.hid (e1 0)
          have E1 := Lib.hid (e1 1)
          have E2 := Lib.hid (e1 2)
          have E3 := Lib.hid e2
          have hwB := hW0.out.size
          simp only [Nat.add_sub_cancel] at E0 E1 E2 E3
          have HF := Lib.hid (bl_trans HW.out hW0.out)
          clear e1 e2
          generalize crs xs (lw xs j) = cv at *
          generalize G3 xs (lw xs j) 0 = v0 at *
          generalize G3 xs (lw xs j) 1 = v1 at *
          generalize G3 xs (lw xs j) 2 = v2 at *
          go_wp2
          refine bodyPost_ret (v := .tuple #[.agg #[.int .i64 v0, .int .i64 v1, .int .i64 v2], .int .i64 cv, .bool true]) (by simp [results, Try.results14, go_sem, *]) rfl ⟨by simp [E0.out, E1.out, E2.out, E3.out, HLN.out], ?_⟩
          exact bl_set (bl_set (bl_set HF.out (p := ⟨_, 0, none⟩) (Nat.le_refl _) _) (p := ⟨_, 1, none⟩) (Nat.le_refl _) _) (p := ⟨_, 2, none⟩) (Nat.le_refl _) _
    · go_wp2
      go_loopw [8, 33] (fun lo i wr => ∃ j : Nat, j + 1 ≤ n ∧ i = .int .i64 (j : Int) ∧ lo = .int .i64 (crs xs (lw xs j)) ∧ Box3 wr w1.heap.size (G3 xs (lw xs j) 0) (G3 xs (lw xs j) 1) (G3 xs (lw xs j) 2) ∧ Below w1.heap.size w1 wr) (fun _ i _ => n - (intOf i).toNat)
      case atStart => exact ⟨0, by omega, rfl, rfl, BB.out, HW2.out⟩
      case round =>
        clear BB HW2
        obtain ⟨j, hj, rfl, rfl, hB, hW⟩ := hrel
        have BB := Lib.hid hB
        have HW := Lib.hid hW
        clear hB hW
        by_cases hlt : j + 1 < n
        · have hlt' : (j : Int) < (n : Int) - 1 := by omega
          obtain ⟨⟨a0, a1⟩, ⟨b0, b1⟩, ⟨c0, c1⟩, -, -, ⟨d0, d1⟩⟩ := HT.out (j + 1) hlt
          obtain ⟨hcl, -⟩ := bcell HW.out
          have p1 : wr.cell? ⟨b, 3 + j * 3, none⟩ = some (.int .i64 (G3 xs (j + 1) 0)) := by
            rw [hcl _ _ hb, HC.out (3 + j * 3) (by omega)]; simp only [G3]; rw [show (j + 1) * 3 + 0 = 3 + j * 3 by omega]
          have p2 : wr.cell? ⟨b, 3 + j * 3 + 1, none⟩ = some (.int .i64 (G3 xs (j + 1) 1)) := by
            rw [hcl _ _ hb, HC.out (3 + j * 3 + 1) (by omega)]; simp only [G3]; rw [show (j + 1) * 3 + 1 = 3 + j * 3 + 1 by omega]
          have p3 : wr.cell? ⟨b, 3 + j * 3 + 2, none⟩ = some (.int .i64 (G3 xs (j + 1) 2)) := by
            rw [hcl _ _ hb, HC.out (3 + j * 3 + 2) (by omega)]; simp only [G3]; rw [show (j + 1) * 3 + 2 = 3 + j * 3 + 2 by omega]
          clear hcl
          have HCE := Lib.hid (show G3 xs (j + 1) 1 * G3 xs (j + 1) 2 / (G3 xs (j + 1) 1 + G3 xs (j + 1) 2) = crs xs (j + 1) from rfl)
          go_wp2_with fail
          refine (floor_i _ _ _ (by omega) (by omega) (by omega) (by omega) _).mono ?_
          rintro e w3 ⟨rfl, hb3⟩
          rw [HCE.out]
          have B10 := (Box3.made wr _ _ _ _).keep hb3
          have BB3 := Lib.hid (BB.out.keep (bl_trans hb3 (bl_alloc (Below.refl _ _) _)))
          have HW3 := Lib.hid (show Below w1.heap.size w1 w3 from bl_trans (bl_trans hb3 (bl_alloc (Below.refl _ _) _)) HW.out)
          have hne : w1.heap.size < wr.heap.size := BB.out.2.2.2.2.2.2
          obtain ⟨q1, q2, q3, q4, q5, q6, q7⟩ := B10
          have HB3 := BB3.out
          obtain ⟨t1, t2, t3, t4, t5, t6, t7⟩ := HB3
          clear hb3 p1 p2 p3 BB HW
          generalize hc2 : crs xs (j + 1) = c2 at *
          generalize hc1 : crs xs (lw xs j) = c1' at *
          by_cases hcc : c2 < c1'
          · have TT := Lib.hid (show lw xs (j + 1) = j + 1 by rw [lw, hc1, hc2, if_pos hcc])
            have HC2 := Lib.hid hc2
            clear hc1 hc2
            go_wp2
            go_roundw
            case rel =>
              refine ⟨j + 1, by omega, by go_num, by rw [TT.out, HC2.out], ?_, ?_⟩
              · rw [TT.out]; exact Box3.set BB3.out _ _ _
              · exact bl_set (bl_set (bl_set HW3.out (p := ⟨_, 0, none⟩) (Nat.le_refl _) _) (p := ⟨_, 1, none⟩) (Nat.le_refl _) _) (p := ⟨_, 2, none⟩) (Nat.le_refl _) _
            case measure => simp only [intOf]; omega
          · have TT := Lib.hid (show lw xs (j + 1) = lw xs j by rw [lw, hc1, hc2, if_neg hcc])
            have HC1 := Lib.hid hc1
            clear hc1 hc2
            go_wp2
            go_roundw
            case rel => exact ⟨j + 1, by omega, by go_num, by rw [TT.out, HC1.out], by rw [TT.out]; exact BB3.out, HW3.out⟩
            case measure => simp only [intOf]; omega
        · obtain rfl : n = j + 1 := by omega
          obtain ⟨t1, t2, t3, t4, t5, t6, t7⟩ := BB.out
          have HR0 := HB.out.keep HW.out
          obtain ⟨q1, q2, q3, q4, q5, q6, q7⟩ := HR0
          obtain ⟨e1, e2⟩ := HE.out
          have E0 := Lib.hid (e1 0)
          have E1 := Lib.hid (e1 1)
          have E2 := Lib.hid (e1 2)
          have E3 := Lib.hid e2
          have hwB := hW0.out.size
          simp only [Nat.add_sub_cancel] at E0 E1 E2 E3
          have HF := Lib.hid (bl_trans HW.out hW0.out)
          clear e1 e2
          generalize crs xs (lw xs j) = cv at *
          generalize G3 xs (lw xs j) 0 = v0 at *
          generalize G3 xs (lw xs j) 1 = v1 at *
          generalize G3 xs (lw xs j) 2 = v2 at *
          go_wp2
          refine bodyPost_ret (v := .tuple #[.agg #[.int .i64 v0, .int .i64 v1, .int .i64 v2], .int .i64 cv, .bool true]) (by simp [results, Try.results14, go_sem, *]) rfl ⟨by simp [E0.out, E1.out, E2.out, E3.out, HLN.out], ?_⟩
          exact bl_set (bl_set (bl_set HF.out (p := ⟨_, 0, none⟩) (Nat.le_refl _) _) (p := ⟨_, 1, none⟩) (Nat.le_refl _) _) (p := ⟨_, 2, none⟩) (Nat.le_refl _) _
theorem grown_set (W : World) (b k : Nat) (v : Value) : W.grownBy (W.setCell ⟨b, k, none⟩ v) (some b) := by
  exact ⟨rfl, rfl, rfl, by simp [World.setCell], fun k _ hk => Below.heap_setCell _ _ _ k (fun e => hk (by rw [e]))⟩
theorem Box3.keepG {w w' : World} {b : Nat} {row : Option Nat} {x y z : Int} (h : Box3 w b x y z) (k : w.grownBy w' row) (hB : some b ≠ row) : Box3 w' b x y z := by
  obtain ⟨h1, h2, h3, h4, h5, h6, h7⟩ := h
  have hb := k.block b h7 hB
  refine ⟨?_, ?_, ?_, ?_, ?_, ?_, Nat.lt_of_lt_of_le h7 k.size⟩
  all_goals (simp only [World.cell?, World.frozen?, hb] at *; assumption)
def loS (xs : List Int) (j : Nat) : Int := if j = 0 then 0 else crs xs (lw xs (j - 1))
def gS (xs : List Int) (j k : Nat) : Int := if j = 0 then 0 else G3 xs (lw xs (j - 1)) k
theorem loS_yes {xs : List Int} {j : Nat} (h : loS xs j = 0 ∨ crs xs j < loS xs j) (hp : 1 ≤ j → 1 ≤ crs xs (lw xs (j - 1))) : loS xs (j + 1) = crs xs j ∧ ∀ k, gS xs (j + 1) k = G3 xs j k := by
  have hl : lw xs j = j := by
    cases j with
    | zero => rfl
    | succ i =>
      have := hp (by omega)
      simp only [loS, Nat.add_one_ne_zero, if_false, Nat.add_sub_cancel] at h this
      rcases h with h | h
      · omega
      · rw [lw, if_pos h]
  simp [loS, gS, hl]
theorem loS_no {xs : List Int} {j : Nat} (h : ¬ (loS xs j = 0 ∨ crs xs j < loS xs j)) : loS xs (j + 1) = loS xs j ∧ ∀ k, gS xs (j + 1) k = gS xs j k := by
  cases j with
  | zero => exact absurd (.inl rfl) h
  | succ i =>
    simp only [loS, gS, Nat.add_one_ne_zero, if_false, Nat.add_sub_cancel] at h ⊢
    have hl : lw xs (i + 1) = lw xs i := by
      rw [lw, if_neg fun c => h (.inr c)]
    simp [hl]
set_option maxRecDepth 100000 in
set_option maxHeartbeats 4000000 in
theorem spec_LowestWhole (most : Int) (w : World) :
    Calls Try.prog 13 #[.int .i64 most] w fun e w' => e = .returned (.tuple #[.agg #[.int .i64 (LW most 0), .int .i64 (LW most 1), .int .i64 (LW most 2)], .int .i64 (LWC most), .bool (decide (0 < LN most))]) ∧ Below w.heap.size w w' := by
  cases h : within most 1 150
  · have hLN := LW_bad h
    have HZ := Lib.hid (show (∀ k, LW most k = 0) ∧ LWC most = 0 by simp [LW, LWC, hLN])
    have HLN := Lib.hid hLN
    clear hLN
    go_enter Try.func13, Try.ntmps13
    go_wp2_with (go_at_call 29; refine (l1In_any _ _ _ _).mono ?_; rintro e w' ⟨rfl, rfl⟩)
    refine bodyPost_ret (v := .tuple #[.agg #[.int .i64 0, .int .i64 0, .int .i64 0], .int .i64 0, .bool false]) (by simp [results, Try.results13, go_sem, *]) rfl ⟨by simp [HZ.out.1, HZ.out.2, HLN.out], (by repeat (first | exact Below.refl _ _ | refine bl_alloc ?_ _ | refine bl_drewN ?_ _ | refine bl_trans (by assumption) ?_ | refine bl_set ?_ (by first | omega | (simp; done) | (simp; omega)) _))⟩
  obtain ⟨h1, h2⟩ := within_true h
  obtain ⟨m, rfl⟩ := Int.eq_ofNat_of_zero_le (show 0 ≤ most by omega)
  have m1 : 1 ≤ m := by omega
  have m2 : m ≤ 150 := by omega
  have HWC := Lib.hid (show WCL (m : Int) = wcX m m by simp [WCL, h])
  go_enter Try.func13, Try.ntmps13
  go_wp2_with (go_at_call 29; refine (l1In_any _ _ _ _).mono ?_; rintro e w' ⟨rfl, rfl⟩)
  refine (clAll_any m m1 m2 _).mono ?_
  rintro e w1 ⟨v, n, rfl, hR, hW⟩
  rw [← HWC.out] at hR
  have hlen := hR.1
  have hLN : LN (m : Int) = n := by unfold LN; omega
  have hW0 := Lib.hid (show Below w.heap.size w w1 from bl_trans hW (bl_alloc (bl_alloc (Below.refl _ _) _) _))
  have hB0 : Box3 w1 w.heap.size 0 0 0 := ((Box3.made w 0 0 0 29).keep (bl_alloc (Below.refl _ _) _)).keep hW
  have hB1 : Box3 w1 (w.heap.size + 1) 0 0 0 := by simpa using (Box3.made (w.alloc _) 0 0 0 29).keep hW
  have hnl := hR.2.toP.len_le
  have HT := Lib.hid (fun i (hi : i < n) => T3_of WL_of hlen hi)
  have HLN := Lib.hid hLN
  have HE := Lib.hid (show (∀ k, LW (m : Int) k = gS (WCL (m : Int)) n k) ∧ LWC (m : Int) = loS (WCL (m : Int)) n by simp [LW, LWC, hLN, gS, loS])
  have HB0 := Lib.hid hB0
  have HB1 := Lib.hid hB1
  have hs1 : w.heap.size + 1 < w1.heap.size := hB1.2.2.2.2.2.2
  generalize WCL (m : Int) = xs at *
  clear hB0 hB1 hW hLN
  obtain ⟨a, c, hv⟩ := hR.2.toP.shape
  have HC := Lib.hid (show ∀ i, i < n → ∃ b, v = .slice (some ⟨b, 0, none⟩) n c ∧ w.heap.size + 2 ≤ b ∧ b < w1.heap.size ∧ ∀ k, k < 3 → w1.cell? ⟨b, i * 3 + k, none⟩ = some (.int .i64 (G3 xs i k)) from fun i hi => by
    rcases hR.2.open_ with ⟨_, h0⟩ | ⟨b, cap, e, hBg, hb, _, _, hc, _⟩
    · omega
    · rw [e] at hv
      simp only [Value.slice.injEq, true_and] at hv
      rw [e, hv.2]
      simp only [World.size_alloc] at hBg
      exact ⟨b, rfl, by omega, hb, fun k hk => hc (i * 3 + k) (by omega)⟩)
  subst hv
  clear hR hlen
  go_wp2
  go_loopw [6, 17] (fun lo i wr => ∃ j : Nat, j ≤ n ∧ i = .int .i64 (j : Int) ∧ lo = .int .i64 (loS xs j) ∧ Box3 wr (w.heap.size + 1) (gS xs j 0) (gS xs j 1) (gS xs j 2) ∧ w1.grownBy wr (some (w.heap.size + 1))) (fun _ i _ => n - (intOf i).toNat)
  case atStart => exact ⟨0, Nat.zero_le _, rfl, rfl, HB1.out, World.grownBy.refl _ _⟩
  case round =>
    clear HB1
    obtain ⟨j, hj, rfl, rfl, hB, hG⟩ := hrel
    have BB := Lib.hid hB
    have HG := Lib.hid hG
    clear hB hG
    by_cases hlt : j < n
    · have hlt' : (j : Int) < (n : Int) := by omega
      obtain ⟨⟨a0, a1⟩, ⟨b0, b1⟩, ⟨c0, c1⟩, f1, f0, ⟨d0, d1⟩⟩ := HT.out j hlt
      obtain ⟨b, he, hb2, hb1, hc⟩ := HC.out j hlt
      simp only [Value.slice.injEq, and_true] at he
      subst he
      have p1 : wr.cell? ⟨b, j * 3, none⟩ = some (.int .i64 (G3 xs j 0)) := HG.out.cell (hc 0 (by omega)) (by simp; omega)
      have p2 : wr.cell? ⟨b, j * 3 + 1, none⟩ = some (.int .i64 (G3 xs j 1)) := HG.out.cell (hc 1 (by omega)) (by simp; omega)
      have p3 : wr.cell? ⟨b, j * 3 + 2, none⟩ = some (.int .i64 (G3 xs j 2)) := HG.out.cell (hc 2 (by omega)) (by simp; omega)
      have HCE := Lib.hid (show G3 xs j 1 * G3 xs j 2 / (G3 xs j 1 + G3 xs j 2) = crs xs j from rfl)
      have hq0 : 0 ≤ G3 xs j 1 * G3 xs j 2 / (G3 xs j 1 + G3 xs j 2) := by rw [HCE.out]; omega
      have hq1 : G3 xs j 1 * G3 xs j 2 / (G3 xs j 1 + G3 xs j 2) ≤ 22500 := by rw [HCE.out]; omega
      obtain ⟨t1, t2, t3, t4, t5, t6, t7⟩ := BB.out
      have HPS := Lib.hid (show 1 ≤ j → 1 ≤ crs xs (lw xs (j - 1)) from fun h => (HT.out _ (by have := lw_le xs (j - 1); omega)).c.1)
      clear hc
      have hw : w.heap.size + 1 < wr.heap.size := t7
      have hG2 : ∀ o : Obj, w1.grownBy (wr.alloc o) (some (w.heap.size + 1)) := fun o => HG.out.andThen (World.grownBy_alloc wr o none) (by simp)
      have HG2 := Lib.hid hG2
      clear hG2
      generalize hlo : loS xs j = lo at *
      have HLO := Lib.hid hlo
      by_cases h0 : lo = 0
      · have TT := loS_yes (xs := xs) (j := j) (.inl (by rw [hlo, h0])) HPS.out
        have HY1 := Lib.hid TT.1
        have HY2 := Lib.hid TT.2
        clear TT hlo
        subst h0
        go_wp2
        go_roundw
        case rel => exact ⟨j + 1, by omega, by go_num, by rw [HY1.out, HCE.out], by rw [HY2.out, HY2.out, HY2.out]; exact (Box3.set BB.out _ _ _).keep (bl_alloc (Below.refl _ _) _), (((HG.out.trans (grown_set _ _ _ _)).trans (grown_set _ _ _ _)).trans (grown_set _ _ _ _)).andThen (World.grownBy_alloc _ _ none) (by simp)⟩
        case measure => simp only [intOf]; omega
      · by_cases hcl : G3 xs j 1 * G3 xs j 2 / (G3 xs j 1 + G3 xs j 2) < lo
        · have TT := loS_yes (xs := xs) (j := j) (.inr (by rw [hlo, ← HCE.out]; exact hcl)) HPS.out
          have HY1 := Lib.hid TT.1
          have HY2 := Lib.hid TT.2
          clear TT hlo
          go_wp2
          go_roundw
          case rel => exact ⟨j + 1, by omega, by go_num, by rw [HY1.out, HCE.out], by rw [HY2.out, HY2.out, HY2.out]; exact (Box3.set BB.out _ _ _).keep (bl_alloc (Below.refl _ _) _), (((HG.out.trans (grown_set _ _ _ _)).trans (grown_set _ _ _ _)).trans (grown_set _ _ _ _)).andThen (World.grownBy_alloc _ _ none) (by simp)⟩
          case measure => simp only [intOf]; omega
        · have TT := loS_no (xs := xs) (j := j) (by rw [hlo, ← HCE.out]; omega)
          have HY1 := Lib.hid TT.1
          have HY2 := Lib.hid TT.2
          clear TT hlo
          go_wp2
          go_roundw
          case rel => exact ⟨j + 1, by omega, by go_num, by rw [HY1.out, HLO.out], by rw [HY2.out, HY2.out, HY2.out]; exact BB.out.keep (bl_alloc (Below.refl _ _) _), HG2.out _⟩
          case measure => simp only [intOf]; omega
    · obtain rfl : j = n := by omega
      obtain ⟨t1, t2, t3, t4, t5, t6, t7⟩ := BB.out
      have HR0 := HB0.out.keepG HG.out (by simp)
      obtain ⟨q1, q2, q3, q4, q5, q6, q7⟩ := HR0
      obtain ⟨e1, e2⟩ := HE.out
      have E0 := Lib.hid (e1 0)
      have E1 := Lib.hid (e1 1)
      have E2 := Lib.hid (e1 2)
      have E3 := Lib.hid e2
      clear e1 e2
      have HGW := Lib.hid (show Below w.heap.size w wr from hW0.out.trans ⟨HG.out.os, HG.out.tape, HG.out.output, HG.out.size, fun i hi => HG.out.block i (by omega) (by simp; omega)⟩)
      by_cases hj0 : j = 0
      · have hc0 : loS xs j = 0 := by simp [loS, hj0]
        have hg0 : ∀ k, gS xs j k = 0 := fun k => by simp [gS, hj0]
        have HJ := Lib.hid hj0
        rw [hc0] at E3
        rw [hg0] at E0 E1 E2 t1 t2 t3
        rw [hc0]
        clear hj0 hc0 hg0 BB HE
        go_wp2
        refine bodyPost_ret (v := .tuple #[.agg #[.int .i64 0, .int .i64 0, .int .i64 0], .int .i64 0, .bool false]) (by simp [results, Try.results13, go_sem, *]) rfl ⟨by rw [E0.out, E1.out, E2.out, E3.out, HLN.out, HJ.out]; rfl, ?_⟩
        exact bl_set (bl_set (bl_set HGW.out (p := ⟨_, 0, none⟩) (Nat.le_refl _) _) (p := ⟨_, 1, none⟩) (Nat.le_refl _) _) (p := ⟨_, 2, none⟩) (Nat.le_refl _) _
      · have hc0 : 1 ≤ loS xs j := by
          have := (HT.out (lw xs (j - 1)) (by have := lw_le xs (j - 1); omega)).c.1
          simpa [loS, hj0] using this
        have HJ := Lib.hid (show decide (0 < j) = true by simp; omega)
        have hc0' : ¬ loS xs j = 0 := by omega
        clear hj0 BB HE
        generalize loS xs j = cv at *
        generalize gS xs j 0 = v0 at *
        generalize gS xs j 1 = v1 at *
        generalize gS xs j 2 = v2 at *
        go_wp2
        refine bodyPost_ret (v := .tuple #[.agg #[.int .i64 v0, .int .i64 v1, .int .i64 v2], .int .i64 cv, .bool true]) (by simp [results, Try.results13, go_sem, *]) rfl ⟨by rw [E0.out, E1.out, E2.out, E3.out, HLN.out, HJ.out], ?_⟩
        exact bl_set (bl_set (bl_set HGW.out (p := ⟨_, 0, none⟩) (Nat.le_refl _) _) (p := ⟨_, 1, none⟩) (Nat.le_refl _) _) (p := ⟨_, 2, none⟩) (Nat.le_refl _) _
end Go.Proofs.Ytophkahaefbkiaa
