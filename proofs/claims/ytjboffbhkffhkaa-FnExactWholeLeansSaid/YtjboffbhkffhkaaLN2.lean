/- Contracts of the functions of chapter 7: square boxes, feet for heights, parts of ladders. -/
import Derived.Test.YtjboffbhkffhkaaLN1
import Derived.Test.YtjboffbhkffhkaaR1
namespace Go.Proofs.Ytjboffbhkffhkaa
open Go.RowKit
set_option linter.unusedVariables false
set_option linter.unusedSimpArgs false
theorem results_tmp5 {fn : Func} {t u v x y : Tmp} (h : fn.results = #[.tmp t, .tmp u, .tmp v, .tmp x, .tmp y]) (tmps : Array Value) (P : Program) (w : World) :
    (results fn tmps).run P w = .ok (.tuple #[tmps.getD t undef, tmps.getD u undef, tmps.getD v undef, tmps.getD x undef, tmps.getD y undef]) w := by
  simp [results, h]
def okPer (t e : Int) : Bool := within t 2 300 && within e 1 t
theorem okPer_true {t e : Int} (h : okPer t e = true) : (2 ≤ t ∧ t ≤ 300) ∧ 1 ≤ e ∧ e ≤ t := by
  simp only [okPer, Bool.and_eq_true] at h
  exact ⟨within_true h.1, within_true h.2⟩
def okMir (l h : Int) : Bool := within h 1 300 && within l 0 (h - 1)
theorem okMir_true {l h : Int} (e : okMir l h = true) : (1 ≤ h ∧ h ≤ 300) ∧ 0 ≤ l ∧ l ≤ h - 1 := by
  simp only [okMir, Bool.and_eq_true] at e
  exact ⟨within_true e.1, within_true e.2⟩
theorem okMir_alt (l h : Int) : okMir l h = (within l 0 300 && within h (l + 1) 300) := by
  simp only [okMir, within]
  rw [Bool.eq_iff_iff]
  simp
  omega
def okPart (l h : Int) : Bool := within h 0 500 && within l 0 h
theorem okPart_true {l h : Int} (e : okPart l h = true) : (0 ≤ h ∧ h ≤ 500) ∧ 0 ≤ l ∧ l ≤ h := by
  simp only [okPart, Bool.and_eq_true] at e
  exact ⟨within_true e.1, within_true e.2⟩
theorem okPart_alt (l h : Int) : okPart l h = (within l 0 500 && within h l 500) := by
  simp only [okPart, within]
  rw [Bool.eq_iff_iff]
  simp
  omega
def okCor (w a : Int) : Bool := within w 1 500 && within a 0 w
theorem okCor_true {l h : Int} (e : okCor l h = true) : (1 ≤ l ∧ l ≤ 500) ∧ 0 ≤ h ∧ h ≤ l := by
  simp only [okCor, Bool.and_eq_true] at e
  exact ⟨within_true e.1, within_true e.2⟩


theorem infoI : (Try.prog.info? 3).map (fun i => (i.zero, i.size, i.bytes)) = some (some (.int .i64 0), 1, 8) := by kernel_rfl
theorem cell_one_alloc (w : World) (x : Value) (t : TypeId) (n : Nat) (hn : n = w.heap.size) : ∀ j u, [x][j]? = some u → (w.alloc (.cells #[x] t)).cell? ((⟨n, 0, none⟩ : Addr).add j) = some u := by
  intro j u hj
  subst hn
  match j, hj with
  | 0, hj =>
    simp at hj
    subst hj
    simp [Addr.add]
theorem IRow.nil (w : World) (B : Nat) : IRow w B (.slice none 0 0) [] := World.ownsRow_nil w B _ 1
theorem IRow.push {W w1 : World} {B : Nat} {v v' : Value} {xs : List Int} {x : Int} {o : Obj} (hB : B ≤ W.heap.size) (h : IRow W B v xs)
    (hO : w1.ownsRow B 3 1 v' (xs.length + 1) (xs.map (Value.int .i64) ++ [.int .i64 x])) (hg : (W.alloc o).grownBy w1 v.ownBlock) : IRow w1 B v' (xs ++ [x]) ∧ Below B W w1 := by
  refine ⟨?_, ((Below.refl B W).alloc hB o).grown hg (by simp; omega) fun g e => (World.ownsRow.lt h g e).1⟩
  unfold IRow
  simpa using hO
theorem IRow.mono {w : World} {B C : Nat} {v : Value} {xs : List Int} (h : IRow w C v xs) (hB : B ≤ C) : IRow w B v xs := by
  obtain ⟨h1, hn | ⟨g, cap, cur, rfl, hC, rest⟩⟩ := h
  · exact ⟨h1, .inl hn⟩
  · exact ⟨h1, .inr ⟨g, cap, cur, rfl, by omega, rest⟩⟩
theorem cell_under {B : Nat} {u v : World} (hb : Below B u v) {n o : Nat} {x : Value} (hn : n < B) (hu : u.cell? ⟨n, o, none⟩ = some x) : v.cell? ⟨n, o, none⟩ = some x := by
  rw [hb.cell (p := ⟨n, o, none⟩) hn]; exact hu
theorem IRow.made (w : World) (B : Nat) (xs : List Int) (hB : B ≤ w.heap.size) (hl : xs.length ≤ maxLen) :
    IRow (w.alloc (.cells (xs.map (Value.int .i64)).toArray 3)) B (.slice (some ⟨w.heap.size, 0, none⟩) xs.length xs.length) xs := by
  have h := World.ownsRow_lit (base := B) (e := 3) (size := 1) w (xs.map (Value.int .i64)).toArray xs.length hB hl (by simp)
  simpa [IRow] using h
theorem IRow.drewN {w : World} {B : Nat} {v : Value} {xs : List Int} (h : IRow w B v xs) (n : Nat) : IRow (w.drewN n) B v xs := h
theorem markIntS_bl (v : Value) (k : Int) (xs : List Int) (B : Nat) (w : World) (h : IRow w B v xs) (hB : B ≤ w.heap.size) (k0 : 0 ≤ k) (k1 : k + xs.length ≤ 4611686018427387904) :
    Calls Try.prog 43 #[v, .int .i64 k] w fun e w' => e = .returned (.int .i64 (k + xs.length)) ∧ IRow w' B v (nums k xs.length) ∧ Below B w w' :=
  (markIntS_any v k xs B w h k0 k1).mono fun e w' ⟨a, b, c, d⟩ => ⟨a, b, (Below.refl B w).grown c hB fun g e => (World.ownsRow.lt h g e).1⟩
def GS (l : Int) : Int := rt (l * l / 8)
theorem sqb {l : Int} (h0 : 0 ≤ l) (h1 : l ≤ 1000) : (0 ≤ l * l ∧ l * l ≤ 1000000) ∧ 0 ≤ l * l / 8 ∧ l * l / 8 ≤ 1000000 := by
  obtain ⟨m0, m1⟩ := mul_bd2 (a := l) (b := l) (m := 1000) (k := 1000) (by omega) (by omega) (by omega) (by omega)
  omega
theorem rt_le {n : Int} (h : 0 ≤ n) : 0 ≤ rt n ∧ rt n ≤ n := by
  obtain ⟨r0, r1, r2⟩ := rt_facts h
  refine ⟨r0, ?_⟩
  rcases Int.lt_or_le 0 (rt n) with g | g
  · have := Int.mul_le_mul_of_nonneg_left (a := 1) (b := rt n) (c := rt n) (by omega) r0
    omega
  · omega
def can (s l : Int) : Bool := decide (8 * s * s ≤ l * l)
theorem can_GS {s l : Int} (hs : 0 ≤ s) (hl : 0 ≤ l) : 8 * s * s ≤ l * l ↔ s ≤ GS l := by
  have hn : 0 ≤ l * l := Int.mul_nonneg hl hl
  have h1 := rt_lt (n := l * l / 8) (l := s) (by omega) hs
  have e : 8 * s * s = 8 * (s * s) := Int.mul_assoc _ _ _
  rw [e]
  unfold GS
  generalize s * s = q at *
  generalize l * l = p at *
  omega
def okSL (s l : Int) : Bool := okSd s && okL7 l
def csl (s l : Int) : Int := if okSL s l then (if can s l then 2 else 0) else 0
def one7 (b : Bool) : Int := if b then 1 else 0
def okSS (s l : Int) : Bool := okSL s l && can s l
set_option maxHeartbeats 400000 in
theorem greatestSide_any (l : Int) (h0 : 1 ≤ l) (h1 : l ≤ 1000) (w : World) :
    Calls Try.prog 92 #[.int .i64 l] w fun e w' => e = .returned (.int .i64 (GS l)) ∧ w = w' := by
  obtain ⟨⟨m0, m1⟩, m2, m3⟩ := sqb (l := l) (by omega) h1
  have HR := fun W => Lib.hid (rootBelow_any (l * l / 8) m2 (by omega) W)
  have HG := Lib.hid (show GS l = rt (l * l / 8) from rfl)
  rw [HG.out]
  go_enter Try.func92, Try.ntmps92
  go_wp2_with fail
  refine ((HR _).out).mono ?_
  rintro e w' ⟨rfl, rfl⟩
  go_wp2
  go_ret
  exact ⟨rfl, rfl⟩
set_option maxHeartbeats 400000 in
theorem lnCan_any (s l : Int) (s0 : 1 ≤ s) (s1 : s ≤ 60) (h0 : 1 ≤ l) (h1 : l ≤ 1000) (w : World) :
    Calls Try.prog 90 #[.int .i64 s, .int .i64 l] w fun e w' => e = .returned (.bool (can s l)) ∧ w = w' := by
  obtain ⟨⟨m0, m1⟩, m2, m3⟩ := sqb (l := l) (by omega) h1
  obtain ⟨n0, n1⟩ := mul_bd2 (a := 8 * s) (b := s) (m := 480) (k := 60) (by omega) (by omega) (by omega) (by omega)
  have e0 := Lib.hid (show can s l = decide (8 * s * s ≤ l * l) from rfl)
  rw [e0.out]
  go_enter Try.func90, Try.ntmps90
  go_wp2
  all_goals (go_ret; exact ⟨by simp, rfl⟩)
set_option maxHeartbeats 1000000 in
theorem impl_CountSquareLeans (s l : Int) (w : World) :
    Calls Try.prog 48 #[.int .i64 s, .int .i64 l] w fun e w' => e = .returned (.tuple #[.int .i64 (csl s l), .bool (okSL s l)]) ∧ Below w.heap.size w w' := by
  cases h1 : okSd s
  · have HO := Lib.hid (show okSL s l = false by simp [okSL, h1])
    go_enter Try.func48, Try.ntmps48
    go_wp2_with fail
    refine (isSideOfBox_any _ _).mono ?_
    rintro e w' ⟨rfl, rfl⟩
    rw [h1]
    go_wp2
    go_ret2
    exact ⟨by simp [HO.out, csl], (by repeat (first | exact Below.refl _ _ | refine bl_alloc ?_ _ | refine bl_drewN ?_ _ | refine bl_trans (by assumption) ?_ | refine bl_set ?_ (by first | omega | (simp; done) | (simp; omega)) _))⟩
  cases h2 : okL7 l
  · have HO := Lib.hid (show okSL s l = false by simp [okSL, h1, h2])
    go_enter Try.func48, Try.ntmps48
    go_wp2_with fail
    refine (isSideOfBox_any _ _).mono ?_
    rintro e w' ⟨rfl, rfl⟩
    rw [h1]
    go_wp2_with fail
    refine (isOfLadder_any _ _).mono ?_
    rintro e w' ⟨rfl, rfl⟩
    rw [h2]
    go_wp2
    go_ret2
    exact ⟨by simp [HO.out, csl], (by repeat (first | exact Below.refl _ _ | refine bl_alloc ?_ _ | refine bl_drewN ?_ _ | refine bl_trans (by assumption) ?_ | refine bl_set ?_ (by first | omega | (simp; done) | (simp; omega)) _))⟩
  have HO := Lib.hid (show okSL s l = true by simp [okSL, h1, h2])
  obtain ⟨s1, s2⟩ := okSd_true h1
  obtain ⟨l1, l2⟩ := okL7_true h2
  obtain ⟨_, m2, m3⟩ := sqb (l := l) (by omega) l2
  obtain ⟨r0, r1⟩ := rt_le m2
  have HG := fun W => Lib.hid (greatestSide_any l l1 l2 W)
  have hb : 0 ≤ GS l ∧ GS l ≤ 1000000 := by unfold GS; omega
  have HC := can_GS (s := s) (l := l) (by omega) (by omega)
  clear r0 r1
  by_cases hc : s ≤ GS l
  · have HV := Lib.hid (show csl s l = 2 by have hcan : can s l = true := decide_eq_true (HC.2 hc); simp [csl, HO.out, hcan])
    clear HC
    generalize GS l = g at *
    go_enter Try.func48, Try.ntmps48
    go_wp2_with fail
    refine (isSideOfBox_any _ _).mono ?_
    rintro e w' ⟨rfl, rfl⟩
    rw [h1]
    go_wp2_with fail
    refine (isOfLadder_any _ _).mono ?_
    rintro e w' ⟨rfl, rfl⟩
    rw [h2]
    go_wp2_with fail
    refine ((HG _).out).mono ?_
    rintro e w' ⟨rfl, rfl⟩
    go_wp2
    go_ret2
    exact ⟨by rw [HO.out, HV.out]; rfl, (by repeat (first | exact Below.refl _ _ | refine bl_alloc ?_ _ | refine bl_drewN ?_ _ | refine bl_trans (by assumption) ?_ | refine bl_set ?_ (by first | omega | (simp; done) | (simp; omega)) _))⟩
  · have HV := Lib.hid (show csl s l = 0 by have hcan : can s l = false := decide_eq_false (fun e => hc (HC.1 e)); simp [csl, HO.out, hcan])
    clear HC
    generalize GS l = g at *
    go_enter Try.func48, Try.ntmps48
    go_wp2_with fail
    refine (isSideOfBox_any _ _).mono ?_
    rintro e w' ⟨rfl, rfl⟩
    rw [h1]
    go_wp2_with fail
    refine (isOfLadder_any _ _).mono ?_
    rintro e w' ⟨rfl, rfl⟩
    rw [h2]
    go_wp2_with fail
    refine ((HG _).out).mono ?_
    rintro e w' ⟨rfl, rfl⟩
    go_wp2
    go_ret2
    exact ⟨by rw [HO.out, HV.out]; rfl, (by repeat (first | exact Below.refl _ _ | refine bl_alloc ?_ _ | refine bl_drewN ?_ _ | refine bl_trans (by assumption) ?_ | refine bl_set ?_ (by first | omega | (simp; done) | (simp; omega)) _))⟩
set_option maxHeartbeats 1000000 in
theorem spec_CountSquareLeans (s l : Int) (w : World) :
    Calls Try.prog 47 #[.int .i64 s, .int .i64 l] w fun e w' => e = .returned (.tuple #[.int .i64 (csl s l), .bool (okSL s l)]) ∧ Below w.heap.size w w' := by
  cases h1 : okSd s
  · have HO := Lib.hid (show okSL s l = false by simp [okSL, h1])
    go_enter Try.func47, Try.ntmps47
    go_wp2_with fail
    refine (lnSide_any _ _).mono ?_
    rintro e w' ⟨rfl, rfl⟩
    rw [h1]
    go_wp2
    go_ret2
    exact ⟨by simp [HO.out, csl], (by repeat (first | exact Below.refl _ _ | refine bl_alloc ?_ _ | refine bl_drewN ?_ _ | refine bl_trans (by assumption) ?_ | refine bl_set ?_ (by first | omega | (simp; done) | (simp; omega)) _))⟩
  cases h2 : okL7 l
  · have HO := Lib.hid (show okSL s l = false by simp [okSL, h1, h2])
    go_enter Try.func47, Try.ntmps47
    go_wp2_with fail
    refine (lnSide_any _ _).mono ?_
    rintro e w' ⟨rfl, rfl⟩
    rw [h1]
    go_wp2_with fail
    refine (lnLong_any _ _).mono ?_
    rintro e w' ⟨rfl, rfl⟩
    rw [h2]
    go_wp2
    go_ret2
    exact ⟨by simp [HO.out, csl], (by repeat (first | exact Below.refl _ _ | refine bl_alloc ?_ _ | refine bl_drewN ?_ _ | refine bl_trans (by assumption) ?_ | refine bl_set ?_ (by first | omega | (simp; done) | (simp; omega)) _))⟩
  have HO := Lib.hid (show okSL s l = true by simp [okSL, h1, h2])
  obtain ⟨s1, s2⟩ := okSd_true h1
  obtain ⟨l1, l2⟩ := okL7_true h2
  have HG := fun W => Lib.hid (lnCan_any s l s1 s2 l1 l2 W)
  cases hc : can s l
  · have HV := Lib.hid (show csl s l = 0 by simp only [csl, HO.out, hc]; rfl)
    go_enter Try.func47, Try.ntmps47
    go_wp2_with fail
    refine (lnSide_any _ _).mono ?_
    rintro e w' ⟨rfl, rfl⟩
    rw [h1]
    go_wp2_with fail
    refine (lnLong_any _ _).mono ?_
    rintro e w' ⟨rfl, rfl⟩
    rw [h2]
    go_wp2_with fail
    refine ((HG _).out).mono ?_
    rintro e w' ⟨rfl, rfl⟩
    rw [hc]
    go_wp2
    go_ret2
    exact ⟨by rw [HO.out, HV.out]; rfl, (by repeat (first | exact Below.refl _ _ | refine bl_alloc ?_ _ | refine bl_drewN ?_ _ | refine bl_trans (by assumption) ?_ | refine bl_set ?_ (by first | omega | (simp; done) | (simp; omega)) _))⟩
  · have HV := Lib.hid (show csl s l = 2 by simp only [csl, HO.out, hc]; rfl)
    go_enter Try.func47, Try.ntmps47
    go_wp2_with fail
    refine (lnSide_any _ _).mono ?_
    rintro e w' ⟨rfl, rfl⟩
    rw [h1]
    go_wp2_with fail
    refine (lnLong_any _ _).mono ?_
    rintro e w' ⟨rfl, rfl⟩
    rw [h2]
    go_wp2_with fail
    refine ((HG _).out).mono ?_
    rintro e w' ⟨rfl, rfl⟩
    rw [hc]
    go_wp2
    go_ret2
    exact ⟨by rw [HO.out, HV.out]; rfl, (by repeat (first | exact Below.refl _ _ | refine bl_alloc ?_ _ | refine bl_drewN ?_ _ | refine bl_trans (by assumption) ?_ | refine bl_set ?_ (by first | omega | (simp; done) | (simp; omega)) _))⟩
set_option maxHeartbeats 1000000 in
theorem impl_GreatestSquareBox (l : Int) (w : World) :
    Calls Try.prog 50 #[.int .i64 l] w fun e w' => e = .returned (.tuple #[.int .i64 (Z (okL7 l) (GS l)), .bool (okL7 l)]) ∧ Below w.heap.size w w' := by
  cases h1 : okL7 l
  · have HO := Lib.hid h1
    go_enter Try.func50, Try.ntmps50
    go_wp2_with fail
    refine (isOfLadder_any _ _).mono ?_
    rintro e w' ⟨rfl, rfl⟩
    rw [h1]
    go_wp2
    go_ret2
    exact ⟨by simp [Z], (by repeat (first | exact Below.refl _ _ | refine bl_alloc ?_ _ | refine bl_drewN ?_ _ | refine bl_trans (by assumption) ?_ | refine bl_set ?_ (by first | omega | (simp; done) | (simp; omega)) _))⟩
  have HO := Lib.hid h1
  obtain ⟨l1, l2⟩ := okL7_true h1
  obtain ⟨⟨m0, m1⟩, m2, m3⟩ := sqb (l := l) (by omega) l2
  have HG := fun W => Lib.hid (greatestSide_any l l1 l2 W)
  have HV := Lib.hid (show GS l = rt (l * l / 8) from rfl)
  go_enter Try.func50, Try.ntmps50
  go_wp2_with fail
  refine (isOfLadder_any _ _).mono ?_
  rintro e w' ⟨rfl, rfl⟩
  rw [h1]
  go_wp2_with fail
  refine ((HG _).out).mono ?_
  rintro e w' ⟨rfl, rfl⟩
  go_wp2
  go_ret2
  exact ⟨rfl, (by repeat (first | exact Below.refl _ _ | refine bl_alloc ?_ _ | refine bl_drewN ?_ _ | refine bl_trans (by assumption) ?_ | refine bl_set ?_ (by first | omega | (simp; done) | (simp; omega)) _))⟩
set_option maxHeartbeats 1000000 in
theorem spec_GreatestSquareBox (l : Int) (w : World) :
    Calls Try.prog 49 #[.int .i64 l] w fun e w' => e = .returned (.tuple #[.int .i64 (Z (okL7 l) (GS l)), .bool (okL7 l)]) ∧ Below w.heap.size w w' := by
  cases h1 : okL7 l
  · have HO := Lib.hid h1
    go_enter Try.func49, Try.ntmps49
    go_wp2_with fail
    refine (lnLong_any _ _).mono ?_
    rintro e w' ⟨rfl, rfl⟩
    rw [h1]
    go_wp2
    go_ret2
    exact ⟨by simp [Z], (by repeat (first | exact Below.refl _ _ | refine bl_alloc ?_ _ | refine bl_drewN ?_ _ | refine bl_trans (by assumption) ?_ | refine bl_set ?_ (by first | omega | (simp; done) | (simp; omega)) _))⟩
  have HO := Lib.hid h1
  obtain ⟨l1, l2⟩ := okL7_true h1
  obtain ⟨⟨m0, m1⟩, m2, m3⟩ := sqb (l := l) (by omega) l2
  have HG := fun W => Lib.hid (clRoot_any (l * l / 8) m2 (by omega) W)
  have HV := Lib.hid (show GS l = rt (l * l / 8) from rfl)
  go_enter Try.func49, Try.ntmps49
  go_wp2_with fail
  refine (lnLong_any _ _).mono ?_
  rintro e w' ⟨rfl, rfl⟩
  rw [h1]
  go_wp2_with fail
  refine ((HG _).out).mono ?_
  rintro e w' ⟨rfl, rfl⟩
  go_wp2
  go_ret2
  exact ⟨rfl, (by repeat (first | exact Below.refl _ _ | refine bl_alloc ?_ _ | refine bl_drewN ?_ _ | refine bl_trans (by assumption) ?_ | refine bl_set ?_ (by first | omega | (simp; done) | (simp; omega)) _))⟩
set_option maxHeartbeats 1000000 in
theorem impl_SquareLeanSum (s l : Int) (w : World) :
    Calls Try.prog 52 #[.int .i64 s, .int .i64 l] w fun e w' => e = .returned (.tuple #[.int .i64 (Z (okSS s l) (s + rt (sq s l))), .int .i64 (Z (okSS s l) (one7 (whole (sq s l)))), .bool (okSS s l)]) ∧ Below w.heap.size w w' := by
  cases h1 : okSd s
  · have HO := Lib.hid (show okSL s l = false by simp [okSL, h1])
    go_enter Try.func52, Try.ntmps52
    go_wp2_with fail
    refine (isSideOfBox_any _ _).mono ?_
    rintro e w' ⟨rfl, rfl⟩
    rw [h1]
    go_wp2
    go_ret3
    exact ⟨by simp [okSS, HO.out, Z], (by repeat (first | exact Below.refl _ _ | refine bl_alloc ?_ _ | refine bl_drewN ?_ _ | refine bl_trans (by assumption) ?_ | refine bl_set ?_ (by first | omega | (simp; done) | (simp; omega)) _))⟩
  cases h2 : okL7 l
  · have HO := Lib.hid (show okSL s l = false by simp [okSL, h1, h2])
    go_enter Try.func52, Try.ntmps52
    go_wp2_with fail
    refine (isSideOfBox_any _ _).mono ?_
    rintro e w' ⟨rfl, rfl⟩
    rw [h1]
    go_wp2_with fail
    refine (isOfLadder_any _ _).mono ?_
    rintro e w' ⟨rfl, rfl⟩
    rw [h2]
    go_wp2
    go_ret3
    exact ⟨by simp [okSS, HO.out, Z], (by repeat (first | exact Below.refl _ _ | refine bl_alloc ?_ _ | refine bl_drewN ?_ _ | refine bl_trans (by assumption) ?_ | refine bl_set ?_ (by first | omega | (simp; done) | (simp; omega)) _))⟩
  have HO := Lib.hid (show okSL s l = true by simp [okSL, h1, h2])
  obtain ⟨s1, s2⟩ := okSd_true h1
  obtain ⟨l1, l2⟩ := okL7_true h2
  obtain ⟨_, m2, m3⟩ := sqb (l := l) (by omega) l2
  have HG := fun W => Lib.hid (greatestSide_any l l1 l2 W)
  have hb : 0 ≤ GS l ∧ GS l ≤ 1000000 := by have := rt_le m2; unfold GS; omega
  have HC := can_GS (s := s) (l := l) (by omega) (by omega)
  have HCF : can s l = false → ¬ s ≤ GS l := fun e g => by have := HC.2 g; simp [can] at e; omega
  have HCT : can s l = true → s ≤ GS l := fun e => HC.1 (by simpa [can] using e)
  clear HC
  generalize GS l = gr at *
  cases hc : can s l
  · have HS := Lib.hid (show okSS s l = false by simp only [okSS, HO.out, hc]; rfl)
    have hx := HCF hc
    clear HCF HCT
    go_enter Try.func52, Try.ntmps52
    go_wp2_with fail
    refine (isSideOfBox_any _ _).mono ?_
    rintro e w' ⟨rfl, rfl⟩
    rw [h1]
    go_wp2_with fail
    refine (isOfLadder_any _ _).mono ?_
    rintro e w' ⟨rfl, rfl⟩
    rw [h2]
    go_wp2_with fail
    refine ((HG _).out).mono ?_
    rintro e w' ⟨rfl, rfl⟩
    go_wp2
    go_ret3
    exact ⟨by simp [HS.out, Z], (by repeat (first | exact Below.refl _ _ | refine bl_alloc ?_ _ | refine bl_drewN ?_ _ | refine bl_trans (by assumption) ?_ | refine bl_set ?_ (by first | omega | (simp; done) | (simp; omega)) _))⟩
  have HSS := Lib.hid (show okSS s l = true by simp only [okSS, HO.out, hc]; rfl)
  have hx := HCT hc
  clear HCF HCT
  obtain ⟨⟨x1, x2⟩, ⟨x3, x4⟩, x5, x6⟩ := sq_bd (a := s) (b := l) (by omega) (by omega) (by omega) (by omega)
  have hq : s * s + l * l = sq s l := rfl
  obtain ⟨r0, r1, r2⟩ := rt_facts x5
  obtain ⟨_, r3⟩ := rt_le x5
  have r4 : 0 ≤ rt (sq s l) * rt (sq s l) := Int.mul_nonneg r0 r0
  clear r2
  have HS := fun W => Lib.hid (squareOfLength_any s l (by omega) (by omega) (by omega) (by omega) W)
  have HR := fun W => Lib.hid (wholeRoot_any (sq s l) x5 (by omega) W)
  generalize sq s l = S at *
  cases hw : whole S
  · generalize rt S = R at *
    go_enter Try.func52, Try.ntmps52
    go_wp2_with fail
    refine (isSideOfBox_any _ _).mono ?_
    rintro e w' ⟨rfl, rfl⟩
    rw [h1]
    go_wp2_with fail
    refine (isOfLadder_any _ _).mono ?_
    rintro e w' ⟨rfl, rfl⟩
    rw [h2]
    go_wp2_with fail
    refine ((HG _).out).mono ?_
    rintro e w' ⟨rfl, rfl⟩
    go_wp2_with fail
    refine ((HS _).out).mono ?_
    rintro e w' ⟨rfl, rfl⟩
    go_wp2_with fail
    refine ((HR _).out).mono ?_
    rintro e w' ⟨rfl, rfl⟩
    rw [hw]
    go_wp2
    go_ret3
    exact ⟨by rw [HSS.out]; rfl, (by repeat (first | exact Below.refl _ _ | refine bl_alloc ?_ _ | refine bl_drewN ?_ _ | refine bl_trans (by assumption) ?_ | refine bl_set ?_ (by first | omega | (simp; done) | (simp; omega)) _))⟩
  · generalize rt S = R at *
    go_enter Try.func52, Try.ntmps52
    go_wp2_with fail
    refine (isSideOfBox_any _ _).mono ?_
    rintro e w' ⟨rfl, rfl⟩
    rw [h1]
    go_wp2_with fail
    refine (isOfLadder_any _ _).mono ?_
    rintro e w' ⟨rfl, rfl⟩
    rw [h2]
    go_wp2_with fail
    refine ((HG _).out).mono ?_
    rintro e w' ⟨rfl, rfl⟩
    go_wp2_with fail
    refine ((HS _).out).mono ?_
    rintro e w' ⟨rfl, rfl⟩
    go_wp2_with fail
    refine ((HR _).out).mono ?_
    rintro e w' ⟨rfl, rfl⟩
    rw [hw]
    go_wp2
    go_ret3
    exact ⟨by rw [HSS.out]; rfl, (by repeat (first | exact Below.refl _ _ | refine bl_alloc ?_ _ | refine bl_drewN ?_ _ | refine bl_trans (by assumption) ?_ | refine bl_set ?_ (by first | omega | (simp; done) | (simp; omega)) _))⟩
set_option maxHeartbeats 1000000 in
theorem spec_SquareLeanSum (s l : Int) (w : World) :
    Calls Try.prog 51 #[.int .i64 s, .int .i64 l] w fun e w' => e = .returned (.tuple #[.int .i64 (Z (okSS s l) (s + rt (sq s l))), .int .i64 (Z (okSS s l) (one7 (whole (sq s l)))), .bool (okSS s l)]) ∧ Below w.heap.size w w' := by
  cases h1 : okSd s
  · have HO := Lib.hid (show okSL s l = false by simp [okSL, h1])
    go_enter Try.func51, Try.ntmps51
    go_wp2_with fail
    refine (lnSide_any _ _).mono ?_
    rintro e w' ⟨rfl, rfl⟩
    rw [h1]
    go_wp2
    go_ret3
    exact ⟨by simp [okSS, HO.out, Z], (by repeat (first | exact Below.refl _ _ | refine bl_alloc ?_ _ | refine bl_drewN ?_ _ | refine bl_trans (by assumption) ?_ | refine bl_set ?_ (by first | omega | (simp; done) | (simp; omega)) _))⟩
  cases h2 : okL7 l
  · have HO := Lib.hid (show okSL s l = false by simp [okSL, h1, h2])
    go_enter Try.func51, Try.ntmps51
    go_wp2_with fail
    refine (lnSide_any _ _).mono ?_
    rintro e w' ⟨rfl, rfl⟩
    rw [h1]
    go_wp2_with fail
    refine (lnLong_any _ _).mono ?_
    rintro e w' ⟨rfl, rfl⟩
    rw [h2]
    go_wp2
    go_ret3
    exact ⟨by simp [okSS, HO.out, Z], (by repeat (first | exact Below.refl _ _ | refine bl_alloc ?_ _ | refine bl_drewN ?_ _ | refine bl_trans (by assumption) ?_ | refine bl_set ?_ (by first | omega | (simp; done) | (simp; omega)) _))⟩
  have HO := Lib.hid (show okSL s l = true by simp [okSL, h1, h2])
  obtain ⟨s1, s2⟩ := okSd_true h1
  obtain ⟨l1, l2⟩ := okL7_true h2
  have HG := fun W => Lib.hid (lnCan_any s l s1 s2 l1 l2 W)
  cases hc : can s l
  · have HS := Lib.hid (show okSS s l = false by simp only [okSS, HO.out, hc]; rfl)
    go_enter Try.func51, Try.ntmps51
    go_wp2_with fail
    refine (lnSide_any _ _).mono ?_
    rintro e w' ⟨rfl, rfl⟩
    rw [h1]
    go_wp2_with fail
    refine (lnLong_any _ _).mono ?_
    rintro e w' ⟨rfl, rfl⟩
    rw [h2]
    go_wp2_with fail
    refine ((HG _).out).mono ?_
    rintro e w' ⟨rfl, rfl⟩
    rw [hc]
    go_wp2
    go_ret3
    exact ⟨by simp [HS.out, Z], (by repeat (first | exact Below.refl _ _ | refine bl_alloc ?_ _ | refine bl_drewN ?_ _ | refine bl_trans (by assumption) ?_ | refine bl_set ?_ (by first | omega | (simp; done) | (simp; omega)) _))⟩
  have HSS := Lib.hid (show okSS s l = true by simp only [okSS, HO.out, hc]; rfl)
  obtain ⟨⟨x1, x2⟩, ⟨x3, x4⟩, x5, x6⟩ := sq_bd (a := s) (b := l) (by omega) (by omega) (by omega) (by omega)
  have hq : s * s + l * l = sq s l := rfl
  obtain ⟨r0, r1, r2⟩ := rt_facts x5
  obtain ⟨_, r3⟩ := rt_le x5
  have r4 : 0 ≤ rt (sq s l) * rt (sq s l) := Int.mul_nonneg r0 r0
  clear r2
  have HR := fun W => Lib.hid (clRoot_any (sq s l) x5 (by omega) W)
  have hwd := Lib.hid (show whole (sq s l) = (rt (sq s l) * rt (sq s l) == sq s l) from rfl)
  rw [Int.add_comm s (rt (sq s l))]
  cases hw : whole (sq s l)
  · have hwe := hwd.out
    rw [hw] at hwe
    have hwe' := hwe.symm
    clear hwe hwd
    generalize sq s l = S at *
    generalize rt S = R at *
    go_enter Try.func51, Try.ntmps51
    go_wp2_with fail
    refine (lnSide_any _ _).mono ?_
    rintro e w' ⟨rfl, rfl⟩
    rw [h1]
    go_wp2_with fail
    refine (lnLong_any _ _).mono ?_
    rintro e w' ⟨rfl, rfl⟩
    rw [h2]
    go_wp2_with fail
    refine ((HG _).out).mono ?_
    rintro e w' ⟨rfl, rfl⟩
    rw [hc]
    go_wp2_with fail
    refine ((HR _).out).mono ?_
    rintro e w' ⟨rfl, rfl⟩
    go_wp2
    go_ret3
    exact ⟨by rw [HSS.out]; rfl, (by repeat (first | exact Below.refl _ _ | refine bl_alloc ?_ _ | refine bl_drewN ?_ _ | refine bl_trans (by assumption) ?_ | refine bl_set ?_ (by first | omega | (simp; done) | (simp; omega)) _))⟩
  · have hwe := hwd.out
    rw [hw] at hwe
    have hwe' := hwe.symm
    clear hwe hwd
    generalize sq s l = S at *
    generalize rt S = R at *
    go_enter Try.func51, Try.ntmps51
    go_wp2_with fail
    refine (lnSide_any _ _).mono ?_
    rintro e w' ⟨rfl, rfl⟩
    rw [h1]
    go_wp2_with fail
    refine (lnLong_any _ _).mono ?_
    rintro e w' ⟨rfl, rfl⟩
    rw [h2]
    go_wp2_with fail
    refine ((HG _).out).mono ?_
    rintro e w' ⟨rfl, rfl⟩
    rw [hc]
    go_wp2_with fail
    refine ((HR _).out).mono ?_
    rintro e w' ⟨rfl, rfl⟩
    go_wp2
    go_ret3
    exact ⟨by rw [HSS.out]; rfl, (by repeat (first | exact Below.refl _ _ | refine bl_alloc ?_ _ | refine bl_drewN ?_ _ | refine bl_trans (by assumption) ?_ | refine bl_set ?_ (by first | omega | (simp; done) | (simp; omega)) _))⟩
def okFH (l h : Int) : Bool := okL7 l && within h 0 l
theorem reach_bd {l h : Int} (l2 : l ≤ 1000) (h0 : 0 ≤ h) (h1 : h ≤ l) : ((0 ≤ l * l ∧ l * l ≤ 1000000) ∧ (0 ≤ h * h ∧ h * h ≤ 1000000)) ∧ 0 ≤ l * l - h * h ∧ l * l - h * h ≤ 1000000 := by
  obtain ⟨m0, m1⟩ := mul_bd2 (a := l) (b := l) (m := 1000) (k := 1000) (by omega) (by omega) (by omega) (by omega)
  have := Int.mul_le_mul h1 h1 h0 (by omega)
  have := Int.mul_nonneg h0 h0
  omega
set_option maxHeartbeats 400000 in
theorem reachOf_any (l h : Int) (l2 : l ≤ 1000) (h0 : 0 ≤ h) (h1 : h ≤ l) (w : World) :
    Calls Try.prog 95 #[.int .i64 l, .int .i64 h] w fun e w' => e = .returned (.int .i64 (rt (l * l - h * h))) ∧ w = w' := by
  obtain ⟨⟨⟨m0, m1⟩, m2, m3⟩, m4, m5⟩ := reach_bd l2 h0 h1
  have HR := fun W => Lib.hid (rootBelow_any (l * l - h * h) m4 (by omega) W)
  go_enter Try.func95, Try.ntmps95
  go_wp2_with fail
  refine ((HR _).out).mono ?_
  rintro e w' ⟨rfl, rfl⟩
  go_wp2
  go_ret
  exact ⟨rfl, rfl⟩
set_option maxHeartbeats 1000000 in
theorem impl_FootForHeight (l h : Int) (w : World) :
    Calls Try.prog 60 #[.int .i64 l, .int .i64 h] w fun e w' => e = .returned (.tuple #[.int .i64 (Z (okFH l h) (rt (l * l - h * h))), .bool (okFH l h)]) ∧ Below w.heap.size w w' := by
  cases h1 : okL7 l
  · have HO := Lib.hid (show okFH l h = false by simp [okFH, h1])
    go_enter Try.func60, Try.ntmps60
    go_wp2_with fail
    refine (isOfLadder_any _ _).mono ?_
    rintro e w' ⟨rfl, rfl⟩
    rw [h1]
    go_wp2
    go_ret2
    exact ⟨by simp [HO.out, Z], (by repeat (first | exact Below.refl _ _ | refine bl_alloc ?_ _ | refine bl_drewN ?_ _ | refine bl_trans (by assumption) ?_ | refine bl_set ?_ (by first | omega | (simp; done) | (simp; omega)) _))⟩
  cases h2 : within h 0 l
  · have HO := Lib.hid (show okFH l h = false by simp [okFH, h1, h2])
    go_enter Try.func60, Try.ntmps60
    go_wp2_with fail
    refine (isOfLadder_any _ _).mono ?_
    rintro e w' ⟨rfl, rfl⟩
    rw [h1]
    go_wp2_with fail
    refine (isWithin_any _ _ _ _).mono ?_
    rintro e w' ⟨rfl, rfl⟩
    rw [h2]
    go_wp2
    go_ret2
    exact ⟨by simp [HO.out, Z], (by repeat (first | exact Below.refl _ _ | refine bl_alloc ?_ _ | refine bl_drewN ?_ _ | refine bl_trans (by assumption) ?_ | refine bl_set ?_ (by first | omega | (simp; done) | (simp; omega)) _))⟩
  have HO := Lib.hid (show okFH l h = true by simp [okFH, h1, h2])
  obtain ⟨l1, l2⟩ := okL7_true h1
  obtain ⟨g1, g2⟩ := within_true h2
  obtain ⟨⟨⟨m0, m1⟩, m2, m3⟩, m4, m5⟩ := reach_bd l2 g1 g2
  have HG := fun W => Lib.hid (reachOf_any l h l2 g1 g2 W)
  go_enter Try.func60, Try.ntmps60
  go_wp2_with fail
  refine (isOfLadder_any _ _).mono ?_
  rintro e w' ⟨rfl, rfl⟩
  rw [h1]
  go_wp2_with fail
  refine (isWithin_any _ _ _ _).mono ?_
  rintro e w' ⟨rfl, rfl⟩
  rw [h2]
  go_wp2_with fail
  refine ((HG _).out).mono ?_
  rintro e w' ⟨rfl, rfl⟩
  go_wp2
  go_ret2
  exact ⟨by rw [HO.out]; rfl, (by repeat (first | exact Below.refl _ _ | refine bl_alloc ?_ _ | refine bl_drewN ?_ _ | refine bl_trans (by assumption) ?_ | refine bl_set ?_ (by first | omega | (simp; done) | (simp; omega)) _))⟩
set_option maxHeartbeats 1000000 in
theorem spec_FootForHeight (l h : Int) (w : World) :
    Calls Try.prog 59 #[.int .i64 l, .int .i64 h] w fun e w' => e = .returned (.tuple #[.int .i64 (Z (okFH l h) (rt (l * l - h * h))), .bool (okFH l h)]) ∧ Below w.heap.size w w' := by
  cases h1 : okL7 l
  · have HO := Lib.hid (show okFH l h = false by simp [okFH, h1])
    go_enter Try.func59, Try.ntmps59
    go_wp2_with fail
    refine (lnLong_any _ _).mono ?_
    rintro e w' ⟨rfl, rfl⟩
    rw [h1]
    go_wp2
    go_ret2
    exact ⟨by simp [HO.out, Z], (by repeat (first | exact Below.refl _ _ | refine bl_alloc ?_ _ | refine bl_drewN ?_ _ | refine bl_trans (by assumption) ?_ | refine bl_set ?_ (by first | omega | (simp; done) | (simp; omega)) _))⟩
  cases h2 : within h 0 l
  · have HO := Lib.hid (show okFH l h = false by simp [okFH, h1, h2])
    go_enter Try.func59, Try.ntmps59
    go_wp2_with fail
    refine (lnLong_any _ _).mono ?_
    rintro e w' ⟨rfl, rfl⟩
    rw [h1]
    go_wp2_with fail
    refine (l1In_any _ _ _ _).mono ?_
    rintro e w' ⟨rfl, rfl⟩
    rw [h2]
    go_wp2
    go_ret2
    exact ⟨by simp [HO.out, Z], (by repeat (first | exact Below.refl _ _ | refine bl_alloc ?_ _ | refine bl_drewN ?_ _ | refine bl_trans (by assumption) ?_ | refine bl_set ?_ (by first | omega | (simp; done) | (simp; omega)) _))⟩
  have HO := Lib.hid (show okFH l h = true by simp [okFH, h1, h2])
  obtain ⟨l1, l2⟩ := okL7_true h1
  obtain ⟨g1, g2⟩ := within_true h2
  obtain ⟨⟨⟨m0, m1⟩, m2, m3⟩, m4, m5⟩ := reach_bd l2 g1 g2
  have HG := fun W => Lib.hid (clRoot_any (l * l - h * h) m4 (by omega) W)
  go_enter Try.func59, Try.ntmps59
  go_wp2_with fail
  refine (lnLong_any _ _).mono ?_
  rintro e w' ⟨rfl, rfl⟩
  rw [h1]
  go_wp2_with fail
  refine (l1In_any _ _ _ _).mono ?_
  rintro e w' ⟨rfl, rfl⟩
  rw [h2]
  go_wp2_with fail
  refine ((HG _).out).mono ?_
  rintro e w' ⟨rfl, rfl⟩
  go_wp2
  go_ret2
  exact ⟨by rw [HO.out]; rfl, (by repeat (first | exact Below.refl _ _ | refine bl_alloc ?_ _ | refine bl_drewN ?_ _ | refine bl_trans (by assumption) ?_ | refine bl_set ?_ (by first | omega | (simp; done) | (simp; omega)) _))⟩
def okPt (f h n d : Int) : Bool := okL7 f && (okL7 h && (within d 1 100 && within n 0 d))
def ptL (f h n d : Int) : List Int := if okPt f h n d then [ln (f * (d - n)) d, ld (f * (d - n)) d, ln (h * n) d, ld (h * n) d] else []
theorem ptL_len (f h n d : Int) : (ptL f h n d).length ≤ 4000000 := by unfold ptL; split <;> simp
set_option maxHeartbeats 2000000 in
theorem impl_PartOfLadder (f h n d : Int) (w : World) :
    Calls Try.prog 64 #[.int .i64 f, .int .i64 h, .int .i64 n, .int .i64 d] w fun e w' => ∃ v, e = .returned (.tuple #[v, .bool (okPt f h n d)]) ∧ IRow w' w.heap.size v (ptL f h n d) ∧ Below w.heap.size w w' := by
  cases h1 : okL7 f
  · have HO := Lib.hid (show okPt f h n d = false by simp [okPt, h1])
    go_enter Try.func64, Try.ntmps64
    go_wp2_with fail
    refine (isOfLadder_any _ _).mono ?_
    rintro e w' ⟨rfl, rfl⟩
    rw [h1]
    go_wp2
    go_ret2
    exact ⟨_, by rw [HO.out]; rfl, by simp only [ptL, HO.out]; exact IRow.nil _ _, (by repeat (first | exact Below.refl _ _ | refine bl_alloc ?_ _ | refine bl_drewN ?_ _ | refine bl_trans (by assumption) ?_ | refine bl_set ?_ (by first | omega | (simp; done) | (simp; omega)) _))⟩
  cases h2 : okL7 h
  · have HO := Lib.hid (show okPt f h n d = false by simp [okPt, h1, h2])
    go_enter Try.func64, Try.ntmps64
    go_wp2_with fail
    refine (isOfLadder_any _ _).mono ?_
    rintro e w' ⟨rfl, rfl⟩
    rw [h1]
    go_wp2_with fail
    refine (isOfLadder_any _ _).mono ?_
    rintro e w' ⟨rfl, rfl⟩
    rw [h2]
    go_wp2
    go_ret2
    exact ⟨_, by rw [HO.out]; rfl, by simp only [ptL, HO.out]; exact IRow.nil _ _, (by repeat (first | exact Below.refl _ _ | refine bl_alloc ?_ _ | refine bl_drewN ?_ _ | refine bl_trans (by assumption) ?_ | refine bl_set ?_ (by first | omega | (simp; done) | (simp; omega)) _))⟩
  cases h3 : within d 1 100
  · have HO := Lib.hid (show okPt f h n d = false by simp [okPt, h1, h2, h3])
    go_enter Try.func64, Try.ntmps64
    go_wp2_with fail
    refine (isOfLadder_any _ _).mono ?_
    rintro e w' ⟨rfl, rfl⟩
    rw [h1]
    go_wp2_with fail
    refine (isOfLadder_any _ _).mono ?_
    rintro e w' ⟨rfl, rfl⟩
    rw [h2]
    go_wp2_with fail
    refine (isWithin_any _ _ _ _).mono ?_
    rintro e w' ⟨rfl, rfl⟩
    rw [h3]
    go_wp2
    go_ret2
    exact ⟨_, by rw [HO.out]; rfl, by simp only [ptL, HO.out]; exact IRow.nil _ _, (by repeat (first | exact Below.refl _ _ | refine bl_alloc ?_ _ | refine bl_drewN ?_ _ | refine bl_trans (by assumption) ?_ | refine bl_set ?_ (by first | omega | (simp; done) | (simp; omega)) _))⟩
  cases h4 : within n 0 d
  · have HO := Lib.hid (show okPt f h n d = false by simp [okPt, h1, h2, h3, h4])
    go_enter Try.func64, Try.ntmps64
    go_wp2_with fail
    refine (isOfLadder_any _ _).mono ?_
    rintro e w' ⟨rfl, rfl⟩
    rw [h1]
    go_wp2_with fail
    refine (isOfLadder_any _ _).mono ?_
    rintro e w' ⟨rfl, rfl⟩
    rw [h2]
    go_wp2_with fail
    refine (isWithin_any _ _ _ _).mono ?_
    rintro e w' ⟨rfl, rfl⟩
    rw [h3]
    go_wp2_with fail
    refine (isWithin_any _ _ _ _).mono ?_
    rintro e w' ⟨rfl, rfl⟩
    rw [h4]
    go_wp2
    go_ret2
    exact ⟨_, by rw [HO.out]; rfl, by simp only [ptL, HO.out]; exact IRow.nil _ _, (by repeat (first | exact Below.refl _ _ | refine bl_alloc ?_ _ | refine bl_drewN ?_ _ | refine bl_trans (by assumption) ?_ | refine bl_set ?_ (by first | omega | (simp; done) | (simp; omega)) _))⟩
  have HO := Lib.hid (show okPt f h n d = true by simp [okPt, h1, h2, h3, h4])
  have HE := Lib.hid (show ptL f h n d = [ln (f * (d - n)) d, ld (f * (d - n)) d, ln (h * n) d, ld (h * n) d] by simp only [ptL, HO.out]; rfl)
  obtain ⟨f1, f2⟩ := okL7_true h1
  obtain ⟨g1, g2⟩ := okL7_true h2
  obtain ⟨d1, d2⟩ := within_true h3
  obtain ⟨n1, n2⟩ := within_true h4
  obtain ⟨m0, m1⟩ := mul_bd2 (a := f) (b := d - n) (m := 1000) (k := 100) (by omega) (by omega) (by omega) (by omega)
  obtain ⟨m2, m3⟩ := mul_bd2 (a := h) (b := n) (m := 1000) (k := 100) (by omega) (by omega) (by omega) (by omega)
  have HA := fun W => Lib.hid (toldFraction_any (f * (d - n)) d (by omega) (by omega) d1 (by omega) W)
  have HB := fun W => Lib.hid (toldFraction_any (h * n) d (by omega) (by omega) d1 (by omega) W)
  generalize ln (f * (d - n)) d = A at *
  generalize ld (f * (d - n)) d = B at *
  generalize ln (h * n) d = C at *
  generalize ld (h * n) d = D at *
  go_enter Try.func64, Try.ntmps64
  go_wp2_with fail
  refine (isOfLadder_any _ _).mono ?_
  rintro e w' ⟨rfl, rfl⟩
  rw [h1]
  go_wp2_with fail
  refine (isOfLadder_any _ _).mono ?_
  rintro e w' ⟨rfl, rfl⟩
  rw [h2]
  go_wp2_with fail
  refine (isWithin_any _ _ _ _).mono ?_
  rintro e w' ⟨rfl, rfl⟩
  rw [h3]
  go_wp2_with fail
  refine (isWithin_any _ _ _ _).mono ?_
  rintro e w' ⟨rfl, rfl⟩
  rw [h4]
  go_wp2_with fail
  refine ((HA _).out).mono ?_
  rintro e w' ⟨rfl, nHA, rfl⟩
  go_wp2_with fail
  refine ((HB _).out).mono ?_
  rintro e w' ⟨rfl, nHB, rfl⟩
  go_wp2
  go_ret2
  exact ⟨_, by rw [HO.out]; rfl, by rw [HE.out]; exact IRow.made _ _ [A, B, C, D] (by simp) (by simp [maxLen]), (by repeat (first | exact Below.refl _ _ | refine bl_alloc ?_ _ | refine bl_drewN ?_ _ | refine bl_trans (by assumption) ?_ | refine bl_set ?_ (by first | omega | (simp; done) | (simp; omega)) _))⟩
set_option maxHeartbeats 2000000 in
theorem spec_PartOfLadder (f h n d : Int) (w : World) :
    Calls Try.prog 63 #[.int .i64 f, .int .i64 h, .int .i64 n, .int .i64 d] w fun e w' => ∃ v, e = .returned (.tuple #[v, .bool (okPt f h n d)]) ∧ IRow w' w.heap.size v (ptL f h n d) ∧ Below w.heap.size w w' := by
  cases h1 : okL7 f
  · have HO := Lib.hid (show okPt f h n d = false by simp [okPt, h1])
    go_enter Try.func63, Try.ntmps63
    go_wp2_with fail
    refine (lnLong_any _ _).mono ?_
    rintro e w' ⟨rfl, rfl⟩
    rw [h1]
    go_wp2
    go_ret2
    exact ⟨_, by rw [HO.out]; rfl, by simp only [ptL, HO.out]; exact IRow.nil _ _, (by repeat (first | exact Below.refl _ _ | refine bl_alloc ?_ _ | refine bl_drewN ?_ _ | refine bl_trans (by assumption) ?_ | refine bl_set ?_ (by first | omega | (simp; done) | (simp; omega)) _))⟩
  cases h2 : okL7 h
  · have HO := Lib.hid (show okPt f h n d = false by simp [okPt, h1, h2])
    go_enter Try.func63, Try.ntmps63
    go_wp2_with fail
    refine (lnLong_any _ _).mono ?_
    rintro e w' ⟨rfl, rfl⟩
    rw [h1]
    go_wp2_with fail
    refine (lnLong_any _ _).mono ?_
    rintro e w' ⟨rfl, rfl⟩
    rw [h2]
    go_wp2
    go_ret2
    exact ⟨_, by rw [HO.out]; rfl, by simp only [ptL, HO.out]; exact IRow.nil _ _, (by repeat (first | exact Below.refl _ _ | refine bl_alloc ?_ _ | refine bl_drewN ?_ _ | refine bl_trans (by assumption) ?_ | refine bl_set ?_ (by first | omega | (simp; done) | (simp; omega)) _))⟩
  cases h3 : within d 1 100
  · have HO := Lib.hid (show okPt f h n d = false by simp [okPt, h1, h2, h3])
    go_enter Try.func63, Try.ntmps63
    go_wp2_with fail
    refine (lnLong_any _ _).mono ?_
    rintro e w' ⟨rfl, rfl⟩
    rw [h1]
    go_wp2_with fail
    refine (lnLong_any _ _).mono ?_
    rintro e w' ⟨rfl, rfl⟩
    rw [h2]
    go_wp2_with fail
    refine (l1In_any _ _ _ _).mono ?_
    rintro e w' ⟨rfl, rfl⟩
    rw [h3]
    go_wp2
    go_ret2
    exact ⟨_, by rw [HO.out]; rfl, by simp only [ptL, HO.out]; exact IRow.nil _ _, (by repeat (first | exact Below.refl _ _ | refine bl_alloc ?_ _ | refine bl_drewN ?_ _ | refine bl_trans (by assumption) ?_ | refine bl_set ?_ (by first | omega | (simp; done) | (simp; omega)) _))⟩
  cases h4 : within n 0 d
  · have HO := Lib.hid (show okPt f h n d = false by simp [okPt, h1, h2, h3, h4])
    go_enter Try.func63, Try.ntmps63
    go_wp2_with fail
    refine (lnLong_any _ _).mono ?_
    rintro e w' ⟨rfl, rfl⟩
    rw [h1]
    go_wp2_with fail
    refine (lnLong_any _ _).mono ?_
    rintro e w' ⟨rfl, rfl⟩
    rw [h2]
    go_wp2_with fail
    refine (l1In_any _ _ _ _).mono ?_
    rintro e w' ⟨rfl, rfl⟩
    rw [h3]
    go_wp2_with fail
    refine (l1In_any _ _ _ _).mono ?_
    rintro e w' ⟨rfl, rfl⟩
    rw [h4]
    go_wp2
    go_ret2
    exact ⟨_, by rw [HO.out]; rfl, by simp only [ptL, HO.out]; exact IRow.nil _ _, (by repeat (first | exact Below.refl _ _ | refine bl_alloc ?_ _ | refine bl_drewN ?_ _ | refine bl_trans (by assumption) ?_ | refine bl_set ?_ (by first | omega | (simp; done) | (simp; omega)) _))⟩
  have HO := Lib.hid (show okPt f h n d = true by simp [okPt, h1, h2, h3, h4])
  have HE := Lib.hid (show ptL f h n d = [ln (f * (d - n)) d, ld (f * (d - n)) d, ln (h * n) d, ld (h * n) d] by simp only [ptL, HO.out]; rfl)
  obtain ⟨f1, f2⟩ := okL7_true h1
  obtain ⟨g1, g2⟩ := okL7_true h2
  obtain ⟨d1, d2⟩ := within_true h3
  obtain ⟨n1, n2⟩ := within_true h4
  obtain ⟨m0, m1⟩ := mul_bd2 (a := f) (b := d - n) (m := 1000) (k := 100) (by omega) (by omega) (by omega) (by omega)
  obtain ⟨m2, m3⟩ := mul_bd2 (a := h) (b := n) (m := 1000) (k := 100) (by omega) (by omega) (by omega) (by omega)
  have HA := fun W => Lib.hid (clLow_any (f * (d - n)) d (by omega) (by omega) d1 (by omega) W)
  have HB := fun W => Lib.hid (clLow_any (h * n) d (by omega) (by omega) d1 (by omega) W)
  generalize ln (f * (d - n)) d = A at *
  generalize ld (f * (d - n)) d = B at *
  generalize ln (h * n) d = C at *
  generalize ld (h * n) d = D at *
  go_enter Try.func63, Try.ntmps63
  go_wp2_with fail
  refine (lnLong_any _ _).mono ?_
  rintro e w' ⟨rfl, rfl⟩
  rw [h1]
  go_wp2_with fail
  refine (lnLong_any _ _).mono ?_
  rintro e w' ⟨rfl, rfl⟩
  rw [h2]
  go_wp2_with fail
  refine (l1In_any _ _ _ _).mono ?_
  rintro e w' ⟨rfl, rfl⟩
  rw [h3]
  go_wp2_with fail
  refine (l1In_any _ _ _ _).mono ?_
  rintro e w' ⟨rfl, rfl⟩
  rw [h4]
  go_wp2_with fail
  refine ((HA _).out).mono ?_
  rintro e w' ⟨rfl, nHA, rfl⟩
  go_wp2_with fail
  refine ((HB _).out).mono ?_
  rintro e w' ⟨rfl, nHB, rfl⟩
  go_wp2
  go_ret2
  exact ⟨_, by rw [HO.out]; rfl, by rw [HE.out]; exact IRow.made _ _ [A, B, C, D] (by simp) (by simp [maxLen]), (by repeat (first | exact Below.refl _ _ | refine bl_alloc ?_ _ | refine bl_drewN ?_ _ | refine bl_trans (by assumption) ?_ | refine bl_set ?_ (by first | omega | (simp; done) | (simp; omega)) _))⟩
def okMd (f h : Int) : Bool := okL7 f && okL7 h
set_option maxHeartbeats 2000000 in
theorem spec_MiddleOf (f h : Int) (w : World) :
    Calls Try.prog 61 #[.int .i64 f, .int .i64 h] w fun e w' => e = .returned (.tuple #[.int .i64 (Z (okMd f h) (ln f 2)), .int .i64 (Z (okMd f h) (ld f 2)), .int .i64 (Z (okMd f h) (ln h 2)), .int .i64 (Z (okMd f h) (ld h 2)), .bool (okMd f h)]) ∧ Below w.heap.size w w' := by
  cases h1 : okL7 f
  · have HO := Lib.hid (show okMd f h = false by simp [okMd, h1])
    go_enter Try.func61, Try.ntmps61
    go_wp2_with fail
    refine (lnLong_any _ _).mono ?_
    rintro e w' ⟨rfl, rfl⟩
    rw [h1]
    go_wp2
    ((try simp only [Exit.inBlock, Exit.then]); refine bodyPost_ret (results_tmp5 rfl _ _ _) rfl ?_)
    exact ⟨by simp [HO.out, Z], (by repeat (first | exact Below.refl _ _ | refine bl_alloc ?_ _ | refine bl_drewN ?_ _ | refine bl_trans (by assumption) ?_ | refine bl_set ?_ (by first | omega | (simp; done) | (simp; omega)) _))⟩
  cases h2 : okL7 h
  · have HO := Lib.hid (show okMd f h = false by simp [okMd, h1, h2])
    go_enter Try.func61, Try.ntmps61
    go_wp2_with fail
    refine (lnLong_any _ _).mono ?_
    rintro e w' ⟨rfl, rfl⟩
    rw [h1]
    go_wp2_with fail
    refine (lnLong_any _ _).mono ?_
    rintro e w' ⟨rfl, rfl⟩
    rw [h2]
    go_wp2
    ((try simp only [Exit.inBlock, Exit.then]); refine bodyPost_ret (results_tmp5 rfl _ _ _) rfl ?_)
    exact ⟨by simp [HO.out, Z], (by repeat (first | exact Below.refl _ _ | refine bl_alloc ?_ _ | refine bl_drewN ?_ _ | refine bl_trans (by assumption) ?_ | refine bl_set ?_ (by first | omega | (simp; done) | (simp; omega)) _))⟩
  have HO := Lib.hid (show okMd f h = true by simp [okMd, h1, h2])
  obtain ⟨f1, f2⟩ := okL7_true h1
  obtain ⟨g1, g2⟩ := okL7_true h2
  have HA := fun W => Lib.hid (clLow_any f 2 (by omega) (by omega) (by omega) (by omega) W)
  have HB := fun W => Lib.hid (clLow_any h 2 (by omega) (by omega) (by omega) (by omega) W)
  go_enter Try.func61, Try.ntmps61
  go_wp2_with fail
  refine (lnLong_any _ _).mono ?_
  rintro e w' ⟨rfl, rfl⟩
  rw [h1]
  go_wp2_with fail
  refine (lnLong_any _ _).mono ?_
  rintro e w' ⟨rfl, rfl⟩
  rw [h2]
  go_wp2_with fail
  refine ((HA _).out).mono ?_
  rintro e w' ⟨rfl, nHA, rfl⟩
  go_wp2_with fail
  refine ((HB _).out).mono ?_
  rintro e w' ⟨rfl, nHB, rfl⟩
  go_wp2
  ((try simp only [Exit.inBlock, Exit.then]); refine bodyPost_ret (results_tmp5 rfl _ _ _) rfl ?_)
  exact ⟨by rw [HO.out]; rfl, (by repeat (first | exact Below.refl _ _ | refine bl_alloc ?_ _ | refine bl_drewN ?_ _ | refine bl_trans (by assumption) ?_ | refine bl_set ?_ (by first | omega | (simp; done) | (simp; omega)) _))⟩
set_option maxHeartbeats 2000000 in
theorem impl_MiddleOf (f h : Int) (w : World) :
    Calls Try.prog 62 #[.int .i64 f, .int .i64 h] w fun e w' => e = .returned (.tuple #[.int .i64 (Z (okMd f h) (ln f 2)), .int .i64 (Z (okMd f h) (ld f 2)), .int .i64 (Z (okMd f h) (ln h 2)), .int .i64 (Z (okMd f h) (ld h 2)), .bool (okMd f h)]) ∧ Below w.heap.size w w' := by
  have HM : okPt f h 1 2 = okMd f h := by
    unfold okPt okMd
    rw [show within 2 1 100 = true by decide, show within 1 0 2 = true by decide, Bool.and_true, Bool.and_true]
  have HP := fun W => Lib.hid (impl_PartOfLadder f h 1 2 W)
  rw [HM] at HP
  have HE : ptL f h 1 2 = if okMd f h then [ln f 2, ld f 2, ln h 2, ld h 2] else [] := by
    unfold ptL
    rw [HM, show f * (2 - 1) = f by omega, show h * 1 = h by omega]
  rw [HE] at HP
  clear HM HE
  cases ho : okMd f h
  · rw [ho] at HP
    go_enter Try.func62, Try.ntmps62
    go_wp2_with fail
    refine ((HP _).out).mono ?_
    rintro e w1 ⟨v, rfl, hR, hb⟩
    clear hR
    go_wp2
    ((try simp only [Exit.inBlock, Exit.then]); refine bodyPost_ret (results_tmp5 rfl _ _ _) rfl ?_)
    exact ⟨by simp [Z], (by repeat (first | exact Below.refl _ _ | refine bl_alloc ?_ _ | refine bl_drewN ?_ _ | refine bl_trans (by assumption) ?_ | refine bl_set ?_ (by first | omega | (simp; done) | (simp; omega)) _))⟩
  · rw [ho] at HP
    generalize ln f 2 = A at *
    generalize ld f 2 = B at *
    generalize ln h 2 = C at *
    generalize ld h 2 = D at *
    go_enter Try.func62, Try.ntmps62
    go_wp2_with fail
    refine ((HP _).out).mono ?_
    rintro e w1 ⟨v, rfl, hR, hb⟩
    simp only [if_true] at hR
    obtain ⟨g, cap, rfl, hB, hg, hn, hm, hc, hf⟩ := hR.some_ (by simp)
    have c0 : w1.cell? ⟨g, 0, none⟩ = some (.int .i64 A) := hc 0 (by simp)
    have c1 : w1.cell? ⟨g, 1, none⟩ = some (.int .i64 B) := hc 1 (by simp)
    have c2 : w1.cell? ⟨g, 2, none⟩ = some (.int .i64 C) := hc 2 (by simp)
    have c3 : w1.cell? ⟨g, 3, none⟩ = some (.int .i64 D) := hc 3 (by simp)
    simp only [List.length_cons, List.length_nil] at *
    clear hR hc hf
    go_wp2_with fail
    go_quiet (fail)
    go_wp2
    ((try simp only [Exit.inBlock, Exit.then]); refine bodyPost_ret (results_tmp5 rfl _ _ _) rfl ?_)
    exact ⟨by simp [Z], (by repeat (first | exact Below.refl _ _ | refine bl_alloc ?_ _ | refine bl_drewN ?_ _ | refine bl_trans (by assumption) ?_ | refine bl_set ?_ (by first | omega | (simp; done) | (simp; omega)) _))⟩
end Go.Proofs.Ytjboffbhkffhkaa
