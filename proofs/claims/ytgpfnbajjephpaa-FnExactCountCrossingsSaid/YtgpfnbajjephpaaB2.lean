/- Contracts of the steps of beams. -/
import Derived.Test.YtgpfnbajjephpaaB1
import Derived.Test.YtgpfnbajjephpaaBM
namespace Go.Proofs.Ytgpfnbajjephpaa
open Go.RowKit
set_option linter.unusedVariables false
set_option linter.unusedSimpArgs false
def endI (a x : Int) : Bool := x == 0 || x == a
def turnI (a x : Int) (r : Bool) : Bool := if endI a x then x == 0 else r
theorem turnI_true {a x : Int} (h : 1 ≤ a) : turnI a x true = !(x == a) := by
  unfold turnI endI
  by_cases e : x = a
  · subst e; simp; omega
  · by_cases e2 : x = 0
    · subst e2; simp [e]
    · simp [e, e2]
theorem turnI_false {a x : Int} : turnI a x false = (x == 0) := by
  unfold turnI endI
  by_cases e : x = 0
  · simp [e]
  · simp [e]
set_option maxHeartbeats 400000 in
theorem isAtEnd_any (x a : Int) (w : World) :
    Calls Try.prog 13 #[.int .i64 x, .int .i64 a] w fun e w' => e = .returned (.bool (endI a x)) ∧ w = w' := by
  go_enter Try.func13, Try.ntmps13
  go_wp2
  all_goals (go_ret; exact ⟨by simp [endI, *], rfl⟩)
set_option maxHeartbeats 400000 in
theorem isAtCorner_any (a b x y : Int) (r u : Bool) (w : World) :
    Calls Try.prog 26 #[.agg #[.int .i64 a, .int .i64 b], .agg #[.int .i64 x, .int .i64 y, .bool r, .bool u]] w fun e w' => e = .returned (.bool (endI a x && endI b y)) ∧ Below w.heap.size w w' := by
  cases h1 : endI a x <;> cases h2 : endI b y
  all_goals
    go_enter Try.func26, Try.ntmps26
    go_wp2_with (go_at_call 13; refine (isAtEnd_any _ _ _).mono ?_; rintro e w' ⟨rfl, rfl⟩)
    go_ret
    exact ⟨by simp [h1, h2], (by repeat (first | exact Below.refl _ _ | refine bl_alloc ?_ _ | refine bl_drewN ?_ _ | refine bl_trans (by assumption) ?_ | refine bl_set ?_ (by first | omega | (simp; done) | (simp; omega)) _))⟩
set_option maxHeartbeats 800000 in
theorem turnedInside_any (a b x y : Int) (r u : Bool) (w : World) :
    Calls Try.prog 24 #[.agg #[.int .i64 a, .int .i64 b], .agg #[.int .i64 x, .int .i64 y, .bool r, .bool u]] w fun e w' => e = .returned (.agg #[.int .i64 x, .int .i64 y, .bool (turnI a x r), .bool (turnI b y u)]) ∧ Below w.heap.size w w' := by
  cases h1 : endI a x <;> cases h2 : endI b y
  all_goals
    go_enter Try.func24, Try.ntmps24
    go_wp2_with (go_at_call 13; refine (isAtEnd_any _ _ _).mono ?_; rintro e w' ⟨rfl, rfl⟩)
    refine bodyPost_ret (v := .agg #[.int .i64 x, .int .i64 y, .bool (turnI a x r), .bool (turnI b y u)]) (by simp [results, Try.results24, go_sem, turnI, h1, h2]) rfl ⟨by simp [turnI, h1, h2], (by repeat (first | exact Below.refl _ _ | refine bl_alloc ?_ _ | refine bl_drewN ?_ _ | refine bl_trans (by assumption) ?_ | refine bl_set ?_ (by first | omega | (simp; done) | (simp; omega)) _))⟩
set_option maxHeartbeats 400000 in
theorem beCorner_any (a b x y : Int) (r u : Bool) (w : World) :
    Calls Try.prog 18 #[.agg #[.int .i64 a, .int .i64 b], .agg #[.int .i64 x, .int .i64 y, .bool r, .bool u]] w fun e w' => e = .returned (.bool (endI a x && endI b y)) ∧ Below w.heap.size w w' := by
  go_enter Try.func18, Try.ntmps18
  go_wp2
  all_goals (go_ret; exact ⟨by simp [endI, *], (by repeat (first | exact Below.refl _ _ | refine bl_alloc ?_ _ | refine bl_drewN ?_ _ | refine bl_trans (by assumption) ?_ | refine bl_set ?_ (by first | omega | (simp; done) | (simp; omega)) _))⟩)
set_option maxHeartbeats 800000 in
theorem beTurn_any (a b x y : Int) (r u : Bool) (ha : 1 ≤ a) (hb : 1 ≤ b) (w : World) :
    Calls Try.prog 21 #[.agg #[.int .i64 a, .int .i64 b], .agg #[.int .i64 x, .int .i64 y, .bool r, .bool u]] w fun e w' => e = .returned (.agg #[.int .i64 x, .int .i64 y, .bool (turnI a x r), .bool (turnI b y u)]) ∧ Below w.heap.size w w' := by
  cases r <;> cases u
  all_goals
    go_enter Try.func21, Try.ntmps21
    go_wp2
    all_goals (refine bodyPost_ret (v := .agg #[.int .i64 x, .int .i64 y, .bool (turnI a x _), .bool (turnI b y _)]) (by simp [results, Try.results21, go_sem, turnI_true ha, turnI_true hb, turnI_false, *] <;> omega) rfl ⟨rfl, (by repeat (first | exact Below.refl _ _ | refine bl_alloc ?_ _ | refine bl_drewN ?_ _ | refine bl_trans (by assumption) ?_ | refine bl_set ?_ (by first | omega | (simp; done) | (simp; omega)) _))⟩)
set_option maxHeartbeats 400000 in
theorem beMove_any (x y : Int) (r u : Bool) (hx : -1000 ≤ x) (hx2 : x ≤ 1000) (hy : -1000 ≤ y) (hy2 : y ≤ 1000) (w : World) :
    Calls Try.prog 27 #[.agg #[.int .i64 x, .int .i64 y, .bool r, .bool u]] w fun e w' => e = .returned (.agg #[.int .i64 (un true x 1 r), .int .i64 (un true y 1 u), .bool r, .bool u]) ∧ Below w.heap.size w w' := by
  cases r <;> cases u
  all_goals
    go_enter Try.func27, Try.ntmps27
    go_wp2
    refine bodyPost_ret (v := .agg #[.int .i64 (un true x 1 _), .int .i64 (un true y 1 _), .bool _, .bool _]) (by simp [results, Try.results27, go_sem, un]; try rfl) rfl ⟨rfl, (by repeat (first | exact Below.refl _ _ | refine bl_alloc ?_ _ | refine bl_drewN ?_ _ | refine bl_trans (by assumption) ?_ | refine bl_set ?_ (by first | omega | (simp; done) | (simp; omega)) _))⟩
def sideI (a b x y : Int) : ByteArray := bif x == a then ⟨#[114]⟩ else bif x == 0 then ⟨#[108]⟩ else bif y == b then ⟨#[117]⟩ else bif y == 0 then ⟨#[100]⟩ else ⟨#[]⟩
theorem side_r {a b x y : Int} (h : (x == a) = true) : sideI a b x y = ⟨#[114]⟩ := by rw [sideI, h]; rfl
theorem side_l {a b x y : Int} (h : (x == a) = false) (h2 : (x == 0) = true) : sideI a b x y = ⟨#[108]⟩ := by rw [sideI, h, h2]; rfl
theorem side_u {a b x y : Int} (h : (x == a) = false) (h2 : (x == 0) = false) (h3 : (y == b) = true) : sideI a b x y = ⟨#[117]⟩ := by rw [sideI, h, h2, h3]; rfl
theorem side_d {a b x y : Int} (h : (x == a) = false) (h2 : (x == 0) = false) (h3 : (y == b) = false) (h4 : (y == 0) = true) : sideI a b x y = ⟨#[100]⟩ := by rw [sideI, h, h2, h3, h4]; rfl
theorem side_n {a b x y : Int} (h : (x == a) = false) (h2 : (x == 0) = false) (h3 : (y == b) = false) (h4 : (y == 0) = false) : sideI a b x y = ⟨#[]⟩ := by rw [sideI, h, h2, h3, h4]; rfl
set_option maxHeartbeats 800000 in
theorem beStep_corner (a b x y : Int) (r u : Bool) (X Y : Int) (HX : Hid (un true x 1 r = X)) (HY : Hid (un true y 1 u = Y)) (ha : 1 ≤ a) (hb : 1 ≤ b) (hx : -1000 ≤ x) (hx2 : x ≤ 1000) (hy : -1000 ≤ y) (hy2 : y ≤ 1000) (h : (endI a X && endI b Y) = true) (w : World) :
    Calls Try.prog 22 #[.agg #[.int .i64 a, .int .i64 b], .agg #[.int .i64 x, .int .i64 y, .bool r, .bool u]] w fun e w' => e = .returned (.tuple #[.agg #[.int .i64 X, .int .i64 Y, .bool r, .bool u], .string ⟨#[]⟩]) ∧ Below w.heap.size w w' := by
  go_enter Try.func22, Try.ntmps22
  go_wp2_with (first | (go_at_call 27; refine (beMove_any _ _ _ _ (by omega) (by omega) (by omega) (by omega) _).mono ?_; rintro e w1 ⟨rfl, hb1⟩; obtain ⟨hc, hf⟩ := bcell hb1; have hz := bsize hb1; (try simp only [World.size_alloc] at hz); have hz0 : w.heap.size < w1.heap.size := (by omega); have hz1 : w.heap.size + 1 < w1.heap.size := (by omega); have hz2 : w.heap.size + 1 + 1 < w1.heap.size := (by omega); rw [HX.out, HY.out]) | (go_at_call 18; refine (beCorner_any _ _ _ _ _ _ _).mono ?_; rintro e w2 ⟨rfl, hb2⟩; obtain ⟨hc2, hf2⟩ := bcell hb2; have hy := bsize hb2; (try simp only [World.size_alloc, World.size_setCell] at hy); have hy0 : w.heap.size < w2.heap.size := (by omega); have hy1 : w.heap.size + 1 < w2.heap.size := (by omega); have hy2 : w.heap.size + 1 + 1 < w2.heap.size := (by omega); rw [h]) | (go_at_call 21; refine (beTurn_any _ _ _ _ _ _ ha hb _).mono ?_; rintro e w3 ⟨rfl, hb3⟩; obtain ⟨hc3, hf3⟩ := bcell hb3; have hx := bsize hb3; have hx2 : w.heap.size + 1 + 1 < w3.heap.size := (by omega)))
  refine bodyPost_ret (v := .tuple #[.agg #[.int .i64 X, .int .i64 Y, .bool r, .bool u], .string ⟨#[]⟩]) (by simp [results, Try.results22, go_sem, *]) rfl ⟨rfl, (by repeat (first | exact Below.refl _ _ | refine bl_alloc ?_ _ | refine bl_drewN ?_ _ | refine bl_trans (by assumption) ?_ | refine bl_set ?_ (by first | omega | (simp; done) | (simp; omega)) _))⟩
set_option maxHeartbeats 1600000 in
theorem beStep_go (a b x y : Int) (r u : Bool) (X Y : Int) (HX : Hid (un true x 1 r = X)) (HY : Hid (un true y 1 u = Y)) (ha : 1 ≤ a) (hb : 1 ≤ b) (hx : -1000 ≤ x) (hx2 : x ≤ 1000) (hy : -1000 ≤ y) (hy2 : y ≤ 1000) (h : (endI a X && endI b Y) = false) (w : World) :
    Calls Try.prog 22 #[.agg #[.int .i64 a, .int .i64 b], .agg #[.int .i64 x, .int .i64 y, .bool r, .bool u]] w fun e w' => e = .returned (.tuple #[.agg #[.int .i64 X, .int .i64 Y, .bool (turnI a X r), .bool (turnI b Y u)], .string (sideI a b X Y)]) ∧ Below w.heap.size w w' := by
  cases e0 : (X == a)
  case true =>
    rw [side_r e0]
    go_enter Try.func22, Try.ntmps22
    go_wp2_with (first | (go_at_call 27; refine (beMove_any _ _ _ _ (by omega) (by omega) (by omega) (by omega) _).mono ?_; rintro e w1 ⟨rfl, hb1⟩; obtain ⟨hc, hf⟩ := bcell hb1; have hz := bsize hb1; (try simp only [World.size_alloc] at hz); have hz0 : w.heap.size < w1.heap.size := (by omega); have hz1 : w.heap.size + 1 < w1.heap.size := (by omega); have hz2 : w.heap.size + 1 + 1 < w1.heap.size := (by omega); rw [HX.out, HY.out]) | (go_at_call 18; refine (beCorner_any _ _ _ _ _ _ _).mono ?_; rintro e w2 ⟨rfl, hb2⟩; obtain ⟨hc2, hf2⟩ := bcell hb2; have hy := bsize hb2; (try simp only [World.size_alloc, World.size_setCell] at hy); have hy0 : w.heap.size < w2.heap.size := (by omega); have hy1 : w.heap.size + 1 < w2.heap.size := (by omega); have hy2 : w.heap.size + 1 + 1 < w2.heap.size := (by omega); rw [h]) | (go_at_call 21; refine (beTurn_any _ _ _ _ _ _ ha hb _).mono ?_; rintro e w3 ⟨rfl, hb3⟩; obtain ⟨hc3, hf3⟩ := bcell hb3; have hx := bsize hb3; have hx2 : w.heap.size + 1 + 1 < w3.heap.size := (by omega)))
    refine bodyPost_ret (v := .tuple #[.agg #[.int .i64 X, .int .i64 Y, .bool (turnI a X r), .bool (turnI b Y u)], .string ⟨#[114]⟩]) (by simp [results, Try.results22, go_sem, *]) rfl ⟨rfl, (by repeat (first | exact Below.refl _ _ | refine bl_alloc ?_ _ | refine bl_drewN ?_ _ | refine bl_trans (by assumption) ?_ | refine bl_set ?_ (by first | omega | (simp; done) | (simp; omega)) _))⟩
  cases e1 : (X == 0)
  case true =>
    rw [side_l e0 e1]
    go_enter Try.func22, Try.ntmps22
    go_wp2_with (first | (go_at_call 27; refine (beMove_any _ _ _ _ (by omega) (by omega) (by omega) (by omega) _).mono ?_; rintro e w1 ⟨rfl, hb1⟩; obtain ⟨hc, hf⟩ := bcell hb1; have hz := bsize hb1; (try simp only [World.size_alloc] at hz); have hz0 : w.heap.size < w1.heap.size := (by omega); have hz1 : w.heap.size + 1 < w1.heap.size := (by omega); have hz2 : w.heap.size + 1 + 1 < w1.heap.size := (by omega); rw [HX.out, HY.out]) | (go_at_call 18; refine (beCorner_any _ _ _ _ _ _ _).mono ?_; rintro e w2 ⟨rfl, hb2⟩; obtain ⟨hc2, hf2⟩ := bcell hb2; have hy := bsize hb2; (try simp only [World.size_alloc, World.size_setCell] at hy); have hy0 : w.heap.size < w2.heap.size := (by omega); have hy1 : w.heap.size + 1 < w2.heap.size := (by omega); have hy2 : w.heap.size + 1 + 1 < w2.heap.size := (by omega); rw [h]) | (go_at_call 21; refine (beTurn_any _ _ _ _ _ _ ha hb _).mono ?_; rintro e w3 ⟨rfl, hb3⟩; obtain ⟨hc3, hf3⟩ := bcell hb3; have hx := bsize hb3; have hx2 : w.heap.size + 1 + 1 < w3.heap.size := (by omega)))
    refine bodyPost_ret (v := .tuple #[.agg #[.int .i64 X, .int .i64 Y, .bool (turnI a X r), .bool (turnI b Y u)], .string ⟨#[108]⟩]) (by simp [results, Try.results22, go_sem, *]) rfl ⟨rfl, (by repeat (first | exact Below.refl _ _ | refine bl_alloc ?_ _ | refine bl_drewN ?_ _ | refine bl_trans (by assumption) ?_ | refine bl_set ?_ (by first | omega | (simp; done) | (simp; omega)) _))⟩
  cases e2 : (Y == b)
  case true =>
    rw [side_u e0 e1 e2]
    go_enter Try.func22, Try.ntmps22
    go_wp2_with (first | (go_at_call 27; refine (beMove_any _ _ _ _ (by omega) (by omega) (by omega) (by omega) _).mono ?_; rintro e w1 ⟨rfl, hb1⟩; obtain ⟨hc, hf⟩ := bcell hb1; have hz := bsize hb1; (try simp only [World.size_alloc] at hz); have hz0 : w.heap.size < w1.heap.size := (by omega); have hz1 : w.heap.size + 1 < w1.heap.size := (by omega); have hz2 : w.heap.size + 1 + 1 < w1.heap.size := (by omega); rw [HX.out, HY.out]) | (go_at_call 18; refine (beCorner_any _ _ _ _ _ _ _).mono ?_; rintro e w2 ⟨rfl, hb2⟩; obtain ⟨hc2, hf2⟩ := bcell hb2; have hy := bsize hb2; (try simp only [World.size_alloc, World.size_setCell] at hy); have hy0 : w.heap.size < w2.heap.size := (by omega); have hy1 : w.heap.size + 1 < w2.heap.size := (by omega); have hy2 : w.heap.size + 1 + 1 < w2.heap.size := (by omega); rw [h]) | (go_at_call 21; refine (beTurn_any _ _ _ _ _ _ ha hb _).mono ?_; rintro e w3 ⟨rfl, hb3⟩; obtain ⟨hc3, hf3⟩ := bcell hb3; have hx := bsize hb3; have hx2 : w.heap.size + 1 + 1 < w3.heap.size := (by omega)))
    refine bodyPost_ret (v := .tuple #[.agg #[.int .i64 X, .int .i64 Y, .bool (turnI a X r), .bool (turnI b Y u)], .string ⟨#[117]⟩]) (by simp [results, Try.results22, go_sem, *]) rfl ⟨rfl, (by repeat (first | exact Below.refl _ _ | refine bl_alloc ?_ _ | refine bl_drewN ?_ _ | refine bl_trans (by assumption) ?_ | refine bl_set ?_ (by first | omega | (simp; done) | (simp; omega)) _))⟩
  cases e3 : (Y == 0)
  case true =>
    rw [side_d e0 e1 e2 e3]
    go_enter Try.func22, Try.ntmps22
    go_wp2_with (first | (go_at_call 27; refine (beMove_any _ _ _ _ (by omega) (by omega) (by omega) (by omega) _).mono ?_; rintro e w1 ⟨rfl, hb1⟩; obtain ⟨hc, hf⟩ := bcell hb1; have hz := bsize hb1; (try simp only [World.size_alloc] at hz); have hz0 : w.heap.size < w1.heap.size := (by omega); have hz1 : w.heap.size + 1 < w1.heap.size := (by omega); have hz2 : w.heap.size + 1 + 1 < w1.heap.size := (by omega); rw [HX.out, HY.out]) | (go_at_call 18; refine (beCorner_any _ _ _ _ _ _ _).mono ?_; rintro e w2 ⟨rfl, hb2⟩; obtain ⟨hc2, hf2⟩ := bcell hb2; have hy := bsize hb2; (try simp only [World.size_alloc, World.size_setCell] at hy); have hy0 : w.heap.size < w2.heap.size := (by omega); have hy1 : w.heap.size + 1 < w2.heap.size := (by omega); have hy2 : w.heap.size + 1 + 1 < w2.heap.size := (by omega); rw [h]) | (go_at_call 21; refine (beTurn_any _ _ _ _ _ _ ha hb _).mono ?_; rintro e w3 ⟨rfl, hb3⟩; obtain ⟨hc3, hf3⟩ := bcell hb3; have hx := bsize hb3; have hx2 : w.heap.size + 1 + 1 < w3.heap.size := (by omega)))
    refine bodyPost_ret (v := .tuple #[.agg #[.int .i64 X, .int .i64 Y, .bool (turnI a X r), .bool (turnI b Y u)], .string ⟨#[100]⟩]) (by simp [results, Try.results22, go_sem, *]) rfl ⟨rfl, (by repeat (first | exact Below.refl _ _ | refine bl_alloc ?_ _ | refine bl_drewN ?_ _ | refine bl_trans (by assumption) ?_ | refine bl_set ?_ (by first | omega | (simp; done) | (simp; omega)) _))⟩
  rw [side_n e0 e1 e2 e3]
  go_enter Try.func22, Try.ntmps22
  go_wp2_with (first | (go_at_call 27; refine (beMove_any _ _ _ _ (by omega) (by omega) (by omega) (by omega) _).mono ?_; rintro e w1 ⟨rfl, hb1⟩; obtain ⟨hc, hf⟩ := bcell hb1; have hz := bsize hb1; (try simp only [World.size_alloc] at hz); have hz0 : w.heap.size < w1.heap.size := (by omega); have hz1 : w.heap.size + 1 < w1.heap.size := (by omega); have hz2 : w.heap.size + 1 + 1 < w1.heap.size := (by omega); rw [HX.out, HY.out]) | (go_at_call 18; refine (beCorner_any _ _ _ _ _ _ _).mono ?_; rintro e w2 ⟨rfl, hb2⟩; obtain ⟨hc2, hf2⟩ := bcell hb2; have hy := bsize hb2; (try simp only [World.size_alloc, World.size_setCell] at hy); have hy0 : w.heap.size < w2.heap.size := (by omega); have hy1 : w.heap.size + 1 < w2.heap.size := (by omega); have hy2 : w.heap.size + 1 + 1 < w2.heap.size := (by omega); rw [h]) | (go_at_call 21; refine (beTurn_any _ _ _ _ _ _ ha hb _).mono ?_; rintro e w3 ⟨rfl, hb3⟩; obtain ⟨hc3, hf3⟩ := bcell hb3; have hx := bsize hb3; have hx2 : w.heap.size + 1 + 1 < w3.heap.size := (by omega)))
  refine bodyPost_ret (v := .tuple #[.agg #[.int .i64 X, .int .i64 Y, .bool (turnI a X r), .bool (turnI b Y u)], .string ⟨#[]⟩]) (by simp [results, Try.results22, go_sem, *]) rfl ⟨rfl, (by repeat (first | exact Below.refl _ _ | refine bl_alloc ?_ _ | refine bl_drewN ?_ _ | refine bl_trans (by assumption) ?_ | refine bl_set ?_ (by first | omega | (simp; done) | (simp; omega)) _))⟩
end Go.Proofs.Ytgpfnbajjephpaa
