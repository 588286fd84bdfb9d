/- Contracts of the functions of chapter 4 that take numbers. -/
import Derived.Test.YtchaebebncdknaaC1
import Derived.Deep.RegionHeld3
namespace Go.Proofs.Ytchaebebncdknaa
open Go.RowKit
theorem ret_int {k : IntKind} {a b : Int} (h : a = b) : Ending.returned (.int k a) = .returned (.int k b) := by rw [h]
theorem results_tmp5 {fn : Func} {t u v x y : Tmp} (h : fn.results = #[.tmp t, .tmp u, .tmp v, .tmp x, .tmp y]) (tmps : Array Value) (P : Program) (w : World) :
    (results fn tmps).run P w = .ok (.tuple #[tmps.getD t undef, tmps.getD u undef, tmps.getD v undef, tmps.getD x undef, tmps.getD y undef]) w := by
  simp [results, h]
def okPer (t e : Int) : Bool := within t 2 300 && within e 1 t
theorem okPer_true {t e : Int} (h : okPer t e = true) : (2 ≤ t ∧ t ≤ 300) ∧ 1 ≤ e ∧ e ≤ t := by
  simp only [okPer, Bool.and_eq_true] at h
  exact ⟨within_true h.1, within_true h.2⟩
def okMir (l h : Int) : Bool := within h 1 300 && within l 0 (h - 1)
theorem okMir_true {l h : Int} (e : okMir l h = true) : (1 ≤ h ∧ h ≤ 300) ∧ 0 ≤ l ∧ l ≤ h - 1 := by
  simp only [okMir, Bool.and_eq_true] at e
  exact ⟨within_true e.1, within_true e.2⟩
theorem okMir_alt (l h : Int) : okMir l h = (within l 0 300 && within h (l + 1) 300) := by
  simp only [okMir, within]
  rw [Bool.eq_iff_iff]
  simp
  omega
def okPart (l h : Int) : Bool := within h 0 500 && within l 0 h
theorem okPart_true {l h : Int} (e : okPart l h = true) : (0 ≤ h ∧ h ≤ 500) ∧ 0 ≤ l ∧ l ≤ h := by
  simp only [okPart, Bool.and_eq_true] at e
  exact ⟨within_true e.1, within_true e.2⟩
theorem okPart_alt (l h : Int) : okPart l h = (within l 0 500 && within h l 500) := by
  simp only [okPart, within]
  rw [Bool.eq_iff_iff]
  simp
  omega
def okCor (w a : Int) : Bool := within w 1 500 && within a 0 w
theorem okCor_true {l h : Int} (e : okCor l h = true) : (1 ≤ l ∧ l ≤ 500) ∧ 0 ≤ h ∧ h ≤ l := by
  simp only [okCor, Bool.and_eq_true] at e
  exact ⟨within_true e.1, within_true e.2⟩

set_option maxHeartbeats 400000 in
theorem isPerson_any (a b : Int) (w : World) :
    Calls Try.prog 88 #[.int .i64 a, .int .i64 b] w fun e w' => e = .returned (.bool (okPer a b)) ∧ w = w' := by
  cases h : within a 2 300
  · go_enter Try.func88, Try.ntmps88
    go_wp2_with (go_at_call 73; refine (isWithin_any _ _ _ _).mono ?_; rintro e w' ⟨rfl, rfl⟩; rw [h])
    go_ret
    exact ⟨by simp [okPer, h], rfl⟩
  · have h' := within_true h
    go_enter Try.func88, Try.ntmps88
    go_wp2_with (go_at_call 73; refine (isWithin_any _ _ _ _).mono ?_; rintro e w' ⟨rfl, rfl⟩; try rw [h])
    all_goals (go_ret; exact ⟨by simp [okPer, h], rfl⟩)
set_option maxHeartbeats 400000 in
theorem miPerson_any (a b : Int) (w : World) :
    Calls Try.prog 87 #[.int .i64 a, .int .i64 b] w fun e w' => e = .returned (.bool (okPer a b)) ∧ w = w' := by
  cases h : within a 2 300
  · go_enter Try.func87, Try.ntmps87
    go_wp2_with (go_at_call 75; refine (l1In_any _ _ _ _).mono ?_; rintro e w' ⟨rfl, rfl⟩; rw [h])
    go_ret
    exact ⟨by simp [okPer, h], rfl⟩
  · have h' := within_true h
    go_enter Try.func87, Try.ntmps87
    go_wp2_with (go_at_call 75; refine (l1In_any _ _ _ _).mono ?_; rintro e w' ⟨rfl, rfl⟩; try rw [h])
    all_goals (go_ret; exact ⟨by simp [okPer, h], rfl⟩)
def MF (f : Int → Int → Int) (t e x : Int) : Int := if okPer t e then f x 2 else 0
set_option maxHeartbeats 400000 in
theorem impl_MirrorFor (a b : Int) (w : World) :
    Calls Try.prog 62 #[.int .i64 a, .int .i64 b] w fun e w' => e = .returned (.tuple #[.int .i64 (MF ln a b b), .int .i64 (MF ld a b b), .int .i64 (MF ln a b (a + b)), .int .i64 (MF ld a b (a + b)), .bool (okPer a b)]) ∧ Below w.heap.size w w' := by
  cases h : okPer a b
  · go_enter Try.func62, Try.ntmps62
    go_wp2_with (go_at_call 88; refine (isPerson_any _ _ _).mono ?_; rintro e w' ⟨rfl, rfl⟩; rw [h])
    ((try simp only [Exit.inBlock, Exit.then]); refine bodyPost_ret (results_tmp5 rfl _ _ _) rfl ?_)
    exact ⟨by simp [MF, h], (by repeat (first | exact Below.refl _ _ | refine bl_alloc ?_ _ | refine bl_drewN ?_ _ | refine bl_trans (by assumption) ?_ | refine bl_set ?_ (by first | omega | (simp; done) | (simp; omega)) _))⟩
  · obtain ⟨⟨h1, h2⟩, h3, h4⟩ := okPer_true h
    go_enter Try.func62, Try.ntmps62
    go_wp2_with (first | (go_at_call 88; refine (isPerson_any _ _ _).mono ?_; rintro e w' ⟨rfl, rfl⟩; rw [h]) | (go_at_call 70; refine (toldFraction_any _ _ (by omega) (by omega) (by omega) (by omega) _).mono ?_; rintro e w' ⟨rfl, nn, rfl⟩))
    ((try simp only [Exit.inBlock, Exit.then]); refine bodyPost_ret (results_tmp5 rfl _ _ _) rfl ?_)
    exact ⟨by simp [MF, h], (by repeat (first | exact Below.refl _ _ | refine bl_alloc ?_ _ | refine bl_drewN ?_ _ | refine bl_trans (by assumption) ?_ | refine bl_set ?_ (by first | omega | (simp; done) | (simp; omega)) _))⟩
set_option maxHeartbeats 400000 in
theorem spec_MirrorFor (a b : Int) (w : World) :
    Calls Try.prog 61 #[.int .i64 a, .int .i64 b] w fun e w' => e = .returned (.tuple #[.int .i64 (MF ln a b b), .int .i64 (MF ld a b b), .int .i64 (MF ln a b (a + b)), .int .i64 (MF ld a b (a + b)), .bool (okPer a b)]) ∧ Below w.heap.size w w' := by
  cases h : okPer a b
  · go_enter Try.func61, Try.ntmps61
    go_wp2_with (go_at_call 87; refine (miPerson_any _ _ _).mono ?_; rintro e w' ⟨rfl, rfl⟩; rw [h])
    ((try simp only [Exit.inBlock, Exit.then]); refine bodyPost_ret (results_tmp5 rfl _ _ _) rfl ?_)
    exact ⟨by simp [MF, h], (by repeat (first | exact Below.refl _ _ | refine bl_alloc ?_ _ | refine bl_drewN ?_ _ | refine bl_trans (by assumption) ?_ | refine bl_set ?_ (by first | omega | (simp; done) | (simp; omega)) _))⟩
  · obtain ⟨⟨h1, h2⟩, h3, h4⟩ := okPer_true h
    go_enter Try.func61, Try.ntmps61
    go_wp2_with (first | (go_at_call 87; refine (miPerson_any _ _ _).mono ?_; rintro e w' ⟨rfl, rfl⟩; rw [h]) | (go_at_call 68; refine (clLow_any _ _ (by omega) (by omega) (by omega) (by omega) _).mono ?_; rintro e w' ⟨rfl, nn, rfl⟩))
    ((try simp only [Exit.inBlock, Exit.then]); refine bodyPost_ret (results_tmp5 rfl _ _ _) rfl ?_)
    exact ⟨by simp [MF, h], (by repeat (first | exact Below.refl _ _ | refine bl_alloc ?_ _ | refine bl_drewN ?_ _ | refine bl_trans (by assumption) ?_ | refine bl_set ?_ (by first | omega | (simp; done) | (simp; omega)) _))⟩
def CS (t e l h : Int) : Bool := okPer t e && (okMir l h && (decide (2 * l ≤ e) && decide (t + e ≤ 2 * h)))
def okCS (t e l h : Int) : Bool := okPer t e && okMir l h
def SPl (e l : Int) : Int := max 0 (2 * l - e)
def SPh (t e h : Int) : Int := min t (2 * h - e)
def okSP (t e l h : Int) : Bool := okPer t e && (okMir l h && decide (SPl e l ≤ SPh t e h))
def SP (f t e l h : Int) : Int := if okSP t e l h then f else 0
set_option maxHeartbeats 400000 in
theorem l1Most_any (x y : Int) (w : World) : Calls Try.prog 74 #[.int .i64 x, .int .i64 y] w fun e w' => e = .returned (.int .i64 (max x y)) ∧ w = w' := by
  go_enter Try.func74, Try.ntmps74
  go_wp2
  all_goals (go_ret; exact ⟨ret_int (by show _ = max x y; omega), rfl⟩)
end Go.Proofs.Ytchaebebncdknaa
