/- Contracts of the functions of chapter 4 that take numbers. -/
import Derived.Test.YtfcllmlecnffdaaC1
import Derived.Deep.RegionHeld3
namespace Go.Proofs.Ytfcllmlecnffdaa
open Go.RowKit
theorem ret_int {k : IntKind} {a b : Int} (h : a = b) : Ending.returned (.int k a) = .returned (.int k b) := by rw [h]
theorem results_tmp5 {fn : Func} {t u v x y : Tmp} (h : fn.results = #[.tmp t, .tmp u, .tmp v, .tmp x, .tmp y]) (tmps : Array Value) (P : Program) (w : World) :
    (results fn tmps).run P w = .ok (.tuple #[tmps.getD t undef, tmps.getD u undef, tmps.getD v undef, tmps.getD x undef, tmps.getD y undef]) w := by
  simp [results, h]
def okPer (t e : Int) : Bool := within t 2 300 && within e 1 t
theorem okPer_true {t e : Int} (h : okPer t e = true) : (2 ≤ t ∧ t ≤ 300) ∧ 1 ≤ e ∧ e ≤ t := by
  simp only [okPer, Bool.and_eq_true] at h
  exact ⟨within_true h.1, within_true h.2⟩
def okMir (l h : Int) : Bool := within h 1 300 && within l 0 (h - 1)
theorem okMir_true {l h : Int} (e : okMir l h = true) : (1 ≤ h ∧ h ≤ 300) ∧ 0 ≤ l ∧ l ≤ h - 1 := by
  simp only [okMir, Bool.and_eq_true] at e
  exact ⟨within_true e.1, within_true e.2⟩
theorem okMir_alt (l h : Int) : okMir l h = (within l 0 300 && within h (l + 1) 300) := by
  simp only [okMir, within]
  rw [Bool.eq_iff_iff]
  simp
  omega
def okPart (l h : Int) : Bool := within h 0 500 && within l 0 h
theorem okPart_true {l h : Int} (e : okPart l h = true) : (0 ≤ h ∧ h ≤ 500) ∧ 0 ≤ l ∧ l ≤ h := by
  simp only [okPart, Bool.and_eq_true] at e
  exact ⟨within_true e.1, within_true e.2⟩
theorem okPart_alt (l h : Int) : okPart l h = (within l 0 500 && within h l 500) := by
  simp only [okPart, within]
  rw [Bool.eq_iff_iff]
  simp
  omega
def okCor (w a : Int) : Bool := within w 1 500 && within a 0 w
theorem okCor_true {l h : Int} (e : okCor l h = true) : (1 ≤ l ∧ l ≤ 500) ∧ 0 ≤ h ∧ h ≤ l := by
  simp only [okCor, Bool.and_eq_true] at e
  exact ⟨within_true e.1, within_true e.2⟩

set_option maxHeartbeats 400000 in
theorem isPerson_any (a b : Int) (w : World) :
    Calls Try.prog 95 #[.int .i64 a, .int .i64 b] w fun e w' => e = .returned (.bool (okPer a b)) ∧ w = w' := by
  cases h : within a 2 300
  · go_enter Try.func95, Try.ntmps95
    go_wp2_with (go_at_call 73; refine (isWithin_any _ _ _ _).mono ?_; rintro e w' ⟨rfl, rfl⟩; rw [h])
    go_ret
    exact ⟨by simp [okPer, h], rfl⟩
  · have h' := within_true h
    go_enter Try.func95, Try.ntmps95
    go_wp2_with (go_at_call 73; refine (isWithin_any _ _ _ _).mono ?_; rintro e w' ⟨rfl, rfl⟩; try rw [h])
    all_goals (go_ret; exact ⟨by simp [okPer, h], rfl⟩)
set_option maxHeartbeats 400000 in
theorem miPerson_any (a b : Int) (w : World) :
    Calls Try.prog 93 #[.int .i64 a, .int .i64 b] w fun e w' => e = .returned (.bool (okPer a b)) ∧ w = w' := by
  cases h : within a 2 300
  · go_enter Try.func93, Try.ntmps93
    go_wp2_with (go_at_call 71; refine (l1In_any _ _ _ _).mono ?_; rintro e w' ⟨rfl, rfl⟩; rw [h])
    go_ret
    exact ⟨by simp [okPer, h], rfl⟩
  · have h' := within_true h
    go_enter Try.func93, Try.ntmps93
    go_wp2_with (go_at_call 71; refine (l1In_any _ _ _ _).mono ?_; rintro e w' ⟨rfl, rfl⟩; try rw [h])
    all_goals (go_ret; exact ⟨by simp [okPer, h], rfl⟩)
set_option maxHeartbeats 400000 in
theorem isMirror_any (a b : Int) (w : World) :
    Calls Try.prog 98 #[.int .i64 a, .int .i64 b] w fun e w' => e = .returned (.bool (okMir a b)) ∧ w = w' := by
  cases h : within b 1 300
  · go_enter Try.func98, Try.ntmps98
    go_wp2_with (go_at_call 73; refine (isWithin_any _ _ _ _).mono ?_; rintro e w' ⟨rfl, rfl⟩; rw [h])
    go_ret
    exact ⟨by simp [okMir, h], rfl⟩
  · have h' := within_true h
    go_enter Try.func98, Try.ntmps98
    go_wp2_with (go_at_call 73; refine (isWithin_any _ _ _ _).mono ?_; rintro e w' ⟨rfl, rfl⟩; try rw [h])
    all_goals (go_ret; exact ⟨by simp [okMir, h], rfl⟩)
set_option maxHeartbeats 400000 in
theorem miPart_any (a b : Int) (w : World) :
    Calls Try.prog 97 #[.int .i64 a, .int .i64 b] w fun e w' => e = .returned (.bool (okMir a b)) ∧ w = w' := by
  have halt := okMir_alt a b
  cases h : within a 0 300
  · go_enter Try.func97, Try.ntmps97
    go_wp2_with (go_at_call 71; refine (l1In_any _ _ _ _).mono ?_; rintro e w' ⟨rfl, rfl⟩; rw [h])
    go_ret
    exact ⟨by rw [halt]; simp [h], rfl⟩
  · have h' := within_true h
    go_enter Try.func97, Try.ntmps97
    go_wp2_with (go_at_call 71; refine (l1In_any _ _ _ _).mono ?_; rintro e w' ⟨rfl, rfl⟩; try rw [h])
    all_goals (go_ret; exact ⟨by rw [halt]; simp [h], rfl⟩)
set_option maxHeartbeats 400000 in
theorem isPart_any (a b : Int) (w : World) :
    Calls Try.prog 108 #[.int .i64 a, .int .i64 b] w fun e w' => e = .returned (.bool (okPart a b)) ∧ w = w' := by
  cases h : within b 0 500
  · go_enter Try.func108, Try.ntmps108
    go_wp2_with (go_at_call 73; refine (isWithin_any _ _ _ _).mono ?_; rintro e w' ⟨rfl, rfl⟩; rw [h])
    go_ret
    exact ⟨by simp [okPart, h], rfl⟩
  · have h' := within_true h
    go_enter Try.func108, Try.ntmps108
    go_wp2_with (go_at_call 73; refine (isWithin_any _ _ _ _).mono ?_; rintro e w' ⟨rfl, rfl⟩; try rw [h])
    all_goals (go_ret; exact ⟨by simp [okPart, h], rfl⟩)
set_option maxHeartbeats 400000 in
theorem miRange_any (a b : Int) (w : World) :
    Calls Try.prog 106 #[.int .i64 a, .int .i64 b] w fun e w' => e = .returned (.bool (okPart a b)) ∧ w = w' := by
  have halt := okPart_alt a b
  cases h : within a 0 500
  · go_enter Try.func106, Try.ntmps106
    go_wp2_with (go_at_call 71; refine (l1In_any _ _ _ _).mono ?_; rintro e w' ⟨rfl, rfl⟩; rw [h])
    go_ret
    exact ⟨by rw [halt]; simp [h], rfl⟩
  · have h' := within_true h
    go_enter Try.func106, Try.ntmps106
    go_wp2_with (go_at_call 71; refine (l1In_any _ _ _ _).mono ?_; rintro e w' ⟨rfl, rfl⟩; try rw [h])
    all_goals (go_ret; exact ⟨by rw [halt]; simp [h], rfl⟩)
set_option maxHeartbeats 400000 in
theorem isInCorridor_any (a b : Int) (w : World) :
    Calls Try.prog 68 #[.int .i64 a, .int .i64 b] w fun e w' => e = .returned (.bool (okCor a b)) ∧ w = w' := by
  cases h : within a 1 500
  · go_enter Try.func68, Try.ntmps68
    go_wp2_with (go_at_call 73; refine (isWithin_any _ _ _ _).mono ?_; rintro e w' ⟨rfl, rfl⟩; rw [h])
    go_ret
    exact ⟨by simp [okCor, h], rfl⟩
  · have h' := within_true h
    go_enter Try.func68, Try.ntmps68
    go_wp2_with (go_at_call 73; refine (isWithin_any _ _ _ _).mono ?_; rintro e w' ⟨rfl, rfl⟩; try rw [h])
    all_goals (go_ret; exact ⟨by simp [okCor, h], rfl⟩)
set_option maxHeartbeats 400000 in
theorem miGood_any (a b : Int) (w : World) :
    Calls Try.prog 65 #[.int .i64 a, .int .i64 b] w fun e w' => e = .returned (.bool (okCor a b)) ∧ w = w' := by
  cases h : within a 1 500
  · go_enter Try.func65, Try.ntmps65
    go_wp2_with (go_at_call 71; refine (l1In_any _ _ _ _).mono ?_; rintro e w' ⟨rfl, rfl⟩; rw [h])
    go_ret
    exact ⟨by simp [okCor, h], rfl⟩
  · have h' := within_true h
    go_enter Try.func65, Try.ntmps65
    go_wp2_with (go_at_call 71; refine (l1In_any _ _ _ _).mono ?_; rintro e w' ⟨rfl, rfl⟩; try rw [h])
    all_goals (go_ret; exact ⟨by simp [okCor, h], rfl⟩)
def MF (f : Int → Int → Int) (t e x : Int) : Int := if okPer t e then f x 2 else 0
set_option maxHeartbeats 400000 in
theorem impl_MirrorFor (a b : Int) (w : World) :
    Calls Try.prog 45 #[.int .i64 a, .int .i64 b] w fun e w' => e = .returned (.tuple #[.int .i64 (MF ln a b b), .int .i64 (MF ld a b b), .int .i64 (MF ln a b (a + b)), .int .i64 (MF ld a b (a + b)), .bool (okPer a b)]) ∧ Below w.heap.size w w' := by
  cases h : okPer a b
  · go_enter Try.func45, Try.ntmps45
    go_wp2_with (go_at_call 95; refine (isPerson_any _ _ _).mono ?_; rintro e w' ⟨rfl, rfl⟩; rw [h])
    ((try simp only [Exit.inBlock, Exit.then]); refine bodyPost_ret (results_tmp5 rfl _ _ _) rfl ?_)
    exact ⟨by simp [MF, h], (by repeat (first | exact Below.refl _ _ | refine bl_alloc ?_ _ | refine bl_drewN ?_ _ | refine bl_trans (by assumption) ?_ | refine bl_set ?_ (by first | omega | (simp; done) | (simp; omega)) _))⟩
  · obtain ⟨⟨h1, h2⟩, h3, h4⟩ := okPer_true h
    go_enter Try.func45, Try.ntmps45
    go_wp2_with (first | (go_at_call 95; refine (isPerson_any _ _ _).mono ?_; rintro e w' ⟨rfl, rfl⟩; rw [h]) | (go_at_call 96; refine (toldFraction_any _ _ (by omega) (by omega) (by omega) (by omega) _).mono ?_; rintro e w' ⟨rfl, nn, rfl⟩))
    ((try simp only [Exit.inBlock, Exit.then]); refine bodyPost_ret (results_tmp5 rfl _ _ _) rfl ?_)
    exact ⟨by simp [MF, h], (by repeat (first | exact Below.refl _ _ | refine bl_alloc ?_ _ | refine bl_drewN ?_ _ | refine bl_trans (by assumption) ?_ | refine bl_set ?_ (by first | omega | (simp; done) | (simp; omega)) _))⟩
set_option maxHeartbeats 400000 in
theorem spec_MirrorFor (a b : Int) (w : World) :
    Calls Try.prog 44 #[.int .i64 a, .int .i64 b] w fun e w' => e = .returned (.tuple #[.int .i64 (MF ln a b b), .int .i64 (MF ld a b b), .int .i64 (MF ln a b (a + b)), .int .i64 (MF ld a b (a + b)), .bool (okPer a b)]) ∧ Below w.heap.size w w' := by
  cases h : okPer a b
  · go_enter Try.func44, Try.ntmps44
    go_wp2_with (go_at_call 93; refine (miPerson_any _ _ _).mono ?_; rintro e w' ⟨rfl, rfl⟩; rw [h])
    ((try simp only [Exit.inBlock, Exit.then]); refine bodyPost_ret (results_tmp5 rfl _ _ _) rfl ?_)
    exact ⟨by simp [MF, h], (by repeat (first | exact Below.refl _ _ | refine bl_alloc ?_ _ | refine bl_drewN ?_ _ | refine bl_trans (by assumption) ?_ | refine bl_set ?_ (by first | omega | (simp; done) | (simp; omega)) _))⟩
  · obtain ⟨⟨h1, h2⟩, h3, h4⟩ := okPer_true h
    go_enter Try.func44, Try.ntmps44
    go_wp2_with (first | (go_at_call 93; refine (miPerson_any _ _ _).mono ?_; rintro e w' ⟨rfl, rfl⟩; rw [h]) | (go_at_call 94; refine (clLow_any _ _ (by omega) (by omega) (by omega) (by omega) _).mono ?_; rintro e w' ⟨rfl, nn, rfl⟩))
    ((try simp only [Exit.inBlock, Exit.then]); refine bodyPost_ret (results_tmp5 rfl _ _ _) rfl ?_)
    exact ⟨by simp [MF, h], (by repeat (first | exact Below.refl _ _ | refine bl_alloc ?_ _ | refine bl_drewN ?_ _ | refine bl_trans (by assumption) ?_ | refine bl_set ?_ (by first | omega | (simp; done) | (simp; omega)) _))⟩
def CS (t e l h : Int) : Bool := okPer t e && (okMir l h && (decide (2 * l ≤ e) && decide (t + e ≤ 2 * h)))
def okCS (t e l h : Int) : Bool := okPer t e && okMir l h
def SPl (e l : Int) : Int := max 0 (2 * l - e)
def SPh (t e h : Int) : Int := min t (2 * h - e)
def okSP (t e l h : Int) : Bool := okPer t e && (okMir l h && decide (SPl e l ≤ SPh t e h))
def SP (f t e l h : Int) : Int := if okSP t e l h then f else 0
set_option maxHeartbeats 400000 in
theorem impl_CanSeeAll (a b c d : Int) (w : World) :
    Calls Try.prog 47 #[.int .i64 a, .int .i64 b, .int .i64 c, .int .i64 d] w fun e w' => e = .returned (.tuple #[.bool (CS a b c d), .bool (okCS a b c d)]) ∧ Below w.heap.size w w' := by
  cases h : okPer a b
  · go_enter Try.func47, Try.ntmps47
    go_wp2_with (go_at_call 95; refine (isPerson_any _ _ _).mono ?_; rintro e w' ⟨rfl, rfl⟩; rw [h])
    go_ret2
    exact ⟨by simp [CS, okCS, h], (by repeat (first | exact Below.refl _ _ | refine bl_alloc ?_ _ | refine bl_drewN ?_ _ | refine bl_trans (by assumption) ?_ | refine bl_set ?_ (by first | omega | (simp; done) | (simp; omega)) _))⟩
  · cases h2 : okMir c d
    · go_enter Try.func47, Try.ntmps47
      go_wp2_with (first | (go_at_call 95; refine (isPerson_any _ _ _).mono ?_; rintro e w' ⟨rfl, rfl⟩; rw [h]) | (go_at_call 98; refine (isMirror_any _ _ _).mono ?_; rintro e w' ⟨rfl, rfl⟩; rw [h2]))
      go_ret2
      exact ⟨by simp [CS, okCS, h, h2], (by repeat (first | exact Below.refl _ _ | refine bl_alloc ?_ _ | refine bl_drewN ?_ _ | refine bl_trans (by assumption) ?_ | refine bl_set ?_ (by first | omega | (simp; done) | (simp; omega)) _))⟩
    · obtain ⟨⟨q1, q2⟩, q3, q4⟩ := okPer_true h
      obtain ⟨⟨m1, m2⟩, m3, m4⟩ := okMir_true h2
      go_enter Try.func47, Try.ntmps47
      go_wp2_with (first | (go_at_call 95; refine (isPerson_any _ _ _).mono ?_; rintro e w' ⟨rfl, rfl⟩; rw [h]) | (go_at_call 98; refine (isMirror_any _ _ _).mono ?_; rintro e w' ⟨rfl, rfl⟩; rw [h2]))
      all_goals (go_ret2; exact ⟨by simp [CS, okCS, h, h2] <;> omega, (by repeat (first | exact Below.refl _ _ | refine bl_alloc ?_ _ | refine bl_drewN ?_ _ | refine bl_trans (by assumption) ?_ | refine bl_set ?_ (by first | omega | (simp; done) | (simp; omega)) _))⟩)
set_option maxHeartbeats 400000 in
theorem spec_CanSeeAll (a b c d : Int) (w : World) :
    Calls Try.prog 46 #[.int .i64 a, .int .i64 b, .int .i64 c, .int .i64 d] w fun e w' => e = .returned (.tuple #[.bool (CS a b c d), .bool (okCS a b c d)]) ∧ Below w.heap.size w w' := by
  cases h : okPer a b
  · go_enter Try.func46, Try.ntmps46
    go_wp2_with (go_at_call 93; refine (miPerson_any _ _ _).mono ?_; rintro e w' ⟨rfl, rfl⟩; rw [h])
    go_ret2
    exact ⟨by simp [CS, okCS, h], (by repeat (first | exact Below.refl _ _ | refine bl_alloc ?_ _ | refine bl_drewN ?_ _ | refine bl_trans (by assumption) ?_ | refine bl_set ?_ (by first | omega | (simp; done) | (simp; omega)) _))⟩
  · cases h2 : okMir c d
    · go_enter Try.func46, Try.ntmps46
      go_wp2_with (first | (go_at_call 93; refine (miPerson_any _ _ _).mono ?_; rintro e w' ⟨rfl, rfl⟩; rw [h]) | (go_at_call 97; refine (miPart_any _ _ _).mono ?_; rintro e w' ⟨rfl, rfl⟩; rw [h2]))
      go_ret2
      exact ⟨by simp [CS, okCS, h, h2], (by repeat (first | exact Below.refl _ _ | refine bl_alloc ?_ _ | refine bl_drewN ?_ _ | refine bl_trans (by assumption) ?_ | refine bl_set ?_ (by first | omega | (simp; done) | (simp; omega)) _))⟩
    · obtain ⟨⟨q1, q2⟩, q3, q4⟩ := okPer_true h
      obtain ⟨⟨m1, m2⟩, m3, m4⟩ := okMir_true h2
      go_enter Try.func46, Try.ntmps46
      go_wp2_with (first | (go_at_call 93; refine (miPerson_any _ _ _).mono ?_; rintro e w' ⟨rfl, rfl⟩; rw [h]) | (go_at_call 97; refine (miPart_any _ _ _).mono ?_; rintro e w' ⟨rfl, rfl⟩; rw [h2]))
      all_goals (go_ret2; exact ⟨by simp [CS, okCS, h, h2] <;> omega, (by repeat (first | exact Below.refl _ _ | refine bl_alloc ?_ _ | refine bl_drewN ?_ _ | refine bl_trans (by assumption) ?_ | refine bl_set ?_ (by first | omega | (simp; done) | (simp; omega)) _))⟩)
set_option maxHeartbeats 400000 in
theorem l1Most_any (x y : Int) (w : World) : Calls Try.prog 99 #[.int .i64 x, .int .i64 y] w fun e w' => e = .returned (.int .i64 (max x y)) ∧ w = w' := by
  go_enter Try.func99, Try.ntmps99
  go_wp2
  all_goals (go_ret; exact ⟨ret_int (by show _ = max x y; omega), rfl⟩)
set_option maxHeartbeats 400000 in
theorem l1LeastI_any (x y : Int) (w : World) : Calls Try.prog 100 #[.int .i64 x, .int .i64 y] w fun e w' => e = .returned (.int .i64 (min x y)) ∧ w = w' := by
  go_enter Try.func100, Try.ntmps100
  go_wp2
  all_goals (go_ret; exact ⟨ret_int (by show _ = min x y; omega), rfl⟩)
set_option maxHeartbeats 400000 in
theorem impl_SeenOfPerson (a b c d : Int) (w : World) :
    Calls Try.prog 49 #[.int .i64 a, .int .i64 b, .int .i64 c, .int .i64 d] w fun e w' => e = .returned (.tuple #[.int .i64 (SP (SPl b c) a b c d), .int .i64 (SP (SPh a b d) a b c d), .bool (okSP a b c d)]) ∧ Below w.heap.size w w' := by
  cases hPer : okPer a b
  · go_enter Try.func49, Try.ntmps49
    go_wp2_with (go_at_call 95; refine (isPerson_any _ _ _).mono ?_; rintro e w' ⟨rfl, rfl⟩; rw [hPer])
    go_ret3
    exact ⟨by simp [SP, okSP, hPer], (by repeat (first | exact Below.refl _ _ | refine bl_alloc ?_ _ | refine bl_drewN ?_ _ | refine bl_trans (by assumption) ?_ | refine bl_set ?_ (by first | omega | (simp; done) | (simp; omega)) _))⟩
  · cases hMir : okMir c d
    · go_enter Try.func49, Try.ntmps49
      go_wp2_with (first | (go_at_call 95; refine (isPerson_any _ _ _).mono ?_; rintro e w' ⟨rfl, rfl⟩; rw [hPer]) | (go_at_call 98; refine (isMirror_any _ _ _).mono ?_; rintro e w' ⟨rfl, rfl⟩; rw [hMir]))
      go_ret3
      exact ⟨by simp [SP, okSP, hPer, hMir], (by repeat (first | exact Below.refl _ _ | refine bl_alloc ?_ _ | refine bl_drewN ?_ _ | refine bl_trans (by assumption) ?_ | refine bl_set ?_ (by first | omega | (simp; done) | (simp; omega)) _))⟩
    · obtain ⟨⟨q1, q2⟩, q3, q4⟩ := okPer_true hPer
      obtain ⟨⟨m1, m2⟩, m3, m4⟩ := okMir_true hMir
      go_enter Try.func49, Try.ntmps49
      go_wp2_with (first | (go_at_call 95; refine (isPerson_any _ _ _).mono ?_; rintro e w' ⟨rfl, rfl⟩; rw [hPer]) | (go_at_call 98; refine (isMirror_any _ _ _).mono ?_; rintro e w' ⟨rfl, rfl⟩; rw [hMir]))
      all_goals (go_ret3; exact ⟨by simp [SP, okSP, SPl, SPh, Int.max_def, Int.min_def, hPer, hMir] <;> (repeat' split) <;> (try simp) <;> omega, (by repeat (first | exact Below.refl _ _ | refine bl_alloc ?_ _ | refine bl_drewN ?_ _ | refine bl_trans (by assumption) ?_ | refine bl_set ?_ (by first | omega | (simp; done) | (simp; omega)) _))⟩)
set_option maxHeartbeats 400000 in
theorem spec_SeenOfPerson (a b c d : Int) (w : World) :
    Calls Try.prog 48 #[.int .i64 a, .int .i64 b, .int .i64 c, .int .i64 d] w fun e w' => e = .returned (.tuple #[.int .i64 (SP (SPl b c) a b c d), .int .i64 (SP (SPh a b d) a b c d), .bool (okSP a b c d)]) ∧ Below w.heap.size w w' := by
  cases hPer : okPer a b
  · go_enter Try.func48, Try.ntmps48
    go_wp2_with (go_at_call 93; refine (miPerson_any _ _ _).mono ?_; rintro e w' ⟨rfl, rfl⟩; rw [hPer])
    go_ret3
    exact ⟨by simp [SP, okSP, hPer], (by repeat (first | exact Below.refl _ _ | refine bl_alloc ?_ _ | refine bl_drewN ?_ _ | refine bl_trans (by assumption) ?_ | refine bl_set ?_ (by first | omega | (simp; done) | (simp; omega)) _))⟩
  · cases hMir : okMir c d
    · go_enter Try.func48, Try.ntmps48
      go_wp2_with (first | (go_at_call 93; refine (miPerson_any _ _ _).mono ?_; rintro e w' ⟨rfl, rfl⟩; rw [hPer]) | (go_at_call 97; refine (miPart_any _ _ _).mono ?_; rintro e w' ⟨rfl, rfl⟩; rw [hMir]))
      go_ret3
      exact ⟨by simp [SP, okSP, hPer, hMir], (by repeat (first | exact Below.refl _ _ | refine bl_alloc ?_ _ | refine bl_drewN ?_ _ | refine bl_trans (by assumption) ?_ | refine bl_set ?_ (by first | omega | (simp; done) | (simp; omega)) _))⟩
    · obtain ⟨⟨q1, q2⟩, q3, q4⟩ := okPer_true hPer
      obtain ⟨⟨m1, m2⟩, m3, m4⟩ := okMir_true hMir
      go_enter Try.func48, Try.ntmps48
      go_wp2_with (first | (go_at_call 93; refine (miPerson_any _ _ _).mono ?_; rintro e w' ⟨rfl, rfl⟩; rw [hPer]) | (go_at_call 97; refine (miPart_any _ _ _).mono ?_; rintro e w' ⟨rfl, rfl⟩; rw [hMir]) | (go_at_call 99; refine (l1Most_any _ _ _).mono ?_; rintro e w' ⟨rfl, rfl⟩) | (go_at_call 100; refine (l1LeastI_any _ _ _).mono ?_; rintro e w' ⟨rfl, rfl⟩))
      all_goals (go_ret3; exact ⟨by simp [SP, okSP, SPl, SPh, Int.max_def, Int.min_def, hPer, hMir] <;> (repeat' split) <;> (try simp) <;> omega, (by repeat (first | exact Below.refl _ _ | refine bl_alloc ?_ _ | refine bl_drewN ?_ _ | refine bl_trans (by assumption) ?_ | refine bl_set ?_ (by first | omega | (simp; done) | (simp; omega)) _))⟩)
end Go.Proofs.Ytfcllmlecnffdaa
