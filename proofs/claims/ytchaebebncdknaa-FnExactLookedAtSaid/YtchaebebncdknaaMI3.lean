/- Points before a mirror: slices of two ints; where the mirror is looked at. -/
import Derived.Test.YtchaebebncdknaaMI1
import Derived.Test.YtchaebebncdknaaQ1
namespace Go.Proofs.Ytchaebebncdknaa
open Go.RowKit
def okPt (xs : List Int) : Bool := decide (xs.length = 2) && (within (xs.getD 0 0) 1 500 && within (xs.getD 1 0) 1 500)
theorem okPt_two {xs : List Int} (h : okPt xs = true) : ∃ x y, xs = [x, y] ∧ (1 ≤ x ∧ x ≤ 500) ∧ 1 ≤ y ∧ y ≤ 500 := by
  simp only [okPt, Bool.and_eq_true, decide_eq_true_eq] at h
  obtain ⟨h1, h2, h3⟩ := h
  match xs, h1 with
  | [x, y], _ => exact ⟨x, y, rfl, within_true h2, within_true h3⟩
theorem okPt_mk (x y : Int) : okPt [x, y] = (within x 1 500 && within y 1 500) := by simp [okPt]
theorem okPt_no {xs : List Int} (h : xs.length ≠ 2) : okPt xs = false := by simp [okPt, h]
theorem QRow.two {w : World} {v : Value} {x y : Int} (h : QRow w v [x, y]) : ∃ b off cap, v = .slice (some ⟨b, off, none⟩) 2 cap ∧ b < w.heap.size ∧ w.cell? ⟨b, off, none⟩ = some (.int .i64 x) ∧ w.cell? ⟨b, off + 1, none⟩ = some (.int .i64 y) := by
  obtain ⟨b, off, cap, hv, hb, hc⟩ := h.some_ (by simp)
  exact ⟨b, off, cap, hv, hb, hc 0 (by simp), hc 1 (by simp)⟩

set_option maxHeartbeats 400000 in
theorem isPoint_any (v : Value) (xs : List Int) (w : World) (hq : QRow w v xs) :
    Calls Try.prog 91 #[v] w fun e w' => e = .returned (.bool (okPt xs)) ∧ w = w' := by
  by_cases h2 : xs.length = 2
  · match xs, h2 with
    | [x, y], _ =>
      obtain ⟨b, off, cap, rfl, hb, c0, c1⟩ := hq.two
      rw [okPt_mk]
      clear hq
      cases h3 : within x 1 500 <;> cases h4 : within y 1 500
      all_goals
        go_enter Try.func91, Try.ntmps91
        go_wp2_with (go_at_call 73; refine (isWithin_any _ _ _ _).mono ?_; rintro e w' ⟨rfl, rfl⟩; first | rw [h3] | rw [h4])
        go_ret
        exact ⟨by simp, rfl⟩
  · rw [okPt_no h2]
    have hl := hq.len_le
    obtain ⟨a, c, rfl⟩ := hq.shape
    clear hq
    have hne : ((xs.length : Int) == 2) = false := by simp; omega
    go_enter Try.func91, Try.ntmps91
    go_wp2
    go_ret
    exact ⟨rfl, rfl⟩

set_option maxHeartbeats 400000 in
theorem l1All_two (v : Value) (x y l h : Int) (w : World) (hq : QRow w v [x, y]) :
    Calls Try.prog 97 #[v, .int .i64 l, .int .i64 h] w fun e w' => e = .returned (.bool (within x l h && within y l h)) ∧ ∃ n, w' = w.drewN n := by
  obtain ⟨b, off, cap, rfl, hb, c0, c1⟩ := hq.two
  clear hq
  obtain ⟨p, hp⟩ : ∃ p, within x l h = p := ⟨_, rfl⟩
  obtain ⟨q, hq⟩ : ∃ q, within y l h = q := ⟨_, rfl⟩
  have HP := Lib.hid hp
  have HQ := Lib.hid hq
  rw [hp, hq]
  clear hp hq
  go_enter Try.func97, Try.ntmps97
  go_wp2
  go_loopw [11] (fun i wr => ∃ j n : Nat, j ≤ 2 ∧ i = .int .i64 (j : Int) ∧ wr = w.drewN n ∧ (0 < j → p = true) ∧ (1 < j → q = true)) (fun i _ => 3 - (intOf i).toNat)
  case atStart => exact ⟨0, 0, by omega, rfl, rfl, by omega, by omega⟩
  case round =>
    obtain ⟨j, n, hj, rfl, rfl, g0, g1⟩ := hrel
    have hcases : j = 0 ∨ j = 1 ∨ j = 2 := by omega
    rcases hcases with rfl | rfl | rfl
    · clear g0 g1
      cases p
      · go_wp2_with (go_at_call 75; refine (l1In_any _ _ _ _).mono ?_; rintro e w' ⟨rfl, rfl⟩; rw [HP.out])
        go_ret
        exact ⟨rfl, n, rfl⟩
      · go_wp2_with (go_at_call 75; refine (l1In_any _ _ _ _).mono ?_; rintro e w' ⟨rfl, rfl⟩; rw [HP.out])
        go_roundw
        case rel => exact ⟨1, n, by omega, rfl, rfl, by first | trivial | (intro _; rfl), by omega⟩
        case measure => simp only [intOf]; omega
    · obtain rfl := g0 (by omega)
      clear g0 g1
      cases q
      · go_wp2_with (go_at_call 75; refine (l1In_any _ _ _ _).mono ?_; rintro e w' ⟨rfl, rfl⟩; rw [HQ.out])
        go_ret
        exact ⟨rfl, n, rfl⟩
      · go_wp2_with (go_at_call 75; refine (l1In_any _ _ _ _).mono ?_; rintro e w' ⟨rfl, rfl⟩; rw [HQ.out])
        go_roundw
        case rel => exact ⟨2, n, by omega, rfl, rfl, by first | trivial | (intro _; rfl), by first | trivial | (intro _; rfl)⟩
        case measure => simp only [intOf]; omega
    · obtain rfl := g0 (by omega)
      obtain rfl := g1 (by omega)
      clear g0 g1
      go_wp2
      go_ret
      exact ⟨rfl, n, rfl⟩

set_option maxHeartbeats 400000 in
theorem miPoint_any (v : Value) (xs : List Int) (w : World) (hq : QRow w v xs) :
    Calls Try.prog 89 #[v] w fun e w' => e = .returned (.bool (okPt xs)) ∧ ∃ n, w' = w.drewN n := by
  by_cases h2 : xs.length = 2
  · match xs, h2 with
    | [x, y], _ =>
      rw [okPt_mk]
      have HQ := Lib.hid hq
      obtain ⟨b, off, cap, rfl, hb, c0, c1⟩ := hq.two
      clear hq
      go_enter Try.func89, Try.ntmps89
      go_wp2_with (go_at_call 97; refine (l1All_two _ _ _ _ _ _ HQ.out).mono ?_; rintro e w' ⟨rfl, n, rfl⟩)
      go_ret
      exact ⟨rfl, n, rfl⟩
  · rw [okPt_no h2]
    have hl := hq.len_le
    obtain ⟨a, c, rfl⟩ := hq.shape
    clear hq
    have hne : ((xs.length : Int) == 2) = false := by simp; omega
    go_enter Try.func89, Try.ntmps89
    go_wp2
    go_ret
    exact ⟨rfl, 0, rfl⟩

/-- how far up, times 'farX' -/
def lookX (xs ys : List Int) : Int := xs.getD 1 0 * ys.getD 0 0 + ys.getD 1 0 * xs.getD 0 0
def farX (xs ys : List Int) : Int := xs.getD 0 0 + ys.getD 0 0
theorem look_bd {a b c d : Int} (ha : 1 ≤ a ∧ a ≤ 500) (hb : 1 ≤ b ∧ b ≤ 500) (hc : 1 ≤ c ∧ c ≤ 500) (hd : 1 ≤ d ∧ d ≤ 500) : 0 ≤ a * b ∧ a * b ≤ 250000 ∧ 0 ≤ c * d ∧ c * d ≤ 250000 := by
  have h1 : 0 ≤ a * b := Int.mul_nonneg (by omega) (by omega)
  have h2 : a * b ≤ 500 * 500 := Int.mul_le_mul (by omega) (by omega) (by omega) (by omega)
  have h3 : 0 ≤ c * d := Int.mul_nonneg (by omega) (by omega)
  have h4 : c * d ≤ 500 * 500 := Int.mul_le_mul (by omega) (by omega) (by omega) (by omega)
  omega
set_option maxHeartbeats 400000 in
theorem lookTimesFar_any (v u : Value) (a b c d : Int) (w : World) (h1 : QRow w v [a, b]) (h2 : QRow w u [c, d]) (ha : 1 ≤ a ∧ a ≤ 500) (hb : 1 ≤ b ∧ b ≤ 500) (hc : 1 ≤ c ∧ c ≤ 500) (hd : 1 ≤ d ∧ d ≤ 500) :
    Calls Try.prog 92 #[v, u] w fun e w' => e = .returned (.int .i64 (lookX [a, b] [c, d])) ∧ ∃ n, w' = w.drewN n := by
  obtain ⟨b1, o1, p1, rfl, z1, c1, d1⟩ := h1.two
  obtain ⟨b2, o2, p2, rfl, z2, c2, d2⟩ := h2.two
  obtain ⟨m1, m2, m3, m4⟩ := look_bd (a := b) (b := c) (c := d) (d := a) hb hc hd ha
  clear h1 h2
  go_enter Try.func92, Try.ntmps92
  go_wp2_with fail
  go_quiet (fail)
  go_wp2
  go_ret
  exact ⟨by simp [lookX], nq, rfl⟩
set_option maxHeartbeats 400000 in
theorem farOfBoth_any (v u : Value) (a b c d : Int) (w : World) (h1 : QRow w v [a, b]) (h2 : QRow w u [c, d]) (ha : 1 ≤ a ∧ a ≤ 500) (hb : 1 ≤ b ∧ b ≤ 500) (hc : 1 ≤ c ∧ c ≤ 500) (hd : 1 ≤ d ∧ d ≤ 500) :
    Calls Try.prog 93 #[v, u] w fun e w' => e = .returned (.int .i64 (farX [a, b] [c, d])) ∧ ∃ n, w' = w.drewN n := by
  obtain ⟨b1, o1, p1, rfl, z1, c1, d1⟩ := h1.two
  obtain ⟨b2, o2, p2, rfl, z2, c2, d2⟩ := h2.two
  obtain ⟨m1, m2, m3, m4⟩ := look_bd (a := b) (b := c) (c := d) (d := a) hb hc hd ha
  clear h1 h2
  go_enter Try.func93, Try.ntmps93
  go_wp2_with fail
  go_quiet (fail)
  go_wp2
  go_ret
  exact ⟨by simp [farX], nq, rfl⟩

theorem LK_after {u v w : World} {b1 b2 o1 o2 o3 o4 : Nat} {x1 x2 x3 x4 : Value} (hb : Below u.heap.size u v)
    (h : u.cell? ⟨b1, o1, none⟩ = some x1 ∧ u.cell? ⟨b1, o2, none⟩ = some x2 ∧ u.cell? ⟨b2, o3, none⟩ = some x3 ∧ u.cell? ⟨b2, o4, none⟩ = some x4 ∧ b1 < u.heap.size ∧ b2 < u.heap.size ∧ Below w.heap.size w u) :
    v.cell? ⟨b1, o1, none⟩ = some x1 ∧ v.cell? ⟨b1, o2, none⟩ = some x2 ∧ v.cell? ⟨b2, o3, none⟩ = some x3 ∧ v.cell? ⟨b2, o4, none⟩ = some x4 ∧ b1 < v.heap.size ∧ b2 < v.heap.size ∧ Below w.heap.size w v := by
  obtain ⟨h1, h2, h3, h4, h5, h6, h7⟩ := h
  refine ⟨?_, ?_, ?_, ?_, Nat.lt_of_lt_of_le h5 hb.size, Nat.lt_of_lt_of_le h6 hb.size, bl_trans hb h7⟩
  all_goals (first | rw [(bcell hb).1 _ _ h5] | rw [(bcell hb).1 _ _ h6]) <;> assumption
theorem wr_look {x y : Int} (h : 0 ≤ x ∧ x ≤ 250000 ∧ 0 ≤ y ∧ y ≤ 250000) : IntKind.i64.wrap (IntKind.i64.wrap x + IntKind.i64.wrap y) = x + y := by
  rw [show IntKind.i64.wrap x = x from IntWalk.i64_in x (by omega), show IntKind.i64.wrap y = y from IntWalk.i64_in y (by omega)]
  exact IntWalk.i64_in _ (by omega)
theorem wr_far {x y : Int} (h : 1 ≤ x ∧ x ≤ 500) (k : 1 ≤ y ∧ y ≤ 500) : IntKind.i64.wrap (x + y) = x + y := IntWalk.i64_in _ (by omega)
def okLk (xs ys : List Int) : Bool := okPt xs && okPt ys
def LK (f : Int → Int → Int) (xs ys : List Int) : Int := if okLk xs ys then f (lookX xs ys) (farX xs ys) else 0
set_option maxHeartbeats 400000 in
theorem miLook_any (v u : Value) (a b c d : Int) (w : World) (h1 : QRow w v [a, b]) (h2 : QRow w u [c, d]) (ha : 1 ≤ a ∧ a ≤ 500) (hb : 1 ≤ b ∧ b ≤ 500) (hc : 1 ≤ c ∧ c ≤ 500) (hd : 1 ≤ d ∧ d ≤ 500) :
    Calls Try.prog 90 #[v, u] w fun e w' => e = .returned (.tuple #[.int .i64 (ln (lookX [a, b] [c, d]) (farX [a, b] [c, d])), .int .i64 (ld (lookX [a, b] [c, d]) (farX [a, b] [c, d]))]) ∧ Below w.heap.size w w' := by
  obtain ⟨b1, o1, p1, rfl, z1, c1, d1⟩ := h1.two
  obtain ⟨b2, o2, p2, rfl, z2, c2, d2⟩ := h2.two
  obtain ⟨m1, m2, m3, m4⟩ := look_bd (a := b) (b := c) (c := d) (d := a) hb hc hd ha
  have hw1 := Lib.hid (wr_look (x := b * c) (y := d * a) ⟨m1, m2, m3, m4⟩)
  have hw2 := Lib.hid (wr_far (x := a) (y := c) ha hc)
  have hS : w.cell? ⟨b1, o1, none⟩ = some (.int .i64 a) ∧ w.cell? ⟨b1, o1 + 1, none⟩ = some (.int .i64 b) ∧ w.cell? ⟨b2, o2, none⟩ = some (.int .i64 c) ∧ w.cell? ⟨b2, o2 + 1, none⟩ = some (.int .i64 d) ∧ b1 < w.heap.size ∧ b2 < w.heap.size ∧ Below w.heap.size w w := ⟨c1, d1, c2, d2, z1, z2, Below.refl _ _⟩
  have hN : lookX [a, b] [c, d] = b * c + d * a := by simp [lookX]
  have hD : farX [a, b] [c, d] = a + c := by simp [farX]
  rw [hN, hD]
  clear h1 h2 hN hD
  go_enter Try.func90, Try.ntmps90
  go_wp2_with fail
  go_region_held3 (fun w' => w'.cell? ⟨b1, o1, none⟩ = some (.int .i64 a) ∧ w'.cell? ⟨b1, o1 + 1, none⟩ = some (.int .i64 b) ∧ w'.cell? ⟨b2, o2, none⟩ = some (.int .i64 c) ∧ w'.cell? ⟨b2, o2 + 1, none⟩ = some (.int .i64 d) ∧ b1 < w'.heap.size ∧ b2 < w'.heap.size ∧ Below w.heap.size w w') (first | exact LK_after (below_drewN (Below.refl _ _) _) (by assumption) | exact LK_after (Below.drew (Below.refl _ _)) (by assumption) | assumption) ((go_at_call 68; rw [hw1.out, hw2.out]; refine (clLow_any _ _ (by omega) (by omega) (by omega) (by omega) _).mono ?_; rintro e w' ⟨rfl, nn, rfl⟩))
  go_wp2
  go_ret2
  rename_i hh
  exact ⟨rfl, hh.2.2.2.2.2.2⟩
set_option maxHeartbeats 400000 in
theorem impl_LookedAt (v u : Value) (xs ys : List Int) (w : World) (q1 : QRow w v xs) (q2 : QRow w u ys) :
    Calls Try.prog 65 #[v, u] w fun e w' => e = .returned (.tuple #[.int .i64 (LK ln xs ys), .int .i64 (LK ld xs ys), .bool (okLk xs ys)]) ∧ Below w.heap.size w w' := by
  have Q1 := Lib.hid q1
  have Q2 := Lib.hid q2
  clear q1 q2
  cases h1 : okPt xs
  · rw [show LK ln xs ys = 0 by simp [LK, okLk, h1], show LK ld xs ys = 0 by simp [LK, okLk, h1], show okLk xs ys = false by simp [okLk, h1]]
    go_enter Try.func65, Try.ntmps65
    go_wp2_with fail
    refine (isPoint_any _ _ _ Q1.out).mono ?_
    rintro e w' ⟨rfl, rfl⟩
    rw [h1]
    go_wp2
    go_ret3
    exact ⟨rfl, (by repeat (first | exact Below.refl _ _ | refine bl_alloc ?_ _ | refine bl_drewN ?_ _ | refine bl_trans (by assumption) ?_ | refine bl_set ?_ (by first | omega | (simp; done) | (simp; omega)) _))⟩
  · cases h2 : okPt ys
    · rw [show LK ln xs ys = 0 by simp [LK, okLk, h1, h2], show LK ld xs ys = 0 by simp [LK, okLk, h1, h2], show okLk xs ys = false by simp [okLk, h1, h2]]
      go_enter Try.func65, Try.ntmps65
      go_wp2_with fail
      refine (isPoint_any _ _ _ Q1.out).mono ?_
      rintro e w' ⟨rfl, rfl⟩
      rw [h1]
      go_wp2_with fail
      refine (isPoint_any _ _ _ Q2.out).mono ?_
      rintro e w' ⟨rfl, rfl⟩
      rw [h2]
      go_wp2
      go_ret3
      exact ⟨rfl, (by repeat (first | exact Below.refl _ _ | refine bl_alloc ?_ _ | refine bl_drewN ?_ _ | refine bl_trans (by assumption) ?_ | refine bl_set ?_ (by first | omega | (simp; done) | (simp; omega)) _))⟩
    · obtain ⟨a, b, rfl, ha, hb⟩ := okPt_two h1
      obtain ⟨c, d, rfl, hc, hd⟩ := okPt_two h2
      obtain ⟨m1, m2, m3, m4⟩ := look_bd (a := b) (b := c) (c := d) (d := a) hb hc hd ha
      have e1 := Lib.hid (show LK ln [a, b] [c, d] = ln (lookX [a, b] [c, d]) (farX [a, b] [c, d]) by simp [LK, okLk, h1, h2])
      have e2 := Lib.hid (show LK ld [a, b] [c, d] = ld (lookX [a, b] [c, d]) (farX [a, b] [c, d]) by simp [LK, okLk, h1, h2])
      have e3 := Lib.hid (show okLk [a, b] [c, d] = true by simp [okLk, h1, h2])
      have hN : lookX [a, b] [c, d] = b * c + d * a := by simp [lookX]
      have hD : farX [a, b] [c, d] = a + c := by simp [farX]
      go_enter Try.func65, Try.ntmps65
      go_wp2_with fail
      refine (isPoint_any _ _ _ Q1.out).mono ?_
      rintro e w' ⟨rfl, rfl⟩
      rw [h1]
      go_wp2_with fail
      refine (isPoint_any _ _ _ Q2.out).mono ?_
      rintro e w' ⟨rfl, rfl⟩
      rw [h2]
      go_wp2_with fail
      refine (lookTimesFar_any _ _ _ _ _ _ _ (by exact Q1.out) (by exact Q2.out) ha hb hc hd).mono ?_
      rintro e w' ⟨rfl, nl, rfl⟩
      go_wp2_with fail
      refine (farOfBoth_any _ _ _ _ _ _ _ (by exact Q1.out) (by exact Q2.out) ha hb hc hd).mono ?_
      rintro e w' ⟨rfl, nf, rfl⟩
      (try rw [hN]); (try rw [hD])
      go_wp2_with fail
      refine (toldFraction_any _ _ (by omega) (by omega) (by omega) (by omega) _).mono ?_
      rintro e w' ⟨rfl, nt, rfl⟩
      go_wp2
      go_ret3
      exact ⟨by rw [e1.out, e2.out, e3.out, hN, hD]; first | done | rfl, (by repeat (first | exact Below.refl _ _ | refine bl_alloc ?_ _ | refine bl_drewN ?_ _ | refine bl_trans (by assumption) ?_ | refine bl_set ?_ (by first | omega | (simp; done) | (simp; omega)) _))⟩
set_option maxHeartbeats 400000 in
theorem spec_LookedAt (v u : Value) (xs ys : List Int) (w : World) (q1 : QRow w v xs) (q2 : QRow w u ys) :
    Calls Try.prog 63 #[v, u] w fun e w' => e = .returned (.tuple #[.int .i64 (LK ln xs ys), .int .i64 (LK ld xs ys), .bool (okLk xs ys)]) ∧ Below w.heap.size w w' := by
  have Q1 := Lib.hid q1
  have Q2 := Lib.hid q2
  clear q1 q2
  cases h1 : okPt xs
  · rw [show LK ln xs ys = 0 by simp [LK, okLk, h1], show LK ld xs ys = 0 by simp [LK, okLk, h1], show okLk xs ys = false by simp [okLk, h1]]
    go_enter Try.func63, Try.ntmps63
    go_wp2_with fail
    refine (miPoint_any _ _ _ (by exact Q1.out)).mono ?_
    rintro e w' ⟨rfl, nh1, rfl⟩
    rw [h1]
    go_wp2
    go_ret3
    exact ⟨rfl, (by repeat (first | exact Below.refl _ _ | refine bl_alloc ?_ _ | refine bl_drewN ?_ _ | refine bl_trans (by assumption) ?_ | refine bl_set ?_ (by first | omega | (simp; done) | (simp; omega)) _))⟩
  · cases h2 : okPt ys
    · rw [show LK ln xs ys = 0 by simp [LK, okLk, h1, h2], show LK ld xs ys = 0 by simp [LK, okLk, h1, h2], show okLk xs ys = false by simp [okLk, h1, h2]]
      go_enter Try.func63, Try.ntmps63
      go_wp2_with fail
      refine (miPoint_any _ _ _ (by exact Q1.out)).mono ?_
      rintro e w' ⟨rfl, nh1, rfl⟩
      rw [h1]
      go_wp2_with fail
      refine (miPoint_any _ _ _ (by exact Q2.out)).mono ?_
      rintro e w' ⟨rfl, nh2, rfl⟩
      rw [h2]
      go_wp2
      go_ret3
      exact ⟨rfl, (by repeat (first | exact Below.refl _ _ | refine bl_alloc ?_ _ | refine bl_drewN ?_ _ | refine bl_trans (by assumption) ?_ | refine bl_set ?_ (by first | omega | (simp; done) | (simp; omega)) _))⟩
    · obtain ⟨a, b, rfl, ha, hb⟩ := okPt_two h1
      obtain ⟨c, d, rfl, hc, hd⟩ := okPt_two h2
      obtain ⟨m1, m2, m3, m4⟩ := look_bd (a := b) (b := c) (c := d) (d := a) hb hc hd ha
      have e1 := Lib.hid (show LK ln [a, b] [c, d] = ln (lookX [a, b] [c, d]) (farX [a, b] [c, d]) by simp [LK, okLk, h1, h2])
      have e2 := Lib.hid (show LK ld [a, b] [c, d] = ld (lookX [a, b] [c, d]) (farX [a, b] [c, d]) by simp [LK, okLk, h1, h2])
      have e3 := Lib.hid (show okLk [a, b] [c, d] = true by simp [okLk, h1, h2])
      have hN : lookX [a, b] [c, d] = b * c + d * a := by simp [lookX]
      have hD : farX [a, b] [c, d] = a + c := by simp [farX]
      go_enter Try.func63, Try.ntmps63
      go_wp2_with fail
      refine (miPoint_any _ _ _ (by exact Q1.out)).mono ?_
      rintro e w' ⟨rfl, nh1, rfl⟩
      rw [h1]
      go_wp2_with fail
      refine (miPoint_any _ _ _ (by exact Q2.out)).mono ?_
      rintro e w' ⟨rfl, nh2, rfl⟩
      rw [h2]
      go_wp2_with fail
      refine (miLook_any _ _ _ _ _ _ _ (by exact Q1.out) (by exact Q2.out) ha hb hc hd).mono ?_
      rintro e w1 ⟨rfl, hb1⟩
      go_wp2
      go_ret3
      exact ⟨by rw [e1.out, e2.out, e3.out]; first | done | rfl, bl_trans hb1 (by repeat (first | exact Below.refl _ _ | refine bl_alloc ?_ _ | refine bl_drewN ?_ _ | refine bl_trans (by assumption) ?_ | refine bl_set ?_ (by first | omega | (simp; done) | (simp; omega)) _))⟩
theorem QRow.of1 {w u : World} {b1 b2 o1 o2 p : Nat} {a b : Int} {x3 x4 : Value}
    (h : u.cell? ⟨b1, o1, none⟩ = some (.int .i64 a) ∧ u.cell? ⟨b1, o1 + 1, none⟩ = some (.int .i64 b) ∧ u.cell? ⟨b2, o2, none⟩ = some x3 ∧ u.cell? ⟨b2, o2 + 1, none⟩ = some x4 ∧ b1 < u.heap.size ∧ b2 < u.heap.size ∧ Below w.heap.size w u) : QRow u (.slice (some ⟨b1, o1, none⟩) 2 p) [a, b] :=
  .inr ⟨by simp, b1, o1, p, rfl, by simp [maxLen], h.2.2.2.2.1, fun i hi => by
    have : i = 0 ∨ i = 1 := by simp at hi; omega
    rcases this with rfl | rfl
    · exact h.1
    · exact h.2.1⟩
theorem QRow.of2 {w u : World} {b1 b2 o1 o2 p : Nat} {a b : Int} {x3 x4 : Value}
    (h : u.cell? ⟨b1, o1, none⟩ = some x3 ∧ u.cell? ⟨b1, o1 + 1, none⟩ = some x4 ∧ u.cell? ⟨b2, o2, none⟩ = some (.int .i64 a) ∧ u.cell? ⟨b2, o2 + 1, none⟩ = some (.int .i64 b) ∧ b1 < u.heap.size ∧ b2 < u.heap.size ∧ Below w.heap.size w u) : QRow u (.slice (some ⟨b2, o2, none⟩) 2 p) [a, b] :=
  .inr ⟨by simp, b2, o2, p, rfl, by simp [maxLen], h.2.2.2.2.2.1, fun i hi => by
    have : i = 0 ∨ i = 1 := by simp at hi; omega
    rcases this with rfl | rfl
    · exact h.2.2.1
    · exact h.2.2.2.1⟩
def LQ (xs ys : List Int) : Int := if okLk xs ys then farX xs ys * farX xs ys + (xs.getD 1 0 - ys.getD 1 0) * (xs.getD 1 0 - ys.getD 1 0) else 0
theorem up_sq (b d : Int) : max (b - d) (d - b) * max (b - d) (d - b) = (b - d) * (b - d) := by
  rcases Int.le_total b d with h | h
  · rw [Int.max_eq_right (by omega), show d - b = -(b - d) by omega, Int.neg_mul_neg]
  · rw [Int.max_eq_left (by omega)]
theorem sq_bd {x m : Int} (h1 : -m ≤ x) (h2 : x ≤ m) (hm : 0 ≤ m) : 0 ≤ x * x ∧ x * x ≤ m * m := by
  rcases Int.le_total 0 x with h | h
  · exact ⟨Int.mul_nonneg h h, Int.mul_le_mul h2 h2 h hm⟩
  · have e : x * x = (-x) * (-x) := (Int.neg_mul_neg x x).symm
    rw [e]
    exact ⟨Int.mul_nonneg (by omega) (by omega), Int.mul_le_mul (by omega) (by omega) (by omega) hm⟩
end Go.Proofs.Ytchaebebncdknaa
