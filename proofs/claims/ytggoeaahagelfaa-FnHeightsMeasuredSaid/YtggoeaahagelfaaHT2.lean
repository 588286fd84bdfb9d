/- Chapter 8: lengths; towers, trees, wells, rivers, sights. -/
import Derived.Test.YtggoeaahagelfaaHT1
namespace Go.Proofs.Ytggoeaahagelfaa
open Go.RowKit
set_option linter.unusedVariables false
set_option linter.unusedSimpArgs false
theorem Z_true (x : Int) : Z true x = x := rfl
theorem shows_list (w : World) (xs : List Int) (t n : Nat) (hn : n = w.heap.size) : Shows (w.alloc (.cells (xs.map (Value.int .i64)).toArray t)) (.slice (some ⟨n, 0, none⟩) xs.length xs.length) xs := by
  refine ⟨n, 0, xs.length, rfl, fun i hi => ?_⟩
  subst hn
  simp [List.getD, hi]
theorem shows1 (w : World) (x : Int) (t n : Nat) (hn : n = w.heap.size) : Shows (w.alloc (.cells #[.int .i64 x] t)) (.slice (some ⟨n, 0, none⟩) 1 1) [x] := shows_list w [x] t n hn
theorem shows2 (w : World) (x y : Int) (t n : Nat) (hn : n = w.heap.size) : Shows (w.alloc (.cells #[.int .i64 x, .int .i64 y] t)) (.slice (some ⟨n, 0, none⟩) 2 2) [x, y] := shows_list w [x, y] t n hn
theorem shows3 (w : World) (x y z : Int) (t n : Nat) (hn : n = w.heap.size) : Shows (w.alloc (.cells #[.int .i64 x, .int .i64 y, .int .i64 z] t)) (.slice (some ⟨n, 0, none⟩) 3 3) [x, y, z] := shows_list w [x, y, z] t n hn
theorem allS1 (x : Int) : allS [x] = okS x := by simp [allS]
theorem allS2_true {x y : Int} (h : allS [x, y] = true) : (1 ≤ x ∧ x ≤ 2000) ∧ 1 ≤ y ∧ y ≤ 2000 := by
  simp only [allS, List.all_cons, List.all_nil, Bool.and_true, Bool.and_eq_true] at h
  exact ⟨okS_true h.1, okS_true h.2⟩
theorem allS3_true {x y z : Int} (h : allS [x, y, z] = true) : (1 ≤ x ∧ x ≤ 2000) ∧ (1 ≤ y ∧ y ≤ 2000) ∧ 1 ≤ z ∧ z ≤ 2000 := by
  simp only [allS, List.all_cons, List.all_nil, Bool.and_true, Bool.and_eq_true] at h
  exact ⟨okS_true h.1, okS_true h.2.1, okS_true h.2.2⟩
theorem areSteps1 (x : Int) (w : World) (t n : Nat) (hn : n = w.heap.size) :
    Calls Try.prog 32 #[.slice (some ⟨n, 0, none⟩) 1 1] (w.alloc (.cells #[.int .i64 x] t)) fun e w' => e = .returned (.bool (allS [x])) ∧ w' = w.alloc (.cells #[.int .i64 x] t) :=
  (areSteps_any _ [x] (by simp) _ (shows1 w x t n hn)).mono fun _ _ h => ⟨h.1, h.2.symm⟩
theorem htLong1 (x : Int) (w : World) (t n : Nat) (hn : n = w.heap.size) :
    Calls Try.prog 37 #[.slice (some ⟨n, 0, none⟩) 1 1] (w.alloc (.cells #[.int .i64 x] t)) fun e w' => e = .returned (.bool (allS [x])) ∧ w' = w.alloc (.cells #[.int .i64 x] t) :=
  (htLong_any _ [x] (by simp) _ (shows1 w x t n hn)).mono fun _ _ h => ⟨h.1, h.2.symm⟩
theorem areSteps2 (x y : Int) (w : World) (t n : Nat) (hn : n = w.heap.size) :
    Calls Try.prog 32 #[.slice (some ⟨n, 0, none⟩) 2 2] (w.alloc (.cells #[.int .i64 x, .int .i64 y] t)) fun e w' => e = .returned (.bool (allS [x, y])) ∧ w' = w.alloc (.cells #[.int .i64 x, .int .i64 y] t) :=
  (areSteps_any _ [x, y] (by simp) _ (shows2 w x y t n hn)).mono fun _ _ h => ⟨h.1, h.2.symm⟩
theorem htLong2 (x y : Int) (w : World) (t n : Nat) (hn : n = w.heap.size) :
    Calls Try.prog 37 #[.slice (some ⟨n, 0, none⟩) 2 2] (w.alloc (.cells #[.int .i64 x, .int .i64 y] t)) fun e w' => e = .returned (.bool (allS [x, y])) ∧ w' = w.alloc (.cells #[.int .i64 x, .int .i64 y] t) :=
  (htLong_any _ [x, y] (by simp) _ (shows2 w x y t n hn)).mono fun _ _ h => ⟨h.1, h.2.symm⟩
theorem areSteps3 (x y z : Int) (w : World) (t n : Nat) (hn : n = w.heap.size) :
    Calls Try.prog 32 #[.slice (some ⟨n, 0, none⟩) 3 3] (w.alloc (.cells #[.int .i64 x, .int .i64 y, .int .i64 z] t)) fun e w' => e = .returned (.bool (allS [x, y, z])) ∧ w' = w.alloc (.cells #[.int .i64 x, .int .i64 y, .int .i64 z] t) :=
  (areSteps_any _ [x, y, z] (by simp) _ (shows3 w x y z t n hn)).mono fun _ _ h => ⟨h.1, h.2.symm⟩
theorem htLong3 (x y z : Int) (w : World) (t n : Nat) (hn : n = w.heap.size) :
    Calls Try.prog 37 #[.slice (some ⟨n, 0, none⟩) 3 3] (w.alloc (.cells #[.int .i64 x, .int .i64 y, .int .i64 z] t)) fun e w' => e = .returned (.bool (allS [x, y, z])) ∧ w' = w.alloc (.cells #[.int .i64 x, .int .i64 y, .int .i64 z] t) :=
  (htLong_any _ [x, y, z] (by simp) _ (shows3 w x y z t n hn)).mono fun _ _ h => ⟨h.1, h.2.symm⟩
def P1 (x : Int) : Nat → Int
  | 0 => 1
  | _ => x
def P2 (x y : Int) : Nat → Int
  | 0 => 1
  | 1 => x
  | _ => x * y
theorem parts1 (v : Value) (x d : Int) (p : Addr) (x0 : 0 ≤ x) (x1 : x ≤ 1000000) (d1 : 1 ≤ d) (d2 : d ≤ 1000000000000) (w : World) (hv : Shows w v [x]) (hp : w.cell? p = some (.int .i64 d)) :
    Calls Try.prog 44 #[v, .pointer (some p)] w fun e w' => e = .returned (.agg #[.int .i64 (ln x d), .int .i64 (ld x d)]) ∧ Below w.heap.size w w' :=
  parts_any v [x] (P1 x) d p (by simp) rfl (fun j hj => by obtain rfl : j = 0 := by simpa using hj
                                                           simp [P1]) (fun j hj => by match j with
                                                                                        | 0 => simp [P1]
                                                                                        | 1 => simp only [P1]; omega
                                                                                        | n + 2 => simp at hj) d1 d2 w hv hp
theorem parts2 (v : Value) (x y d : Int) (p : Addr) (x0 : 0 ≤ x) (x1 : x ≤ 1000000) (y0 : 0 ≤ y) (y1 : y ≤ 1000000) (d1 : 1 ≤ d) (d2 : d ≤ 1000000000000) (w : World) (hv : Shows w v [x, y]) (hp : w.cell? p = some (.int .i64 d)) :
    Calls Try.prog 44 #[v, .pointer (some p)] w fun e w' => e = .returned (.agg #[.int .i64 (ln (x * y) d), .int .i64 (ld (x * y) d)]) ∧ Below w.heap.size w w' := by
  obtain ⟨m0, m1⟩ := mul_bd2 (a := x) (b := y) (m := 1000000) (k := 1000000) x0 y0 x1 y1
  exact parts_any v [x, y] (P2 x y) d p (by simp) rfl (fun j hj => by
    match j, hj with
    | 0, _ => simp [P2]
    | 1, _ => simp [P2]
    | n + 2, hj => simp at hj; omega) (fun j hj => by
    match j, hj with
    | 0, _ => simp [P2]
    | 1, _ => simp only [P2]; omega
    | 2, _ => simp only [P2]; omega
    | n + 3, hj => simp at hj) d1 d2 w hv hp
set_option maxHeartbeats 400000 in
theorem told_any (x y : Int) (w : World) :
    Calls Try.prog 35 #[.agg #[.int .i64 x, .int .i64 y]] w fun e w' => e = .returned (.tuple #[.int .i64 x, .int .i64 y, .bool true]) ∧ Below w.heap.size w w' := by
  go_enter Try.func35, Try.ntmps35
  go_wp2_with fail
  go_quiet (fail)
  go_wp2
  go_ret3
  exact ⟨rfl, (by repeat (first | exact Below.refl _ _ | refine bl_alloc ?_ _ | refine bl_drewN ?_ _ | refine bl_trans (by assumption) ?_ | refine bl_set ?_ (by first | omega | (simp; done) | (simp; omega)) _))⟩
set_option maxHeartbeats 400000 in
theorem longerBy_any (x y m : Int) (x0 : 0 ≤ x) (x1 : x ≤ 1000000000000) (y0 : 0 ≤ y) (y1 : y ≤ 1000000000000) (m0 : 0 ≤ m) (m1 : m ≤ 10000) (w : World) :
    Calls Try.prog 34 #[.agg #[.int .i64 x, .int .i64 y], .int .i64 m] w fun e w' => e = .returned (.agg #[.int .i64 (x + m * y), .int .i64 y]) ∧ Below w.heap.size w w' := by
  obtain ⟨q0, q1⟩ := mul_bd2 (a := m) (b := y) (m := 10000) (k := 1000000000000) m0 y0 m1 y1
  go_enter Try.func34, Try.ntmps34
  go_wp2
  refine bodyPost_ret (v := .agg #[.int .i64 (x + m * y), .int .i64 y]) (by simp [results, Try.results34, go_sem, *]) rfl ⟨rfl, (by repeat (first | exact Below.refl _ _ | refine bl_alloc ?_ _ | refine bl_drewN ?_ _ | refine bl_trans (by assumption) ?_ | refine bl_set ?_ (by first | omega | (simp; done) | (simp; omega)) _))⟩
theorem gcd_more (x d s : Nat) : Nat.gcd (x + s * d) d = Nat.gcd x d := by
  rw [Nat.gcd_add_mul_right_left]
/-- so much longer -/
theorem ln_more {x d s : Int} (hx : 0 ≤ x) (hd : 1 ≤ d) (hs : 0 ≤ s) : ln (x + s * d) d = ln x d + s * ld x d ∧ ld (x + s * d) d = ld x d := by
  obtain ⟨a, rfl⟩ := Int.eq_ofNat_of_zero_le hx
  obtain ⟨b, rfl⟩ := Int.eq_ofNat_of_zero_le (show 0 ≤ d by omega)
  obtain ⟨c, rfl⟩ := Int.eq_ofNat_of_zero_le hs
  have e : ((a : Int) + (c : Int) * (b : Int)) = ((a + c * b : Nat) : Int) := by simp
  rw [e, ln_nat, ld_nat, ln_nat, ld_nat, gcd_more]
  refine ⟨?_, rfl⟩
  obtain ⟨k, hk⟩ := Nat.gcd_dvd_right a b
  have hg : 0 < Nat.gcd a b := Nat.gcd_pos_of_pos_right _ (by omega)
  have e2 : b / Nat.gcd a b = k := by
    conv => lhs; lhs; rw [hk]
    exact Nat.mul_div_cancel_left _ hg
  have e3 : a + c * b = a + Nat.gcd a b * (c * k) := by
    conv => lhs; rw [hk]
    grind
  rw [e2, e3, Nat.add_mul_div_left _ _ hg]
  push_cast
  rfl
theorem lnd_bd {x d : Int} (hx : 0 ≤ x) (hd : 1 ≤ d) : (0 ≤ ln x d ∧ ln x d ≤ x) ∧ 1 ≤ ld x d ∧ ld x d ≤ d := by
  obtain ⟨a, rfl⟩ := Int.eq_ofNat_of_zero_le hx
  obtain ⟨b, rfl⟩ := Int.eq_ofNat_of_zero_le (show 0 ≤ d by omega)
  rw [ln_nat, ld_nat]
  have hg : 0 < Nat.gcd a b := Nat.gcd_pos_of_pos_right _ (by omega)
  have h1 := Nat.div_le_self a (Nat.gcd a b)
  have h2 := Nat.div_le_self b (Nat.gcd a b)
  have h3 : 0 < b / Nat.gcd a b := Nat.div_pos (Nat.gcd_le_right _ (by omega)) hg
  generalize a / Nat.gcd a b = u at *
  generalize b / Nat.gcd a b = v at *
  omega
def okTowerByShadow (s h t : Int) : Bool := (okSt s) && (allS [h, t])
set_option maxHeartbeats 1000000 in
theorem impl_TowerByShadow (s h t : Int) (w : World) :
    Calls Try.prog 12 #[.int .i64 s, .int .i64 h, .int .i64 t] w fun e w' => e = .returned (.tuple #[.int .i64 (Z (okTowerByShadow s h t) (ln (s * t) (h))), .int .i64 (Z (okTowerByShadow s h t) (ld (s * t) (h))), .bool (okTowerByShadow s h t)]) ∧ Below w.heap.size w w' := by
  cases h1 : okSt s
  case false =>
    have HO := Lib.hid (show okTowerByShadow s h t = false by simp [okTowerByShadow, h1])
    go_enter Try.func12, Try.ntmps12
    go_wp2_with fail
    refine (isStaff_any _ _).mono ?_
    rintro e w' ⟨rfl, rfl⟩
    rw [h1]
    go_wp2
    go_ret3
    exact ⟨by simp [HO.out, Z], (by repeat (first | exact Below.refl _ _ | refine bl_alloc ?_ _ | refine bl_drewN ?_ _ | refine bl_trans (by assumption) ?_ | refine bl_set ?_ (by first | omega | (simp; done) | (simp; omega)) _))⟩
  cases h2 : allS [h, t]
  case false =>
    have HO := Lib.hid (show okTowerByShadow s h t = false by simp [okTowerByShadow, h1, h2])
    go_enter Try.func12, Try.ntmps12
    go_wp2_with fail
    refine (isStaff_any _ _).mono ?_
    rintro e w' ⟨rfl, rfl⟩
    rw [h1]
    go_wp2_with fail
    refine (areSteps2 _ _ _ _ _ rfl).mono ?_
    rintro e w' ⟨rfl, rfl⟩
    rw [h2]
    go_wp2
    go_ret3
    exact ⟨by simp [HO.out, Z], (by repeat (first | exact Below.refl _ _ | refine bl_alloc ?_ _ | refine bl_drewN ?_ _ | refine bl_trans (by assumption) ?_ | refine bl_set ?_ (by first | omega | (simp; done) | (simp; omega)) _))⟩
  have HO := Lib.hid (show okTowerByShadow s h t = true by simp [okTowerByShadow, h1, h2])
  obtain ⟨us0, us1⟩ := okSt_true h1
  obtain ⟨⟨uh0, uh1⟩, ut0, ut1⟩ := allS2_true h2
  obtain ⟨m0, m1⟩ := mul_bd2 (a := s) (b := t) (m := 100) (k := 2000) (by omega) (by omega) (by omega) (by omega)
  have HP := fun v p W hv hp => Lib.hid (parts2 v (s) (t) (h) p (by omega) (by omega) (by omega) (by omega) (by omega) (by omega) W hv hp)
  have HS := Lib.hid ((⟨rfl, rfl⟩ : Z true (ln (s * t) (h)) = ln ((s) * (t)) (h) ∧ Z true (ld (s * t) (h)) = ld ((s) * (t)) (h)))
  obtain ⟨⟨r0, r1⟩, r2, r3⟩ := lnd_bd (x := (s) * (t)) (d := h) (by first | omega | exact Int.mul_nonneg (by omega) (by omega)) (by omega)
  rw [HO.out, HS.out.1, HS.out.2]
  clear HS
  generalize ln ((s) * (t)) (h) = X at *
  generalize ld ((s) * (t)) (h) = Y at *
  go_enter Try.func12, Try.ntmps12
  go_wp2_with fail
  refine (isStaff_any _ _).mono ?_
  rintro e w' ⟨rfl, rfl⟩
  rw [h1]
  go_wp2_with fail
  refine (areSteps2 _ _ _ _ _ rfl).mono ?_
  rintro e w' ⟨rfl, rfl⟩
  rw [h2]
  go_wp2_with fail
  refine (likeTriangles_any _ _).mono ?_
  rintro e w1 ⟨rfl, ⟨c1, z1⟩, hb1⟩
  (try simp only [World.size_alloc] at c1 z1)
  go_wp2_with fail
  refine ((HP _ _ _ (shows2 _ _ _ _ _ rfl) (cell_after (bl_alloc (Below.refl _ _) _) z1 c1)).out).mono ?_
  rintro e w2 ⟨rfl, hb2⟩
  go_wp2_with fail
  refine (told_any _ _ _).mono ?_
  rintro e w4 ⟨rfl, hb4⟩
  go_wp2
  go_ret3
  exact ⟨rfl, (by repeat (first | exact Below.refl _ _ | refine bl_alloc ?_ _ | refine bl_drewN ?_ _ | refine bl_trans (by assumption) ?_ | refine bl_set ?_ (by first | omega | (simp; done) | (simp; omega)) _))⟩
set_option maxHeartbeats 1000000 in
theorem spec_TowerByShadow (s h t : Int) (w : World) :
    Calls Try.prog 13 #[.int .i64 s, .int .i64 h, .int .i64 t] w fun e w' => e = .returned (.tuple #[.int .i64 (Z (okTowerByShadow s h t) (ln (s * t) (h))), .int .i64 (Z (okTowerByShadow s h t) (ld (s * t) (h))), .bool (okTowerByShadow s h t)]) ∧ Below w.heap.size w w' := by
  cases h1 : okSt s
  case false =>
    have HO := Lib.hid (show okTowerByShadow s h t = false by simp [okTowerByShadow, h1])
    go_enter Try.func13, Try.ntmps13
    go_wp2_with fail
    refine (htStaff_any _ _).mono ?_
    rintro e w' ⟨rfl, rfl⟩
    rw [h1]
    go_wp2
    go_ret3
    exact ⟨by simp [HO.out, Z], (by repeat (first | exact Below.refl _ _ | refine bl_alloc ?_ _ | refine bl_drewN ?_ _ | refine bl_trans (by assumption) ?_ | refine bl_set ?_ (by first | omega | (simp; done) | (simp; omega)) _))⟩
  cases h2 : allS [h, t]
  case false =>
    have HO := Lib.hid (show okTowerByShadow s h t = false by simp [okTowerByShadow, h1, h2])
    go_enter Try.func13, Try.ntmps13
    go_wp2_with fail
    refine (htStaff_any _ _).mono ?_
    rintro e w' ⟨rfl, rfl⟩
    rw [h1]
    go_wp2_with fail
    refine (htLong2 _ _ _ _ _ rfl).mono ?_
    rintro e w' ⟨rfl, rfl⟩
    rw [h2]
    go_wp2
    go_ret3
    exact ⟨by simp [HO.out, Z], (by repeat (first | exact Below.refl _ _ | refine bl_alloc ?_ _ | refine bl_drewN ?_ _ | refine bl_trans (by assumption) ?_ | refine bl_set ?_ (by first | omega | (simp; done) | (simp; omega)) _))⟩
  have HO := Lib.hid (show okTowerByShadow s h t = true by simp [okTowerByShadow, h1, h2])
  obtain ⟨us0, us1⟩ := okSt_true h1
  obtain ⟨⟨uh0, uh1⟩, ut0, ut1⟩ := allS2_true h2
  obtain ⟨m0, m1⟩ := mul_bd2 (a := s) (b := t) (m := 100) (k := 2000) (by omega) (by omega) (by omega) (by omega)
  have HL := fun W => Lib.hid (clLow_any (s * t) (h) (by omega) (by omega) (by omega) (by omega) W)
  rw [HO.out, Z_true, Z_true]
  generalize ln (s * t) (h) = X at *
  generalize ld (s * t) (h) = Y at *
  go_enter Try.func13, Try.ntmps13
  go_wp2_with fail
  refine (htStaff_any _ _).mono ?_
  rintro e w' ⟨rfl, rfl⟩
  rw [h1]
  go_wp2_with fail
  refine (htLong2 _ _ _ _ _ rfl).mono ?_
  rintro e w' ⟨rfl, rfl⟩
  rw [h2]
  go_wp2_with fail
  refine ((HL _).out).mono ?_
  rintro e w' ⟨rfl, m, rfl⟩
  go_wp2
  go_ret3
  exact ⟨rfl, (by repeat (first | exact Below.refl _ _ | refine bl_alloc ?_ _ | refine bl_drewN ?_ _ | refine bl_trans (by assumption) ?_ | refine bl_set ?_ (by first | omega | (simp; done) | (simp; omega)) _))⟩
def okTowerByMirror (s h t : Int) : Bool := (okSt s) && (allS [h, t])
set_option maxHeartbeats 1000000 in
theorem impl_TowerByMirror (s h t : Int) (w : World) :
    Calls Try.prog 14 #[.int .i64 s, .int .i64 h, .int .i64 t] w fun e w' => e = .returned (.tuple #[.int .i64 (Z (okTowerByMirror s h t) (ln (s * t) (h))), .int .i64 (Z (okTowerByMirror s h t) (ld (s * t) (h))), .bool (okTowerByMirror s h t)]) ∧ Below w.heap.size w w' := by
  cases h1 : okSt s
  case false =>
    have HO := Lib.hid (show okTowerByMirror s h t = false by simp [okTowerByMirror, h1])
    go_enter Try.func14, Try.ntmps14
    go_wp2_with fail
    refine (isStaff_any _ _).mono ?_
    rintro e w' ⟨rfl, rfl⟩
    rw [h1]
    go_wp2
    go_ret3
    exact ⟨by simp [HO.out, Z], (by repeat (first | exact Below.refl _ _ | refine bl_alloc ?_ _ | refine bl_drewN ?_ _ | refine bl_trans (by assumption) ?_ | refine bl_set ?_ (by first | omega | (simp; done) | (simp; omega)) _))⟩
  cases h2 : allS [h, t]
  case false =>
    have HO := Lib.hid (show okTowerByMirror s h t = false by simp [okTowerByMirror, h1, h2])
    go_enter Try.func14, Try.ntmps14
    go_wp2_with fail
    refine (isStaff_any _ _).mono ?_
    rintro e w' ⟨rfl, rfl⟩
    rw [h1]
    go_wp2_with fail
    refine (areSteps2 _ _ _ _ _ rfl).mono ?_
    rintro e w' ⟨rfl, rfl⟩
    rw [h2]
    go_wp2
    go_ret3
    exact ⟨by simp [HO.out, Z], (by repeat (first | exact Below.refl _ _ | refine bl_alloc ?_ _ | refine bl_drewN ?_ _ | refine bl_trans (by assumption) ?_ | refine bl_set ?_ (by first | omega | (simp; done) | (simp; omega)) _))⟩
  have HO := Lib.hid (show okTowerByMirror s h t = true by simp [okTowerByMirror, h1, h2])
  obtain ⟨us0, us1⟩ := okSt_true h1
  obtain ⟨⟨uh0, uh1⟩, ut0, ut1⟩ := allS2_true h2
  obtain ⟨m0, m1⟩ := mul_bd2 (a := s) (b := t) (m := 100) (k := 2000) (by omega) (by omega) (by omega) (by omega)
  have HP := fun v p W hv hp => Lib.hid (parts2 v (s) (t) (h) p (by omega) (by omega) (by omega) (by omega) (by omega) (by omega) W hv hp)
  have HS := Lib.hid ((⟨rfl, rfl⟩ : Z true (ln (s * t) (h)) = ln ((s) * (t)) (h) ∧ Z true (ld (s * t) (h)) = ld ((s) * (t)) (h)))
  obtain ⟨⟨r0, r1⟩, r2, r3⟩ := lnd_bd (x := (s) * (t)) (d := h) (by first | omega | exact Int.mul_nonneg (by omega) (by omega)) (by omega)
  rw [HO.out, HS.out.1, HS.out.2]
  clear HS
  generalize ln ((s) * (t)) (h) = X at *
  generalize ld ((s) * (t)) (h) = Y at *
  go_enter Try.func14, Try.ntmps14
  go_wp2_with fail
  refine (isStaff_any _ _).mono ?_
  rintro e w' ⟨rfl, rfl⟩
  rw [h1]
  go_wp2_with fail
  refine (areSteps2 _ _ _ _ _ rfl).mono ?_
  rintro e w' ⟨rfl, rfl⟩
  rw [h2]
  go_wp2_with fail
  refine (likeTriangles_any _ _).mono ?_
  rintro e w1 ⟨rfl, ⟨c1, z1⟩, hb1⟩
  (try simp only [World.size_alloc] at c1 z1)
  go_wp2_with fail
  refine ((HP _ _ _ (shows2 _ _ _ _ _ rfl) (cell_after (bl_alloc (Below.refl _ _) _) z1 c1)).out).mono ?_
  rintro e w2 ⟨rfl, hb2⟩
  go_wp2_with fail
  refine (told_any _ _ _).mono ?_
  rintro e w4 ⟨rfl, hb4⟩
  go_wp2
  go_ret3
  exact ⟨rfl, (by repeat (first | exact Below.refl _ _ | refine bl_alloc ?_ _ | refine bl_drewN ?_ _ | refine bl_trans (by assumption) ?_ | refine bl_set ?_ (by first | omega | (simp; done) | (simp; omega)) _))⟩
set_option maxHeartbeats 1000000 in
theorem spec_TowerByMirror (s h t : Int) (w : World) :
    Calls Try.prog 15 #[.int .i64 s, .int .i64 h, .int .i64 t] w fun e w' => e = .returned (.tuple #[.int .i64 (Z (okTowerByMirror s h t) (ln (s * t) (h))), .int .i64 (Z (okTowerByMirror s h t) (ld (s * t) (h))), .bool (okTowerByMirror s h t)]) ∧ Below w.heap.size w w' := by
  cases h1 : okSt s
  case false =>
    have HO := Lib.hid (show okTowerByMirror s h t = false by simp [okTowerByMirror, h1])
    go_enter Try.func15, Try.ntmps15
    go_wp2_with fail
    refine (htStaff_any _ _).mono ?_
    rintro e w' ⟨rfl, rfl⟩
    rw [h1]
    go_wp2
    go_ret3
    exact ⟨by simp [HO.out, Z], (by repeat (first | exact Below.refl _ _ | refine bl_alloc ?_ _ | refine bl_drewN ?_ _ | refine bl_trans (by assumption) ?_ | refine bl_set ?_ (by first | omega | (simp; done) | (simp; omega)) _))⟩
  cases h2 : allS [h, t]
  case false =>
    have HO := Lib.hid (show okTowerByMirror s h t = false by simp [okTowerByMirror, h1, h2])
    go_enter Try.func15, Try.ntmps15
    go_wp2_with fail
    refine (htStaff_any _ _).mono ?_
    rintro e w' ⟨rfl, rfl⟩
    rw [h1]
    go_wp2_with fail
    refine (htLong2 _ _ _ _ _ rfl).mono ?_
    rintro e w' ⟨rfl, rfl⟩
    rw [h2]
    go_wp2
    go_ret3
    exact ⟨by simp [HO.out, Z], (by repeat (first | exact Below.refl _ _ | refine bl_alloc ?_ _ | refine bl_drewN ?_ _ | refine bl_trans (by assumption) ?_ | refine bl_set ?_ (by first | omega | (simp; done) | (simp; omega)) _))⟩
  have HO := Lib.hid (show okTowerByMirror s h t = true by simp [okTowerByMirror, h1, h2])
  obtain ⟨us0, us1⟩ := okSt_true h1
  obtain ⟨⟨uh0, uh1⟩, ut0, ut1⟩ := allS2_true h2
  obtain ⟨m0, m1⟩ := mul_bd2 (a := s) (b := t) (m := 100) (k := 2000) (by omega) (by omega) (by omega) (by omega)
  have HL := fun W => Lib.hid (clLow_any (s * t) (h) (by omega) (by omega) (by omega) (by omega) W)
  rw [HO.out, Z_true, Z_true]
  generalize ln (s * t) (h) = X at *
  generalize ld (s * t) (h) = Y at *
  go_enter Try.func15, Try.ntmps15
  go_wp2_with fail
  refine (htStaff_any _ _).mono ?_
  rintro e w' ⟨rfl, rfl⟩
  rw [h1]
  go_wp2_with fail
  refine (htLong2 _ _ _ _ _ rfl).mono ?_
  rintro e w' ⟨rfl, rfl⟩
  rw [h2]
  go_wp2_with fail
  refine ((HL _).out).mono ?_
  rintro e w' ⟨rfl, m, rfl⟩
  go_wp2
  go_ret3
  exact ⟨rfl, (by repeat (first | exact Below.refl _ _ | refine bl_alloc ?_ _ | refine bl_drewN ?_ _ | refine bl_trans (by assumption) ?_ | refine bl_set ?_ (by first | omega | (simp; done) | (simp; omega)) _))⟩
def okTreeByStaff (a s n f : Int) : Bool := (okSt a) && (okSt s) && (decide (a < s)) && (allS [n, f])
set_option maxHeartbeats 1000000 in
theorem impl_TreeByStaff (a s n f : Int) (w : World) :
    Calls Try.prog 6 #[.int .i64 a, .int .i64 s, .int .i64 n, .int .i64 f] w fun e w' => e = .returned (.tuple #[.int .i64 (Z (okTreeByStaff a s n f) (ln (a * n + (s - a) * (n + f)) (n))), .int .i64 (Z (okTreeByStaff a s n f) (ld (a * n + (s - a) * (n + f)) (n))), .bool (okTreeByStaff a s n f)]) ∧ Below w.heap.size w w' := by
  cases h1 : okSt a
  case false =>
    have HO := Lib.hid (show okTreeByStaff a s n f = false by simp [okTreeByStaff, h1])
    go_enter Try.func6, Try.ntmps6
    go_wp2_with fail
    refine (isStaff_any _ _).mono ?_
    rintro e w' ⟨rfl, rfl⟩
    rw [h1]
    go_wp2
    go_ret3
    exact ⟨by simp [HO.out, Z], (by repeat (first | exact Below.refl _ _ | refine bl_alloc ?_ _ | refine bl_drewN ?_ _ | refine bl_trans (by assumption) ?_ | refine bl_set ?_ (by first | omega | (simp; done) | (simp; omega)) _))⟩
  cases h2 : okSt s
  case false =>
    have HO := Lib.hid (show okTreeByStaff a s n f = false by simp [okTreeByStaff, h1, h2])
    go_enter Try.func6, Try.ntmps6
    go_wp2_with fail
    refine (isStaff_any _ _).mono ?_
    rintro e w' ⟨rfl, rfl⟩
    rw [h1]
    go_wp2_with fail
    refine (isStaff_any _ _).mono ?_
    rintro e w' ⟨rfl, rfl⟩
    rw [h2]
    go_wp2
    go_ret3
    exact ⟨by simp [HO.out, Z], (by repeat (first | exact Below.refl _ _ | refine bl_alloc ?_ _ | refine bl_drewN ?_ _ | refine bl_trans (by assumption) ?_ | refine bl_set ?_ (by first | omega | (simp; done) | (simp; omega)) _))⟩
  by_cases h3 : a < s
  case neg =>
    have HO := Lib.hid (show okTreeByStaff a s n f = false by simp [okTreeByStaff, h1, h2, h3])
    go_enter Try.func6, Try.ntmps6
    go_wp2_with fail
    refine (isStaff_any _ _).mono ?_
    rintro e w' ⟨rfl, rfl⟩
    rw [h1]
    go_wp2_with fail
    refine (isStaff_any _ _).mono ?_
    rintro e w' ⟨rfl, rfl⟩
    rw [h2]
    go_wp2
    go_ret3
    exact ⟨by simp [HO.out, Z], (by repeat (first | exact Below.refl _ _ | refine bl_alloc ?_ _ | refine bl_drewN ?_ _ | refine bl_trans (by assumption) ?_ | refine bl_set ?_ (by first | omega | (simp; done) | (simp; omega)) _))⟩
  cases h4 : allS [n, f]
  case false =>
    have HO := Lib.hid (show okTreeByStaff a s n f = false by simp [okTreeByStaff, h1, h2, h3, h4])
    go_enter Try.func6, Try.ntmps6
    go_wp2_with fail
    refine (isStaff_any _ _).mono ?_
    rintro e w' ⟨rfl, rfl⟩
    rw [h1]
    go_wp2_with fail
    refine (isStaff_any _ _).mono ?_
    rintro e w' ⟨rfl, rfl⟩
    rw [h2]
    go_wp2_with fail
    refine (areSteps2 _ _ _ _ _ rfl).mono ?_
    rintro e w' ⟨rfl, rfl⟩
    rw [h4]
    go_wp2
    go_ret3
    exact ⟨by simp [HO.out, Z], (by repeat (first | exact Below.refl _ _ | refine bl_alloc ?_ _ | refine bl_drewN ?_ _ | refine bl_trans (by assumption) ?_ | refine bl_set ?_ (by first | omega | (simp; done) | (simp; omega)) _))⟩
  have HO := Lib.hid (show okTreeByStaff a s n f = true by simp [okTreeByStaff, h1, h2, h3, h4])
  obtain ⟨ua0, ua1⟩ := okSt_true h1
  obtain ⟨us0, us1⟩ := okSt_true h2
  obtain ⟨⟨un0, un1⟩, uf0, uf1⟩ := allS2_true h4
  obtain ⟨m0, m1⟩ := mul_bd2 (a := s - a) (b := n + f) (m := 100) (k := 4000) (by omega) (by omega) (by omega) (by omega)
  obtain ⟨m2, m3⟩ := mul_bd2 (a := a) (b := n) (m := 100) (k := 2000) (by omega) (by omega) (by omega) (by omega)
  have HP := fun v p W hv hp => Lib.hid (parts2 v (s - a) (n + f) (n) p (by omega) (by omega) (by omega) (by omega) (by omega) (by omega) W hv hp)
  have HS := Lib.hid ((by rw [show a * n + (s - a) * (n + f) = (s - a) * (n + f) + a * (n) by grind]; exact ln_more (x := (s - a) * (n + f)) (d := n) (s := a) (by first | omega | exact Int.mul_nonneg (by omega) (by omega)) (by omega) (by omega) : Z true (ln (a * n + (s - a) * (n + f)) (n)) = ln ((s - a) * (n + f)) (n) + a * ld ((s - a) * (n + f)) (n) ∧ Z true (ld (a * n + (s - a) * (n + f)) (n)) = ld ((s - a) * (n + f)) (n)))
  obtain ⟨⟨r0, r1⟩, r2, r3⟩ := lnd_bd (x := (s - a) * (n + f)) (d := n) (by first | omega | exact Int.mul_nonneg (by omega) (by omega)) (by omega)
  have HM := fun W => Lib.hid (longerBy_any (ln ((s - a) * (n + f)) (n)) (ld ((s - a) * (n + f)) (n)) a (by omega) (by omega) (by omega) (by omega) (by omega) (by omega) W)
  obtain ⟨q0, q1⟩ := mul_bd2 (a := a) (b := ld ((s - a) * (n + f)) (n)) (m := 10000) (k := 1000000000000) (by omega) (by omega) (by omega) (by omega)
  rw [HO.out, HS.out.1, HS.out.2]
  clear HS
  generalize ln ((s - a) * (n + f)) (n) = X at *
  generalize ld ((s - a) * (n + f)) (n) = Y at *
  go_enter Try.func6, Try.ntmps6
  go_wp2_with fail
  refine (isStaff_any _ _).mono ?_
  rintro e w' ⟨rfl, rfl⟩
  rw [h1]
  go_wp2_with fail
  refine (isStaff_any _ _).mono ?_
  rintro e w' ⟨rfl, rfl⟩
  rw [h2]
  go_wp2_with fail
  refine (areSteps2 _ _ _ _ _ rfl).mono ?_
  rintro e w' ⟨rfl, rfl⟩
  rw [h4]
  go_wp2_with fail
  refine (likeTriangles_any _ _).mono ?_
  rintro e w1 ⟨rfl, ⟨c1, z1⟩, hb1⟩
  (try simp only [World.size_alloc] at c1 z1)
  go_wp2_with fail
  refine ((HP _ _ _ (shows2 _ _ _ _ _ rfl) (cell_after (bl_alloc (Below.refl _ _) _) z1 c1)).out).mono ?_
  rintro e w2 ⟨rfl, hb2⟩
  go_wp2_with fail
  refine ((HM _).out).mono ?_
  rintro e w3 ⟨rfl, hb3⟩
  go_wp2_with fail
  refine (told_any _ _ _).mono ?_
  rintro e w4 ⟨rfl, hb4⟩
  go_wp2
  go_ret3
  exact ⟨rfl, (by repeat (first | exact Below.refl _ _ | refine bl_alloc ?_ _ | refine bl_drewN ?_ _ | refine bl_trans (by assumption) ?_ | refine bl_set ?_ (by first | omega | (simp; done) | (simp; omega)) _))⟩
set_option maxHeartbeats 1000000 in
theorem spec_TreeByStaff (a s n f : Int) (w : World) :
    Calls Try.prog 7 #[.int .i64 a, .int .i64 s, .int .i64 n, .int .i64 f] w fun e w' => e = .returned (.tuple #[.int .i64 (Z (okTreeByStaff a s n f) (ln (a * n + (s - a) * (n + f)) (n))), .int .i64 (Z (okTreeByStaff a s n f) (ld (a * n + (s - a) * (n + f)) (n))), .bool (okTreeByStaff a s n f)]) ∧ Below w.heap.size w w' := by
  cases h1 : okSt a
  case false =>
    have HO := Lib.hid (show okTreeByStaff a s n f = false by simp [okTreeByStaff, h1])
    go_enter Try.func7, Try.ntmps7
    go_wp2_with fail
    refine (htStaff_any _ _).mono ?_
    rintro e w' ⟨rfl, rfl⟩
    rw [h1]
    go_wp2
    go_ret3
    exact ⟨by simp [HO.out, Z], (by repeat (first | exact Below.refl _ _ | refine bl_alloc ?_ _ | refine bl_drewN ?_ _ | refine bl_trans (by assumption) ?_ | refine bl_set ?_ (by first | omega | (simp; done) | (simp; omega)) _))⟩
  cases h2 : okSt s
  case false =>
    have HO := Lib.hid (show okTreeByStaff a s n f = false by simp [okTreeByStaff, h1, h2])
    go_enter Try.func7, Try.ntmps7
    go_wp2_with fail
    refine (htStaff_any _ _).mono ?_
    rintro e w' ⟨rfl, rfl⟩
    rw [h1]
    go_wp2_with fail
    refine (htStaff_any _ _).mono ?_
    rintro e w' ⟨rfl, rfl⟩
    rw [h2]
    go_wp2
    go_ret3
    exact ⟨by simp [HO.out, Z], (by repeat (first | exact Below.refl _ _ | refine bl_alloc ?_ _ | refine bl_drewN ?_ _ | refine bl_trans (by assumption) ?_ | refine bl_set ?_ (by first | omega | (simp; done) | (simp; omega)) _))⟩
  by_cases h3 : a < s
  case neg =>
    have HO := Lib.hid (show okTreeByStaff a s n f = false by simp [okTreeByStaff, h1, h2, h3])
    go_enter Try.func7, Try.ntmps7
    go_wp2_with fail
    refine (htStaff_any _ _).mono ?_
    rintro e w' ⟨rfl, rfl⟩
    rw [h1]
    go_wp2_with fail
    refine (htStaff_any _ _).mono ?_
    rintro e w' ⟨rfl, rfl⟩
    rw [h2]
    go_wp2
    go_ret3
    exact ⟨by simp [HO.out, Z], (by repeat (first | exact Below.refl _ _ | refine bl_alloc ?_ _ | refine bl_drewN ?_ _ | refine bl_trans (by assumption) ?_ | refine bl_set ?_ (by first | omega | (simp; done) | (simp; omega)) _))⟩
  cases h4 : allS [n, f]
  case false =>
    have HO := Lib.hid (show okTreeByStaff a s n f = false by simp [okTreeByStaff, h1, h2, h3, h4])
    go_enter Try.func7, Try.ntmps7
    go_wp2_with fail
    refine (htStaff_any _ _).mono ?_
    rintro e w' ⟨rfl, rfl⟩
    rw [h1]
    go_wp2_with fail
    refine (htStaff_any _ _).mono ?_
    rintro e w' ⟨rfl, rfl⟩
    rw [h2]
    go_wp2_with fail
    refine (htLong2 _ _ _ _ _ rfl).mono ?_
    rintro e w' ⟨rfl, rfl⟩
    rw [h4]
    go_wp2
    go_ret3
    exact ⟨by simp [HO.out, Z], (by repeat (first | exact Below.refl _ _ | refine bl_alloc ?_ _ | refine bl_drewN ?_ _ | refine bl_trans (by assumption) ?_ | refine bl_set ?_ (by first | omega | (simp; done) | (simp; omega)) _))⟩
  have HO := Lib.hid (show okTreeByStaff a s n f = true by simp [okTreeByStaff, h1, h2, h3, h4])
  obtain ⟨ua0, ua1⟩ := okSt_true h1
  obtain ⟨us0, us1⟩ := okSt_true h2
  obtain ⟨⟨un0, un1⟩, uf0, uf1⟩ := allS2_true h4
  obtain ⟨m0, m1⟩ := mul_bd2 (a := s - a) (b := n + f) (m := 100) (k := 4000) (by omega) (by omega) (by omega) (by omega)
  obtain ⟨m2, m3⟩ := mul_bd2 (a := a) (b := n) (m := 100) (k := 2000) (by omega) (by omega) (by omega) (by omega)
  have HL := fun W => Lib.hid (clLow_any (a * n + (s - a) * (n + f)) (n) (by omega) (by omega) (by omega) (by omega) W)
  rw [HO.out, Z_true, Z_true]
  generalize ln (a * n + (s - a) * (n + f)) (n) = X at *
  generalize ld (a * n + (s - a) * (n + f)) (n) = Y at *
  go_enter Try.func7, Try.ntmps7
  go_wp2_with fail
  refine (htStaff_any _ _).mono ?_
  rintro e w' ⟨rfl, rfl⟩
  rw [h1]
  go_wp2_with fail
  refine (htStaff_any _ _).mono ?_
  rintro e w' ⟨rfl, rfl⟩
  rw [h2]
  go_wp2_with fail
  refine (htLong2 _ _ _ _ _ rfl).mono ?_
  rintro e w' ⟨rfl, rfl⟩
  rw [h4]
  go_wp2_with fail
  refine ((HL _).out).mono ?_
  rintro e w' ⟨rfl, m, rfl⟩
  go_wp2
  go_ret3
  exact ⟨rfl, (by repeat (first | exact Below.refl _ _ | refine bl_alloc ?_ _ | refine bl_drewN ?_ _ | refine bl_trans (by assumption) ?_ | refine bl_set ?_ (by first | omega | (simp; done) | (simp; omega)) _))⟩
def okStaffForTree (a t n f : Int) : Bool := (okSt a) && (allS [t, n, f]) && (decide (a < t))
set_option maxHeartbeats 1000000 in
theorem impl_StaffForTree (a t n f : Int) (w : World) :
    Calls Try.prog 9 #[.int .i64 a, .int .i64 t, .int .i64 n, .int .i64 f] w fun e w' => e = .returned (.tuple #[.int .i64 (Z (okStaffForTree a t n f) (ln (a * (n + f) + (t - a) * n) (n + f))), .int .i64 (Z (okStaffForTree a t n f) (ld (a * (n + f) + (t - a) * n) (n + f))), .bool (okStaffForTree a t n f)]) ∧ Below w.heap.size w w' := by
  cases h1 : okSt a
  case false =>
    have HO := Lib.hid (show okStaffForTree a t n f = false by simp [okStaffForTree, h1])
    go_enter Try.func9, Try.ntmps9
    go_wp2_with fail
    refine (isStaff_any _ _).mono ?_
    rintro e w' ⟨rfl, rfl⟩
    rw [h1]
    go_wp2
    go_ret3
    exact ⟨by simp [HO.out, Z], (by repeat (first | exact Below.refl _ _ | refine bl_alloc ?_ _ | refine bl_drewN ?_ _ | refine bl_trans (by assumption) ?_ | refine bl_set ?_ (by first | omega | (simp; done) | (simp; omega)) _))⟩
  cases h2 : allS [t, n, f]
  case false =>
    have HO := Lib.hid (show okStaffForTree a t n f = false by simp [okStaffForTree, h1, h2])
    go_enter Try.func9, Try.ntmps9
    go_wp2_with fail
    refine (isStaff_any _ _).mono ?_
    rintro e w' ⟨rfl, rfl⟩
    rw [h1]
    go_wp2_with fail
    refine (areSteps3 _ _ _ _ _ _ rfl).mono ?_
    rintro e w' ⟨rfl, rfl⟩
    rw [h2]
    go_wp2
    go_ret3
    exact ⟨by simp [HO.out, Z], (by repeat (first | exact Below.refl _ _ | refine bl_alloc ?_ _ | refine bl_drewN ?_ _ | refine bl_trans (by assumption) ?_ | refine bl_set ?_ (by first | omega | (simp; done) | (simp; omega)) _))⟩
  by_cases h3 : a < t
  case neg =>
    have HO := Lib.hid (show okStaffForTree a t n f = false by simp [okStaffForTree, h1, h2, h3])
    go_enter Try.func9, Try.ntmps9
    go_wp2_with fail
    refine (isStaff_any _ _).mono ?_
    rintro e w' ⟨rfl, rfl⟩
    rw [h1]
    go_wp2_with fail
    refine (areSteps3 _ _ _ _ _ _ rfl).mono ?_
    rintro e w' ⟨rfl, rfl⟩
    rw [h2]
    go_wp2
    go_ret3
    exact ⟨by simp [HO.out, Z], (by repeat (first | exact Below.refl _ _ | refine bl_alloc ?_ _ | refine bl_drewN ?_ _ | refine bl_trans (by assumption) ?_ | refine bl_set ?_ (by first | omega | (simp; done) | (simp; omega)) _))⟩
  have HO := Lib.hid (show okStaffForTree a t n f = true by simp [okStaffForTree, h1, h2, h3])
  obtain ⟨ua0, ua1⟩ := okSt_true h1
  obtain ⟨⟨ut0, ut1⟩, ⟨un0, un1⟩, uf0, uf1⟩ := allS3_true h2
  obtain ⟨m0, m1⟩ := mul_bd2 (a := t - a) (b := n) (m := 2000) (k := 2000) (by omega) (by omega) (by omega) (by omega)
  obtain ⟨m2, m3⟩ := mul_bd2 (a := a) (b := n + f) (m := 100) (k := 4000) (by omega) (by omega) (by omega) (by omega)
  have HP := fun v p W hv hp => Lib.hid (parts2 v (t - a) (n) (n + f) p (by omega) (by omega) (by omega) (by omega) (by omega) (by omega) W hv hp)
  have HS := Lib.hid ((by rw [show a * (n + f) + (t - a) * n = (t - a) * (n) + a * (n + f) by grind]; exact ln_more (x := (t - a) * (n)) (d := n + f) (s := a) (by first | omega | exact Int.mul_nonneg (by omega) (by omega)) (by omega) (by omega) : Z true (ln (a * (n + f) + (t - a) * n) (n + f)) = ln ((t - a) * (n)) (n + f) + a * ld ((t - a) * (n)) (n + f) ∧ Z true (ld (a * (n + f) + (t - a) * n) (n + f)) = ld ((t - a) * (n)) (n + f)))
  obtain ⟨⟨r0, r1⟩, r2, r3⟩ := lnd_bd (x := (t - a) * (n)) (d := n + f) (by first | omega | exact Int.mul_nonneg (by omega) (by omega)) (by omega)
  have HM := fun W => Lib.hid (longerBy_any (ln ((t - a) * (n)) (n + f)) (ld ((t - a) * (n)) (n + f)) a (by omega) (by omega) (by omega) (by omega) (by omega) (by omega) W)
  obtain ⟨q0, q1⟩ := mul_bd2 (a := a) (b := ld ((t - a) * (n)) (n + f)) (m := 10000) (k := 1000000000000) (by omega) (by omega) (by omega) (by omega)
  rw [HO.out, HS.out.1, HS.out.2]
  clear HS
  generalize ln ((t - a) * (n)) (n + f) = X at *
  generalize ld ((t - a) * (n)) (n + f) = Y at *
  go_enter Try.func9, Try.ntmps9
  go_wp2_with fail
  refine (isStaff_any _ _).mono ?_
  rintro e w' ⟨rfl, rfl⟩
  rw [h1]
  go_wp2_with fail
  refine (areSteps3 _ _ _ _ _ _ rfl).mono ?_
  rintro e w' ⟨rfl, rfl⟩
  rw [h2]
  go_wp2_with fail
  refine (likeTriangles_any _ _).mono ?_
  rintro e w1 ⟨rfl, ⟨c1, z1⟩, hb1⟩
  (try simp only [World.size_alloc] at c1 z1)
  go_wp2_with fail
  refine ((HP _ _ _ (shows2 _ _ _ _ _ rfl) (cell_after (bl_alloc (Below.refl _ _) _) z1 c1)).out).mono ?_
  rintro e w2 ⟨rfl, hb2⟩
  go_wp2_with fail
  refine ((HM _).out).mono ?_
  rintro e w3 ⟨rfl, hb3⟩
  go_wp2_with fail
  refine (told_any _ _ _).mono ?_
  rintro e w4 ⟨rfl, hb4⟩
  go_wp2
  go_ret3
  exact ⟨rfl, (by repeat (first | exact Below.refl _ _ | refine bl_alloc ?_ _ | refine bl_drewN ?_ _ | refine bl_trans (by assumption) ?_ | refine bl_set ?_ (by first | omega | (simp; done) | (simp; omega)) _))⟩
set_option maxHeartbeats 1000000 in
theorem spec_StaffForTree (a t n f : Int) (w : World) :
    Calls Try.prog 17 #[.int .i64 a, .int .i64 t, .int .i64 n, .int .i64 f] w fun e w' => e = .returned (.tuple #[.int .i64 (Z (okStaffForTree a t n f) (ln (a * (n + f) + (t - a) * n) (n + f))), .int .i64 (Z (okStaffForTree a t n f) (ld (a * (n + f) + (t - a) * n) (n + f))), .bool (okStaffForTree a t n f)]) ∧ Below w.heap.size w w' := by
  cases h1 : okSt a
  case false =>
    have HO := Lib.hid (show okStaffForTree a t n f = false by simp [okStaffForTree, h1])
    go_enter Try.func17, Try.ntmps17
    go_wp2_with fail
    refine (htStaff_any _ _).mono ?_
    rintro e w' ⟨rfl, rfl⟩
    rw [h1]
    go_wp2
    go_ret3
    exact ⟨by simp [HO.out, Z], (by repeat (first | exact Below.refl _ _ | refine bl_alloc ?_ _ | refine bl_drewN ?_ _ | refine bl_trans (by assumption) ?_ | refine bl_set ?_ (by first | omega | (simp; done) | (simp; omega)) _))⟩
  cases h2 : allS [t, n, f]
  case false =>
    have HO := Lib.hid (show okStaffForTree a t n f = false by simp [okStaffForTree, h1, h2])
    go_enter Try.func17, Try.ntmps17
    go_wp2_with fail
    refine (htStaff_any _ _).mono ?_
    rintro e w' ⟨rfl, rfl⟩
    rw [h1]
    go_wp2_with fail
    refine (htLong3 _ _ _ _ _ _ rfl).mono ?_
    rintro e w' ⟨rfl, rfl⟩
    rw [h2]
    go_wp2
    go_ret3
    exact ⟨by simp [HO.out, Z], (by repeat (first | exact Below.refl _ _ | refine bl_alloc ?_ _ | refine bl_drewN ?_ _ | refine bl_trans (by assumption) ?_ | refine bl_set ?_ (by first | omega | (simp; done) | (simp; omega)) _))⟩
  by_cases h3 : a < t
  case neg =>
    have HO := Lib.hid (show okStaffForTree a t n f = false by simp [okStaffForTree, h1, h2, h3])
    go_enter Try.func17, Try.ntmps17
    go_wp2_with fail
    refine (htStaff_any _ _).mono ?_
    rintro e w' ⟨rfl, rfl⟩
    rw [h1]
    go_wp2_with fail
    refine (htLong3 _ _ _ _ _ _ rfl).mono ?_
    rintro e w' ⟨rfl, rfl⟩
    rw [h2]
    go_wp2
    go_ret3
    exact ⟨by simp [HO.out, Z], (by repeat (first | exact Below.refl _ _ | refine bl_alloc ?_ _ | refine bl_drewN ?_ _ | refine bl_trans (by assumption) ?_ | refine bl_set ?_ (by first | omega | (simp; done) | (simp; omega)) _))⟩
  have HO := Lib.hid (show okStaffForTree a t n f = true by simp [okStaffForTree, h1, h2, h3])
  obtain ⟨ua0, ua1⟩ := okSt_true h1
  obtain ⟨⟨ut0, ut1⟩, ⟨un0, un1⟩, uf0, uf1⟩ := allS3_true h2
  obtain ⟨m0, m1⟩ := mul_bd2 (a := t - a) (b := n) (m := 2000) (k := 2000) (by omega) (by omega) (by omega) (by omega)
  obtain ⟨m2, m3⟩ := mul_bd2 (a := a) (b := n + f) (m := 100) (k := 4000) (by omega) (by omega) (by omega) (by omega)
  have HL := fun W => Lib.hid (clLow_any (a * (n + f) + (t - a) * n) (n + f) (by omega) (by omega) (by omega) (by omega) W)
  rw [HO.out, Z_true, Z_true]
  generalize ln (a * (n + f) + (t - a) * n) (n + f) = X at *
  generalize ld (a * (n + f) + (t - a) * n) (n + f) = Y at *
  go_enter Try.func17, Try.ntmps17
  go_wp2_with fail
  refine (htStaff_any _ _).mono ?_
  rintro e w' ⟨rfl, rfl⟩
  rw [h1]
  go_wp2_with fail
  refine (htLong3 _ _ _ _ _ _ rfl).mono ?_
  rintro e w' ⟨rfl, rfl⟩
  rw [h2]
  go_wp2_with fail
  refine ((HL _).out).mono ?_
  rintro e w' ⟨rfl, m, rfl⟩
  go_wp2
  go_ret3
  exact ⟨rfl, (by repeat (first | exact Below.refl _ _ | refine bl_alloc ?_ _ | refine bl_drewN ?_ _ | refine bl_trans (by assumption) ?_ | refine bl_set ?_ (by first | omega | (simp; done) | (simp; omega)) _))⟩
def okWellDepth (a s i : Int) : Bool := (okSt s) && (allS [a, i])
set_option maxHeartbeats 1000000 in
theorem impl_WellDepth (a s i : Int) (w : World) :
    Calls Try.prog 19 #[.int .i64 a, .int .i64 s, .int .i64 i] w fun e w' => e = .returned (.tuple #[.int .i64 (Z (okWellDepth a s i) (ln (s * a) (i))), .int .i64 (Z (okWellDepth a s i) (ld (s * a) (i))), .bool (okWellDepth a s i)]) ∧ Below w.heap.size w w' := by
  cases h1 : okSt s
  case false =>
    have HO := Lib.hid (show okWellDepth a s i = false by simp [okWellDepth, h1])
    go_enter Try.func19, Try.ntmps19
    go_wp2_with fail
    refine (isStaff_any _ _).mono ?_
    rintro e w' ⟨rfl, rfl⟩
    rw [h1]
    go_wp2
    go_ret3
    exact ⟨by simp [HO.out, Z], (by repeat (first | exact Below.refl _ _ | refine bl_alloc ?_ _ | refine bl_drewN ?_ _ | refine bl_trans (by assumption) ?_ | refine bl_set ?_ (by first | omega | (simp; done) | (simp; omega)) _))⟩
  cases h2 : allS [a, i]
  case false =>
    have HO := Lib.hid (show okWellDepth a s i = false by simp [okWellDepth, h1, h2])
    go_enter Try.func19, Try.ntmps19
    go_wp2_with fail
    refine (isStaff_any _ _).mono ?_
    rintro e w' ⟨rfl, rfl⟩
    rw [h1]
    go_wp2_with fail
    refine (areSteps2 _ _ _ _ _ rfl).mono ?_
    rintro e w' ⟨rfl, rfl⟩
    rw [h2]
    go_wp2
    go_ret3
    exact ⟨by simp [HO.out, Z], (by repeat (first | exact Below.refl _ _ | refine bl_alloc ?_ _ | refine bl_drewN ?_ _ | refine bl_trans (by assumption) ?_ | refine bl_set ?_ (by first | omega | (simp; done) | (simp; omega)) _))⟩
  have HO := Lib.hid (show okWellDepth a s i = true by simp [okWellDepth, h1, h2])
  obtain ⟨us0, us1⟩ := okSt_true h1
  obtain ⟨⟨ua0, ua1⟩, ui0, ui1⟩ := allS2_true h2
  obtain ⟨m0, m1⟩ := mul_bd2 (a := s) (b := a) (m := 100) (k := 2000) (by omega) (by omega) (by omega) (by omega)
  have HP := fun v p W hv hp => Lib.hid (parts2 v (s) (a) (i) p (by omega) (by omega) (by omega) (by omega) (by omega) (by omega) W hv hp)
  have HS := Lib.hid ((⟨rfl, rfl⟩ : Z true (ln (s * a) (i)) = ln ((s) * (a)) (i) ∧ Z true (ld (s * a) (i)) = ld ((s) * (a)) (i)))
  obtain ⟨⟨r0, r1⟩, r2, r3⟩ := lnd_bd (x := (s) * (a)) (d := i) (by first | omega | exact Int.mul_nonneg (by omega) (by omega)) (by omega)
  rw [HO.out, HS.out.1, HS.out.2]
  clear HS
  generalize ln ((s) * (a)) (i) = X at *
  generalize ld ((s) * (a)) (i) = Y at *
  go_enter Try.func19, Try.ntmps19
  go_wp2_with fail
  refine (isStaff_any _ _).mono ?_
  rintro e w' ⟨rfl, rfl⟩
  rw [h1]
  go_wp2_with fail
  refine (areSteps2 _ _ _ _ _ rfl).mono ?_
  rintro e w' ⟨rfl, rfl⟩
  rw [h2]
  go_wp2_with fail
  refine (likeTriangles_any _ _).mono ?_
  rintro e w1 ⟨rfl, ⟨c1, z1⟩, hb1⟩
  (try simp only [World.size_alloc] at c1 z1)
  go_wp2_with fail
  refine ((HP _ _ _ (shows2 _ _ _ _ _ rfl) (cell_after (bl_alloc (Below.refl _ _) _) z1 c1)).out).mono ?_
  rintro e w2 ⟨rfl, hb2⟩
  go_wp2_with fail
  refine (told_any _ _ _).mono ?_
  rintro e w4 ⟨rfl, hb4⟩
  go_wp2
  go_ret3
  exact ⟨rfl, (by repeat (first | exact Below.refl _ _ | refine bl_alloc ?_ _ | refine bl_drewN ?_ _ | refine bl_trans (by assumption) ?_ | refine bl_set ?_ (by first | omega | (simp; done) | (simp; omega)) _))⟩
set_option maxHeartbeats 1000000 in
theorem spec_WellDepth (a s i : Int) (w : World) :
    Calls Try.prog 20 #[.int .i64 a, .int .i64 s, .int .i64 i] w fun e w' => e = .returned (.tuple #[.int .i64 (Z (okWellDepth a s i) (ln (s * a) (i))), .int .i64 (Z (okWellDepth a s i) (ld (s * a) (i))), .bool (okWellDepth a s i)]) ∧ Below w.heap.size w w' := by
  cases h1 : allS [a, i]
  case false =>
    have HO := Lib.hid (show okWellDepth a s i = false by simp [okWellDepth, h1])
    go_enter Try.func20, Try.ntmps20
    go_wp2_with fail
    refine (htLong2 _ _ _ _ _ rfl).mono ?_
    rintro e w' ⟨rfl, rfl⟩
    rw [h1]
    go_wp2
    go_ret3
    exact ⟨by simp [HO.out, Z], (by repeat (first | exact Below.refl _ _ | refine bl_alloc ?_ _ | refine bl_drewN ?_ _ | refine bl_trans (by assumption) ?_ | refine bl_set ?_ (by first | omega | (simp; done) | (simp; omega)) _))⟩
  cases h2 : okSt s
  case false =>
    have HO := Lib.hid (show okWellDepth a s i = false by simp [okWellDepth, h1, h2])
    go_enter Try.func20, Try.ntmps20
    go_wp2_with fail
    refine (htLong2 _ _ _ _ _ rfl).mono ?_
    rintro e w' ⟨rfl, rfl⟩
    rw [h1]
    go_wp2_with fail
    refine (htStaff_any _ _).mono ?_
    rintro e w' ⟨rfl, rfl⟩
    rw [h2]
    go_wp2
    go_ret3
    exact ⟨by simp [HO.out, Z], (by repeat (first | exact Below.refl _ _ | refine bl_alloc ?_ _ | refine bl_drewN ?_ _ | refine bl_trans (by assumption) ?_ | refine bl_set ?_ (by first | omega | (simp; done) | (simp; omega)) _))⟩
  have HO := Lib.hid (show okWellDepth a s i = true by simp [okWellDepth, h1, h2])
  obtain ⟨⟨ua0, ua1⟩, ui0, ui1⟩ := allS2_true h1
  obtain ⟨us0, us1⟩ := okSt_true h2
  obtain ⟨m0, m1⟩ := mul_bd2 (a := s) (b := a) (m := 100) (k := 2000) (by omega) (by omega) (by omega) (by omega)
  have HL := fun W => Lib.hid (clLow_any (s * a) (i) (by omega) (by omega) (by omega) (by omega) W)
  rw [HO.out, Z_true, Z_true]
  generalize ln (s * a) (i) = X at *
  generalize ld (s * a) (i) = Y at *
  go_enter Try.func20, Try.ntmps20
  go_wp2_with fail
  refine (htLong2 _ _ _ _ _ rfl).mono ?_
  rintro e w' ⟨rfl, rfl⟩
  rw [h1]
  go_wp2_with fail
  refine (htStaff_any _ _).mono ?_
  rintro e w' ⟨rfl, rfl⟩
  rw [h2]
  go_wp2_with fail
  refine ((HL _).out).mono ?_
  rintro e w' ⟨rfl, m, rfl⟩
  go_wp2
  go_ret3
  exact ⟨rfl, (by repeat (first | exact Below.refl _ _ | refine bl_alloc ?_ _ | refine bl_drewN ?_ _ | refine bl_trans (by assumption) ?_ | refine bl_set ?_ (by first | omega | (simp; done) | (simp; omega)) _))⟩
def okRiverWide (a b c : Int) : Bool := (allS [a, b, c])
set_option maxHeartbeats 1000000 in
theorem impl_RiverWide (a b c : Int) (w : World) :
    Calls Try.prog 22 #[.int .i64 a, .int .i64 b, .int .i64 c] w fun e w' => e = .returned (.tuple #[.int .i64 (Z (okRiverWide a b c) (ln (a * c) (b))), .int .i64 (Z (okRiverWide a b c) (ld (a * c) (b))), .bool (okRiverWide a b c)]) ∧ Below w.heap.size w w' := by
  cases h1 : allS [a, b, c]
  case false =>
    have HO := Lib.hid (show okRiverWide a b c = false by simp [okRiverWide, h1])
    go_enter Try.func22, Try.ntmps22
    go_wp2_with fail
    refine (areSteps3 _ _ _ _ _ _ rfl).mono ?_
    rintro e w' ⟨rfl, rfl⟩
    rw [h1]
    go_wp2
    go_ret3
    exact ⟨by simp [HO.out, Z], (by repeat (first | exact Below.refl _ _ | refine bl_alloc ?_ _ | refine bl_drewN ?_ _ | refine bl_trans (by assumption) ?_ | refine bl_set ?_ (by first | omega | (simp; done) | (simp; omega)) _))⟩
  have HO := Lib.hid (show okRiverWide a b c = true by simp [okRiverWide, h1])
  obtain ⟨⟨ua0, ua1⟩, ⟨ub0, ub1⟩, uc0, uc1⟩ := allS3_true h1
  obtain ⟨m0, m1⟩ := mul_bd2 (a := a) (b := c) (m := 2000) (k := 2000) (by omega) (by omega) (by omega) (by omega)
  have HP := fun v p W hv hp => Lib.hid (parts2 v (a) (c) (b) p (by omega) (by omega) (by omega) (by omega) (by omega) (by omega) W hv hp)
  have HS := Lib.hid ((⟨rfl, rfl⟩ : Z true (ln (a * c) (b)) = ln ((a) * (c)) (b) ∧ Z true (ld (a * c) (b)) = ld ((a) * (c)) (b)))
  obtain ⟨⟨r0, r1⟩, r2, r3⟩ := lnd_bd (x := (a) * (c)) (d := b) (by first | omega | exact Int.mul_nonneg (by omega) (by omega)) (by omega)
  rw [HO.out, HS.out.1, HS.out.2]
  clear HS
  generalize ln ((a) * (c)) (b) = X at *
  generalize ld ((a) * (c)) (b) = Y at *
  go_enter Try.func22, Try.ntmps22
  go_wp2_with fail
  refine (areSteps3 _ _ _ _ _ _ rfl).mono ?_
  rintro e w' ⟨rfl, rfl⟩
  rw [h1]
  go_wp2_with fail
  refine (likeTriangles_any _ _).mono ?_
  rintro e w1 ⟨rfl, ⟨c1, z1⟩, hb1⟩
  (try simp only [World.size_alloc] at c1 z1)
  go_wp2_with fail
  refine ((HP _ _ _ (shows2 _ _ _ _ _ rfl) (cell_after (bl_alloc (Below.refl _ _) _) z1 c1)).out).mono ?_
  rintro e w2 ⟨rfl, hb2⟩
  go_wp2_with fail
  refine (told_any _ _ _).mono ?_
  rintro e w4 ⟨rfl, hb4⟩
  go_wp2
  go_ret3
  exact ⟨rfl, (by repeat (first | exact Below.refl _ _ | refine bl_alloc ?_ _ | refine bl_drewN ?_ _ | refine bl_trans (by assumption) ?_ | refine bl_set ?_ (by first | omega | (simp; done) | (simp; omega)) _))⟩
set_option maxHeartbeats 1000000 in
theorem spec_RiverWide (a b c : Int) (w : World) :
    Calls Try.prog 23 #[.int .i64 a, .int .i64 b, .int .i64 c] w fun e w' => e = .returned (.tuple #[.int .i64 (Z (okRiverWide a b c) (ln (a * c) (b))), .int .i64 (Z (okRiverWide a b c) (ld (a * c) (b))), .bool (okRiverWide a b c)]) ∧ Below w.heap.size w w' := by
  cases h1 : allS [a, b, c]
  case false =>
    have HO := Lib.hid (show okRiverWide a b c = false by simp [okRiverWide, h1])
    go_enter Try.func23, Try.ntmps23
    go_wp2_with fail
    refine (htLong3 _ _ _ _ _ _ rfl).mono ?_
    rintro e w' ⟨rfl, rfl⟩
    rw [h1]
    go_wp2
    go_ret3
    exact ⟨by simp [HO.out, Z], (by repeat (first | exact Below.refl _ _ | refine bl_alloc ?_ _ | refine bl_drewN ?_ _ | refine bl_trans (by assumption) ?_ | refine bl_set ?_ (by first | omega | (simp; done) | (simp; omega)) _))⟩
  have HO := Lib.hid (show okRiverWide a b c = true by simp [okRiverWide, h1])
  obtain ⟨⟨ua0, ua1⟩, ⟨ub0, ub1⟩, uc0, uc1⟩ := allS3_true h1
  obtain ⟨m0, m1⟩ := mul_bd2 (a := a) (b := c) (m := 2000) (k := 2000) (by omega) (by omega) (by omega) (by omega)
  have HL := fun W => Lib.hid (clLow_any (a * c) (b) (by omega) (by omega) (by omega) (by omega) W)
  rw [HO.out, Z_true, Z_true]
  generalize ln (a * c) (b) = X at *
  generalize ld (a * c) (b) = Y at *
  go_enter Try.func23, Try.ntmps23
  go_wp2_with fail
  refine (htLong3 _ _ _ _ _ _ rfl).mono ?_
  rintro e w' ⟨rfl, rfl⟩
  rw [h1]
  go_wp2_with fail
  refine ((HL _).out).mono ?_
  rintro e w' ⟨rfl, m, rfl⟩
  go_wp2
  go_ret3
  exact ⟨rfl, (by repeat (first | exact Below.refl _ _ | refine bl_alloc ?_ _ | refine bl_drewN ?_ _ | refine bl_trans (by assumption) ?_ | refine bl_set ?_ (by first | omega | (simp; done) | (simp; omega)) _))⟩
def okSecondStep (s a f h : Int) : Bool := (okSt s) && (allS [a, f, h]) && (decide (s < h))
end Go.Proofs.Ytggoeaahagelfaa
