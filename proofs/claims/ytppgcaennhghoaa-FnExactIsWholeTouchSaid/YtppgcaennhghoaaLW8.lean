/- WholeWays: by the program and by the model alike; slices of ints that a call appends to. -/
import Derived.Test.YtppgcaennhghoaaLW7
import Derived.Test.YtppgcaennhghoaaR1
namespace Go.Proofs.Ytppgcaennhghoaa
open Go.RowKit
set_option linter.unusedVariables false
set_option linter.unusedSimpArgs false
theorem rt_nat (n : Nat) : rt n = ((rtN n : Nat) : Int) := by simp [rt]
theorem rt_unique {n r : Int} (hn : 0 ≤ n) (h0 : 0 ≤ r) (h1 : r * r ≤ n) (h2 : n < (r + 1) * (r + 1)) : rt n = r := by
  obtain ⟨k, rfl⟩ := Int.eq_ofNat_of_zero_le h0
  obtain ⟨m, rfl⟩ := Int.eq_ofNat_of_zero_le hn
  rw [rt_nat, rtN_unique (r := k) (by exact_mod_cast h1) (by exact_mod_cast h2)]
theorem rt_facts {n : Int} (h : 0 ≤ n) : 0 ≤ rt n ∧ rt n * rt n ≤ n ∧ n < (rt n + 1) * (rt n + 1) := by
  obtain ⟨m, rfl⟩ := Int.eq_ofNat_of_zero_le h
  obtain ⟨a, b⟩ := rtN_spec m
  rw [rt_nat]
  exact ⟨by omega, by exact_mod_cast a, by exact_mod_cast b⟩

set_option maxHeartbeats 400000 in
theorem rootBelow_any (n : Int) (h0 : 0 ≤ n) (h1 : n ≤ 4611686018427387903) (w : World) :
    Calls Try.prog 105 #[.int .i64 n] w fun e w' => e = .returned (.int .i64 (rt n)) ∧ w = w' := by
  obtain ⟨m, rfl⟩ := Int.eq_ofNat_of_zero_le h0
  rw [rt_nat]
  exact rootBelow_nat m (by omega) w

def whole (n : Int) : Bool := rt n * rt n == n
set_option maxHeartbeats 400000 in
theorem wholeRoot_any (n : Int) (h0 : 0 ≤ n) (h1 : n ≤ 4611686018427387903) (w : World) :
    Calls Try.prog 96 #[.int .i64 n] w fun e w' => e = .returned (.tuple #[.int .i64 (rt n), .bool (whole n)]) ∧ w = w' := by
  obtain ⟨r0, r1, r2⟩ := rt_facts h0
  have r3 : 0 ≤ rt n * rt n := Int.mul_nonneg r0 r0
  clear r2
  go_enter Try.func96, Try.ntmps96
  go_wp2_with (go_at_call 105; refine (rootBelow_any _ h0 h1 _).mono ?_; rintro e w' ⟨rfl, rfl⟩)
  go_ret2
  exact ⟨by simp [whole], rfl⟩

set_option maxHeartbeats 400000 in
theorem clRoot_any (n : Int) (h0 : 0 ≤ n) (h1 : n ≤ 4611686018427387903) (w : World) :
    Calls Try.prog 95 #[.int .i64 n] w fun e w' => e = .returned (.int .i64 (rt n)) ∧ w = w' := by
  go_enter Try.func95, Try.ntmps95
  go_wp2
  go_loop [3, 4] (fun a b => ∃ p q : Int, a = .int .i64 p ∧ b = .int .i64 q ∧ 0 ≤ p ∧ p < q ∧ q ≤ 2147483648 ∧ p * p ≤ n ∧ n < q * q) (fun a b => (intOf b - intOf a).toNat)
  case atStart => exact ⟨0, 2147483648, rfl, rfl, by omega, by omega, by omega, by omega, by omega⟩
  case round =>
    obtain ⟨p, q, rfl, rfl, hp, hpq, hq, hl, hh⟩ := hrel
    have HL := Lib.hid hl
    have HH := Lib.hid hh
    clear hl hh
    by_cases hlt : p < q - 1
    · obtain ⟨m0, m1⟩ := mul_bd (a := (p + q) / 2) (b := (p + q) / 2) (m := 2147483648) (by omega) (by omega) (by omega) (by omega)
      by_cases hm : (p + q) / 2 * ((p + q) / 2) ≤ n
      · go_wp2
        go_round
        case rel => exact ⟨_, _, rfl, rfl, by omega, by omega, hq, hm, HH.out⟩
        case measure => simp only [intOf]; omega
      · go_wp2
        go_round
        case rel => exact ⟨_, _, rfl, rfl, hp, by omega, by omega, HL.out, by omega⟩
        case measure => simp only [intOf]; omega
    · obtain rfl : q = p + 1 := by omega
      have hr := rt_unique h0 hp HL.out HH.out
      subst hr
      go_wp2
      go_ret
      exact ⟨rfl, rfl⟩


theorem infoI : (Try.prog.info? 3).map (fun i => (i.zero, i.size, i.bytes)) = some (some (.int .i64 0), 1, 8) := by kernel_rfl
theorem cell_one_alloc (w : World) (x : Value) (t : TypeId) (n : Nat) (hn : n = w.heap.size) : ∀ j u, [x][j]? = some u → (w.alloc (.cells #[x] t)).cell? ((⟨n, 0, none⟩ : Addr).add j) = some u := by
  intro j u hj
  subst hn
  match j, hj with
  | 0, hj =>
    simp at hj
    subst hj
    simp [Addr.add]
theorem IRow.nil (w : World) (B : Nat) : IRow w B (.slice none 0 0) [] := World.ownsRow_nil w B _ 1
theorem IRow.push {W w1 : World} {B : Nat} {v v' : Value} {xs : List Int} {x : Int} {o : Obj} (hB : B ≤ W.heap.size) (h : IRow W B v xs)
    (hO : w1.ownsRow B 3 1 v' (xs.length + 1) (xs.map (Value.int .i64) ++ [.int .i64 x])) (hg : (W.alloc o).grownBy w1 v.ownBlock) : IRow w1 B v' (xs ++ [x]) ∧ Below B W w1 := by
  refine ⟨?_, ((Below.refl B W).alloc hB o).grown hg (by simp; omega) fun g e => (World.ownsRow.lt h g e).1⟩
  unfold IRow
  simpa using hO
theorem IRow.mono {w : World} {B C : Nat} {v : Value} {xs : List Int} (h : IRow w C v xs) (hB : B ≤ C) : IRow w B v xs := by
  obtain ⟨h1, hn | ⟨g, cap, cur, rfl, hC, rest⟩⟩ := h
  · exact ⟨h1, .inl hn⟩
  · exact ⟨h1, .inr ⟨g, cap, cur, rfl, by omega, rest⟩⟩
theorem cell_under {B : Nat} {u v : World} (hb : Below B u v) {n o : Nat} {x : Value} (hn : n < B) (hu : u.cell? ⟨n, o, none⟩ = some x) : v.cell? ⟨n, o, none⟩ = some x := by
  rw [hb.cell (p := ⟨n, o, none⟩) hn]; exact hu
/-- the numbers of touches, up to k, for which the way has a whole length -/
def wwl (a b c d h : Int) : Nat → List Int
  | 0 => []
  | k + 1 => wwl a b c d h k ++ (if whole (SC a b c d h (k + 1) true) then [(k : Int) + 1] else [])
def WWL (a b c d h : Int) : List Int := if inCo a b c d h then wwl a b c d h 50 else []
theorem wwl_len (a b c d h : Int) (k : Nat) : (wwl a b c d h k).length ≤ k := by
  induction k with
  | zero => simp [wwl]
  | succ m ih => simp only [wwl]; split <;> simp <;> omega
theorem WWL_len (a b c d h : Int) : (WWL a b c d h).length ≤ 4000000 := by
  unfold WWL
  split
  · have := wwl_len a b c d h 50
    omega
  · simp
theorem wwl_yes {a b c d h : Int} {k : Nat} (e : whole (SC a b c d h (k + 1) true) = true) : wwl a b c d h (k + 1) = wwl a b c d h k ++ [(k : Int) + 1] := by
  rw [wwl, if_pos e]
theorem wwl_no {a b c d h : Int} {k : Nat} (e : whole (SC a b c d h (k + 1) true) = false) : wwl a b c d h (k + 1) = wwl a b c d h k := by
  rw [wwl, if_neg (by simp [e]), List.append_nil]
theorem slice_shape {w : World} {B : Nat} {v : Value} {xs : List Int} (h : IRow w B v xs) : ∃ a n c, v = .slice a n c := by
  rcases h.open_ with ⟨rfl, _⟩ | ⟨g, cap, cur, rfl, _⟩
  · exact ⟨_, _, _, rfl⟩
  · exact ⟨_, _, _, rfl⟩
set_option maxRecDepth 100000 in
set_option maxHeartbeats 8000000 in
theorem spec_WholeWays (a b c d h : Int) (w : World) :
    Calls Try.prog 56 #[.agg #[.int .i64 a, .int .i64 b], .agg #[.int .i64 c, .int .i64 d], .int .i64 h] w fun e w' => ∃ v, e = .returned (.tuple #[v, .bool (inCo a b c d h)]) ∧ IRow w' w.heap.size v (WWL a b c d h) ∧ Below w.heap.size w w' := by
  have G1 := Lib.hid (show okCo a b c d h 1 = inCo a b c d h by unfold okCo; rw [show within 1 1 50 = true by decide, Bool.and_true])
  cases g1 : inCo a b c d h
  · have HE := Lib.hid (show WWL a b c d h = [] by simp [WWL, g1])
    rw [g1] at G1
    go_enter Try.func56, Try.ntmps56
    go_wp2_with fail
    refine (lwCorridor_any _ _ _ _ _ _ _).mono ?_
    rintro e w1 ⟨rfl, hbw1⟩
    obtain ⟨hcw1, hfw1⟩ := bcell hbw1
    have hzw1 := bsize hbw1
    (try simp only [World.size_alloc, World.size_setCell] at hzw1)
    have kw1_0_0 : w1.cell? ⟨w.heap.size, 0, none⟩ = some (.int .i64 a) := by rw [hcw1 _ _ (by first | (simp; done) | omega | (simp; omega))]; first | assumption | (simp [go_sem]; done) | (simp [go_sem]; done) | (simp [go_sem, *]; done)
    have kw1_0_1 : w1.cell? ⟨w.heap.size, 1, none⟩ = some (.int .i64 b) := by rw [hcw1 _ _ (by first | (simp; done) | omega | (simp; omega))]; first | assumption | (simp [go_sem]; done) | (simp [go_sem]; done) | (simp [go_sem, *]; done)
    have sw1_0 : w.heap.size < w1.heap.size := by first | omega | (simp at *; omega)
    have kw1_1_0 : w1.cell? ⟨w.heap.size + 1, 0, none⟩ = some (.int .i64 c) := by rw [hcw1 _ _ (by first | (simp; done) | omega | (simp; omega))]; first | assumption | (simp [go_sem]; done) | (simp [go_sem]; done) | (simp [go_sem, *]; done)
    have kw1_1_1 : w1.cell? ⟨w.heap.size + 1, 1, none⟩ = some (.int .i64 d) := by rw [hcw1 _ _ (by first | (simp; done) | omega | (simp; omega))]; first | assumption | (simp [go_sem]; done) | (simp [go_sem]; done) | (simp [go_sem, *]; done)
    have sw1_1 : w.heap.size + 1 < w1.heap.size := by first | omega | (simp at *; omega)
    have hBw1 : Below w.heap.size w w1 := (by repeat (first | exact Below.refl _ _ | refine bl_alloc ?_ _ | refine bl_drewN ?_ _ | refine bl_trans (by assumption) ?_ | refine bl_set ?_ (by first | omega | (simp; done) | (simp; omega)) _))
    have HBw1 := Lib.hid hBw1
    clear hBw1 hcw1 hfw1 hbw1
    rw [G1.out]
    go_wp2
    go_ret2
    exact ⟨_, rfl, by rw [HE.out]; exact IRow.nil _ _, HBw1.out⟩
  · have HE := Lib.hid (show WWL a b c d h = wwl a b c d h 50 by simp [WWL, g1])
    rw [g1] at G1
    have HI0 := Lib.hid g1
    obtain ⟨i0, hi, hz0, hz1, hz2⟩ := info_parts infoI
    go_enter Try.func56, Try.ntmps56
    go_wp2_with fail
    refine (lwCorridor_any _ _ _ _ _ _ _).mono ?_
    rintro e w1 ⟨rfl, hbw1⟩
    obtain ⟨hcw1, hfw1⟩ := bcell hbw1
    have hzw1 := bsize hbw1
    (try simp only [World.size_alloc, World.size_setCell] at hzw1)
    have kw1_0_0 : w1.cell? ⟨w.heap.size, 0, none⟩ = some (.int .i64 a) := by rw [hcw1 _ _ (by first | (simp; done) | omega | (simp; omega))]; first | assumption | (simp [go_sem]; done) | (simp [go_sem]; done) | (simp [go_sem, *]; done)
    have kw1_0_1 : w1.cell? ⟨w.heap.size, 1, none⟩ = some (.int .i64 b) := by rw [hcw1 _ _ (by first | (simp; done) | omega | (simp; omega))]; first | assumption | (simp [go_sem]; done) | (simp [go_sem]; done) | (simp [go_sem, *]; done)
    have sw1_0 : w.heap.size < w1.heap.size := by first | omega | (simp at *; omega)
    have kw1_1_0 : w1.cell? ⟨w.heap.size + 1, 0, none⟩ = some (.int .i64 c) := by rw [hcw1 _ _ (by first | (simp; done) | omega | (simp; omega))]; first | assumption | (simp [go_sem]; done) | (simp [go_sem]; done) | (simp [go_sem, *]; done)
    have kw1_1_1 : w1.cell? ⟨w.heap.size + 1, 1, none⟩ = some (.int .i64 d) := by rw [hcw1 _ _ (by first | (simp; done) | omega | (simp; omega))]; first | assumption | (simp [go_sem]; done) | (simp [go_sem]; done) | (simp [go_sem, *]; done)
    have sw1_1 : w.heap.size + 1 < w1.heap.size := by first | omega | (simp at *; omega)
    have hBw1 : Below w.heap.size w w1 := (by repeat (first | exact Below.refl _ _ | refine bl_alloc ?_ _ | refine bl_drewN ?_ _ | refine bl_trans (by assumption) ?_ | refine bl_set ?_ (by first | omega | (simp; done) | (simp; omega)) _))
    have HBw1 := Lib.hid hBw1
    clear hBw1 hcw1 hfw1 hbw1
    rw [G1.out]
    go_wp2_with fail
    go_loopw [8, 9] (fun r t wr => ∃ k : Nat, k ≤ 50 ∧ t = .int .i64 ((k : Int) + 1) ∧ IRow wr (w.heap.size + 1 + 1) r (wwl a b c d h k) ∧ wr.cell? ⟨w.heap.size, 0, none⟩ = some (.int .i64 a) ∧ wr.cell? ⟨w.heap.size, 1, none⟩ = some (.int .i64 b) ∧ wr.cell? ⟨w.heap.size + 1, 0, none⟩ = some (.int .i64 c) ∧ wr.cell? ⟨w.heap.size + 1, 1, none⟩ = some (.int .i64 d) ∧ w.heap.size + 1 < wr.heap.size ∧ Below w.heap.size w wr) (fun _ t _ => 51 - (intOf t).toNat)
    case atStart => exact ⟨0, by omega, by simp, IRow.nil _ _, kw1_0_0, kw1_0_1, kw1_1_0, kw1_1_1, sw1_1, HBw1.out⟩
    case round =>
    obtain ⟨k, hk, rfl, hI, q0, q1, q2, q3, hs, hB⟩ := hrel
    have HBr := Lib.hid hB
    have HI := Lib.hid hI
    clear hB hI
    clear kw1_0_0 kw1_0_1 kw1_1_0 kw1_1_1 sw1_1 sw1_0 hzw1
    by_cases hlt : k < 50
    · have hkt := inCo_okCo (k := (k : Int) + 1) HI0.out (by omega) (by omega)
      have HG := fun W => Lib.hid (lwCorridorSquare_any a b c d h ((k : Int) + 1) true hkt W)
      obtain ⟨s1, s2⟩ := SC_bd hkt true
      have HRT := fun W => Lib.hid (clRoot_any (SC a b c d h ((k : Int) + 1) true) s1 (by omega) W)
      obtain ⟨r0, r1, _⟩ := rt_facts s1
      have r3 : 0 ≤ rt (SC a b c d h ((k : Int) + 1) true) * rt (SC a b c d h ((k : Int) + 1) true) := Int.mul_nonneg r0 r0
      have HWD := Lib.hid (show whole (SC a b c d h ((k : Int) + 1) true) = (rt (SC a b c d h ((k : Int) + 1) true) * rt (SC a b c d h ((k : Int) + 1) true) == SC a b c d h ((k : Int) + 1) true) from rfl)
      clear hkt
      cases hw : whole (SC a b c d h ((k : Int) + 1) true)
      · have HQ := Lib.hid (wwl_no (a := a) (b := b) (c := c) (d := d) (h := h) (k := k) hw)
        have hwd := HWD.out
        rw [hw] at hwd
        have hwd' := hwd.symm
        clear hwd
        generalize rt (SC a b c d h ((k : Int) + 1) true) = R at *
        generalize SC a b c d h ((k : Int) + 1) true = S at *
        have hs0 : w.heap.size < wr.heap.size := by omega
        go_wp2_with fail
        refine ((HG _).out).mono ?_
        rintro e v1 ⟨rfl, hbv1⟩
        obtain ⟨hcv1, hfv1⟩ := bcell hbv1
        have hzv1 := bsize hbv1
        (try simp only [World.size_alloc, World.size_setCell] at hzv1)
        have hkv1 : Below wr.heap.size wr v1 := (by repeat (first | exact Below.refl _ _ | refine bl_alloc ?_ _ | refine bl_drewN ?_ _ | refine bl_trans (by assumption) ?_ | refine bl_set ?_ (by first | omega | (simp; done) | (simp; omega)) _))
        have HI1 := Lib.hid (HI.out.keep hkv1)
        have kv1_0_0 : v1.cell? ⟨w.heap.size, 0, none⟩ = some (.int .i64 a) := cell_after hkv1 hs0 q0
        have kv1_0_1 : v1.cell? ⟨w.heap.size, 1, none⟩ = some (.int .i64 b) := cell_after hkv1 hs0 q1
        have sv1_0 : w.heap.size < v1.heap.size := size_after hkv1 hs0
        have kv1_1_0 : v1.cell? ⟨w.heap.size + 1, 0, none⟩ = some (.int .i64 c) := cell_after hkv1 hs q2
        have kv1_1_1 : v1.cell? ⟨w.heap.size + 1, 1, none⟩ = some (.int .i64 d) := cell_after hkv1 hs q3
        have sv1_1 : w.heap.size + 1 < v1.heap.size := size_after hkv1 hs
        have hBv1 : Below w.heap.size w v1 := (by repeat (first | exact HBr.out | exact Below.refl _ _ | refine bl_alloc ?_ _ | refine bl_drewN ?_ _ | refine bl_trans (by assumption) ?_ | refine bl_set ?_ (by first | omega | (simp; done) | (simp; omega)) _))
        have HBv1 := Lib.hid hBv1
        clear hBv1 hcv1 hfv1 hbv1 hkv1 q0 q1 hs0 q2 q3 hs
        go_wp2_with fail
        refine ((HRT _).out).mono ?_
        rintro e w' ⟨rfl, rfl⟩
        go_wp2
        go_roundw
        case rel => exact ⟨k + 1, by omega, by go_num, by rw [HQ.out]; exact HI1.out, kv1_0_0, kv1_0_1, kv1_1_0, kv1_1_1, sv1_1, HBv1.out⟩
        case measure => simp only [intOf]; omega
      · have HQ := Lib.hid (wwl_yes (a := a) (b := b) (c := c) (d := d) (h := h) (k := k) hw)
        have hwd := HWD.out
        rw [hw] at hwd
        have hwd' := hwd.symm
        clear hwd
        generalize rt (SC a b c d h ((k : Int) + 1) true) = R at *
        generalize SC a b c d h ((k : Int) + 1) true = S at *
        have hs0 : w.heap.size < wr.heap.size := by omega
        go_wp2_with fail
        refine ((HG _).out).mono ?_
        rintro e v1 ⟨rfl, hbv1⟩
        obtain ⟨hcv1, hfv1⟩ := bcell hbv1
        have hzv1 := bsize hbv1
        (try simp only [World.size_alloc, World.size_setCell] at hzv1)
        have hkv1 : Below wr.heap.size wr v1 := (by repeat (first | exact Below.refl _ _ | refine bl_alloc ?_ _ | refine bl_drewN ?_ _ | refine bl_trans (by assumption) ?_ | refine bl_set ?_ (by first | omega | (simp; done) | (simp; omega)) _))
        have HI1 := Lib.hid (HI.out.keep hkv1)
        have kv1_0_0 : v1.cell? ⟨w.heap.size, 0, none⟩ = some (.int .i64 a) := cell_after hkv1 hs0 q0
        have kv1_0_1 : v1.cell? ⟨w.heap.size, 1, none⟩ = some (.int .i64 b) := cell_after hkv1 hs0 q1
        have sv1_0 : w.heap.size < v1.heap.size := size_after hkv1 hs0
        have kv1_1_0 : v1.cell? ⟨w.heap.size + 1, 0, none⟩ = some (.int .i64 c) := cell_after hkv1 hs q2
        have kv1_1_1 : v1.cell? ⟨w.heap.size + 1, 1, none⟩ = some (.int .i64 d) := cell_after hkv1 hs q3
        have sv1_1 : w.heap.size + 1 < v1.heap.size := size_after hkv1 hs
        have hBv1 : Below w.heap.size w v1 := (by repeat (first | exact HBr.out | exact Below.refl _ _ | refine bl_alloc ?_ _ | refine bl_drewN ?_ _ | refine bl_trans (by assumption) ?_ | refine bl_set ?_ (by first | omega | (simp; done) | (simp; omega)) _))
        have HBv1 := Lib.hid hBv1
        clear hBv1 hcv1 hfv1 hbv1 hkv1 q0 q1 hs0 q2 q3 hs
        go_wp2_with fail
        refine ((HRT _).out).mono ?_
        rintro e w' ⟨rfl, rfl⟩
        have hO := Lib.hid (show v1.ownsRow (w.heap.size + 1 + 1) 3 1 u8 (wwl a b c d h k).length ((wwl a b c d h k).map (Value.int .i64)) from HI1.out)
        have hlen := wwl_len a b c d h k
        generalize hL : (wwl a b c d h k).length = L at *
        have HL := Lib.hid hL
        clear hL HI
        go_wp2_with (at_builtin; refine wpList_append_own _ rfl _ _ 39 rfl (w.heap.size + 1 + 1) 3 i0 (.int .i64 0) 1 8 Try.underlying39 hi hz0 hz1 hz2 rfl (by decide) _ _ _ rfl (hO.out.alloc _) ⟨v1.heap.size, 0, none⟩ 1 1 [.int .i64 ((k : Int) + 1)] rfl rfl ?c1 ?c2 ?c3 ?c4 ?c5 ?_)
        all_goals (try exact cell_one_alloc _ _ _ _ (by simp))
        case c2 => simp [Value.oneCell']
        case c3 => unfold maxLen; omega
        case c4 => omega
        case c5 => first | omega | (simp; omega)
        intro v' w3 hown1 hgrow1 _
        have hs1 := hgrow1.size
        simp only [World.size_alloc] at hs1
        rw [← HL.out] at hown1
        obtain ⟨r1, r2⟩ := IRow.push (x := (k : Int) + 1) (W := v1) (by omega) HI1.out hown1 hgrow1
        rw [← HQ.out] at r1
        have Q1 := Lib.hid r1
        have R2 := Lib.hid r2
        have Q2 := Lib.hid (HBv1.out.trans (r2.mono (by omega)))
        have e0 := cell_under R2.out (by omega) kv1_0_0
        have e1 := cell_under R2.out (by omega) kv1_0_1
        have e2 := cell_under R2.out (by omega) kv1_1_0
        have e3 := cell_under R2.out (by omega) kv1_1_1
        clear r1 r2 hown1 hgrow1 kv1_0_0 kv1_0_1 kv1_1_0 kv1_1_1
        go_wp2
        go_roundw
        case rel => exact ⟨k + 1, by omega, by go_num, Q1.out, e0, e1, e2, e3, by omega, Q2.out⟩
        case measure => simp only [intOf]; omega
    · obtain rfl : k = 50 := by omega
      go_wp2
      go_ret2
      exact ⟨_, rfl, by rw [HE.out]; exact HI.out.mono (by omega), HBr.out⟩
set_option maxRecDepth 100000 in
set_option maxHeartbeats 8000000 in
theorem impl_WholeWays (a b c d h : Int) (w : World) :
    Calls Try.prog 57 #[.agg #[.int .i64 a, .int .i64 b], .agg #[.int .i64 c, .int .i64 d], .int .i64 h] w fun e w' => ∃ v, e = .returned (.tuple #[v, .bool (inCo a b c d h)]) ∧ IRow w' w.heap.size v (WWL a b c d h) ∧ Below w.heap.size w w' := by
  cases g1 : inCo a b c d h
  · have HE := Lib.hid (show WWL a b c d h = [] by simp [WWL, g1])
    go_enter Try.func57, Try.ntmps57
    go_wp2_with fail
    refine (areInCorridor_any _ _ _ _ _ _).mono ?_
    rintro e w1 ⟨rfl, hbw1⟩
    obtain ⟨hcw1, hfw1⟩ := bcell hbw1
    have hzw1 := bsize hbw1
    (try simp only [World.size_alloc, World.size_setCell] at hzw1)
    have kw1_0_0 : w1.cell? ⟨w.heap.size, 0, none⟩ = some (.int .i64 a) := by rw [hcw1 _ _ (by first | (simp; done) | omega | (simp; omega))]; first | assumption | (simp [go_sem]; done) | (simp [go_sem]; done) | (simp [go_sem, *]; done)
    have kw1_0_1 : w1.cell? ⟨w.heap.size, 1, none⟩ = some (.int .i64 b) := by rw [hcw1 _ _ (by first | (simp; done) | omega | (simp; omega))]; first | assumption | (simp [go_sem]; done) | (simp [go_sem]; done) | (simp [go_sem, *]; done)
    have sw1_0 : w.heap.size < w1.heap.size := by first | omega | (simp at *; omega)
    have kw1_1_0 : w1.cell? ⟨w.heap.size + 1, 0, none⟩ = some (.int .i64 c) := by rw [hcw1 _ _ (by first | (simp; done) | omega | (simp; omega))]; first | assumption | (simp [go_sem]; done) | (simp [go_sem]; done) | (simp [go_sem, *]; done)
    have kw1_1_1 : w1.cell? ⟨w.heap.size + 1, 1, none⟩ = some (.int .i64 d) := by rw [hcw1 _ _ (by first | (simp; done) | omega | (simp; omega))]; first | assumption | (simp [go_sem]; done) | (simp [go_sem]; done) | (simp [go_sem, *]; done)
    have sw1_1 : w.heap.size + 1 < w1.heap.size := by first | omega | (simp at *; omega)
    have hBw1 : Below w.heap.size w w1 := (by repeat (first | exact Below.refl _ _ | refine bl_alloc ?_ _ | refine bl_drewN ?_ _ | refine bl_trans (by assumption) ?_ | refine bl_set ?_ (by first | omega | (simp; done) | (simp; omega)) _))
    have HBw1 := Lib.hid hBw1
    clear hBw1 hcw1 hfw1 hbw1
    rw [g1]
    go_wp2
    go_ret2
    exact ⟨_, rfl, by rw [HE.out]; exact IRow.nil _ _, HBw1.out⟩
  · have HE := Lib.hid (show WWL a b c d h = wwl a b c d h 50 by simp [WWL, g1])
    have HI0 := Lib.hid g1
    obtain ⟨i0, hi, hz0, hz1, hz2⟩ := info_parts infoI
    go_enter Try.func57, Try.ntmps57
    go_wp2_with fail
    refine (areInCorridor_any _ _ _ _ _ _).mono ?_
    rintro e w1 ⟨rfl, hbw1⟩
    obtain ⟨hcw1, hfw1⟩ := bcell hbw1
    have hzw1 := bsize hbw1
    (try simp only [World.size_alloc, World.size_setCell] at hzw1)
    have kw1_0_0 : w1.cell? ⟨w.heap.size, 0, none⟩ = some (.int .i64 a) := by rw [hcw1 _ _ (by first | (simp; done) | omega | (simp; omega))]; first | assumption | (simp [go_sem]; done) | (simp [go_sem]; done) | (simp [go_sem, *]; done)
    have kw1_0_1 : w1.cell? ⟨w.heap.size, 1, none⟩ = some (.int .i64 b) := by rw [hcw1 _ _ (by first | (simp; done) | omega | (simp; omega))]; first | assumption | (simp [go_sem]; done) | (simp [go_sem]; done) | (simp [go_sem, *]; done)
    have sw1_0 : w.heap.size < w1.heap.size := by first | omega | (simp at *; omega)
    have kw1_1_0 : w1.cell? ⟨w.heap.size + 1, 0, none⟩ = some (.int .i64 c) := by rw [hcw1 _ _ (by first | (simp; done) | omega | (simp; omega))]; first | assumption | (simp [go_sem]; done) | (simp [go_sem]; done) | (simp [go_sem, *]; done)
    have kw1_1_1 : w1.cell? ⟨w.heap.size + 1, 1, none⟩ = some (.int .i64 d) := by rw [hcw1 _ _ (by first | (simp; done) | omega | (simp; omega))]; first | assumption | (simp [go_sem]; done) | (simp [go_sem]; done) | (simp [go_sem, *]; done)
    have sw1_1 : w.heap.size + 1 < w1.heap.size := by first | omega | (simp at *; omega)
    have hBw1 : Below w.heap.size w w1 := (by repeat (first | exact Below.refl _ _ | refine bl_alloc ?_ _ | refine bl_drewN ?_ _ | refine bl_trans (by assumption) ?_ | refine bl_set ?_ (by first | omega | (simp; done) | (simp; omega)) _))
    have HBw1 := Lib.hid hBw1
    clear hBw1 hcw1 hfw1 hbw1
    rw [g1]
    go_wp2_with fail
    go_loopw [8, 9] (fun r t wr => ∃ k : Nat, k ≤ 50 ∧ t = .int .i64 ((k : Int) + 1) ∧ IRow wr (w.heap.size + 1 + 1) r (wwl a b c d h k) ∧ wr.cell? ⟨w.heap.size, 0, none⟩ = some (.int .i64 a) ∧ wr.cell? ⟨w.heap.size, 1, none⟩ = some (.int .i64 b) ∧ wr.cell? ⟨w.heap.size + 1, 0, none⟩ = some (.int .i64 c) ∧ wr.cell? ⟨w.heap.size + 1, 1, none⟩ = some (.int .i64 d) ∧ w.heap.size + 1 < wr.heap.size ∧ Below w.heap.size w wr) (fun _ t _ => 51 - (intOf t).toNat)
    case atStart => exact ⟨0, by omega, by simp, IRow.nil _ _, kw1_0_0, kw1_0_1, kw1_1_0, kw1_1_1, sw1_1, HBw1.out⟩
    case round =>
    obtain ⟨k, hk, rfl, hI, q0, q1, q2, q3, hs, hB⟩ := hrel
    have HBr := Lib.hid hB
    have HI := Lib.hid hI
    clear hB hI
    clear kw1_0_0 kw1_0_1 kw1_1_0 kw1_1_1 sw1_1 sw1_0 hzw1
    by_cases hlt : k < 50
    · have hkt := inCo_okCo (k := (k : Int) + 1) HI0.out (by omega) (by omega)
      have HG := fun W => Lib.hid (square_any a b c d h ((k : Int) + 1) true hkt W)
      obtain ⟨s1, s2⟩ := SC_bd hkt true
      have HRT := fun W => Lib.hid (wholeRoot_any (SC a b c d h ((k : Int) + 1) true) s1 (by omega) W)
      clear hkt
      cases hw : whole (SC a b c d h ((k : Int) + 1) true)
      · have HQ := Lib.hid (wwl_no (a := a) (b := b) (c := c) (d := d) (h := h) (k := k) hw)
        generalize SC a b c d h ((k : Int) + 1) true = S at *
        have hs0 : w.heap.size < wr.heap.size := by omega
        go_wp2_with fail
        refine ((HG _).out).mono ?_
        rintro e v1 ⟨rfl, hbv1⟩
        obtain ⟨hcv1, hfv1⟩ := bcell hbv1
        have hzv1 := bsize hbv1
        (try simp only [World.size_alloc, World.size_setCell] at hzv1)
        have hkv1 : Below wr.heap.size wr v1 := (by repeat (first | exact Below.refl _ _ | refine bl_alloc ?_ _ | refine bl_drewN ?_ _ | refine bl_trans (by assumption) ?_ | refine bl_set ?_ (by first | omega | (simp; done) | (simp; omega)) _))
        have HI1 := Lib.hid (HI.out.keep hkv1)
        have kv1_0_0 : v1.cell? ⟨w.heap.size, 0, none⟩ = some (.int .i64 a) := cell_after hkv1 hs0 q0
        have kv1_0_1 : v1.cell? ⟨w.heap.size, 1, none⟩ = some (.int .i64 b) := cell_after hkv1 hs0 q1
        have sv1_0 : w.heap.size < v1.heap.size := size_after hkv1 hs0
        have kv1_1_0 : v1.cell? ⟨w.heap.size + 1, 0, none⟩ = some (.int .i64 c) := cell_after hkv1 hs q2
        have kv1_1_1 : v1.cell? ⟨w.heap.size + 1, 1, none⟩ = some (.int .i64 d) := cell_after hkv1 hs q3
        have sv1_1 : w.heap.size + 1 < v1.heap.size := size_after hkv1 hs
        have kv1_2_0 : v1.cell? ⟨wr.heap.size, 0, none⟩ = some (.int .i64 a) := by rw [hcv1 _ _ (by first | (simp; done) | omega | (simp; omega))]; first | assumption | (simp [go_sem]; done) | (simp [go_sem, q0, q1, q2, q3]; done) | (simp [go_sem, *]; done)
        have fv1_2_0 : v1.frozen? ⟨wr.heap.size, 0, none⟩ = false := by rw [hfv1 _ _ (by first | (simp; done) | omega | (simp; omega))]; first | assumption | (simp [go_sem]; done) | (simp [go_sem, q0, q1, q2, q3]; done) | (simp [go_sem, *]; done)
        have kv1_2_1 : v1.cell? ⟨wr.heap.size, 1, none⟩ = some (.int .i64 b) := by rw [hcv1 _ _ (by first | (simp; done) | omega | (simp; omega))]; first | assumption | (simp [go_sem]; done) | (simp [go_sem, q0, q1, q2, q3]; done) | (simp [go_sem, *]; done)
        have fv1_2_1 : v1.frozen? ⟨wr.heap.size, 1, none⟩ = false := by rw [hfv1 _ _ (by first | (simp; done) | omega | (simp; omega))]; first | assumption | (simp [go_sem]; done) | (simp [go_sem, q0, q1, q2, q3]; done) | (simp [go_sem, *]; done)
        have kv1_2_2 : v1.cell? ⟨wr.heap.size, 2, none⟩ = some (.int .i64 c) := by rw [hcv1 _ _ (by first | (simp; done) | omega | (simp; omega))]; first | assumption | (simp [go_sem]; done) | (simp [go_sem, q0, q1, q2, q3]; done) | (simp [go_sem, *]; done)
        have fv1_2_2 : v1.frozen? ⟨wr.heap.size, 2, none⟩ = false := by rw [hfv1 _ _ (by first | (simp; done) | omega | (simp; omega))]; first | assumption | (simp [go_sem]; done) | (simp [go_sem, q0, q1, q2, q3]; done) | (simp [go_sem, *]; done)
        have kv1_2_3 : v1.cell? ⟨wr.heap.size, 3, none⟩ = some (.int .i64 d) := by rw [hcv1 _ _ (by first | (simp; done) | omega | (simp; omega))]; first | assumption | (simp [go_sem]; done) | (simp [go_sem, q0, q1, q2, q3]; done) | (simp [go_sem, *]; done)
        have fv1_2_3 : v1.frozen? ⟨wr.heap.size, 3, none⟩ = false := by rw [hfv1 _ _ (by first | (simp; done) | omega | (simp; omega))]; first | assumption | (simp [go_sem]; done) | (simp [go_sem, q0, q1, q2, q3]; done) | (simp [go_sem, *]; done)
        have kv1_2_4 : v1.cell? ⟨wr.heap.size, 4, none⟩ = some (.int .i64 h) := by rw [hcv1 _ _ (by first | (simp; done) | omega | (simp; omega))]; first | assumption | (simp [go_sem]; done) | (simp [go_sem, q0, q1, q2, q3]; done) | (simp [go_sem, *]; done)
        have fv1_2_4 : v1.frozen? ⟨wr.heap.size, 4, none⟩ = false := by rw [hfv1 _ _ (by first | (simp; done) | omega | (simp; omega))]; first | assumption | (simp [go_sem]; done) | (simp [go_sem, q0, q1, q2, q3]; done) | (simp [go_sem, *]; done)
        have kv1_2_5 : v1.cell? ⟨wr.heap.size, 5, none⟩ = some (.int .i64 ((k : Int) + 1)) := by rw [hcv1 _ _ (by first | (simp; done) | omega | (simp; omega))]; first | assumption | (simp [go_sem]; done) | (simp [go_sem, q0, q1, q2, q3]; done) | (simp [go_sem, *]; done)
        have fv1_2_5 : v1.frozen? ⟨wr.heap.size, 5, none⟩ = false := by rw [hfv1 _ _ (by first | (simp; done) | omega | (simp; omega))]; first | assumption | (simp [go_sem]; done) | (simp [go_sem, q0, q1, q2, q3]; done) | (simp [go_sem, *]; done)
        have kv1_2_6 : v1.cell? ⟨wr.heap.size, 6, none⟩ = some (.bool true) := by rw [hcv1 _ _ (by first | (simp; done) | omega | (simp; omega))]; first | assumption | (simp [go_sem]; done) | (simp [go_sem, q0, q1, q2, q3]; done) | (simp [go_sem, *]; done)
        have fv1_2_6 : v1.frozen? ⟨wr.heap.size, 6, none⟩ = false := by rw [hfv1 _ _ (by first | (simp; done) | omega | (simp; omega))]; first | assumption | (simp [go_sem]; done) | (simp [go_sem, q0, q1, q2, q3]; done) | (simp [go_sem, *]; done)
        have sv1_2 : wr.heap.size < v1.heap.size := by first | omega | (simp at *; omega)
        have hBv1 : Below w.heap.size w v1 := (by repeat (first | exact HBr.out | exact Below.refl _ _ | refine bl_alloc ?_ _ | refine bl_drewN ?_ _ | refine bl_trans (by assumption) ?_ | refine bl_set ?_ (by first | omega | (simp; done) | (simp; omega)) _))
        have HBv1 := Lib.hid hBv1
        clear hBv1 hcv1 hfv1 hbv1 hkv1 q0 q1 hs0 q2 q3 hs
        go_wp2_with fail
        refine ((HRT _).out).mono ?_
        rintro e w' ⟨rfl, rfl⟩
        rw [hw]
        clear kv1_2_0 kv1_2_1 kv1_2_2 kv1_2_3 kv1_2_4 kv1_2_5 kv1_2_6 fv1_2_0 fv1_2_1 fv1_2_2 fv1_2_3 fv1_2_4 fv1_2_5 fv1_2_6
        go_wp2
        go_roundw
        case rel => exact ⟨k + 1, by omega, by go_num, by rw [HQ.out]; exact HI1.out, kv1_0_0, kv1_0_1, kv1_1_0, kv1_1_1, sv1_1, HBv1.out⟩
        case measure => simp only [intOf]; omega
      · have HQ := Lib.hid (wwl_yes (a := a) (b := b) (c := c) (d := d) (h := h) (k := k) hw)
        generalize SC a b c d h ((k : Int) + 1) true = S at *
        have hs0 : w.heap.size < wr.heap.size := by omega
        go_wp2_with fail
        refine ((HG _).out).mono ?_
        rintro e v1 ⟨rfl, hbv1⟩
        obtain ⟨hcv1, hfv1⟩ := bcell hbv1
        have hzv1 := bsize hbv1
        (try simp only [World.size_alloc, World.size_setCell] at hzv1)
        have hkv1 : Below wr.heap.size wr v1 := (by repeat (first | exact Below.refl _ _ | refine bl_alloc ?_ _ | refine bl_drewN ?_ _ | refine bl_trans (by assumption) ?_ | refine bl_set ?_ (by first | omega | (simp; done) | (simp; omega)) _))
        have HI1 := Lib.hid (HI.out.keep hkv1)
        have kv1_0_0 : v1.cell? ⟨w.heap.size, 0, none⟩ = some (.int .i64 a) := cell_after hkv1 hs0 q0
        have kv1_0_1 : v1.cell? ⟨w.heap.size, 1, none⟩ = some (.int .i64 b) := cell_after hkv1 hs0 q1
        have sv1_0 : w.heap.size < v1.heap.size := size_after hkv1 hs0
        have kv1_1_0 : v1.cell? ⟨w.heap.size + 1, 0, none⟩ = some (.int .i64 c) := cell_after hkv1 hs q2
        have kv1_1_1 : v1.cell? ⟨w.heap.size + 1, 1, none⟩ = some (.int .i64 d) := cell_after hkv1 hs q3
        have sv1_1 : w.heap.size + 1 < v1.heap.size := size_after hkv1 hs
        have kv1_2_0 : v1.cell? ⟨wr.heap.size, 0, none⟩ = some (.int .i64 a) := by rw [hcv1 _ _ (by first | (simp; done) | omega | (simp; omega))]; first | assumption | (simp [go_sem]; done) | (simp [go_sem, q0, q1, q2, q3]; done) | (simp [go_sem, *]; done)
        have fv1_2_0 : v1.frozen? ⟨wr.heap.size, 0, none⟩ = false := by rw [hfv1 _ _ (by first | (simp; done) | omega | (simp; omega))]; first | assumption | (simp [go_sem]; done) | (simp [go_sem, q0, q1, q2, q3]; done) | (simp [go_sem, *]; done)
        have kv1_2_1 : v1.cell? ⟨wr.heap.size, 1, none⟩ = some (.int .i64 b) := by rw [hcv1 _ _ (by first | (simp; done) | omega | (simp; omega))]; first | assumption | (simp [go_sem]; done) | (simp [go_sem, q0, q1, q2, q3]; done) | (simp [go_sem, *]; done)
        have fv1_2_1 : v1.frozen? ⟨wr.heap.size, 1, none⟩ = false := by rw [hfv1 _ _ (by first | (simp; done) | omega | (simp; omega))]; first | assumption | (simp [go_sem]; done) | (simp [go_sem, q0, q1, q2, q3]; done) | (simp [go_sem, *]; done)
        have kv1_2_2 : v1.cell? ⟨wr.heap.size, 2, none⟩ = some (.int .i64 c) := by rw [hcv1 _ _ (by first | (simp; done) | omega | (simp; omega))]; first | assumption | (simp [go_sem]; done) | (simp [go_sem, q0, q1, q2, q3]; done) | (simp [go_sem, *]; done)
        have fv1_2_2 : v1.frozen? ⟨wr.heap.size, 2, none⟩ = false := by rw [hfv1 _ _ (by first | (simp; done) | omega | (simp; omega))]; first | assumption | (simp [go_sem]; done) | (simp [go_sem, q0, q1, q2, q3]; done) | (simp [go_sem, *]; done)
        have kv1_2_3 : v1.cell? ⟨wr.heap.size, 3, none⟩ = some (.int .i64 d) := by rw [hcv1 _ _ (by first | (simp; done) | omega | (simp; omega))]; first | assumption | (simp [go_sem]; done) | (simp [go_sem, q0, q1, q2, q3]; done) | (simp [go_sem, *]; done)
        have fv1_2_3 : v1.frozen? ⟨wr.heap.size, 3, none⟩ = false := by rw [hfv1 _ _ (by first | (simp; done) | omega | (simp; omega))]; first | assumption | (simp [go_sem]; done) | (simp [go_sem, q0, q1, q2, q3]; done) | (simp [go_sem, *]; done)
        have kv1_2_4 : v1.cell? ⟨wr.heap.size, 4, none⟩ = some (.int .i64 h) := by rw [hcv1 _ _ (by first | (simp; done) | omega | (simp; omega))]; first | assumption | (simp [go_sem]; done) | (simp [go_sem, q0, q1, q2, q3]; done) | (simp [go_sem, *]; done)
        have fv1_2_4 : v1.frozen? ⟨wr.heap.size, 4, none⟩ = false := by rw [hfv1 _ _ (by first | (simp; done) | omega | (simp; omega))]; first | assumption | (simp [go_sem]; done) | (simp [go_sem, q0, q1, q2, q3]; done) | (simp [go_sem, *]; done)
        have kv1_2_5 : v1.cell? ⟨wr.heap.size, 5, none⟩ = some (.int .i64 ((k : Int) + 1)) := by rw [hcv1 _ _ (by first | (simp; done) | omega | (simp; omega))]; first | assumption | (simp [go_sem]; done) | (simp [go_sem, q0, q1, q2, q3]; done) | (simp [go_sem, *]; done)
        have fv1_2_5 : v1.frozen? ⟨wr.heap.size, 5, none⟩ = false := by rw [hfv1 _ _ (by first | (simp; done) | omega | (simp; omega))]; first | assumption | (simp [go_sem]; done) | (simp [go_sem, q0, q1, q2, q3]; done) | (simp [go_sem, *]; done)
        have kv1_2_6 : v1.cell? ⟨wr.heap.size, 6, none⟩ = some (.bool true) := by rw [hcv1 _ _ (by first | (simp; done) | omega | (simp; omega))]; first | assumption | (simp [go_sem]; done) | (simp [go_sem, q0, q1, q2, q3]; done) | (simp [go_sem, *]; done)
        have fv1_2_6 : v1.frozen? ⟨wr.heap.size, 6, none⟩ = false := by rw [hfv1 _ _ (by first | (simp; done) | omega | (simp; omega))]; first | assumption | (simp [go_sem]; done) | (simp [go_sem, q0, q1, q2, q3]; done) | (simp [go_sem, *]; done)
        have sv1_2 : wr.heap.size < v1.heap.size := by first | omega | (simp at *; omega)
        have hBv1 : Below w.heap.size w v1 := (by repeat (first | exact HBr.out | exact Below.refl _ _ | refine bl_alloc ?_ _ | refine bl_drewN ?_ _ | refine bl_trans (by assumption) ?_ | refine bl_set ?_ (by first | omega | (simp; done) | (simp; omega)) _))
        have HBv1 := Lib.hid hBv1
        clear hBv1 hcv1 hfv1 hbv1 hkv1 q0 q1 hs0 q2 q3 hs
        go_wp2_with fail
        refine ((HRT _).out).mono ?_
        rintro e w' ⟨rfl, rfl⟩
        rw [hw]
        clear kv1_2_0 kv1_2_1 kv1_2_2 kv1_2_3 kv1_2_4 kv1_2_5 kv1_2_6 fv1_2_0 fv1_2_1 fv1_2_2 fv1_2_3 fv1_2_4 fv1_2_5 fv1_2_6
        have hO := Lib.hid (show v1.ownsRow (w.heap.size + 1 + 1) 3 1 u8 (wwl a b c d h k).length ((wwl a b c d h k).map (Value.int .i64)) from HI1.out)
        have hlen := wwl_len a b c d h k
        generalize hL : (wwl a b c d h k).length = L at *
        have HL := Lib.hid hL
        clear hL HI
        go_wp2_with (at_builtin; refine wpList_append_own _ rfl _ _ 39 rfl (w.heap.size + 1 + 1) 3 i0 (.int .i64 0) 1 8 Try.underlying39 hi hz0 hz1 hz2 rfl (by decide) _ _ _ rfl (hO.out.alloc _) ⟨v1.heap.size, 0, none⟩ 1 1 [.int .i64 ((k : Int) + 1)] rfl rfl ?c1 ?c2 ?c3 ?c4 ?c5 ?_)
        all_goals (try exact cell_one_alloc _ _ _ _ (by simp))
        case c2 => simp [Value.oneCell']
        case c3 => unfold maxLen; omega
        case c4 => omega
        case c5 => first | omega | (simp; omega)
        intro v' w3 hown1 hgrow1 _
        have hs1 := hgrow1.size
        simp only [World.size_alloc] at hs1
        rw [← HL.out] at hown1
        obtain ⟨r1, r2⟩ := IRow.push (x := (k : Int) + 1) (W := v1) (by omega) HI1.out hown1 hgrow1
        rw [← HQ.out] at r1
        have Q1 := Lib.hid r1
        have R2 := Lib.hid r2
        have Q2 := Lib.hid (HBv1.out.trans (r2.mono (by omega)))
        have e0 := cell_under R2.out (by omega) kv1_0_0
        have e1 := cell_under R2.out (by omega) kv1_0_1
        have e2 := cell_under R2.out (by omega) kv1_1_0
        have e3 := cell_under R2.out (by omega) kv1_1_1
        clear r1 r2 hown1 hgrow1 kv1_0_0 kv1_0_1 kv1_1_0 kv1_1_1
        go_wp2
        go_roundw
        case rel => exact ⟨k + 1, by omega, by go_num, Q1.out, e0, e1, e2, e3, by omega, Q2.out⟩
        case measure => simp only [intOf]; omega
    · obtain rfl : k = 50 := by omega
      go_wp2
      go_ret2
      exact ⟨_, rfl, by rw [HE.out]; exact HI.out.mono (by omega), HBr.out⟩
end Go.Proofs.Ytppgcaennhghoaa
