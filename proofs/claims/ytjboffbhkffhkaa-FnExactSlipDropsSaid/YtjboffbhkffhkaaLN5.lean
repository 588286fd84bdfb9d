/- Ladders that slip, by the program and by the model alike. -/
import Derived.Test.YtjboffbhkffhkaaLN2
import Derived.OwnWalk
import Derived.Deep.AppendLies
import Derived.Deep.RegionLaw
import Derived.Deep.RegionHeldLaw
namespace Go.Proofs.Ytjboffbhkffhkaa
open Go.RowKit
set_option linter.unusedVariables false
set_option linter.unusedSimpArgs false

def slv (l f y : Int) (k : Nat) : Int := rt (l * l - (f + (k : Int) * y) * (f + (k : Int) * y))
/-- the heights of the first k feet, as far as the ladder goes -/
def slp (l f y : Int) : Nat → List Int
  | 0 => []
  | k + 1 => slp l f y k ++ (if f + (k : Int) * y ≤ l then [slv l f y k] else [])
def okSlp (l f y s : Int) : Bool := okL7 l && (within f 0 l && (okL7 y && within s 0 50))
def SLP (l f y s : Int) : List Int := if okSlp l f y s then slp l f y (s.toNat + 1) else []
theorem okSlp_true {l f y s : Int} (h : okSlp l f y s = true) : (1 ≤ l ∧ l ≤ 1000) ∧ (0 ≤ f ∧ f ≤ l) ∧ (1 ≤ y ∧ y ≤ 1000) ∧ 0 ≤ s ∧ s ≤ 50 := by
  simp only [okSlp, Bool.and_eq_true] at h
  exact ⟨okL7_true h.1, within_true h.2.1, okL7_true h.2.2.1, within_true h.2.2.2⟩
theorem slp_len (l f y : Int) (k : Nat) : (slp l f y k).length ≤ k := by
  induction k with
  | zero => simp [slp]
  | succ m ih => simp only [slp]; split <;> simp <;> omega
theorem SLP_len (l f y s : Int) : (SLP l f y s).length ≤ 4000000 := by
  unfold SLP
  split
  · rename_i h
    obtain ⟨_, _, _, _⟩ := okSlp_true h
    have := slp_len l f y (s.toNat + 1)
    omega
  · simp
theorem slp_yes {l f y : Int} {k : Nat} (e : f + (k : Int) * y ≤ l) : slp l f y (k + 1) = slp l f y k ++ [slv l f y k] := by rw [slp, if_pos e]
theorem slp_stop {l f y : Int} {k : Nat} (hy : 0 ≤ y) (e : l < f + (k : Int) * y) (m : Nat) : slp l f y (k + m) = slp l f y k := by
  induction m with
  | zero => rfl
  | succ m ih =>
    have h1 : (k : Int) * y ≤ ((k + m : Nat) : Int) * y := Int.mul_le_mul_of_nonneg_right (by omega) hy
    rw [← Nat.add_assoc, slp, if_neg (by omega), ih, List.append_nil]
theorem slp_end {l f y : Int} {k n : Nat} (hy : 0 ≤ y) (hk : k ≤ n) (e : l < f + (k : Int) * y) : slp l f y n = slp l f y k := by
  have := slp_stop hy e (n - k)
  rwa [show k + (n - k) = n by omega] at this
theorem slp_pos {l f y : Int} (h : f ≤ l) (k : Nat) : 1 ≤ (slp l f y (k + 1)).length := by
  induction k with
  | zero =>
    rw [slp_yes (by simpa using h)]
    simp
  | succ m ih =>
    rw [slp]
    simp only [List.length_append]
    omega
theorem slv_bd {l f y : Int} {k : Nat} (l2 : l ≤ 1000) (f0 : 0 ≤ f) (y0 : 0 ≤ y) (e : f + (k : Int) * y ≤ l) : 0 ≤ slv l f y k ∧ slv l f y k ≤ 1000000 := by
  have hk : 0 ≤ (k : Int) * y := Int.mul_nonneg (by omega) y0
  obtain ⟨_, m4, m5⟩ := reach_bd (l := l) (h := f + (k : Int) * y) l2 (by omega) e
  obtain ⟨r0, r1⟩ := rt_le m4
  exact ⟨r0, by unfold slv; omega⟩
theorem slp_mem {l f y : Int} (l2 : l ≤ 1000) (f0 : 0 ≤ f) (y0 : 0 ≤ y) (k : Nat) : ∀ x ∈ slp l f y k, 0 ≤ x ∧ x ≤ 1000000 := by
  induction k with
  | zero => intro x hx; simp [slp] at hx
  | succ m ih =>
    intro x hx
    simp only [slp, List.mem_append] at hx
    rcases hx with hx | hx
    · exact ih x hx
    · split at hx
      · rename_i h
        simp only [List.mem_singleton] at hx
        subst hx
        exact slv_bd l2 f0 y0 h
      · simp at hx
theorem getD_bd {xs : List Int} (h : ∀ x ∈ xs, 0 ≤ x ∧ x ≤ 1000000) (i : Nat) : 0 ≤ xs.getD i 0 ∧ xs.getD i 0 ≤ 1000000 := by
  by_cases hi : i < xs.length
  · have e : xs.getD i 0 = xs[i] := by simp [List.getD, hi]
    rw [e]
    exact h _ (List.getElem_mem hi)
  · have e : xs.getD i 0 = 0 := by simp [List.getD, List.getElem?_eq_none (Nat.le_of_not_lt hi)]
    rw [e]; omega
/-- how much less each is than the one before -/
def drp (xs : List Int) : Nat → List Int
  | 0 => []
  | k + 1 => drp xs k ++ [xs.getD k 0 - xs.getD (k + 1) 0]
theorem drp_len (xs : List Int) (k : Nat) : (drp xs k).length = k := by
  induction k with
  | zero => rfl
  | succ k ih => simp [drp, ih]
def DRP (l f y s : Int) : List Int := if okSlp l f y s then drp (slp l f y (s.toNat + 1)) ((slp l f y (s.toNat + 1)).length - 1) else []
theorem DRP_len (l f y s : Int) : (DRP l f y s).length ≤ 4000000 := by
  unfold DRP
  split
  · rename_i h
    obtain ⟨_, _, _, _⟩ := okSlp_true h
    have := slp_len l f y (s.toNat + 1)
    rw [drp_len]
    omega
  · simp
theorem below_under {B C : Nat} {u v : World} (h : Below C u v) (hB : B ≤ C) : Below B u v := h.mono hB
set_option maxRecDepth 100000 in
set_option maxHeartbeats 4000000 in
theorem impl_SlipHeights (l f y s : Int) (w : World) :
    Calls Try.prog 56 #[.int .i64 l, .int .i64 f, .int .i64 y, .int .i64 s] w fun e w' => ∃ v, e = .returned (.tuple #[v, .bool (okSlp l f y s)]) ∧ IRow w' w.heap.size v (SLP l f y s) ∧ Below w.heap.size w w' := by
  cases h1 : okL7 l
  · have HO := Lib.hid (show okSlp l f y s = false by simp [okSlp, h1])
    go_enter Try.func56, Try.ntmps56
    go_wp2_with fail
    refine (isOfLadder_any _ _).mono ?_
    rintro e w' ⟨rfl, rfl⟩
    rw [h1]
    go_wp2
    go_ret2
    exact ⟨_, by rw [HO.out]; rfl, by simp only [SLP, HO.out]; exact IRow.nil _ _, (by repeat (first | exact Below.refl _ _ | refine bl_alloc ?_ _ | refine bl_drewN ?_ _ | refine bl_trans (by assumption) ?_ | refine bl_set ?_ (by first | omega | (simp; done) | (simp; omega)) _))⟩
  cases h2 : within f 0 l
  · have HO := Lib.hid (show okSlp l f y s = false by simp [okSlp, h1, h2])
    go_enter Try.func56, Try.ntmps56
    go_wp2_with fail
    refine (isOfLadder_any _ _).mono ?_
    rintro e w' ⟨rfl, rfl⟩
    rw [h1]
    go_wp2_with fail
    refine (isWithin_any _ _ _ _).mono ?_
    rintro e w' ⟨rfl, rfl⟩
    rw [h2]
    go_wp2
    go_ret2
    exact ⟨_, by rw [HO.out]; rfl, by simp only [SLP, HO.out]; exact IRow.nil _ _, (by repeat (first | exact Below.refl _ _ | refine bl_alloc ?_ _ | refine bl_drewN ?_ _ | refine bl_trans (by assumption) ?_ | refine bl_set ?_ (by first | omega | (simp; done) | (simp; omega)) _))⟩
  cases h3 : okL7 y
  · have HO := Lib.hid (show okSlp l f y s = false by simp [okSlp, h1, h2, h3])
    go_enter Try.func56, Try.ntmps56
    go_wp2_with fail
    refine (isOfLadder_any _ _).mono ?_
    rintro e w' ⟨rfl, rfl⟩
    rw [h1]
    go_wp2_with fail
    refine (isWithin_any _ _ _ _).mono ?_
    rintro e w' ⟨rfl, rfl⟩
    rw [h2]
    go_wp2_with fail
    refine (isOfLadder_any _ _).mono ?_
    rintro e w' ⟨rfl, rfl⟩
    rw [h3]
    go_wp2
    go_ret2
    exact ⟨_, by rw [HO.out]; rfl, by simp only [SLP, HO.out]; exact IRow.nil _ _, (by repeat (first | exact Below.refl _ _ | refine bl_alloc ?_ _ | refine bl_drewN ?_ _ | refine bl_trans (by assumption) ?_ | refine bl_set ?_ (by first | omega | (simp; done) | (simp; omega)) _))⟩
  cases h4 : within s 0 50
  · have HO := Lib.hid (show okSlp l f y s = false by simp [okSlp, h1, h2, h3, h4])
    go_enter Try.func56, Try.ntmps56
    go_wp2_with fail
    refine (isOfLadder_any _ _).mono ?_
    rintro e w' ⟨rfl, rfl⟩
    rw [h1]
    go_wp2_with fail
    refine (isWithin_any _ _ _ _).mono ?_
    rintro e w' ⟨rfl, rfl⟩
    rw [h2]
    go_wp2_with fail
    refine (isOfLadder_any _ _).mono ?_
    rintro e w' ⟨rfl, rfl⟩
    rw [h3]
    go_wp2_with fail
    refine (isWithin_any _ _ _ _).mono ?_
    rintro e w' ⟨rfl, rfl⟩
    rw [h4]
    go_wp2
    go_ret2
    exact ⟨_, by rw [HO.out]; rfl, by simp only [SLP, HO.out]; exact IRow.nil _ _, (by repeat (first | exact Below.refl _ _ | refine bl_alloc ?_ _ | refine bl_drewN ?_ _ | refine bl_trans (by assumption) ?_ | refine bl_set ?_ (by first | omega | (simp; done) | (simp; omega)) _))⟩
  have HO := Lib.hid (show okSlp l f y s = true by simp [okSlp, h1, h2, h3, h4])
  obtain ⟨⟨l1, l2⟩, ⟨f1, f2⟩, ⟨y1, y2⟩, s1, s2⟩ := okSlp_true HO.out
  obtain ⟨n, hn⟩ : ∃ n : Nat, n = s.toNat := ⟨_, rfl⟩
  obtain rfl : s = (n : Int) := by omega
  have HE := Lib.hid (show SLP l f y (n : Int) = slp l f y (n + 1) by simp only [SLP, HO.out]; rfl)
  clear hn
  obtain ⟨i0, hi, hz0, hz1, hz2⟩ := info_parts infoI
  go_enter Try.func56, Try.ntmps56
  go_wp2_with fail
  refine (isOfLadder_any _ _).mono ?_
  rintro e w' ⟨rfl, rfl⟩
  rw [h1]
  go_wp2_with fail
  refine (isWithin_any _ _ _ _).mono ?_
  rintro e w' ⟨rfl, rfl⟩
  rw [h2]
  go_wp2_with fail
  refine (isOfLadder_any _ _).mono ?_
  rintro e w' ⟨rfl, rfl⟩
  rw [h3]
  go_wp2_with fail
  refine (isWithin_any _ _ _ _).mono ?_
  rintro e w' ⟨rfl, rfl⟩
  rw [h4]
  go_wp2_with fail
  clear h1 h2 h3 h4
  go_loopw [10, 33] (fun r t wr => ∃ k : Nat, k ≤ n + 1 ∧ t = .int .i64 (k : Int) ∧ IRow wr w.heap.size r (slp l f y k) ∧ Below w.heap.size w wr) (fun _ t _ => (n + 1 - (intOf t).toNat))
  case atStart => exact ⟨0, by omega, by simp, IRow.nil _ _, Below.refl _ _⟩
  case round =>
    obtain ⟨k, hk, rfl, hI, hB⟩ := hrel
    have HB := Lib.hid hB
    have HI := Lib.hid hI
    have hzz := hB.size
    clear hB hI
    by_cases hlt : k < n + 1
    · have hlt' : (k : Int) < (n : Int) + 1 := by omega
      obtain ⟨p0, p1⟩ := mul_bd2 (a := (k : Int)) (b := y) (m := 50) (k := 1000) (by omega) (by omega) (by omega) (by omega)
      by_cases hq : f + (k : Int) * y ≤ l
      · have HR := fun W => Lib.hid (reachOf_any l (f + (k : Int) * y) l2 (by omega) hq W)
        have HQ := Lib.hid (slp_yes (l := l) (f := f) (y := y) (k := k) hq)
        obtain ⟨v0, v1⟩ := slv_bd l2 f1 (by omega) hq
        have HV : ∀ W, Hid (Calls _ _ _ W _) := HR
        clear HV
        change ∀ W, Hid (Calls Try.prog 95 _ W fun e w' => e = .returned (.int .i64 (slv l f y k)) ∧ W = w') at HR
        generalize slv l f y k = V at *
        go_wp2_with fail
        refine ((HR _).out).mono ?_
        rintro e w' ⟨rfl, rfl⟩
        have hO := Lib.hid (show wr.ownsRow w.heap.size 3 1 u10 (slp l f y k).length ((slp l f y k).map (Value.int .i64)) from HI.out)
        have hlen := slp_len l f y k
        generalize hL : (slp l f y k).length = L at *
        have HL := Lib.hid hL
        clear hL
        go_wp2_with (at_builtin; refine wpList_append_own _ rfl _ _ 39 rfl (w.heap.size) 3 i0 (.int .i64 0) 1 8 Try.underlying39 hi hz0 hz1 hz2 rfl (by decide) _ _ _ rfl (hO.out.alloc _) ⟨wr.heap.size, 0, none⟩ 1 1 [.int .i64 (V)] rfl rfl ?c1 ?c2 ?c3 ?c4 ?c5 ?_)
        all_goals (try exact cell_one_alloc _ _ _ _ (by simp))
        case c2 => simp [Value.oneCell']
        case c3 => unfold maxLen; omega
        case c4 => omega
        case c5 => first | omega | (simp; omega)
        intro v' w3 hown1 hgrow1 _
        have hs1 := hgrow1.size
        simp only [World.size_alloc] at hs1
        rw [← HL.out] at hown1
        obtain ⟨r1, r2⟩ := IRow.push (x := V) (W := wr) (by omega) HI.out hown1 hgrow1
        rw [← HQ.out] at r1
        have Q1 := Lib.hid r1
        have Q2 := Lib.hid (HB.out.trans r2)
        clear r1 r2 hown1 hgrow1
        go_wp2
        go_roundw
        case rel => exact ⟨k + 1, by omega, by go_num, Q1.out, Q2.out⟩
        case measure => simp only [intOf]; omega
      · have hq' : l < f + (k : Int) * y := by omega
        have HS := Lib.hid (slp_end (l := l) (f := f) (y := y) (k := k) (n := n + 1) (by omega) (by omega) hq')
        go_wp2
        go_ret2
        exact ⟨_, by rw [HO.out]; rfl, by rw [HE.out, HS.out]; exact HI.out, HB.out⟩
    · obtain rfl : k = n + 1 := by omega
      go_wp2
      go_ret2
      exact ⟨_, by rw [HO.out]; rfl, by rw [HE.out]; exact HI.out, HB.out⟩
set_option maxHeartbeats 1000000 in
theorem lnAsked_any (l f y s : Int) (w : World) :
    Calls Try.prog 93 #[.int .i64 l, .int .i64 f, .int .i64 y, .int .i64 s] w fun e w' => e = .returned (.bool (okSlp l f y s)) ∧ w = w' := by
  cases h1 : okL7 l
  · have HO := Lib.hid (show okSlp l f y s = false by simp [okSlp, h1])
    go_enter Try.func93, Try.ntmps93
    go_wp2_with fail
    refine (lnLong_any _ _).mono ?_
    rintro e w' ⟨rfl, rfl⟩
    rw [h1]
    go_wp2
    go_ret
    exact ⟨by rw [HO.out]; rfl, rfl⟩
  cases h2 : within f 0 l
  · have HO := Lib.hid (show okSlp l f y s = false by simp [okSlp, h1, h2])
    go_enter Try.func93, Try.ntmps93
    go_wp2_with fail
    refine (lnLong_any _ _).mono ?_
    rintro e w' ⟨rfl, rfl⟩
    rw [h1]
    go_wp2_with fail
    refine (l1In_any _ _ _ _).mono ?_
    rintro e w' ⟨rfl, rfl⟩
    rw [h2]
    go_wp2
    go_ret
    exact ⟨by rw [HO.out]; rfl, rfl⟩
  cases h3 : okL7 y
  · have HO := Lib.hid (show okSlp l f y s = false by simp [okSlp, h1, h2, h3])
    go_enter Try.func93, Try.ntmps93
    go_wp2_with fail
    refine (lnLong_any _ _).mono ?_
    rintro e w' ⟨rfl, rfl⟩
    rw [h1]
    go_wp2_with fail
    refine (l1In_any _ _ _ _).mono ?_
    rintro e w' ⟨rfl, rfl⟩
    rw [h2]
    go_wp2_with fail
    refine (lnLong_any _ _).mono ?_
    rintro e w' ⟨rfl, rfl⟩
    rw [h3]
    go_wp2
    go_ret
    exact ⟨by rw [HO.out]; rfl, rfl⟩
  cases h4 : within s 0 50
  · have HO := Lib.hid (show okSlp l f y s = false by simp [okSlp, h1, h2, h3, h4])
    go_enter Try.func93, Try.ntmps93
    go_wp2_with fail
    refine (lnLong_any _ _).mono ?_
    rintro e w' ⟨rfl, rfl⟩
    rw [h1]
    go_wp2_with fail
    refine (l1In_any _ _ _ _).mono ?_
    rintro e w' ⟨rfl, rfl⟩
    rw [h2]
    go_wp2_with fail
    refine (lnLong_any _ _).mono ?_
    rintro e w' ⟨rfl, rfl⟩
    rw [h3]
    go_wp2_with fail
    refine (l1In_any _ _ _ _).mono ?_
    rintro e w' ⟨rfl, rfl⟩
    rw [h4]
    go_wp2
    go_ret
    exact ⟨by rw [HO.out]; rfl, rfl⟩
  have HO := Lib.hid (show okSlp l f y s = true by simp [okSlp, h1, h2, h3, h4])
  go_enter Try.func93, Try.ntmps93
  go_wp2_with fail
  refine (lnLong_any _ _).mono ?_
  rintro e w' ⟨rfl, rfl⟩
  rw [h1]
  go_wp2_with fail
  refine (l1In_any _ _ _ _).mono ?_
  rintro e w' ⟨rfl, rfl⟩
  rw [h2]
  go_wp2_with fail
  refine (lnLong_any _ _).mono ?_
  rintro e w' ⟨rfl, rfl⟩
  rw [h3]
  go_wp2_with fail
  refine (l1In_any _ _ _ _).mono ?_
  rintro e w' ⟨rfl, rfl⟩
  rw [h4]
  go_wp2
  go_ret
  exact ⟨by rw [HO.out]; rfl, rfl⟩
set_option maxRecDepth 100000 in
set_option maxHeartbeats 4000000 in
theorem lnSlips_any (l f y s : Int) (ho : okSlp l f y s = true) (w : World) :
    Calls Try.prog 94 #[.int .i64 l, .int .i64 f, .int .i64 y, .int .i64 s] w fun e w' => ∃ v, e = .returned v ∧ IRow w' w.heap.size v (SLP l f y s) ∧ Below w.heap.size w w' := by
  obtain ⟨⟨l1, l2⟩, ⟨f1, f2⟩, ⟨y1, y2⟩, s1, s2⟩ := okSlp_true ho
  have HO := Lib.hid ho
  clear ho
  obtain ⟨n, hn⟩ : ∃ n : Nat, n = s.toNat := ⟨_, rfl⟩
  obtain rfl : s = (n : Int) := by omega
  have HE := Lib.hid (show SLP l f y (n : Int) = slp l f y (n + 1) by simp only [SLP, HO.out]; rfl)
  clear hn
  obtain ⟨i0, hi, hz0, hz1, hz2⟩ := info_parts infoI
  go_enter Try.func94, Try.ntmps94
  go_wp2_with fail
  go_loopw [9, 10, 1] (fun r t g wr => ∃ k : Nat, k ≤ n + 1 ∧ t = .int .i64 (k : Int) ∧ g = .int .i64 (f + (k : Int) * y) ∧ IRow wr w.heap.size r (slp l f y k) ∧ Below w.heap.size w wr) (fun _ t _ _ => (n + 1 - (intOf t).toNat))
  case atStart => exact ⟨0, by omega, by simp, by simp, IRow.nil _ _, Below.refl _ _⟩
  case round =>
    obtain ⟨k, hk, rfl, rfl, hI, hB⟩ := hrel
    have HB := Lib.hid hB
    have HI := Lib.hid hI
    have hzz := hB.size
    clear hB hI
    obtain ⟨p0, p1⟩ := mul_bd2 (a := (k : Int)) (b := y) (m := 51) (k := 1000) (by omega) (by omega) (by omega) (by omega)
    have HX := Lib.hid (show f + (((k + 1 : Nat) : Nat) : Int) * y = f + (k : Int) * y + y by push_cast; rw [Int.add_mul, Int.one_mul, Int.add_assoc])
    by_cases hlt : k ≤ n
    · have hlt' : (k : Int) ≤ (n : Int) := by omega
      by_cases hq : f + (k : Int) * y ≤ l
      · have HQ := Lib.hid (slp_yes (l := l) (f := f) (y := y) (k := k) hq)
        obtain ⟨v0, v1⟩ := slv_bd l2 f1 (by omega) hq
        have HV0 := Lib.hid (show slv l f y k = rt (l * l - (f + (k : Int) * y) * (f + (k : Int) * y)) from rfl)
        generalize slv l f y k = V at *
        have z0 : 0 ≤ f + (k : Int) * y := by omega
        generalize f + (k : Int) * y = z at *
        obtain ⟨⟨⟨m0, m1⟩, m2, m3⟩, m4, m5⟩ := reach_bd (l := l) (h := z) l2 (by omega) hq
        have HR := fun W => Lib.hid (clRoot_any (l * l - z * z) m4 (by omega) W)
        rw [← HV0.out] at HR
        go_wp2_with fail
        refine ((HR _).out).mono ?_
        rintro e w' ⟨rfl, rfl⟩
        have hO := Lib.hid (show wr.ownsRow w.heap.size 3 1 u9 (slp l f y k).length ((slp l f y k).map (Value.int .i64)) from HI.out)
        have hlen := slp_len l f y k
        generalize hL : (slp l f y k).length = L at *
        have HL := Lib.hid hL
        clear hL
        go_wp2_with (at_builtin; refine wpList_append_own _ rfl _ _ 39 rfl (w.heap.size) 3 i0 (.int .i64 0) 1 8 Try.underlying39 hi hz0 hz1 hz2 rfl (by decide) _ _ _ rfl (hO.out.alloc _) ⟨wr.heap.size, 0, none⟩ 1 1 [.int .i64 (V)] rfl rfl ?c1 ?c2 ?c3 ?c4 ?c5 ?_)
        all_goals (try exact cell_one_alloc _ _ _ _ (by simp))
        case c2 => simp [Value.oneCell']
        case c3 => unfold maxLen; omega
        case c4 => omega
        case c5 => first | omega | (simp; omega)
        intro v' w3 hown1 hgrow1 _
        have hs1 := hgrow1.size
        simp only [World.size_alloc] at hs1
        rw [← HL.out] at hown1
        obtain ⟨r1, r2⟩ := IRow.push (x := V) (W := wr) (by omega) HI.out hown1 hgrow1
        rw [← HQ.out] at r1
        have Q1 := Lib.hid r1
        have Q2 := Lib.hid (HB.out.trans r2)
        clear r1 r2 hown1 hgrow1
        go_wp2
        go_roundw
        case rel => exact ⟨k + 1, by omega, by go_num, by rw [HX.out], Q1.out, Q2.out⟩
        case measure => simp only [intOf]; omega
      · have hq' : l < f + (k : Int) * y := by omega
        have HS := Lib.hid (slp_end (l := l) (f := f) (y := y) (k := k) (n := n + 1) (by omega) (by omega) hq')
        go_wp2
        go_ret
        exact ⟨_, rfl, by rw [HE.out, HS.out]; exact HI.out, HB.out⟩
    · obtain rfl : k = n + 1 := by omega
      go_wp2
      go_ret
      exact ⟨_, rfl, by rw [HE.out]; exact HI.out, HB.out⟩
set_option maxRecDepth 100000 in
set_option maxHeartbeats 1000000 in
theorem spec_SlipHeights (l f y s : Int) (w : World) :
    Calls Try.prog 55 #[.int .i64 l, .int .i64 f, .int .i64 y, .int .i64 s] w fun e w' => ∃ v, e = .returned (.tuple #[v, .bool (okSlp l f y s)]) ∧ IRow w' w.heap.size v (SLP l f y s) ∧ Below w.heap.size w w' := by
  cases ho : okSlp l f y s
  · have HE := Lib.hid (show SLP l f y s = [] by simp [SLP, ho])
    go_enter Try.func55, Try.ntmps55
    go_wp2_with fail
    refine (lnAsked_any _ _ _ _ _).mono ?_
    rintro e w' ⟨rfl, rfl⟩
    rw [ho]
    go_wp2
    go_ret2
    exact ⟨_, rfl, by rw [HE.out]; exact IRow.nil _ _, (by repeat (first | exact Below.refl _ _ | refine bl_alloc ?_ _ | refine bl_drewN ?_ _ | refine bl_trans (by assumption) ?_ | refine bl_set ?_ (by first | omega | (simp; done) | (simp; omega)) _))⟩
  · have HL := fun W => Lib.hid (lnSlips_any l f y s ho W)
    go_enter Try.func55, Try.ntmps55
    go_wp2_with fail
    refine (lnAsked_any _ _ _ _ _).mono ?_
    rintro e w' ⟨rfl, rfl⟩
    rw [ho]
    go_wp2_with fail
    refine ((HL _).out).mono ?_
    rintro e w1 ⟨v, rfl, hR, hb⟩
    have HR := Lib.hid hR
    clear hR
    go_wp2
    go_ret2
    exact ⟨_, rfl, HR.out, hb⟩
set_option maxRecDepth 100000 in
set_option maxHeartbeats 4000000 in
theorem impl_SlipDrops (l f y s : Int) (w : World) :
    Calls Try.prog 58 #[.int .i64 l, .int .i64 f, .int .i64 y, .int .i64 s] w fun e w' => ∃ v, e = .returned (.tuple #[v, .bool (okSlp l f y s)]) ∧ IRow w' w.heap.size v (DRP l f y s) ∧ Below w.heap.size w w' := by
  cases ho : okSlp l f y s
  · have HE := Lib.hid (show DRP l f y s = [] by simp [DRP, ho])
    have HP := fun W => Lib.hid (impl_SlipHeights l f y s W)
    go_enter Try.func58, Try.ntmps58
    go_wp2_with fail
    refine ((HP _).out).mono ?_
    rintro e w1 ⟨v, rfl, hR, hb⟩
    rw [ho]
    clear hR
    go_wp2
    go_ret2
    exact ⟨_, rfl, by rw [HE.out]; exact IRow.nil _ _, hb⟩
  · obtain ⟨⟨l1, l2⟩, ⟨f1, f2⟩, ⟨y1, y2⟩, s1, s2⟩ := okSlp_true ho
    have HE := Lib.hid (show DRP l f y s = drp (slp l f y (s.toNat + 1)) ((slp l f y (s.toNat + 1)).length - 1) by simp only [DRP, ho]; rfl)
    have HS := Lib.hid (show SLP l f y s = slp l f y (s.toNat + 1) by simp only [SLP, ho]; rfl)
    have hpos := slp_pos (l := l) (f := f) (y := y) f2 s.toNat
    have hle := slp_len l f y (s.toNat + 1)
    have HM := Lib.hid (getD_bd (slp_mem (l := l) (f := f) (y := y) l2 f1 (by omega) (s.toNat + 1)))
    obtain ⟨i0, hi, hz0, hz1, hz2⟩ := info_parts infoI
    have HP := fun W => Lib.hid (impl_SlipHeights l f y s W)
    go_enter Try.func58, Try.ntmps58
    go_wp2_with fail
    refine ((HP _).out).mono ?_
    rintro e w1 ⟨v, rfl, hR, hb⟩
    rw [ho]
    have HR := hR
    rw [HS.out] at HR
    clear hR HS
    obtain ⟨g, cap, rfl, hgB, hg, hn, hm, hc, hf⟩ := HR.some_ (by omega)
    have HC := Lib.hid hc
    unfold maxLen at hm
    clear HR hc hf
    generalize slp l f y (s.toNat + 1) = xs at *
    generalize hN : xs.length = N at *
    have HN := Lib.hid hN
    clear hN
    go_wp2_with fail
    · obtain rfl : N = 1 := by omega
      go_loopw [12, 28] (fun r t wr => r = .slice none 0 0 ∧ t = .int .i64 0 ∧ wr = w1) (fun _ _ _ => 0)
      case atStart => exact ⟨rfl, rfl, rfl⟩
      case round =>
        obtain ⟨rfl, rfl, rfl⟩ := hrel
        go_wp2
        go_ret2
        exact ⟨_, rfl, by rw [HE.out]; exact IRow.nil _ _, hb⟩
    go_loopw [12, 28] (fun r t wr => ∃ k : Nat, k ≤ N - 1 ∧ t = .int .i64 ((k : Int)) ∧ IRow wr w1.heap.size r (drp xs k) ∧ Below w1.heap.size w1 wr) (fun _ t _ => (N + 1 - (intOf t).toNat))
    case atStart => exact ⟨0, by omega, by simp, IRow.nil _ _, Below.refl _ _⟩
    case round =>
    obtain ⟨k, hk, rfl, hI, hB⟩ := hrel
    have HB := Lib.hid hB
    have HI := Lib.hid hI
    have hzz := hB.size
    clear hI
    by_cases hlt : k < N - 1
    · have hlt' : (k : Int) < ((N - 1 : Nat) : Int) := by omega
      have hlt2 : (k : Int) + 1 < (N : Int) := by omega
      have c0 := cell_after hB hg (HC.out k (by omega))
      have c1 := cell_after hB hg (HC.out (k + 1) (by omega))
      have c2 : wr.cell? ⟨g, 1 + k, none⟩ = some (.int .i64 (xs.getD (k + 1) 0)) := by rw [Nat.add_comm 1 k]; exact c1
      have hlt3 : (k : Int) < (N : Int) := by omega
      clear hB
      obtain ⟨b0, b1⟩ := HM.out k
      obtain ⟨b2, b3⟩ := HM.out (k + 1)
      have hdl := drp_len xs k
      have HQ := Lib.hid (show drp xs (k + 1) = drp xs k ++ [xs.getD k 0 - xs.getD (k + 1) 0] from rfl)
      clear HM HC
      generalize xs.getD k 0 = p at *
      generalize xs.getD (k + 1) 0 = q at *
      have hO := HI.out
      unfold IRow at hO
      rw [hdl] at hO
      have hO := Lib.hid hO
      clear hdl
      go_wp2_with (at_builtin; refine wpList_append_own _ rfl _ _ 39 rfl (w1.heap.size) 3 i0 (.int .i64 0) 1 8 Try.underlying39 hi hz0 hz1 hz2 rfl (by decide) _ _ _ rfl (hO.out.alloc _) ⟨wr.heap.size, 0, none⟩ 1 1 [.int .i64 (p - q)] rfl rfl ?c1 ?c2 ?c3 ?c4 ?c5 ?_)
      all_goals (try exact cell_one_alloc _ _ _ _ (by simp))
      case c2 => simp [Value.oneCell']
      case c3 => unfold maxLen; omega
      case c4 => omega
      case c5 => first | omega | (simp; omega)
      intro v' w3 hown1 hgrow1 _
      have hs1 := hgrow1.size
      simp only [World.size_alloc] at hs1
      obtain ⟨r1, r2⟩ := IRow.push (x := p - q) (W := wr) (by omega) HI.out (by rw [drp_len]; exact hown1) hgrow1
      rw [← HQ.out] at r1
      have Q1 := Lib.hid r1
      have Q2 := Lib.hid (HB.out.trans r2)
      clear r1 r2 hown1 hgrow1
      go_wp2
      go_roundw
      case rel => exact ⟨k + 1, by omega, by go_num, Q1.out, Q2.out⟩
      case measure => simp only [intOf]; omega
    · obtain rfl : k = N - 1 := by omega
      clear hB
      go_wp2
      go_ret2
      exact ⟨_, rfl, by rw [HE.out]; exact HI.out.mono (by omega), bl_trans HB.out hb⟩
set_option maxRecDepth 100000 in
set_option maxHeartbeats 4000000 in
theorem spec_SlipDrops (l f y s : Int) (w : World) :
    Calls Try.prog 57 #[.int .i64 l, .int .i64 f, .int .i64 y, .int .i64 s] w fun e w' => ∃ v, e = .returned (.tuple #[v, .bool (okSlp l f y s)]) ∧ IRow w' w.heap.size v (DRP l f y s) ∧ Below w.heap.size w w' := by
  cases ho : okSlp l f y s
  · have HE := Lib.hid (show DRP l f y s = [] by simp [DRP, ho])
    go_enter Try.func57, Try.ntmps57
    go_wp2_with fail
    refine (lnAsked_any _ _ _ _ _).mono ?_
    rintro e w' ⟨rfl, rfl⟩
    rw [ho]
    go_wp2
    go_ret2
    exact ⟨_, rfl, by rw [HE.out]; exact IRow.nil _ _, (by repeat (first | exact Below.refl _ _ | refine bl_alloc ?_ _ | refine bl_drewN ?_ _ | refine bl_trans (by assumption) ?_ | refine bl_set ?_ (by first | omega | (simp; done) | (simp; omega)) _))⟩
  · obtain ⟨⟨l1, l2⟩, ⟨f1, f2⟩, ⟨y1, y2⟩, s1, s2⟩ := okSlp_true ho
    have HE := Lib.hid (show DRP l f y s = drp (slp l f y (s.toNat + 1)) ((slp l f y (s.toNat + 1)).length - 1) by simp only [DRP, ho]; rfl)
    have HS := Lib.hid (show SLP l f y s = slp l f y (s.toNat + 1) by simp only [SLP, ho]; rfl)
    have hpos := slp_pos (l := l) (f := f) (y := y) f2 s.toNat
    have hle := slp_len l f y (s.toNat + 1)
    have HM := Lib.hid (getD_bd (slp_mem (l := l) (f := f) (y := y) l2 f1 (by omega) (s.toNat + 1)))
    obtain ⟨i0, hi, hz0, hz1, hz2⟩ := info_parts infoI
    have HP := fun W => Lib.hid (lnSlips_any l f y s ho W)
    go_enter Try.func57, Try.ntmps57
    go_wp2_with fail
    refine (lnAsked_any _ _ _ _ _).mono ?_
    rintro e w' ⟨rfl, rfl⟩
    rw [ho]
    go_wp2_with fail
    refine ((HP _).out).mono ?_
    rintro e w1 ⟨v, rfl, hR, hb⟩
    have HR := hR
    rw [HS.out] at HR
    clear hR HS
    obtain ⟨g, cap, rfl, hgB, hg, hn, hm, hc, hf⟩ := HR.some_ (by omega)
    have HC := Lib.hid hc
    unfold maxLen at hm
    clear HR hc hf
    generalize slp l f y (s.toNat + 1) = xs at *
    generalize hN : xs.length = N at *
    have HN := Lib.hid hN
    clear hN
    go_wp2_with fail
    go_loopw [11, 12] (fun r t wr => ∃ k : Nat, k ≤ N - 1 ∧ t = .int .i64 ((k : Int) + 1) ∧ IRow wr w1.heap.size r (drp xs k) ∧ Below w1.heap.size w1 wr) (fun _ t _ => (N + 1 - (intOf t).toNat))
    case atStart => exact ⟨0, by omega, by simp, IRow.nil _ _, Below.refl _ _⟩
    case round =>
    obtain ⟨k, hk, rfl, hI, hB⟩ := hrel
    have HB := Lib.hid hB
    have HI := Lib.hid hI
    have hzz := hB.size
    clear hI
    by_cases hlt : k < N - 1
    · have hlt' : (k : Int) < ((N - 1 : Nat) : Int) := by omega
      have hlt2 : (k : Int) + 1 < (N : Int) := by omega
      have c0 := cell_after hB hg (HC.out k (by omega))
      have c1 := cell_after hB hg (HC.out (k + 1) (by omega))
      have c2 : wr.cell? ⟨g, 1 + k, none⟩ = some (.int .i64 (xs.getD (k + 1) 0)) := by rw [Nat.add_comm 1 k]; exact c1
      have hlt3 : (k : Int) < (N : Int) := by omega
      clear hB
      obtain ⟨b0, b1⟩ := HM.out k
      obtain ⟨b2, b3⟩ := HM.out (k + 1)
      have hdl := drp_len xs k
      have HQ := Lib.hid (show drp xs (k + 1) = drp xs k ++ [xs.getD k 0 - xs.getD (k + 1) 0] from rfl)
      clear HM HC
      generalize xs.getD k 0 = p at *
      generalize xs.getD (k + 1) 0 = q at *
      have hO := HI.out
      unfold IRow at hO
      rw [hdl] at hO
      have hO := Lib.hid (show wr.drew.ownsRow w1.heap.size 3 1 u11 k ((drp xs k).map (Value.int .i64)) from hO)
      clear hdl
      have hk1 : (0 : Int) ≤ (k : Int) + 1 := by omega
      have hk0 : (0 : Int) ≤ (k : Int) := by omega
      have hwk : IntKind.i64.wrap (k : Int) = (k : Int) := IntWalk.i64_in _ ⟨by omega, by omega⟩
      have hwp : IntKind.i64.wrap (p - q) = p - q := IntWalk.i64_in _ ⟨by omega, by omega⟩
      have c0 : wr.drew.cell? ⟨g, k, none⟩ = some (.int .i64 p) := c0
      have c1 : wr.drew.cell? ⟨g, k + 1, none⟩ = some (.int .i64 q) := c1
      go_wp2_with fail
      go_region_law (refine step_append_lies _ rfl _ _ 39 rfl w1.heap.size 3 i0 (.int .i64 0) 1 8 Try.underlying39 hi hz0 hz1 hz2 rfl (by decide) _ _ _ rfl (World.ownsRow.alloc (w := wr.drew) hO.out _) ⟨_, 0, none⟩ 1 1 [.int .i64 (p - q)] rfl rfl (cell_one_alloc _ _ _ _ rfl) (by simp [Value.oneCell']) (by decide) (by unfold maxLen; omega) (by omega) (by simp; omega) _ rfl ?_; intro g3 cp wn hown1 hgrow1 hat hlt2)
      all_goals
        obtain ⟨r1, r2⟩ := IRow.push (x := p - q) (W := wr.drew) (by simp; omega) (show IRow wr.drew _ _ _ from HI.out) (by rw [drp_len]; exact hown1) hgrow1
        rw [← HQ.out] at r1
        have Q1 := Lib.hid r1
        have Q2 := Lib.hid (HB.out.trans (show Below w1.heap.size wr wn from (Below.drew (Below.refl _ _)).trans r2))
        clear r1 r2 hown1 hgrow1 hat hlt2
        go_wp2
        go_roundw
        case rel => exact ⟨k + 1, by omega, by go_num, Q1.out, Q2.out⟩
        case measure => simp only [intOf]; omega
    · obtain rfl : k = N - 1 := by omega
      clear hB
      go_wp2
      go_ret2
      exact ⟨_, rfl, by rw [HE.out]; exact HI.out.mono (by omega), bl_trans HB.out hb⟩
end Go.Proofs.Ytjboffbhkffhkaa
