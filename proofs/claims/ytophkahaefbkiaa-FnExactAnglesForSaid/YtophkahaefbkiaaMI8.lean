/- How many images a wedge has. -/
import Derived.Test.YtophkahaefbkiaaMI7
namespace Go.Proofs.Ytophkahaefbkiaa
open Go.RowKit MW
def imgsTo (a p k : Nat) : List Nat := (List.range k).filter fun y => decide (0 < (fin a p).getD y 0)
theorem imgsTo_yes {a p k : Nat} (h : 0 < (fin a p).getD k 0) : imgsTo a p (k + 1) = imgsTo a p k ++ [k] := by
  rw [imgsTo, List.range_succ, List.filter_append]
  have : (List.filter (fun y => decide (0 < (fin a p).getD y 0)) [k]) = [k] := by rw [List.filter_cons_of_pos (by simpa using h)]; rfl
  rw [this, imgsTo]
theorem imgsTo_no {a p k : Nat} (h : ¬ 0 < (fin a p).getD k 0) : imgsTo a p (k + 1) = imgsTo a p k := by
  rw [imgsTo, List.range_succ, List.filter_append]
  have : (List.filter (fun y => decide (0 < (fin a p).getD y 0)) [k]) = [] := by rw [List.filter_cons_of_neg (by simpa using h)]; rfl
  rw [this, imgsTo, List.append_nil]
theorem imgsTo_len (a p k : Nat) : (imgsTo a p k).length ≤ k := by
  have := List.length_filter_le (fun y => decide (0 < (fin a p).getD y 0)) (List.range k)
  rwa [List.length_range] at this
theorem imgsTo_all (a p : Nat) : ints (imgsTo a p 360) = imgs a p := rfl

set_option maxHeartbeats 1000000 in
theorem miImages_any (a p : Nat) (ok : Ok a p) (w : World) :
    Calls Try.prog 44 #[.int .i64 a, .int .i64 p] w fun e w' => ∃ u, e = .returned u ∧ IRow w' w.heap.size u (imgs a p) ∧ Below w.heap.size w w' := by
  obtain ⟨i0, hi, hz0, hz1, hz2⟩ := info_parts infoI
  have HLF := Lib.hid (fin_len a p)
  go_enter Try.func44, Try.ntmps44
  go_wp2_with fail
  refine (miSteps_any _ _ ok _).mono ?_
  rintro e w1 ⟨u, rfl, hu, hb1⟩
  obtain ⟨g, cap, hv, hg0, hgs, hgl, hgm, hgc, hgf⟩ := hu.some_ (by rw [HLF.out]; omega)
  rw [HLF.out] at hv hgl hgc
  subst hv
  have HU := Lib.hid hu
  have HB := Lib.hid hb1
  have hbs := hb1.size
  clear hu hb1 hgc hgf ok
  go_wp2
  rename World => wo
  have hgs' : g < wo.heap.size := hgs
  go_loopw [5, 12] (fun out i wr => ∃ k : Nat, k ≤ 360 ∧ i = .int .i64 (k : Int) ∧ IRow wr wo.heap.size out (ints (imgsTo a p k)) ∧ IRow wr w.heap.size (.slice (some ⟨g, 0, none⟩) 360 cap) (fin a p) ∧ Below w.heap.size w wr ∧ wo.heap.size ≤ wr.heap.size) (fun _ i _ => 360 - (intOf i).toNat)
  case atStart => exact ⟨0, Nat.zero_le _, rfl, World.ownsRow_nil _ _ _ 1, HU.out, HB.out, Nat.le_refl _⟩
  case round =>
    obtain ⟨k, hk, rfl, hI, hR, hW, hS⟩ := hrel
    have HI := Lib.hid hI
    have HR := Lib.hid hR
    have HW := Lib.hid hW
    have HSZ := Lib.hid hS
    by_cases hlt : k < 360
    · have hlt' : (k : Int) < 360 := by omega
      obtain ⟨g', c', he, _, _, _, _, hc, _⟩ := hR.some_ (by rw [HLF.out]; omega)
      rw [HLF.out] at he hc
      simp only [Value.slice.injEq, Option.some.injEq, Addr.mk.injEq, and_true, true_and] at he
      obtain ⟨rfl, rfl⟩ := he
      have c1 := hc k hlt
      clear hI hR hW hc
      by_cases hv : 0 < (fin a p).getD k 0
      · have HQ := Lib.hid (imgsTo_yes hv)
        generalize (fin a p).getD k 0 = z at *
        have hll : (ints (imgsTo a p k)).length ≤ 360 := by rw [ints_len]; have := imgsTo_len a p k; omega
        have hO := Lib.hid (show wr.ownsRow wo.heap.size 3 1 u5 (ints (imgsTo a p k)).length ((ints (imgsTo a p k)).map (Value.int .i64)) from HI.out)
        generalize hK : (ints (imgsTo a p k)).length = K at *
        have HK := Lib.hid hK
        clear hK
        go_wp2_with (at_builtin; refine wpList_append_own _ rfl _ _ 35 rfl wo.heap.size 3 i0 (.int .i64 0) 1 8 Try.underlying35 hi hz0 hz1 hz2 rfl (by decide) _ _ _ rfl (hO.out.alloc _) ⟨wr.heap.size, 0, none⟩ 1 1 [.int .i64 (k : Int)] rfl rfl ?c1 ?c2 ?c3 ?c4 ?c5 ?_)
        all_goals (try first | exact cell_one_new _ _ _ | exact cell_one_alloc _ _ _ _ (by simp))
        case c2 => simp [Value.oneCell']
        case c3 => unfold maxLen; omega
        case c4 => omega
        case c5 => first | omega | (simp; omega)
        intro v' w3 hown1 hgrow1 _
        rw [← HK.out] at hown1
        obtain ⟨z1, z2⟩ := IRow.push1 (x := (k : Int)) (W := wr) HSZ.out HI.out hown1 hgrow1
        rw [← ints_snoc, ← HQ.out] at z1
        have hsz3 := z2.size
        have Z1 := Lib.hid z1
        have ZR := Lib.hid (HR.out.keepD z2 (fun q e => by simp [Value.ownBlock] at e; omega))
        have ZW := Lib.hid (HW.out.trans (z2.mono (by omega)))
        clear z1 z2 hown1 hgrow1 hO HI HR HW
        go_wp2
        go_roundw
        case rel => exact ⟨k + 1, by omega, by go_num, Z1.out, ZR.out, ZW.out, by omega⟩
        case measure => simp only [intOf]; omega
      · have HQ := Lib.hid (imgsTo_no hv)
        generalize (fin a p).getD k 0 = z at *
        go_wp2
        go_roundw
        case rel => exact ⟨k + 1, by omega, by go_num, by rw [HQ.out]; exact HI.out, HR.out, HW.out, HSZ.out⟩
        case measure => simp only [intOf]; omega
    · obtain rfl : k = 360 := by omega
      clear hI hR hW
      go_wp2
      go_ret
      exact ⟨_, rfl, by rw [← imgsTo_all]; exact HI.out.base (by omega), HW.out⟩

def okWa (a : Int) : Bool := within a 1 90 && decide (180 % a = 0)
def okWe (a p : Int) : Bool := okWa a && within p 1 (a - 1)
theorem rem_zero {m : Nat} : ((180 : Int) % (m : Int) = 0) ↔ 180 % m = 0 := by
  have e : (180 : Int) % (m : Int) = ((180 % m : Nat) : Int) := by rw [Int.natCast_emod]; rfl
  rw [e]
  exact Int.natCast_eq_zero
theorem okWe_ok {a p : Int} (h : okWe a p = true) : ∃ m n : Nat, a = (m : Int) ∧ p = (n : Int) ∧ Ok m n := by
  simp only [okWe, okWa, Bool.and_eq_true, decide_eq_true_eq] at h
  obtain ⟨⟨h1, h2⟩, h3⟩ := h
  have := within_true h1
  have := within_true h3
  obtain ⟨m, rfl⟩ := Int.eq_ofNat_of_zero_le (show 0 ≤ a by omega)
  obtain ⟨n, rfl⟩ := Int.eq_ofNat_of_zero_le (show 0 ≤ p by omega)
  refine ⟨m, n, rfl, rfl, ?_, by omega, by omega⟩
  exact angles_all ⟨m, by omega⟩ ⟨by show 1 < m; omega, rem_zero.1 h2⟩
def CW (a p : Int) : Int := if okWe a p then 360 / a - 1 else 0
set_option maxHeartbeats 400000 in
theorem isWedge_any (a : Int) (w : World) : Calls Try.prog 58 #[.int .i64 a] w fun e w' => e = .returned (.bool (okWa a)) ∧ w = w' := by
  cases h1 : within a 1 90
  · go_enter Try.func58, Try.ntmps58
    go_wp2_with (go_at_call 31; refine (isWithin_any _ _ _ _).mono ?_; rintro e w' ⟨rfl, rfl⟩; rw [h1])
    go_ret
    exact ⟨by simp [okWa, h1], rfl⟩
  · have hb := within_true h1
    obtain ⟨m, rfl⟩ := Int.eq_ofNat_of_zero_le (show 0 ≤ a by omega)
    have hne : ((m : Int) == 0) = false := by simp; omega
    have hr0 : 0 ≤ (180 : Int) % (m : Int) := Int.emod_nonneg _ (by omega)
    have hr1 : (180 : Int) % (m : Int) ≤ 180 := by have := Int.emod_lt_of_pos (180 : Int) (b := (m : Int)) (by omega); omega
    by_cases hr : (180 : Int) % (m : Int) = 0
    · have HD := Lib.hid (show okWa m = true by simp [okWa, h1, hr])
      go_enter Try.func58, Try.ntmps58
      go_wp2_with (go_at_call 31; refine (isWithin_any _ _ _ _).mono ?_; rintro e w' ⟨rfl, rfl⟩; rw [h1])
      go_ret
      exact ⟨by rw [HD.out]; first | done | rfl, rfl⟩
    · have hrb : ((180 : Int) % (m : Int) == 0) = false := by simp [hr]
      have HD := Lib.hid (show okWa m = false by simp [okWa, hr])
      go_enter Try.func58, Try.ntmps58
      go_wp2_with (go_at_call 31; refine (isWithin_any _ _ _ _).mono ?_; rintro e w' ⟨rfl, rfl⟩; rw [h1])
      go_ret
      exact ⟨by rw [HD.out]; first | done | rfl, rfl⟩
set_option maxHeartbeats 400000 in
theorem isInWedge_any (a b : Int) (w : World) : Calls Try.prog 45 #[.int .i64 a, .int .i64 b] w fun e w' => e = .returned (.bool (okWe a b)) ∧ w = w' := by
  cases h : okWa a
  · go_enter Try.func45, Try.ntmps45
    go_wp2_with (go_at_call 58; refine (isWedge_any _ _).mono ?_; rintro e w' ⟨rfl, rfl⟩; rw [h])
    go_ret
    exact ⟨by simp [okWe, h], rfl⟩
  · have hb := within_true (show within a 1 90 = true by simp only [okWa, Bool.and_eq_true] at h; exact h.1)
    have HD := Lib.hid (show okWe a b = within b 1 (a - 1) by simp [okWe, h])
    go_enter Try.func45, Try.ntmps45
    go_wp2_with (first | (go_at_call 58; refine (isWedge_any _ _).mono ?_; rintro e w' ⟨rfl, rfl⟩; rw [h]) | (go_at_call 31; refine (isWithin_any _ _ _ _).mono ?_; rintro e w' ⟨rfl, rfl⟩))
    go_ret
    exact ⟨by rw [HD.out]; first | done | rfl, rfl⟩
set_option maxHeartbeats 400000 in
theorem imagesOfWedge_any (m : Nat) (h1 : 1 ≤ m) (h2 : m ≤ 90) (w : World) : Calls Try.prog 46 #[.int .i64 m] w fun e w' => e = .returned (.int .i64 (360 / (m : Int) - 1)) ∧ w = w' := by
  have hne : ((m : Int) == 0) = false := by simp; omega
  have hq0 : 0 ≤ (360 : Int) / (m : Int) := Int.ediv_nonneg (by omega) (by omega)
  have hq1 : (360 : Int) / (m : Int) ≤ 360 := by have := Int.ediv_le_self (a := 360) (m : Int) (by omega); omega
  go_enter Try.func46, Try.ntmps46
  go_wp2
  go_ret
  exact ⟨by simp, rfl⟩
end Go.Proofs.Ytophkahaefbkiaa
