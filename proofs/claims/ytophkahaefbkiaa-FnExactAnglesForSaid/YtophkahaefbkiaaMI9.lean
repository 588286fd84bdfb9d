/- The angles of wedges with so many images. -/
import Derived.Test.YtophkahaefbkiaaMI8
namespace Go.Proofs.Ytophkahaefbkiaa
open Go.RowKit MW
def angOk (n : Int) (a : Nat) : Bool := decide (2 ≤ a) && (decide (180 % a = 0) && decide (((360 / a - 1 : Nat) : Int) = n))
def angTo (n : Int) (k : Nat) : List Nat := (List.range k).filter (angOk n)
theorem angTo_yes {n : Int} {k : Nat} (h : angOk n k = true) : angTo n (k + 1) = angTo n k ++ [k] := by
  rw [angTo, List.range_succ, List.filter_append, List.filter_cons_of_pos h]
  rfl
theorem angTo_no {n : Int} {k : Nat} (h : angOk n k = false) : angTo n (k + 1) = angTo n k := by
  rw [angTo, List.range_succ, List.filter_append, List.filter_cons_of_neg (by simp [h])]
  exact List.append_nil _
theorem angTo_len (n : Int) (k : Nat) : (angTo n k).length ≤ k := by
  have := List.length_filter_le (angOk n) (List.range k)
  rwa [List.length_range] at this
theorem angTo_two (n : Int) : angTo n 2 = [] := by
  have h0 : angOk n 0 = false := by simp [angOk]
  have h1 : angOk n 1 = false := by simp [angOk]
  rw [angTo_no h1, angTo_no h0]
  rfl
def okAF (n : Int) : Bool := within n 1 359
def ANG (n : Int) : List Int := if okAF n then ints (angTo n 91) else []
theorem ANG_len (n : Int) : (ANG n).length ≤ 4000000 := by
  unfold ANG
  split
  · rw [ints_len]; have := angTo_len n 91; omega
  · simp
theorem ok_one {k : Nat} (h2 : 2 ≤ k) (h90 : k ≤ 90) (hr : (180 : Int) % (k : Int) = 0) : Ok k 1 :=
  ⟨angles_all ⟨k, by omega⟩ ⟨by show 1 < k; omega, rem_zero.1 hr⟩, by omega, by omega⟩

set_option maxHeartbeats 1000000 in
theorem spec_AnglesFor (n : Int) (w : World) :
    Calls Try.prog 27 #[.int .i64 n] w fun e w' => ∃ r, e = .returned (.tuple #[r, .bool (okAF n)]) ∧ IRow w' w.heap.size r (ANG n) ∧ Below w.heap.size w w' := by
  cases h1 : within n 1 359
  · have HO := Lib.hid (show okAF n = false from h1)
    have HE := Lib.hid (show ANG n = [] by simp [ANG, HO.out])
    go_enter Try.func27, Try.ntmps27
    go_wp2_with (go_at_call 29; refine (l1In_any _ _ _ _).mono ?_; rintro e w' ⟨rfl, rfl⟩; rw [h1])
    go_ret2
    exact ⟨_, by rw [HO.out]; rfl, by rw [HE.out]; exact World.ownsRow_nil _ _ _ 1, Below.refl _ _⟩
  · have HO := Lib.hid (show okAF n = true from h1)
    have HE := Lib.hid (show ANG n = ints (angTo n 91) by simp [ANG, HO.out])
    have hb := within_true h1
    obtain ⟨i0, hi, hz0, hz1, hz2⟩ := info_parts infoI
    go_enter Try.func27, Try.ntmps27
    go_wp2_with (go_at_call 29; refine (l1In_any _ _ _ _).mono ?_; rintro e w' ⟨rfl, rfl⟩; rw [h1])
    clear h1
    go_loopw [4, 5] (fun r i wr => ∃ k : Nat, 2 ≤ k ∧ k ≤ 91 ∧ i = .int .i64 (k : Int) ∧ IRow wr w.heap.size r (ints (angTo n k)) ∧ Below w.heap.size w wr) (fun _ i _ => 91 - (intOf i).toNat)
    case atStart => exact ⟨2, by omega, by omega, rfl, by rw [angTo_two]; exact World.ownsRow_nil _ _ _ 1, Below.refl _ _⟩
    case round =>
      obtain ⟨k, hk2, hk, rfl, hI, hW⟩ := hrel
      have HI := Lib.hid hI
      have HW := Lib.hid hW
      have hbw := hW.size
      clear hI hW
      by_cases hlt : k < 91
      · have hlt' : (k : Int) ≤ 90 := by omega
        have hne : ((k : Int) == 0) = false := by simp; omega
        have hr0 : 0 ≤ (180 : Int) % (k : Int) := Int.emod_nonneg _ (by omega)
        have hr1 : (180 : Int) % (k : Int) ≤ 180 := by have := Int.emod_lt_of_pos (180 : Int) (b := (k : Int)) (by omega); omega
        by_cases hr : (180 : Int) % (k : Int) = 0
        · have ok := ok_one hk2 (by omega) hr
          have hle := imgs_len ok
          by_cases hq : ((360 / k - 1 : Nat) : Int) = n
          · have HQ := Lib.hid (angTo_yes (n := n) (k := k) (by simp [angOk, hk2, rem_zero.1 hr, hq]))
            obtain ⟨q, hqe⟩ : ∃ q : Nat, (imgs k 1).length = q := ⟨_, rfl⟩
            have hqn : ((q : Nat) : Int) = n := by rw [← hqe, hle, hq]
            have hql : q ≤ 360 := by omega
            have hqb : ((q : Int) == n) = true := by simp [hqn]
            have HQE := Lib.hid hqe
            clear hqn hqe
            have hll : (ints (angTo n k)).length ≤ 91 := by rw [ints_len]; have := angTo_len n k; omega
            clear hle hq
            go_wp2_with fail
            refine (miImages_any _ 1 ok _).mono ?_
            rintro e w2 ⟨u2, rfl, hu2, hb2⟩
            obtain ⟨x2, y2, hv2⟩ := hu2.toQ.shape
            subst hv2
            rw [HQE.out]
            replace HI := Lib.hid (HI.out.keep hb2)
            replace HW := Lib.hid (bl_trans hb2 HW.out)
            replace hbw := HW.out.size
            clear hu2 hb2 ok
            have hO := Lib.hid (show w2.ownsRow w.heap.size 3 1 u4 (ints (angTo n k)).length ((ints (angTo n k)).map (Value.int .i64)) from HI.out)
            generalize hK : (ints (angTo n k)).length = K at *
            have HK := Lib.hid hK
            clear hK
            go_wp2_with (at_builtin; refine wpList_append_own _ rfl _ _ 35 rfl w.heap.size 3 i0 (.int .i64 0) 1 8 Try.underlying35 hi hz0 hz1 hz2 rfl (by decide) _ _ _ rfl (hO.out.alloc _) ⟨w2.heap.size, 0, none⟩ 1 1 [.int .i64 (k : Int)] rfl rfl ?c1 ?c2 ?c3 ?c4 ?c5 ?_)
            all_goals (try first | exact cell_one_new _ _ _ | exact cell_one_alloc _ _ _ _ (by simp))
            case c2 => simp [Value.oneCell']
            case c3 => unfold maxLen; omega
            case c4 => omega
            case c5 => first | omega | (simp; omega)
            intro v' w3 hown1 hgrow1 _
            rw [← HK.out] at hown1
            obtain ⟨z1, z2⟩ := IRow.push1 (x := (k : Int)) (W := w2) (HW.out.size) HI.out hown1 hgrow1
            rw [← ints_snoc, ← HQ.out] at z1
            have Z1 := Lib.hid z1
            have ZW := Lib.hid (HW.out.trans z2)
            clear z1 z2 hown1 hgrow1 hO HI HW
            go_wp2
            go_roundw
            case rel => exact ⟨k + 1, by omega, by omega, by go_num, Z1.out, ZW.out⟩
            case measure => simp only [intOf]; omega
          · have HQ := Lib.hid (angTo_no (n := n) (k := k) (by simp [angOk, hq]))
            have HL := Lib.hid hle
            have hqn : (((imgs k 1).length : Nat) : Int) ≠ n := by rw [hle]; exact hq
            obtain ⟨q, hqe⟩ : ∃ q : Nat, (imgs k 1).length = q := ⟨_, rfl⟩
            rw [hqe] at hqn
            have hql : q ≤ 360 := by rw [← hqe, hle]; have := Nat.div_le_self 360 k; omega
            have hqb : ((q : Int) == n) = false := by simp [hqn]
            have HQE := Lib.hid hqe
            clear hle hq hqe
            go_wp2_with fail
            refine (miImages_any _ 1 ok _).mono ?_
            rintro e w2 ⟨u2, rfl, hu2, hb2⟩
            obtain ⟨x2, y2, hv2⟩ := hu2.toQ.shape
            subst hv2
            rw [HQE.out]
            replace HI := Lib.hid (HI.out.keep hb2)
            replace HW := Lib.hid (bl_trans hb2 HW.out)
            clear hu2 hb2 ok
            go_wp2
            go_roundw
            case rel => exact ⟨k + 1, by omega, by omega, by go_num, by rw [HQ.out]; exact HI.out, HW.out⟩
            case measure => simp only [intOf]; omega
        · have hrb : ((180 : Int) % (k : Int) == 0) = false := by simp [hr]
          have HQ := Lib.hid (angTo_no (n := n) (k := k) (by have h' : ¬ 180 % k = 0 := fun h => hr (rem_zero.2 h); simp [angOk, h']))
          go_wp2
          go_roundw
          case rel => exact ⟨k + 1, by omega, by omega, by go_num, by rw [HQ.out]; exact HI.out, HW.out⟩
          case measure => simp only [intOf]; omega
      · obtain rfl : k = 91 := by omega
        go_wp2
        go_ret2
        exact ⟨_, by rw [HO.out]; rfl, by rw [HE.out]; exact HI.out, HW.out⟩
theorem angW_true {k : Nat} (h : okWe k 1 = true) : 2 ≤ k ∧ k ≤ 90 ∧ 180 % k = 0 := by
  simp only [okWe, okWa, Bool.and_eq_true, decide_eq_true_eq] at h
  obtain ⟨⟨h1, h2⟩, h3⟩ := h
  have b1 := within_true h1
  have b2 := within_true h3
  exact ⟨by omega, by omega, rem_zero.1 h2⟩
theorem angW_false {n : Int} {k : Nat} (h : okWe k 1 = false) (hk : k ≤ 90) : angOk n k = false := by
  cases ha : angOk n k
  · rfl
  · exfalso
    simp only [angOk, Bool.and_eq_true, decide_eq_true_eq] at ha
    obtain ⟨h2, hr, _⟩ := ha
    have e1 : within (k : Int) 1 90 = true := by simp [within]; omega
    have e2 : within 1 1 ((k : Int) - 1) = true := by simp [within]; omega
    have e3 : (180 : Int) % (k : Int) = 0 := rem_zero.2 hr
    simp [okWe, okWa, e1, e2, e3] at h
theorem ang_quot {k : Nat} (h1 : 1 ≤ k) (h2 : k ≤ 90) : (360 : Int) / (k : Int) - 1 = ((360 / k - 1 : Nat) : Int) := by
  have hd : 1 ≤ 360 / k := by rw [Nat.le_div_iff_mul_le (by omega)]; omega
  rw [Int.natCast_sub hd, Int.natCast_ediv]
  rfl
set_option maxHeartbeats 1000000 in
theorem impl_AnglesFor (n : Int) (w : World) :
    Calls Try.prog 28 #[.int .i64 n] w fun e w' => ∃ r, e = .returned (.tuple #[r, .bool (okAF n)]) ∧ IRow w' w.heap.size r (ANG n) ∧ Below w.heap.size w w' := by
  cases h1 : within n 1 359
  · have HO := Lib.hid (show okAF n = false from h1)
    have HE := Lib.hid (show ANG n = [] by simp [ANG, HO.out])
    go_enter Try.func28, Try.ntmps28
    go_wp2_with (go_at_call 31; refine (isWithin_any _ _ _ _).mono ?_; rintro e w' ⟨rfl, rfl⟩; rw [h1])
    go_ret2
    exact ⟨_, by rw [HO.out]; rfl, by rw [HE.out]; exact World.ownsRow_nil _ _ _ 1, Below.refl _ _⟩
  · have HO := Lib.hid (show okAF n = true from h1)
    have HE := Lib.hid (show ANG n = ints (angTo n 91) by simp [ANG, HO.out])
    obtain ⟨i0, hi, hz0, hz1, hz2⟩ := info_parts infoI
    go_enter Try.func28, Try.ntmps28
    go_wp2_with (go_at_call 31; refine (isWithin_any _ _ _ _).mono ?_; rintro e w' ⟨rfl, rfl⟩; rw [h1])
    clear h1
    go_loopw [4, 9] (fun r i wr => ∃ k : Nat, k ≤ 360 ∧ i = .int .i64 (k : Int) ∧ IRow wr w.heap.size r (ints (angTo n (min k 91))) ∧ Below w.heap.size w wr) (fun _ i _ => 360 - (intOf i).toNat)
    case atStart => exact ⟨0, by omega, rfl, by rw [show angTo n (min 0 91) = [] from rfl]; exact World.ownsRow_nil _ _ _ 1, Below.refl _ _⟩
    case round =>
      obtain ⟨k, hk, rfl, hI, hW⟩ := hrel
      have HI := Lib.hid hI
      have HW := Lib.hid hW
      clear hI hW
      by_cases hlt : k < 360
      · have hlt' : (k : Int) < 360 := by omega
        cases hw : okWe k 1
        · have HQ := Lib.hid (show angTo n (min (k + 1) 91) = angTo n (min k 91) by
            by_cases c : k ≤ 90
            · rw [show min (k + 1) 91 = k + 1 by omega, show min k 91 = k by omega]
              exact angTo_no (angW_false hw c)
            · rw [show min (k + 1) 91 = 91 by omega, show min k 91 = 91 by omega])
          go_wp2_with (go_at_call 45; refine (isInWedge_any _ _ _).mono ?_; rintro e w' ⟨rfl, rfl⟩; rw [hw])
          go_roundw
          case rel => exact ⟨k + 1, by omega, by go_num, by rw [HQ.out]; exact HI.out, HW.out⟩
          case measure => simp only [intOf]; omega
        · obtain ⟨k2, k90, kr⟩ := angW_true hw
          have e1 : min (k + 1) 91 = k + 1 := by omega
          have e2 : min k 91 = k := by omega
          have hqq := ang_quot (k := k) (by omega) k90
          have hql : 360 / k - 1 ≤ 360 := by have := Nat.div_le_self 360 k; omega
          by_cases hq : ((360 / k - 1 : Nat) : Int) = n
          · have HQ := Lib.hid (angTo_yes (n := n) (k := k) (by simp [angOk, k2, kr, hq]))
            have HI1 := Lib.hid (show IRow wr w.heap.size u4 (ints (angTo n k)) from e2 ▸ HI.out)
            subst hq
            have hll : (ints (angTo ((360 / k - 1 : Nat) : Int) k)).length ≤ 91 := by rw [ints_len]; have := angTo_len ((360 / k - 1 : Nat) : Int) k; omega
            have HQQ := Lib.hid hqq
            clear hqq
            generalize (360 / k - 1 : Nat) = q at *
            have hO := Lib.hid (show wr.ownsRow w.heap.size 3 1 u4 (ints (angTo q k)).length ((ints (angTo q k)).map (Value.int .i64)) from HI1.out)
            have HI2 := HI1
            generalize hK : (ints (angTo q k)).length = K at *
            have HK := Lib.hid hK
            clear hK HI HI1 e2
            have HI := HI2
            clear HI2
            have E1 := Lib.hid e1
            clear e1
            have hbw := HW.out.size
            go_wp2_with fail
            refine (isInWedge_any _ _ _).mono ?_
            rintro e w' ⟨rfl, rfl⟩
            rw [hw]
            go_wp2_with fail
            refine (imagesOfWedge_any _ (by omega) (by omega) _).mono ?_
            rintro e w' ⟨rfl, rfl⟩
            rw [HQQ.out]
            go_wp2_with (at_builtin; refine wpList_append_own _ rfl _ _ 35 rfl w.heap.size 3 i0 (.int .i64 0) 1 8 Try.underlying35 hi hz0 hz1 hz2 rfl (by decide) _ _ _ rfl (hO.out.alloc _) ⟨wr.heap.size, 0, none⟩ 1 1 [.int .i64 (k : Int)] rfl rfl ?c1 ?c2 ?c3 ?c4 ?c5 ?_)
            all_goals (try first | exact cell_one_new _ _ _ | exact cell_one_alloc _ _ _ _ (by simp))
            case c2 => simp [Value.oneCell']
            case c3 => unfold maxLen; omega
            case c4 => omega
            case c5 => first | omega | (simp; omega)
            intro v' w3 hown1 hgrow1 _
            rw [← HK.out] at hown1
            obtain ⟨z1, z2⟩ := IRow.push1 (x := (k : Int)) (W := wr) (HW.out.size) HI.out hown1 hgrow1
            rw [← ints_snoc, ← HQ.out] at z1
            have Z1 := Lib.hid z1
            have ZW := Lib.hid (HW.out.trans z2)
            clear z1 z2 hown1 hgrow1 hO HI HW
            go_wp2
            go_roundw
            case rel => exact ⟨k + 1, by omega, by go_num, by rw [E1.out]; exact Z1.out, ZW.out⟩
            case measure => simp only [intOf]; omega
          · have HQ := Lib.hid (show angTo n (min (k + 1) 91) = angTo n (min k 91) by rw [e1, e2]; exact angTo_no (n := n) (k := k) (by simp [angOk, hq]))
            have hqb : (((360 / k - 1 : Nat) : Int) == n) = false := by simp [hq]
            have HQQ := Lib.hid hqq
            clear hqq hq
            generalize (360 / k - 1 : Nat) = q at *
            go_wp2_with (first | (go_at_call 45; refine (isInWedge_any _ _ _).mono ?_; rintro e w' ⟨rfl, rfl⟩; rw [hw]) | (go_at_call 46; refine (imagesOfWedge_any _ (by omega) (by omega) _).mono ?_; rintro e w' ⟨rfl, rfl⟩; rw [HQQ.out]))
            go_roundw
            case rel => exact ⟨k + 1, by omega, by go_num, by rw [HQ.out]; exact HI.out, HW.out⟩
            case measure => simp only [intOf]; omega
      · obtain rfl : k = 360 := by omega
        go_wp2
        go_ret2
        exact ⟨_, by rw [HO.out]; rfl, by rw [HE.out]; exact HI.out, HW.out⟩
end Go.Proofs.Ytophkahaefbkiaa
