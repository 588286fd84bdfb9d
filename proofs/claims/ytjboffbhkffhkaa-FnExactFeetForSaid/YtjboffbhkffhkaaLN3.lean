/- FeetFor, by the program and by the model alike. -/
import Derived.Test.YtjboffbhkffhkaaLN2
namespace Go.Proofs.Ytjboffbhkffhkaa
open Go.RowKit
set_option linter.unusedVariables false
set_option linter.unusedSimpArgs false

/-- of the feet behind a box, the first k, those from which a ladder reaches over it -/
def ftl (a b l : Int) : Nat → List Int
  | 0 => []
  | k + 1 => ftl a b l k ++ (if rch a b (a + (k : Int) + 1) l then [a + (k : Int) + 1] else [])
def okFt (a b l : Int) : Bool := okBx a b && okL7 l
def FTL (a b l : Int) : List Int := if okFt a b l then ftl a b l (l - a).toNat else []
theorem ftl_len (a b l : Int) (k : Nat) : (ftl a b l k).length ≤ k := by
  induction k with
  | zero => simp [ftl]
  | succ m ih => simp only [ftl]; split <;> simp <;> omega
theorem FTL_len (a b l : Int) : (FTL a b l).length ≤ 4000000 := by
  unfold FTL
  split
  · rename_i h
    simp only [okFt, Bool.and_eq_true] at h
    have := okL7_true h.2
    have := okBx_true h.1
    have := ftl_len a b l (l - a).toNat
    omega
  · simp
theorem ftl_yes {a b l : Int} {k : Nat} (e : rch a b (a + (k : Int) + 1) l = true) : ftl a b l (k + 1) = ftl a b l k ++ [a + (k : Int) + 1] := by
  rw [ftl, if_pos e]
theorem ftl_no {a b l : Int} {k : Nat} (e : rch a b (a + (k : Int) + 1) l = false) : ftl a b l (k + 1) = ftl a b l k := by
  rw [ftl, if_neg (by simp [e]), List.append_nil]
set_option maxRecDepth 100000 in
set_option maxHeartbeats 2000000 in
theorem lnFeet_any (a b l : Int) (a1 : 1 ≤ a) (a2 : a ≤ 60) (b1 : 1 ≤ b) (b2 : b ≤ 60) (l1 : 1 ≤ l) (l2 : l ≤ 1000) (w : World) :
    Calls Try.prog 84 #[.agg #[.int .i64 a, .int .i64 b], .int .i64 l] w fun e w' => ∃ v, e = .returned v ∧ IRow w' w.heap.size v (ftl a b l (l - a).toNat) ∧ Below w.heap.size w w' := by
  obtain ⟨n, hn⟩ : ∃ n : Nat, n = (l - a).toNat := ⟨_, rfl⟩
  have HE := Lib.hid (show ftl a b l (l - a).toNat = ftl a b l n by rw [hn])
  obtain ⟨i0, hi, hz0, hz1, hz2⟩ := info_parts infoI
  go_enter Try.func84, Try.ntmps84
  go_wp2
  go_loopw [5, 6] (fun r t wr => ∃ k : Nat, k ≤ n ∧ t = .int .i64 (a + (k : Int) + 1) ∧ IRow wr (w.heap.size + 1) r (ftl a b l k) ∧ wr.cell? ⟨w.heap.size, 0, none⟩ = some (.int .i64 a) ∧ wr.cell? ⟨w.heap.size, 1, none⟩ = some (.int .i64 b) ∧ w.heap.size < wr.heap.size ∧ Below w.heap.size w wr) (fun _ t _ => (l + 1 - intOf t).toNat)
  case atStart => exact ⟨0, by omega, by simp, IRow.nil _ _, by simp, by simp, by simp, (by repeat (first | exact Below.refl _ _ | refine bl_alloc ?_ _ | refine bl_drewN ?_ _ | refine bl_trans (by assumption) ?_ | refine bl_set ?_ (by first | omega | (simp; done) | (simp; omega)) _))⟩
  case round =>
    obtain ⟨k, hk, rfl, hI, q0, q1, hs, hB⟩ := hrel
    have HBr := Lib.hid hB
    have HI := Lib.hid hI
    clear hB hI
    skip
    by_cases hlt : k < n
    · have hkl : a + (k : Int) + 1 ≤ l := by omega
      have HG := fun W => Lib.hid (lnReaches_any a b (a + (k : Int) + 1) l a1 a2 b1 b2 (by omega) (by omega) l1 l2 W)
      cases hw : rch a b (a + (k : Int) + 1) l
      · have HQ := Lib.hid (ftl_no hw)
        skip
        go_wp2_with fail
        refine ((HG _).out).mono ?_
        rintro e v1 ⟨rfl, hbv1⟩
        obtain ⟨hcv1, hfv1⟩ := bcell hbv1
        have hzv1 := bsize hbv1
        (try simp only [World.size_alloc, World.size_setCell] at hzv1)
        have hkv1 : Below wr.heap.size wr v1 := (by repeat (first | exact Below.refl _ _ | refine bl_alloc ?_ _ | refine bl_drewN ?_ _ | refine bl_trans (by assumption) ?_ | refine bl_set ?_ (by first | omega | (simp; done) | (simp; omega)) _))
        have HI1 := Lib.hid (HI.out.keep hkv1)
        have kv1_0_0 : v1.cell? ⟨w.heap.size, 0, none⟩ = some (.int .i64 a) := cell_after hkv1 hs q0
        have kv1_0_1 : v1.cell? ⟨w.heap.size, 1, none⟩ = some (.int .i64 b) := cell_after hkv1 hs q1
        have sv1_0 : w.heap.size < v1.heap.size := size_after hkv1 hs
        have hBv1 : Below w.heap.size w v1 := (by repeat (first | exact HBr.out | exact Below.refl _ _ | refine bl_alloc ?_ _ | refine bl_drewN ?_ _ | refine bl_trans (by assumption) ?_ | refine bl_set ?_ (by first | omega | (simp; done) | (simp; omega)) _))
        have HBv1 := Lib.hid hBv1
        clear hBv1 hcv1 hfv1 hbv1 hkv1 q0 q1 hs
        rw [hw]
        go_wp2
        go_roundw
        case rel => exact ⟨k + 1, by omega, by go_num, by rw [HQ.out]; exact HI1.out, kv1_0_0, kv1_0_1, sv1_0, HBv1.out⟩
        case measure => simp only [intOf]; omega
      · have HQ := Lib.hid (ftl_yes hw)
        skip
        go_wp2_with fail
        refine ((HG _).out).mono ?_
        rintro e v1 ⟨rfl, hbv1⟩
        obtain ⟨hcv1, hfv1⟩ := bcell hbv1
        have hzv1 := bsize hbv1
        (try simp only [World.size_alloc, World.size_setCell] at hzv1)
        have hkv1 : Below wr.heap.size wr v1 := (by repeat (first | exact Below.refl _ _ | refine bl_alloc ?_ _ | refine bl_drewN ?_ _ | refine bl_trans (by assumption) ?_ | refine bl_set ?_ (by first | omega | (simp; done) | (simp; omega)) _))
        have HI1 := Lib.hid (HI.out.keep hkv1)
        have kv1_0_0 : v1.cell? ⟨w.heap.size, 0, none⟩ = some (.int .i64 a) := cell_after hkv1 hs q0
        have kv1_0_1 : v1.cell? ⟨w.heap.size, 1, none⟩ = some (.int .i64 b) := cell_after hkv1 hs q1
        have sv1_0 : w.heap.size < v1.heap.size := size_after hkv1 hs
        have hBv1 : Below w.heap.size w v1 := (by repeat (first | exact HBr.out | exact Below.refl _ _ | refine bl_alloc ?_ _ | refine bl_drewN ?_ _ | refine bl_trans (by assumption) ?_ | refine bl_set ?_ (by first | omega | (simp; done) | (simp; omega)) _))
        have HBv1 := Lib.hid hBv1
        clear hBv1 hcv1 hfv1 hbv1 hkv1 q0 q1 hs
        rw [hw]
        have hO := Lib.hid (show v1.ownsRow (w.heap.size + 1) 3 1 u5 (ftl a b l k).length ((ftl a b l k).map (Value.int .i64)) from HI1.out)
        have hlen := ftl_len a b l k
        generalize hL : (ftl a b l k).length = L at *
        have HL := Lib.hid hL
        clear hL HI
        go_wp2_with (at_builtin; refine wpList_append_own _ rfl _ _ 39 rfl (w.heap.size + 1) 3 i0 (.int .i64 0) 1 8 Try.underlying39 hi hz0 hz1 hz2 rfl (by decide) _ _ _ rfl (hO.out.alloc _) ⟨v1.heap.size, 0, none⟩ 1 1 [.int .i64 (a + (k : Int) + 1)] rfl rfl ?c1 ?c2 ?c3 ?c4 ?c5 ?_)
        all_goals (try exact cell_one_alloc _ _ _ _ (by simp))
        case c2 => simp [Value.oneCell']
        case c3 => unfold maxLen; omega
        case c4 => omega
        case c5 => first | omega | (simp; omega)
        intro v' w3 hown1 hgrow1 _
        have hs1 := hgrow1.size
        simp only [World.size_alloc] at hs1
        rw [← HL.out] at hown1
        obtain ⟨r1, r2⟩ := IRow.push (x := a + (k : Int) + 1) (W := v1) (by omega) HI1.out hown1 hgrow1
        rw [← HQ.out] at r1
        have Q1 := Lib.hid r1
        have R2 := Lib.hid r2
        have Q2 := Lib.hid (HBv1.out.trans (r2.mono (by omega)))
        have e0 := cell_under R2.out (by omega) kv1_0_0
        have e1 := cell_under R2.out (by omega) kv1_0_1
        clear r1 r2 hown1 hgrow1 kv1_0_0 kv1_0_1
        go_wp2
        go_roundw
        case rel => exact ⟨k + 1, by omega, by go_num, Q1.out, e0, e1, by omega, Q2.out⟩
        case measure => simp only [intOf]; omega
    · obtain rfl : k = n := by omega
      have hkl : l < a + (k : Int) + 1 := by omega
      go_wp2
      go_ret
      exact ⟨_, rfl, by rw [HE.out]; exact HI.out.mono (by omega), HBr.out⟩
set_option maxHeartbeats 1000000 in
theorem spec_FeetFor (a b l : Int) (w : World) :
    Calls Try.prog 40 #[.agg #[.int .i64 a, .int .i64 b], .int .i64 l] w fun e w' => ∃ v, e = .returned (.tuple #[v, .bool (okFt a b l)]) ∧ IRow w' w.heap.size v (FTL a b l) ∧ Below w.heap.size w w' := by
  cases h1 : okBx a b
  · have HO := Lib.hid (show okFt a b l = false by simp [okFt, h1])
    go_enter Try.func40, Try.ntmps40
    go_wp2_with fail
    refine (spec_lnBox _ _ _).mono ?_
    rintro e w1 ⟨rfl, hbw1⟩
    obtain ⟨hcw1, hfw1⟩ := bcell hbw1
    have hzw1 := bsize hbw1
    (try simp only [World.size_alloc, World.size_setCell] at hzw1)
    have kw1_0_0 : w1.cell? ⟨w.heap.size, 0, none⟩ = some (.int .i64 a) := by rw [hcw1 _ _ (by first | (simp; done) | omega | (simp; omega))]; first | assumption | (simp [go_sem]; done) | (simp [go_sem]; done) | (simp [go_sem, *]; done)
    have kw1_0_1 : w1.cell? ⟨w.heap.size, 1, none⟩ = some (.int .i64 b) := by rw [hcw1 _ _ (by first | (simp; done) | omega | (simp; omega))]; first | assumption | (simp [go_sem]; done) | (simp [go_sem]; done) | (simp [go_sem, *]; done)
    have sw1_0 : w.heap.size < w1.heap.size := by first | omega | (simp at *; omega)
    have hBw1 : Below w.heap.size w w1 := (by repeat (first | exact Below.refl _ _ | refine bl_alloc ?_ _ | refine bl_drewN ?_ _ | refine bl_trans (by assumption) ?_ | refine bl_set ?_ (by first | omega | (simp; done) | (simp; omega)) _))
    have HBw1 := Lib.hid hBw1
    clear hBw1 hcw1 hfw1 hbw1
    rw [h1]
    go_wp2
    go_ret2
    exact ⟨_, by rw [HO.out]; rfl, by simp only [FTL, HO.out]; exact IRow.nil _ _, (by repeat (first | exact HBw1.out | exact Below.refl _ _ | refine bl_alloc ?_ _ | refine bl_drewN ?_ _ | refine bl_trans (by assumption) ?_ | refine bl_set ?_ (by first | omega | (simp; done) | (simp; omega)) _))⟩
  cases h2 : okL7 l
  · have HO := Lib.hid (show okFt a b l = false by simp [okFt, h1, h2])
    go_enter Try.func40, Try.ntmps40
    go_wp2_with fail
    refine (spec_lnBox _ _ _).mono ?_
    rintro e w1 ⟨rfl, hbw1⟩
    obtain ⟨hcw1, hfw1⟩ := bcell hbw1
    have hzw1 := bsize hbw1
    (try simp only [World.size_alloc, World.size_setCell] at hzw1)
    have kw1_0_0 : w1.cell? ⟨w.heap.size, 0, none⟩ = some (.int .i64 a) := by rw [hcw1 _ _ (by first | (simp; done) | omega | (simp; omega))]; first | assumption | (simp [go_sem]; done) | (simp [go_sem]; done) | (simp [go_sem, *]; done)
    have kw1_0_1 : w1.cell? ⟨w.heap.size, 1, none⟩ = some (.int .i64 b) := by rw [hcw1 _ _ (by first | (simp; done) | omega | (simp; omega))]; first | assumption | (simp [go_sem]; done) | (simp [go_sem]; done) | (simp [go_sem, *]; done)
    have sw1_0 : w.heap.size < w1.heap.size := by first | omega | (simp at *; omega)
    have hBw1 : Below w.heap.size w w1 := (by repeat (first | exact Below.refl _ _ | refine bl_alloc ?_ _ | refine bl_drewN ?_ _ | refine bl_trans (by assumption) ?_ | refine bl_set ?_ (by first | omega | (simp; done) | (simp; omega)) _))
    have HBw1 := Lib.hid hBw1
    clear hBw1 hcw1 hfw1 hbw1
    rw [h1]
    go_wp2_with fail
    refine (lnLong_any _ _).mono ?_
    rintro e w' ⟨rfl, rfl⟩
    rw [h2]
    go_wp2
    go_ret2
    exact ⟨_, by rw [HO.out]; rfl, by simp only [FTL, HO.out]; exact IRow.nil _ _, (by repeat (first | exact HBw1.out | exact Below.refl _ _ | refine bl_alloc ?_ _ | refine bl_drewN ?_ _ | refine bl_trans (by assumption) ?_ | refine bl_set ?_ (by first | omega | (simp; done) | (simp; omega)) _))⟩
  have HO := Lib.hid (show okFt a b l = true by simp [okFt, h1, h2])
  have HE := Lib.hid (show FTL a b l = ftl a b l (l - a).toNat by simp only [FTL, HO.out]; rfl)
  obtain ⟨⟨a1, a2⟩, b1, b2⟩ := okBx_true h1
  obtain ⟨l1, l2⟩ := okL7_true h2
  have HL := fun W => Lib.hid (lnFeet_any a b l a1 a2 b1 b2 l1 l2 W)
  go_enter Try.func40, Try.ntmps40
  go_wp2_with fail
  refine (spec_lnBox _ _ _).mono ?_
  rintro e w1 ⟨rfl, hbw1⟩
  obtain ⟨hcw1, hfw1⟩ := bcell hbw1
  have hzw1 := bsize hbw1
  (try simp only [World.size_alloc, World.size_setCell] at hzw1)
  have kw1_0_0 : w1.cell? ⟨w.heap.size, 0, none⟩ = some (.int .i64 a) := by rw [hcw1 _ _ (by first | (simp; done) | omega | (simp; omega))]; first | assumption | (simp [go_sem]; done) | (simp [go_sem]; done) | (simp [go_sem, *]; done)
  have kw1_0_1 : w1.cell? ⟨w.heap.size, 1, none⟩ = some (.int .i64 b) := by rw [hcw1 _ _ (by first | (simp; done) | omega | (simp; omega))]; first | assumption | (simp [go_sem]; done) | (simp [go_sem]; done) | (simp [go_sem, *]; done)
  have sw1_0 : w.heap.size < w1.heap.size := by first | omega | (simp at *; omega)
  have hBw1 : Below w.heap.size w w1 := (by repeat (first | exact Below.refl _ _ | refine bl_alloc ?_ _ | refine bl_drewN ?_ _ | refine bl_trans (by assumption) ?_ | refine bl_set ?_ (by first | omega | (simp; done) | (simp; omega)) _))
  have HBw1 := Lib.hid hBw1
  clear hBw1 hcw1 hfw1 hbw1
  rw [h1]
  go_wp2_with fail
  refine (lnLong_any _ _).mono ?_
  rintro e w' ⟨rfl, rfl⟩
  rw [h2]
  go_wp2_with fail
  refine ((HL _).out).mono ?_
  rintro e x1 ⟨v, rfl, hR, hb⟩
  have HR := Lib.hid hR
  clear hR
  go_wp2
  go_ret2
  exact ⟨_, by rw [HO.out]; rfl, by rw [HE.out]; exact HR.out.mono (by first | omega | (simp; done) | (simp; omega)), bl_trans hb (by repeat (first | exact HBw1.out | refine bl_alloc ?_ _))⟩
set_option maxRecDepth 100000 in
set_option maxHeartbeats 4000000 in
theorem impl_FeetFor (a b l : Int) (w : World) :
    Calls Try.prog 41 #[.agg #[.int .i64 a, .int .i64 b], .int .i64 l] w fun e w' => ∃ v, e = .returned (.tuple #[v, .bool (okFt a b l)]) ∧ IRow w' w.heap.size v (FTL a b l) ∧ Below w.heap.size w w' := by
  cases h1 : okBx a b
  · have HO := Lib.hid (show okFt a b l = false by simp [okFt, h1])
    go_enter Try.func41, Try.ntmps41
    go_wp2_with fail
    refine (impl_IsBox _ _ _).mono ?_
    rintro e w1 ⟨rfl, hbw1⟩
    obtain ⟨hcw1, hfw1⟩ := bcell hbw1
    have hzw1 := bsize hbw1
    (try simp only [World.size_alloc, World.size_setCell] at hzw1)
    have kw1_0_0 : w1.cell? ⟨w.heap.size, 0, none⟩ = some (.int .i64 a) := by rw [hcw1 _ _ (by first | (simp; done) | omega | (simp; omega))]; first | assumption | (simp [go_sem]; done) | (simp [go_sem]; done) | (simp [go_sem, *]; done)
    have kw1_0_1 : w1.cell? ⟨w.heap.size, 1, none⟩ = some (.int .i64 b) := by rw [hcw1 _ _ (by first | (simp; done) | omega | (simp; omega))]; first | assumption | (simp [go_sem]; done) | (simp [go_sem]; done) | (simp [go_sem, *]; done)
    have sw1_0 : w.heap.size < w1.heap.size := by first | omega | (simp at *; omega)
    have hBw1 : Below w.heap.size w w1 := (by repeat (first | exact Below.refl _ _ | refine bl_alloc ?_ _ | refine bl_drewN ?_ _ | refine bl_trans (by assumption) ?_ | refine bl_set ?_ (by first | omega | (simp; done) | (simp; omega)) _))
    have HBw1 := Lib.hid hBw1
    clear hBw1 hcw1 hfw1 hbw1
    rw [h1]
    go_wp2
    go_ret2
    exact ⟨_, by rw [HO.out]; rfl, by simp only [FTL, HO.out]; exact IRow.nil _ _, (by repeat (first | exact HBw1.out | exact Below.refl _ _ | refine bl_alloc ?_ _ | refine bl_drewN ?_ _ | refine bl_trans (by assumption) ?_ | refine bl_set ?_ (by first | omega | (simp; done) | (simp; omega)) _))⟩
  cases h2 : okL7 l
  · have HO := Lib.hid (show okFt a b l = false by simp [okFt, h1, h2])
    go_enter Try.func41, Try.ntmps41
    go_wp2_with fail
    refine (impl_IsBox _ _ _).mono ?_
    rintro e w1 ⟨rfl, hbw1⟩
    obtain ⟨hcw1, hfw1⟩ := bcell hbw1
    have hzw1 := bsize hbw1
    (try simp only [World.size_alloc, World.size_setCell] at hzw1)
    have kw1_0_0 : w1.cell? ⟨w.heap.size, 0, none⟩ = some (.int .i64 a) := by rw [hcw1 _ _ (by first | (simp; done) | omega | (simp; omega))]; first | assumption | (simp [go_sem]; done) | (simp [go_sem]; done) | (simp [go_sem, *]; done)
    have kw1_0_1 : w1.cell? ⟨w.heap.size, 1, none⟩ = some (.int .i64 b) := by rw [hcw1 _ _ (by first | (simp; done) | omega | (simp; omega))]; first | assumption | (simp [go_sem]; done) | (simp [go_sem]; done) | (simp [go_sem, *]; done)
    have sw1_0 : w.heap.size < w1.heap.size := by first | omega | (simp at *; omega)
    have hBw1 : Below w.heap.size w w1 := (by repeat (first | exact Below.refl _ _ | refine bl_alloc ?_ _ | refine bl_drewN ?_ _ | refine bl_trans (by assumption) ?_ | refine bl_set ?_ (by first | omega | (simp; done) | (simp; omega)) _))
    have HBw1 := Lib.hid hBw1
    clear hBw1 hcw1 hfw1 hbw1
    rw [h1]
    go_wp2_with fail
    refine (isOfLadder_any _ _).mono ?_
    rintro e w' ⟨rfl, rfl⟩
    rw [h2]
    go_wp2
    go_ret2
    exact ⟨_, by rw [HO.out]; rfl, by simp only [FTL, HO.out]; exact IRow.nil _ _, (by repeat (first | exact HBw1.out | exact Below.refl _ _ | refine bl_alloc ?_ _ | refine bl_drewN ?_ _ | refine bl_trans (by assumption) ?_ | refine bl_set ?_ (by first | omega | (simp; done) | (simp; omega)) _))⟩
  have HO := Lib.hid (show okFt a b l = true by simp [okFt, h1, h2])
  have HE := Lib.hid (show FTL a b l = ftl a b l (l - a).toNat by simp only [FTL, HO.out]; rfl)
  obtain ⟨⟨a1, a2⟩, b1, b2⟩ := okBx_true h1
  obtain ⟨l1, l2⟩ := okL7_true h2
  obtain ⟨n, hn⟩ : ∃ n : Nat, n = (l - a).toNat := ⟨_, rfl⟩
  rw [← hn] at HE
  obtain ⟨i0, hi, hz0, hz1, hz2⟩ := info_parts infoI
  go_enter Try.func41, Try.ntmps41
  go_wp2_with fail
  refine (impl_IsBox _ _ _).mono ?_
  rintro e w1 ⟨rfl, hbw1⟩
  obtain ⟨hcw1, hfw1⟩ := bcell hbw1
  have hzw1 := bsize hbw1
  (try simp only [World.size_alloc, World.size_setCell] at hzw1)
  have kw1_0_0 : w1.cell? ⟨w.heap.size, 0, none⟩ = some (.int .i64 a) := by rw [hcw1 _ _ (by first | (simp; done) | omega | (simp; omega))]; first | assumption | (simp [go_sem]; done) | (simp [go_sem]; done) | (simp [go_sem, *]; done)
  have kw1_0_1 : w1.cell? ⟨w.heap.size, 1, none⟩ = some (.int .i64 b) := by rw [hcw1 _ _ (by first | (simp; done) | omega | (simp; omega))]; first | assumption | (simp [go_sem]; done) | (simp [go_sem]; done) | (simp [go_sem, *]; done)
  have sw1_0 : w.heap.size < w1.heap.size := by first | omega | (simp at *; omega)
  have hBw1 : Below w.heap.size w w1 := (by repeat (first | exact Below.refl _ _ | refine bl_alloc ?_ _ | refine bl_drewN ?_ _ | refine bl_trans (by assumption) ?_ | refine bl_set ?_ (by first | omega | (simp; done) | (simp; omega)) _))
  have HBw1 := Lib.hid hBw1
  clear hBw1 hcw1 hfw1 hbw1
  rw [h1]
  go_wp2_with fail
  refine (isOfLadder_any _ _).mono ?_
  rintro e w' ⟨rfl, rfl⟩
  rw [h2]
  go_wp2_with fail
  go_loopw [6, 7] (fun r t wr => ∃ k : Nat, k ≤ n ∧ t = .int .i64 (a + (k : Int) + 1) ∧ IRow wr (w.heap.size + 1) r (ftl a b l k) ∧ wr.cell? ⟨w.heap.size, 0, none⟩ = some (.int .i64 a) ∧ wr.cell? ⟨w.heap.size, 1, none⟩ = some (.int .i64 b) ∧ w.heap.size < wr.heap.size ∧ Below w.heap.size w wr) (fun _ t _ => (l + 1 - intOf t).toNat)
  case atStart => exact ⟨0, by omega, by simp, IRow.nil _ _, kw1_0_0, kw1_0_1, sw1_0, HBw1.out⟩
  case round =>
    obtain ⟨k, hk, rfl, hI, q0, q1, hs, hB⟩ := hrel
    have HBr := Lib.hid hB
    have HI := Lib.hid hI
    clear hB hI
    clear kw1_0_0 kw1_0_1 sw1_0
    by_cases hlt : k < n
    · have hkl : a + (k : Int) + 1 ≤ l := by omega
      have HG := fun W => Lib.hid (leastLongFrom_any a b (a + (k : Int) + 1) a1 a2 b1 b2 (by omega) (by omega) W)
      obtain ⟨⟨_, ⟨d1, _⟩, _⟩, t1, t2⟩ := ln_num_bd (a := a) (b := b) (f := a + (k : Int) + 1) a1 b1 b2 (by omega) (by omega)
      obtain ⟨_, y1, y2⟩ := LL_bd t1 t2 d1
      have HE2 := Lib.hid (LL_le (l := l) t1 d1 (by omega))
      clear d1 t1 t2
      cases hw : rch a b (a + (k : Int) + 1) l
      · have HQ := Lib.hid (ftl_no hw)
        have hle : ¬ LL a b (a + (k : Int) + 1) ≤ l := by have := HE2.out; unfold rch at hw; simp at hw; omega
        generalize LL a b (a + (k : Int) + 1) = LLv at *
        go_wp2_with fail
        refine ((HG _).out).mono ?_
        rintro e v1 ⟨rfl, hbv1⟩
        obtain ⟨hcv1, hfv1⟩ := bcell hbv1
        have hzv1 := bsize hbv1
        (try simp only [World.size_alloc, World.size_setCell] at hzv1)
        have hkv1 : Below wr.heap.size wr v1 := (by repeat (first | exact Below.refl _ _ | refine bl_alloc ?_ _ | refine bl_drewN ?_ _ | refine bl_trans (by assumption) ?_ | refine bl_set ?_ (by first | omega | (simp; done) | (simp; omega)) _))
        have HI1 := Lib.hid (HI.out.keep hkv1)
        have kv1_0_0 : v1.cell? ⟨w.heap.size, 0, none⟩ = some (.int .i64 a) := cell_after hkv1 hs q0
        have kv1_0_1 : v1.cell? ⟨w.heap.size, 1, none⟩ = some (.int .i64 b) := cell_after hkv1 hs q1
        have sv1_0 : w.heap.size < v1.heap.size := size_after hkv1 hs
        have hBv1 : Below w.heap.size w v1 := (by repeat (first | exact HBr.out | exact Below.refl _ _ | refine bl_alloc ?_ _ | refine bl_drewN ?_ _ | refine bl_trans (by assumption) ?_ | refine bl_set ?_ (by first | omega | (simp; done) | (simp; omega)) _))
        have HBv1 := Lib.hid hBv1
        clear hBv1 hcv1 hfv1 hbv1 hkv1 q0 q1 hs
        go_wp2
        go_roundw
        case rel => exact ⟨k + 1, by omega, by go_num, by rw [HQ.out]; exact HI1.out, kv1_0_0, kv1_0_1, sv1_0, HBv1.out⟩
        case measure => simp only [intOf]; omega
      · have HQ := Lib.hid (ftl_yes hw)
        have hle : LL a b (a + (k : Int) + 1) ≤ l := by have := HE2.out; unfold rch at hw; simp at hw; omega
        generalize LL a b (a + (k : Int) + 1) = LLv at *
        go_wp2_with fail
        refine ((HG _).out).mono ?_
        rintro e v1 ⟨rfl, hbv1⟩
        obtain ⟨hcv1, hfv1⟩ := bcell hbv1
        have hzv1 := bsize hbv1
        (try simp only [World.size_alloc, World.size_setCell] at hzv1)
        have hkv1 : Below wr.heap.size wr v1 := (by repeat (first | exact Below.refl _ _ | refine bl_alloc ?_ _ | refine bl_drewN ?_ _ | refine bl_trans (by assumption) ?_ | refine bl_set ?_ (by first | omega | (simp; done) | (simp; omega)) _))
        have HI1 := Lib.hid (HI.out.keep hkv1)
        have kv1_0_0 : v1.cell? ⟨w.heap.size, 0, none⟩ = some (.int .i64 a) := cell_after hkv1 hs q0
        have kv1_0_1 : v1.cell? ⟨w.heap.size, 1, none⟩ = some (.int .i64 b) := cell_after hkv1 hs q1
        have sv1_0 : w.heap.size < v1.heap.size := size_after hkv1 hs
        have hBv1 : Below w.heap.size w v1 := (by repeat (first | exact HBr.out | exact Below.refl _ _ | refine bl_alloc ?_ _ | refine bl_drewN ?_ _ | refine bl_trans (by assumption) ?_ | refine bl_set ?_ (by first | omega | (simp; done) | (simp; omega)) _))
        have HBv1 := Lib.hid hBv1
        clear hBv1 hcv1 hfv1 hbv1 hkv1 q0 q1 hs
        have hO := Lib.hid (show v1.ownsRow (w.heap.size + 1) 3 1 u6 (ftl a b l k).length ((ftl a b l k).map (Value.int .i64)) from HI1.out)
        have hlen := ftl_len a b l k
        generalize hL : (ftl a b l k).length = L at *
        have HL := Lib.hid hL
        clear hL HI
        go_wp2_with (at_builtin; refine wpList_append_own _ rfl _ _ 39 rfl (w.heap.size + 1) 3 i0 (.int .i64 0) 1 8 Try.underlying39 hi hz0 hz1 hz2 rfl (by decide) _ _ _ rfl (hO.out.alloc _) ⟨v1.heap.size, 0, none⟩ 1 1 [.int .i64 (a + (k : Int) + 1)] rfl rfl ?c1 ?c2 ?c3 ?c4 ?c5 ?_)
        all_goals (try exact cell_one_alloc _ _ _ _ (by simp))
        case c2 => simp [Value.oneCell']
        case c3 => unfold maxLen; omega
        case c4 => omega
        case c5 => first | omega | (simp; omega)
        intro v' w3 hown1 hgrow1 _
        have hs1 := hgrow1.size
        simp only [World.size_alloc] at hs1
        rw [← HL.out] at hown1
        obtain ⟨r1, r2⟩ := IRow.push (x := a + (k : Int) + 1) (W := v1) (by omega) HI1.out hown1 hgrow1
        rw [← HQ.out] at r1
        have Q1 := Lib.hid r1
        have R2 := Lib.hid r2
        have Q2 := Lib.hid (HBv1.out.trans (r2.mono (by omega)))
        have e0 := cell_under R2.out (by omega) kv1_0_0
        have e1 := cell_under R2.out (by omega) kv1_0_1
        clear r1 r2 hown1 hgrow1 kv1_0_0 kv1_0_1
        go_wp2
        go_roundw
        case rel => exact ⟨k + 1, by omega, by go_num, Q1.out, e0, e1, by omega, Q2.out⟩
        case measure => simp only [intOf]; omega
    · obtain rfl : k = n := by omega
      have hkl : l < a + (k : Int) + 1 := by omega
      go_wp2
      go_ret2
      exact ⟨_, by rw [HO.out]; rfl, by rw [HE.out]; exact HI.out.mono (by omega), HBr.out⟩
end Go.Proofs.Ytjboffbhkffhkaa
