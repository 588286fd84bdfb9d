/- StepsToCorner, PeriodOfBeam: by the program and by the model alike. -/
import Derived.Test.YtnhjiipkekblfaaB5
namespace Go.Proofs.Ytnhjiipkekblfaa
open Go.RowKit Beam Go.Deep
set_option linter.unusedVariables false
set_option linter.unusedSimpArgs false
def longN (t : BWay) : Nat := 4 * t.W * t.H + 1
theorem long_le {t : BWay} (h : t.ok) : longN t ≤ 14401 ∧ t.M < longN t := by
  have h1 : 4 * t.W * t.H ≤ 4 * 60 * 60 := Nat.mul_le_mul (Nat.mul_le_mul (Nat.le_refl 4) h.2.2.1) h.2.2.2
  have h2 := (t.M_spec h).2.1
  have h3 : 2 * t.W * t.H ≤ 4 * t.W * t.H := Nat.mul_le_mul_right _ (Nat.mul_le_mul_right _ (by omega))
  unfold longN; omega
theorem made_long {t : BWay} (h : t.ok) (he : t.e = true) : t.made (longN t) = t.M := by
  have := (long_le h).2
  unfold BWay.made; rw [if_pos he]; omega
theorem made_long' {t : BWay} (he : t.e = false) (s : Nat) : t.made s = s := by
  unfold BWay.made; rw [if_neg (by simp [he])]
theorem cor_last {t : BWay} (h : t.ok) : t.cor (t.made (longN t)) = t.e := by
  cases he : t.e
  · exact BWay.no_cor h he _
  · rw [made_long h he]; exact he
def okE (a b x y : Int) (r u : Bool) : Bool := okB a b x y && (wayI a b x y r u).e
def tM (a b x y : Int) (r u : Bool) : Int := if okE a b x y r u then ((wayI a b x y r u).M : Nat) else 0
def okN (a b x y : Int) (r u : Bool) : Bool := okB a b x y && !(wayI a b x y r u).e
def tP (a b x y : Int) (r u : Bool) : Int := if okN a b x y r u then ((wayI a b x y r u).M : Nat) else 0
theorem lp (W H : Nat) (hW : W ≤ 60) (hH : H ≤ 60) : (0 ≤ (4 : Int) * (W : Int) ∧ (4 : Int) * (W : Int) ≤ 240) ∧ 0 ≤ (4 : Int) * (W : Int) * (H : Int) ∧ (4 : Int) * (W : Int) * (H : Int) ≤ 14400 := by
  have h1 : 4 * W * H ≤ 4 * 60 * 60 := Nat.mul_le_mul (Nat.mul_le_mul (Nat.le_refl 4) hW) hH
  have e : (4 : Int) * (W : Int) * (H : Int) = ((4 * W * H : Nat) : Int) := by push_cast; rfl
  rw [e]
  omega
set_option maxHeartbeats 400000 in
theorem beLong_any (t : BWay) (h : t.ok) (w : World) : Calls Try.prog 73 #[.agg #[.int .i64 (t.W : Nat), .int .i64 (t.H : Nat)]] w fun e w' => e = .returned (.int .i64 (longN t : Nat)) ∧ Below w.heap.size w w' := by
  obtain ⟨⟨p1, p2⟩, p3, p4⟩ := lp t.W t.H h.2.2.1 h.2.2.2
  have HL := Lib.hid (show ((longN t : Nat) : Int) = 4 * (t.W : Int) * (t.H : Int) + 1 by unfold longN; push_cast; rfl)
  go_enter Try.func73, Try.ntmps73
  go_wp2
  go_ret
  exact ⟨by rw [HL.out]; rfl, (by repeat (first | exact Below.refl _ _ | refine bl_alloc ?_ _ | refine bl_drewN ?_ _ | refine bl_trans (by assumption) ?_ | refine bl_set ?_ (by first | omega | (simp; done) | (simp; omega)) _))⟩
set_option maxHeartbeats 1000000 in
theorem beEnd_any (t : BWay) (h : t.ok) (r u : Bool) (hr : turnI t.W (t.x 0) r = t.r 0) (hu : turnI t.H (t.y 0) u = t.u 0) (w : World) :
    Calls Try.prog 82 #[.agg #[.int .i64 (t.W : Nat), .int .i64 (t.H : Nat)], .agg #[.int .i64 (t.x 0 : Nat), .int .i64 (t.y 0 : Nat), .bool r, .bool u]] w fun e w' => ∃ g cap, e = .returned (.tuple #[.slice (some ⟨g, 0, none⟩) (t.made (longN t) + 1) cap, .string (sidesS t (t.made (longN t))), .bool t.e]) ∧ BRow w' w.heap.size (.slice (some ⟨g, 0, none⟩) (t.made (longN t) + 1) cap) (t.made (longN t) + 1) t ∧ Below w.heap.size w w' := by
  have OK := Lib.hid h
  have HR := Lib.hid hr
  have HU := Lib.hid hu
  have hl1 := (long_le h).1
  clear h hr hu
  go_enter Try.func82, Try.ntmps82
  go_wp2_with fail
  have hS : CL6 w ((w.alloc (.cells #[.int .i64 (t.W : Nat), .int .i64 (t.H : Nat)] 25)).alloc (.cells #[.int .i64 (t.x 0 : Nat), .int .i64 (t.y 0 : Nat), .bool r, .bool u] 31)) (t.W : Nat) (t.H : Nat) (t.x 0 : Nat) (t.y 0 : Nat) r u := ⟨by simp, by simp, by simp, by simp, by simp, by simp, by simp, (by repeat (first | exact Below.refl _ _ | refine bl_alloc ?_ _ | refine bl_drewN ?_ _ | refine bl_trans (by assumption) ?_ | refine bl_set ?_ (by first | omega | (simp; done) | (simp; omega)) _))⟩
  unfold CL6 at hS
  go_region_held3 (fun w' => w'.cell? ⟨w.heap.size, 0, none⟩ = some (.int .i64 (t.W : Nat)) ∧ w'.cell? ⟨w.heap.size, 1, none⟩ = some (.int .i64 (t.H : Nat)) ∧ w'.cell? ⟨w.heap.size + 1, 0, none⟩ = some (.int .i64 (t.x 0 : Nat)) ∧ w'.cell? ⟨w.heap.size + 1, 1, none⟩ = some (.int .i64 (t.y 0 : Nat)) ∧ w'.cell? ⟨w.heap.size + 1, 2, none⟩ = some (.bool r) ∧ w'.cell? ⟨w.heap.size + 1, 3, none⟩ = some (.bool u) ∧ w.heap.size + 1 < w'.heap.size ∧ Below w.heap.size w w') (first | exact S6_after hb2 (by assumption) | exact S6_after (below_drewN (Below.refl _ _) _) (by assumption) | exact S6_after (Below.drew (Below.refl _ _)) (by assumption) | assumption) (first | (go_at_call 73; refine (beLong_any t OK.out _).mono ?_; rintro e w2 ⟨rfl, hb2⟩; have hzb : w.heap.size ≤ w2.heap.size := by (have := hb2.size; simp at this; omega)) | (go_at_call 71; refine (beRun_any t OK.out r u HR.out HU.out _ (by omega) _).mono ?_; rintro e w2 ⟨v, rfl, hR, hb2⟩))
  rename_i hh
  obtain ⟨a0, a1, b0, b1, b2, b3, hz, hbw⟩ := hh
  obtain ⟨g, cap, rfl, hgB, hgs, -⟩ := hR.open_ (by omega)
  have HC := Lib.hid (cor_last OK.out)
  have HCI := Lib.hid (corI t (t.made (longN t)))
  have HR' := Lib.hid hR
  have hm := Nat.le_trans (BWay.made_lt (t := t) (longN t)).1 hl1
  generalize hN : t.made (longN t) = n at *
  have HN := Lib.hid hN
  clear hN
  have HS := Lib.hid (fun v (hb : Below w2.heap.size w2 v) => S9.mk (k := n) ⟨a0, a1, hz⟩ hR (by omega) hb)
  have hS := HS.out w2 (Below.refl _ _)
  unfold S9 at hS
  have HW := Lib.hid hbw
  have ix0 : (0 : Int) ≤ (n : Int) := by omega
  have ix1 : (n : Int) < (n : Int) + 1 := by omega
  have ix2 : IntKind.i64.wrap ((n : Int) + 1 - 1) = (n : Int) := by rw [Int.add_sub_cancel]; exact IntWalk.i64_in _ (by omega)
  have ix3 : IntKind.i64.wrap (n : Int) = (n : Int) := IntWalk.i64_in _ (by omega)
  have ix4 : IntKind.i64.wrap (((n + 1 : Nat) : Int) - 1) = (n : Int) := by rw [show ((n + 1 : Nat) : Int) - 1 = (n : Int) by omega]; exact ix3
  have ix5 : (n : Int).toNat = n := by omega
  clear hR a0 a1 b0 b1 b2 b3 hbw hb2
  go_wp2_with fail
  go_region_held3 (fun w' => w'.cell? ⟨w.heap.size, 0, none⟩ = some (.int .i64 (t.W : Nat)) ∧ w'.cell? ⟨w.heap.size, 1, none⟩ = some (.int .i64 (t.H : Nat)) ∧ w'.cell? ⟨g, n * 4, none⟩ = some (.int .i64 (t.x n : Nat)) ∧ w'.cell? ⟨g, n * 4 + 1, none⟩ = some (.int .i64 (t.y n : Nat)) ∧ w'.cell? ⟨g, n * 4 + 2, none⟩ = some (.bool (t.kr n)) ∧ w'.cell? ⟨g, n * 4 + 3, none⟩ = some (.bool (t.ku n)) ∧ Below w2.heap.size w2 w') (first | exact HS.out _ (bl_trans hb9 (last7 (by assumption))) | exact HS.out _ (below_drewN (Below.refl _ _) _) | exact HS.out _ (Below.drew (Below.refl _ _)) | assumption) (first | (go_at_call 74; refine (beCorner_any _ _ _ _ _ _ _).mono ?_; rintro e w9 ⟨rfl, hb9⟩; rw [HCI.out, HC.out]))
  rename_i hh
  have hB := last7 hh
  have HR9 := Lib.hid (HR'.out.keep hB)
  have HW9 := Lib.hid (bl_trans hB HW.out)
  clear hh hB hS hb9
  go_wp2
  go_ret3
  exact ⟨_, _, by rw [HN.out]; rfl, by rw [HN.out]; exact HR9.out.mono hzb, HW9.out⟩

theorem beEnd_of {a b x y : Int} (h : okB a b x y = true) (r u : Bool) (w : World) :
    Calls Try.prog 82 #[.agg #[.int .i64 a, .int .i64 b], .agg #[.int .i64 x, .int .i64 y, .bool r, .bool u]] w fun e w' => ∃ g cap, e = .returned (.tuple #[.slice (some ⟨g, 0, none⟩) ((wayI a b x y r u).made (longN (wayI a b x y r u)) + 1) cap, .string (sidesS (wayI a b x y r u) ((wayI a b x y r u).made (longN (wayI a b x y r u)))), .bool (wayI a b x y r u).e]) ∧ BRow w' w.heap.size (.slice (some ⟨g, 0, none⟩) ((wayI a b x y r u).made (longN (wayI a b x y r u)) + 1) cap) ((wayI a b x y r u).made (longN (wayI a b x y r u)) + 1) (wayI a b x y r u) ∧ Below w.heap.size w w' := by
  obtain ⟨hk, h1, h2, h3, h4, h5, h6⟩ := wayI_args h r u
  generalize wayI a b x y r u = t at *
  rw [h1, h2, h3, h4]
  exact beEnd_any t hk r u h5 h6 w
theorem ret_ib {a b : Int} {c d : Bool} (h1 : a = b) (h2 : c = d) : Ending.returned (.tuple #[.int .i64 a, .bool c]) = .returned (.tuple #[.int .i64 b, .bool d]) := by rw [h1, h2]
theorem ret_iib {a b a' b' : Int} {c d : Bool} (h1 : a = b) (h3 : a' = b') (h2 : c = d) : Ending.returned (.tuple #[.int .i64 a, .int .i64 a', .bool c]) = .returned (.tuple #[.int .i64 b, .int .i64 b', .bool d]) := by rw [h1, h2, h3]
set_option maxHeartbeats 800000 in
theorem spec_StepsToCorner (a b x y : Int) (r u : Bool) (w : World) :
    Calls Try.prog 35 #[.agg #[.int .i64 a, .int .i64 b], .agg #[.int .i64 x, .int .i64 y, .bool r, .bool u]] w fun e w' => e = .returned (.tuple #[.int .i64 (tM a b x y r u), .bool (okE a b x y r u)]) ∧ Below w.heap.size w w' := by
  cases h : okB a b x y
  · go_enter Try.func35, Try.ntmps35
    go_wp2_with fail
    refine (spec_beGood _ _ _ _ _ _ _).mono ?_
    rintro e w1 ⟨rfl, hb1⟩
    obtain ⟨hc1, hf1⟩ := bcell hb1
    have hz1 := bsize hb1
    (try simp only [World.size_alloc, World.size_setCell] at hz1)
    have k1_0_0 : w1.cell? ⟨w.heap.size, 0, none⟩ = some (.int .i64 a) := by rw [hc1 _ _ (by first | (simp; done) | omega | (simp; omega))]; first | assumption | (simp [go_sem]; done) | (simp [go_sem]; done) | (simp [go_sem, *]; done)
    have k1_0_1 : w1.cell? ⟨w.heap.size, 1, none⟩ = some (.int .i64 b) := by rw [hc1 _ _ (by first | (simp; done) | omega | (simp; omega))]; first | assumption | (simp [go_sem]; done) | (simp [go_sem]; done) | (simp [go_sem, *]; done)
    have s1_0 : w.heap.size < w1.heap.size := by omega
    have k1_1_0 : w1.cell? ⟨w.heap.size + 1, 0, none⟩ = some (.int .i64 x) := by rw [hc1 _ _ (by first | (simp; done) | omega | (simp; omega))]; first | assumption | (simp [go_sem]; done) | (simp [go_sem]; done) | (simp [go_sem, *]; done)
    have k1_1_1 : w1.cell? ⟨w.heap.size + 1, 1, none⟩ = some (.int .i64 y) := by rw [hc1 _ _ (by first | (simp; done) | omega | (simp; omega))]; first | assumption | (simp [go_sem]; done) | (simp [go_sem]; done) | (simp [go_sem, *]; done)
    have k1_1_2 : w1.cell? ⟨w.heap.size + 1, 2, none⟩ = some (.bool r) := by rw [hc1 _ _ (by first | (simp; done) | omega | (simp; omega))]; first | assumption | (simp [go_sem]; done) | (simp [go_sem]; done) | (simp [go_sem, *]; done)
    have k1_1_3 : w1.cell? ⟨w.heap.size + 1, 3, none⟩ = some (.bool u) := by rw [hc1 _ _ (by first | (simp; done) | omega | (simp; omega))]; first | assumption | (simp [go_sem]; done) | (simp [go_sem]; done) | (simp [go_sem, *]; done)
    have s1_1 : w.heap.size + 1 < w1.heap.size := by omega
    have hB1 : Below w.heap.size w w1 := (by repeat (first | exact Below.refl _ _ | refine bl_alloc ?_ _ | refine bl_drewN ?_ _ | refine bl_trans (by assumption) ?_ | refine bl_set ?_ (by first | omega | (simp; done) | (simp; omega)) _))
    have HB1 := Lib.hid hB1
    clear hB1 hc1 hf1 hb1
    rw [h]
    go_wp2
    go_ret2
    exact ⟨by simp [okE, tM, h], HB1.out⟩
  · have HX := Lib.hid (long_le (wayI_args h r u).1)
    have hm := Nat.le_trans (BWay.made_lt (t := wayI a b x y r u) (longN (wayI a b x y r u))).1 HX.out.1
    have HML := Lib.hid (fun he => made_long (t := wayI a b x y r u) (wayI_args h r u).1 he)
    have HW := fun W => Lib.hid (beEnd_of h r u W)
    generalize (wayI a b x y r u).made (longN (wayI a b x y r u)) = n at *
    generalize sidesS (wayI a b x y r u) n = sd at *
    cases he : (wayI a b x y r u).e
    · have HT := Lib.hid (show tM a b x y r u = 0 by simp [tM, okE, h, he])
      have HE := Lib.hid (show okE a b x y r u = false by simp [okE, h, he])
      go_enter Try.func35, Try.ntmps35
      go_wp2_with fail
      refine (spec_beGood _ _ _ _ _ _ _).mono ?_
      rintro e w1 ⟨rfl, hb1⟩
      obtain ⟨hc1, hf1⟩ := bcell hb1
      have hz1 := bsize hb1
      (try simp only [World.size_alloc, World.size_setCell] at hz1)
      have k1_0_0 : w1.cell? ⟨w.heap.size, 0, none⟩ = some (.int .i64 a) := by rw [hc1 _ _ (by first | (simp; done) | omega | (simp; omega))]; first | assumption | (simp [go_sem]; done) | (simp [go_sem]; done) | (simp [go_sem, *]; done)
      have k1_0_1 : w1.cell? ⟨w.heap.size, 1, none⟩ = some (.int .i64 b) := by rw [hc1 _ _ (by first | (simp; done) | omega | (simp; omega))]; first | assumption | (simp [go_sem]; done) | (simp [go_sem]; done) | (simp [go_sem, *]; done)
      have s1_0 : w.heap.size < w1.heap.size := by omega
      have k1_1_0 : w1.cell? ⟨w.heap.size + 1, 0, none⟩ = some (.int .i64 x) := by rw [hc1 _ _ (by first | (simp; done) | omega | (simp; omega))]; first | assumption | (simp [go_sem]; done) | (simp [go_sem]; done) | (simp [go_sem, *]; done)
      have k1_1_1 : w1.cell? ⟨w.heap.size + 1, 1, none⟩ = some (.int .i64 y) := by rw [hc1 _ _ (by first | (simp; done) | omega | (simp; omega))]; first | assumption | (simp [go_sem]; done) | (simp [go_sem]; done) | (simp [go_sem, *]; done)
      have k1_1_2 : w1.cell? ⟨w.heap.size + 1, 2, none⟩ = some (.bool r) := by rw [hc1 _ _ (by first | (simp; done) | omega | (simp; omega))]; first | assumption | (simp [go_sem]; done) | (simp [go_sem]; done) | (simp [go_sem, *]; done)
      have k1_1_3 : w1.cell? ⟨w.heap.size + 1, 3, none⟩ = some (.bool u) := by rw [hc1 _ _ (by first | (simp; done) | omega | (simp; omega))]; first | assumption | (simp [go_sem]; done) | (simp [go_sem]; done) | (simp [go_sem, *]; done)
      have s1_1 : w.heap.size + 1 < w1.heap.size := by omega
      have hB1 : Below w.heap.size w w1 := (by repeat (first | exact Below.refl _ _ | refine bl_alloc ?_ _ | refine bl_drewN ?_ _ | refine bl_trans (by assumption) ?_ | refine bl_set ?_ (by first | omega | (simp; done) | (simp; omega)) _))
      have HB1 := Lib.hid hB1
      clear hB1 hc1 hf1 hb1
      rw [h]
      have HBp2 := HB1
      go_wp2_with fail
      refine ((HW _).out).mono ?_
      rintro e w2 ⟨g, cap, rfl, hR, hb2⟩
      obtain ⟨hc2, hf2⟩ := bcell hb2
      have hz2 := bsize hb2
      (try simp only [World.size_alloc, World.size_setCell] at hz2)
      have k2_0_0 : w2.cell? ⟨w.heap.size, 0, none⟩ = some (.int .i64 a) := by rw [hc2 _ _ (by first | (simp; done) | omega | (simp; omega))]; first | assumption | (simp [go_sem]; done) | (simp [go_sem, k1_0_0, k1_0_1, k1_1_0, k1_1_1, k1_1_2, k1_1_3]; done) | (simp [go_sem, *]; done)
      have k2_0_1 : w2.cell? ⟨w.heap.size, 1, none⟩ = some (.int .i64 b) := by rw [hc2 _ _ (by first | (simp; done) | omega | (simp; omega))]; first | assumption | (simp [go_sem]; done) | (simp [go_sem, k1_0_0, k1_0_1, k1_1_0, k1_1_1, k1_1_2, k1_1_3]; done) | (simp [go_sem, *]; done)
      have s2_0 : w.heap.size < w2.heap.size := by omega
      have k2_1_0 : w2.cell? ⟨w.heap.size + 1, 0, none⟩ = some (.int .i64 x) := by rw [hc2 _ _ (by first | (simp; done) | omega | (simp; omega))]; first | assumption | (simp [go_sem]; done) | (simp [go_sem, k1_0_0, k1_0_1, k1_1_0, k1_1_1, k1_1_2, k1_1_3]; done) | (simp [go_sem, *]; done)
      have k2_1_1 : w2.cell? ⟨w.heap.size + 1, 1, none⟩ = some (.int .i64 y) := by rw [hc2 _ _ (by first | (simp; done) | omega | (simp; omega))]; first | assumption | (simp [go_sem]; done) | (simp [go_sem, k1_0_0, k1_0_1, k1_1_0, k1_1_1, k1_1_2, k1_1_3]; done) | (simp [go_sem, *]; done)
      have k2_1_2 : w2.cell? ⟨w.heap.size + 1, 2, none⟩ = some (.bool r) := by rw [hc2 _ _ (by first | (simp; done) | omega | (simp; omega))]; first | assumption | (simp [go_sem]; done) | (simp [go_sem, k1_0_0, k1_0_1, k1_1_0, k1_1_1, k1_1_2, k1_1_3]; done) | (simp [go_sem, *]; done)
      have k2_1_3 : w2.cell? ⟨w.heap.size + 1, 3, none⟩ = some (.bool u) := by rw [hc2 _ _ (by first | (simp; done) | omega | (simp; omega))]; first | assumption | (simp [go_sem]; done) | (simp [go_sem, k1_0_0, k1_0_1, k1_1_0, k1_1_1, k1_1_2, k1_1_3]; done) | (simp [go_sem, *]; done)
      have s2_1 : w.heap.size + 1 < w2.heap.size := by omega
      have hB2 : Below w.heap.size w w2 := (by repeat (first | exact Below.refl _ _ | exact HB1.out | refine bl_alloc ?_ _ | refine bl_drewN ?_ _ | refine bl_trans (by assumption) ?_ | refine bl_set ?_ (by first | omega | (simp; done) | (simp; omega)) _))
      have HB2 := Lib.hid hB2
      clear hB2 hc2 hf2 hb2 k1_0_0 k1_0_1 k1_1_0 k1_1_1 k1_1_2 k1_1_3
      clear hR
      rw [he]
      go_wp2
      go_ret2
      exact ⟨ret_ib (by rw [HT.out]) (by rw [HE.out]), HB2.out⟩
    · have HT := Lib.hid (show tM a b x y r u = (n : Int) by simp [tM, okE, h, he, HML.out he])
      have HE := Lib.hid (show okE a b x y r u = true by simp [okE, h, he])
      go_enter Try.func35, Try.ntmps35
      go_wp2_with fail
      refine (spec_beGood _ _ _ _ _ _ _).mono ?_
      rintro e w1 ⟨rfl, hb1⟩
      obtain ⟨hc1, hf1⟩ := bcell hb1
      have hz1 := bsize hb1
      (try simp only [World.size_alloc, World.size_setCell] at hz1)
      have k1_0_0 : w1.cell? ⟨w.heap.size, 0, none⟩ = some (.int .i64 a) := by rw [hc1 _ _ (by first | (simp; done) | omega | (simp; omega))]; first | assumption | (simp [go_sem]; done) | (simp [go_sem]; done) | (simp [go_sem, *]; done)
      have k1_0_1 : w1.cell? ⟨w.heap.size, 1, none⟩ = some (.int .i64 b) := by rw [hc1 _ _ (by first | (simp; done) | omega | (simp; omega))]; first | assumption | (simp [go_sem]; done) | (simp [go_sem]; done) | (simp [go_sem, *]; done)
      have s1_0 : w.heap.size < w1.heap.size := by omega
      have k1_1_0 : w1.cell? ⟨w.heap.size + 1, 0, none⟩ = some (.int .i64 x) := by rw [hc1 _ _ (by first | (simp; done) | omega | (simp; omega))]; first | assumption | (simp [go_sem]; done) | (simp [go_sem]; done) | (simp [go_sem, *]; done)
      have k1_1_1 : w1.cell? ⟨w.heap.size + 1, 1, none⟩ = some (.int .i64 y) := by rw [hc1 _ _ (by first | (simp; done) | omega | (simp; omega))]; first | assumption | (simp [go_sem]; done) | (simp [go_sem]; done) | (simp [go_sem, *]; done)
      have k1_1_2 : w1.cell? ⟨w.heap.size + 1, 2, none⟩ = some (.bool r) := by rw [hc1 _ _ (by first | (simp; done) | omega | (simp; omega))]; first | assumption | (simp [go_sem]; done) | (simp [go_sem]; done) | (simp [go_sem, *]; done)
      have k1_1_3 : w1.cell? ⟨w.heap.size + 1, 3, none⟩ = some (.bool u) := by rw [hc1 _ _ (by first | (simp; done) | omega | (simp; omega))]; first | assumption | (simp [go_sem]; done) | (simp [go_sem]; done) | (simp [go_sem, *]; done)
      have s1_1 : w.heap.size + 1 < w1.heap.size := by omega
      have hB1 : Below w.heap.size w w1 := (by repeat (first | exact Below.refl _ _ | refine bl_alloc ?_ _ | refine bl_drewN ?_ _ | refine bl_trans (by assumption) ?_ | refine bl_set ?_ (by first | omega | (simp; done) | (simp; omega)) _))
      have HB1 := Lib.hid hB1
      clear hB1 hc1 hf1 hb1
      rw [h]
      have HBp2 := HB1
      go_wp2_with fail
      refine ((HW _).out).mono ?_
      rintro e w2 ⟨g, cap, rfl, hR, hb2⟩
      obtain ⟨hc2, hf2⟩ := bcell hb2
      have hz2 := bsize hb2
      (try simp only [World.size_alloc, World.size_setCell] at hz2)
      have k2_0_0 : w2.cell? ⟨w.heap.size, 0, none⟩ = some (.int .i64 a) := by rw [hc2 _ _ (by first | (simp; done) | omega | (simp; omega))]; first | assumption | (simp [go_sem]; done) | (simp [go_sem, k1_0_0, k1_0_1, k1_1_0, k1_1_1, k1_1_2, k1_1_3]; done) | (simp [go_sem, *]; done)
      have k2_0_1 : w2.cell? ⟨w.heap.size, 1, none⟩ = some (.int .i64 b) := by rw [hc2 _ _ (by first | (simp; done) | omega | (simp; omega))]; first | assumption | (simp [go_sem]; done) | (simp [go_sem, k1_0_0, k1_0_1, k1_1_0, k1_1_1, k1_1_2, k1_1_3]; done) | (simp [go_sem, *]; done)
      have s2_0 : w.heap.size < w2.heap.size := by omega
      have k2_1_0 : w2.cell? ⟨w.heap.size + 1, 0, none⟩ = some (.int .i64 x) := by rw [hc2 _ _ (by first | (simp; done) | omega | (simp; omega))]; first | assumption | (simp [go_sem]; done) | (simp [go_sem, k1_0_0, k1_0_1, k1_1_0, k1_1_1, k1_1_2, k1_1_3]; done) | (simp [go_sem, *]; done)
      have k2_1_1 : w2.cell? ⟨w.heap.size + 1, 1, none⟩ = some (.int .i64 y) := by rw [hc2 _ _ (by first | (simp; done) | omega | (simp; omega))]; first | assumption | (simp [go_sem]; done) | (simp [go_sem, k1_0_0, k1_0_1, k1_1_0, k1_1_1, k1_1_2, k1_1_3]; done) | (simp [go_sem, *]; done)
      have k2_1_2 : w2.cell? ⟨w.heap.size + 1, 2, none⟩ = some (.bool r) := by rw [hc2 _ _ (by first | (simp; done) | omega | (simp; omega))]; first | assumption | (simp [go_sem]; done) | (simp [go_sem, k1_0_0, k1_0_1, k1_1_0, k1_1_1, k1_1_2, k1_1_3]; done) | (simp [go_sem, *]; done)
      have k2_1_3 : w2.cell? ⟨w.heap.size + 1, 3, none⟩ = some (.bool u) := by rw [hc2 _ _ (by first | (simp; done) | omega | (simp; omega))]; first | assumption | (simp [go_sem]; done) | (simp [go_sem, k1_0_0, k1_0_1, k1_1_0, k1_1_1, k1_1_2, k1_1_3]; done) | (simp [go_sem, *]; done)
      have s2_1 : w.heap.size + 1 < w2.heap.size := by omega
      have hB2 : Below w.heap.size w w2 := (by repeat (first | exact Below.refl _ _ | exact HB1.out | refine bl_alloc ?_ _ | refine bl_drewN ?_ _ | refine bl_trans (by assumption) ?_ | refine bl_set ?_ (by first | omega | (simp; done) | (simp; omega)) _))
      have HB2 := Lib.hid hB2
      clear hB2 hc2 hf2 hb2 k1_0_0 k1_0_1 k1_1_0 k1_1_1 k1_1_2 k1_1_3
      clear hR
      rw [he]
      go_wp2
      go_ret2
      exact ⟨ret_ib (by rw [HT.out]) (by rw [HE.out]), HB2.out⟩
set_option maxHeartbeats 800000 in
theorem impl_StepsToCorner (a b x y : Int) (r u : Bool) (w : World) :
    Calls Try.prog 36 #[.agg #[.int .i64 a, .int .i64 b], .agg #[.int .i64 x, .int .i64 y, .bool r, .bool u]] w fun e w' => e = .returned (.tuple #[.int .i64 (tM a b x y r u), .bool (okE a b x y r u)]) ∧ Below w.heap.size w w' := by
  cases h : okB a b x y
  · go_enter Try.func36, Try.ntmps36
    go_wp2_with fail
    refine (wtc_no _ _ _ _ _ _ h _).mono ?_
    rintro e w1 ⟨rfl, hb1⟩
    obtain ⟨hc1, hf1⟩ := bcell hb1
    have hz1 := bsize hb1
    (try simp only [World.size_alloc, World.size_setCell] at hz1)
    have k1_0_0 : w1.cell? ⟨w.heap.size, 0, none⟩ = some (.int .i64 a) := by rw [hc1 _ _ (by first | (simp; done) | omega | (simp; omega))]; first | assumption | (simp [go_sem]; done) | (simp [go_sem]; done) | (simp [go_sem, *]; done)
    have k1_0_1 : w1.cell? ⟨w.heap.size, 1, none⟩ = some (.int .i64 b) := by rw [hc1 _ _ (by first | (simp; done) | omega | (simp; omega))]; first | assumption | (simp [go_sem]; done) | (simp [go_sem]; done) | (simp [go_sem, *]; done)
    have s1_0 : w.heap.size < w1.heap.size := by omega
    have k1_1_0 : w1.cell? ⟨w.heap.size + 1, 0, none⟩ = some (.int .i64 x) := by rw [hc1 _ _ (by first | (simp; done) | omega | (simp; omega))]; first | assumption | (simp [go_sem]; done) | (simp [go_sem]; done) | (simp [go_sem, *]; done)
    have k1_1_1 : w1.cell? ⟨w.heap.size + 1, 1, none⟩ = some (.int .i64 y) := by rw [hc1 _ _ (by first | (simp; done) | omega | (simp; omega))]; first | assumption | (simp [go_sem]; done) | (simp [go_sem]; done) | (simp [go_sem, *]; done)
    have k1_1_2 : w1.cell? ⟨w.heap.size + 1, 2, none⟩ = some (.bool r) := by rw [hc1 _ _ (by first | (simp; done) | omega | (simp; omega))]; first | assumption | (simp [go_sem]; done) | (simp [go_sem]; done) | (simp [go_sem, *]; done)
    have k1_1_3 : w1.cell? ⟨w.heap.size + 1, 3, none⟩ = some (.bool u) := by rw [hc1 _ _ (by first | (simp; done) | omega | (simp; omega))]; first | assumption | (simp [go_sem]; done) | (simp [go_sem]; done) | (simp [go_sem, *]; done)
    have s1_1 : w.heap.size + 1 < w1.heap.size := by omega
    have hB1 : Below w.heap.size w w1 := (by repeat (first | exact Below.refl _ _ | refine bl_alloc ?_ _ | refine bl_drewN ?_ _ | refine bl_trans (by assumption) ?_ | refine bl_set ?_ (by first | omega | (simp; done) | (simp; omega)) _))
    have HB1 := Lib.hid hB1
    clear hB1 hc1 hf1 hb1
    go_wp2
    go_ret2
    exact ⟨by simp [okE, tM, h], bl_alloc HB1.out _⟩
  · have hn := wlen_pos (wayI_args h r u).1
    have HW := fun W => Lib.hid (wtc_yes a b x y r u h W)
    cases he : (wayI a b x y r u).e
    · have HT := Lib.hid (show tM a b x y r u = 0 by simp [tM, okE, h, he])
      have HE := Lib.hid (show okE a b x y r u = false by simp [okE, h, he])
      generalize wlen (wayI a b x y r u) = n at *
      go_enter Try.func36, Try.ntmps36
      go_wp2_with fail
      refine ((HW _).out).mono ?_
      rintro e w1 ⟨g, cap, rfl, hR, hb1⟩
      obtain ⟨hc1, hf1⟩ := bcell hb1
      have hz1 := bsize hb1
      (try simp only [World.size_alloc, World.size_setCell] at hz1)
      have k1_0_0 : w1.cell? ⟨w.heap.size, 0, none⟩ = some (.int .i64 a) := by rw [hc1 _ _ (by first | (simp; done) | omega | (simp; omega))]; first | assumption | (simp [go_sem]; done) | (simp [go_sem]; done) | (simp [go_sem, *]; done)
      have k1_0_1 : w1.cell? ⟨w.heap.size, 1, none⟩ = some (.int .i64 b) := by rw [hc1 _ _ (by first | (simp; done) | omega | (simp; omega))]; first | assumption | (simp [go_sem]; done) | (simp [go_sem]; done) | (simp [go_sem, *]; done)
      have s1_0 : w.heap.size < w1.heap.size := by omega
      have k1_1_0 : w1.cell? ⟨w.heap.size + 1, 0, none⟩ = some (.int .i64 x) := by rw [hc1 _ _ (by first | (simp; done) | omega | (simp; omega))]; first | assumption | (simp [go_sem]; done) | (simp [go_sem]; done) | (simp [go_sem, *]; done)
      have k1_1_1 : w1.cell? ⟨w.heap.size + 1, 1, none⟩ = some (.int .i64 y) := by rw [hc1 _ _ (by first | (simp; done) | omega | (simp; omega))]; first | assumption | (simp [go_sem]; done) | (simp [go_sem]; done) | (simp [go_sem, *]; done)
      have k1_1_2 : w1.cell? ⟨w.heap.size + 1, 2, none⟩ = some (.bool r) := by rw [hc1 _ _ (by first | (simp; done) | omega | (simp; omega))]; first | assumption | (simp [go_sem]; done) | (simp [go_sem]; done) | (simp [go_sem, *]; done)
      have k1_1_3 : w1.cell? ⟨w.heap.size + 1, 3, none⟩ = some (.bool u) := by rw [hc1 _ _ (by first | (simp; done) | omega | (simp; omega))]; first | assumption | (simp [go_sem]; done) | (simp [go_sem]; done) | (simp [go_sem, *]; done)
      have s1_1 : w.heap.size + 1 < w1.heap.size := by omega
      have hB1 : Below w.heap.size w w1 := (by repeat (first | exact Below.refl _ _ | refine bl_alloc ?_ _ | refine bl_drewN ?_ _ | refine bl_trans (by assumption) ?_ | refine bl_set ?_ (by first | omega | (simp; done) | (simp; omega)) _))
      have HB1 := Lib.hid hB1
      clear hB1 hc1 hf1 hb1
      clear hR
      rw [he]
      go_wp2
      go_ret2
      exact ⟨ret_ib (by rw [HT.out]) (by rw [HE.out]), bl_alloc HB1.out _⟩
    · have hM : wlen (wayI a b x y r u) = (wayI a b x y r u).M + 1 := by simp [wlen, he]
      have HT := Lib.hid (show tM a b x y r u = ((wlen (wayI a b x y r u) : Nat) : Int) - 1 by rw [hM]; simp [tM, okE, h, he])
      have HE := Lib.hid (show okE a b x y r u = true by simp [okE, h, he])
      clear hM
      generalize wlen (wayI a b x y r u) = n at *
      go_enter Try.func36, Try.ntmps36
      go_wp2_with fail
      refine ((HW _).out).mono ?_
      rintro e w1 ⟨g, cap, rfl, hR, hb1⟩
      obtain ⟨hc1, hf1⟩ := bcell hb1
      have hz1 := bsize hb1
      (try simp only [World.size_alloc, World.size_setCell] at hz1)
      have k1_0_0 : w1.cell? ⟨w.heap.size, 0, none⟩ = some (.int .i64 a) := by rw [hc1 _ _ (by first | (simp; done) | omega | (simp; omega))]; first | assumption | (simp [go_sem]; done) | (simp [go_sem]; done) | (simp [go_sem, *]; done)
      have k1_0_1 : w1.cell? ⟨w.heap.size, 1, none⟩ = some (.int .i64 b) := by rw [hc1 _ _ (by first | (simp; done) | omega | (simp; omega))]; first | assumption | (simp [go_sem]; done) | (simp [go_sem]; done) | (simp [go_sem, *]; done)
      have s1_0 : w.heap.size < w1.heap.size := by omega
      have k1_1_0 : w1.cell? ⟨w.heap.size + 1, 0, none⟩ = some (.int .i64 x) := by rw [hc1 _ _ (by first | (simp; done) | omega | (simp; omega))]; first | assumption | (simp [go_sem]; done) | (simp [go_sem]; done) | (simp [go_sem, *]; done)
      have k1_1_1 : w1.cell? ⟨w.heap.size + 1, 1, none⟩ = some (.int .i64 y) := by rw [hc1 _ _ (by first | (simp; done) | omega | (simp; omega))]; first | assumption | (simp [go_sem]; done) | (simp [go_sem]; done) | (simp [go_sem, *]; done)
      have k1_1_2 : w1.cell? ⟨w.heap.size + 1, 2, none⟩ = some (.bool r) := by rw [hc1 _ _ (by first | (simp; done) | omega | (simp; omega))]; first | assumption | (simp [go_sem]; done) | (simp [go_sem]; done) | (simp [go_sem, *]; done)
      have k1_1_3 : w1.cell? ⟨w.heap.size + 1, 3, none⟩ = some (.bool u) := by rw [hc1 _ _ (by first | (simp; done) | omega | (simp; omega))]; first | assumption | (simp [go_sem]; done) | (simp [go_sem]; done) | (simp [go_sem, *]; done)
      have s1_1 : w.heap.size + 1 < w1.heap.size := by omega
      have hB1 : Below w.heap.size w w1 := (by repeat (first | exact Below.refl _ _ | refine bl_alloc ?_ _ | refine bl_drewN ?_ _ | refine bl_trans (by assumption) ?_ | refine bl_set ?_ (by first | omega | (simp; done) | (simp; omega)) _))
      have HB1 := Lib.hid hB1
      clear hB1 hc1 hf1 hb1
      clear hR
      rw [he]
      have HBp2 := HB1
      go_wp2_with fail
      refine (last_any _ _ _ _ (by omega) (by omega) _).mono ?_
      rintro e w2 ⟨rfl, hb2⟩
      obtain ⟨hc2, hf2⟩ := bcell hb2
      have hz2 := bsize hb2
      (try simp only [World.size_alloc, World.size_setCell] at hz2)
      have k2_0_0 : w2.cell? ⟨w.heap.size, 0, none⟩ = some (.int .i64 a) := by rw [hc2 _ _ (by first | (simp; done) | omega | (simp; omega))]; first | assumption | (simp [go_sem]; done) | (simp [go_sem, k1_0_0, k1_0_1, k1_1_0, k1_1_1, k1_1_2, k1_1_3]; done) | (simp [go_sem, *]; done)
      have k2_0_1 : w2.cell? ⟨w.heap.size, 1, none⟩ = some (.int .i64 b) := by rw [hc2 _ _ (by first | (simp; done) | omega | (simp; omega))]; first | assumption | (simp [go_sem]; done) | (simp [go_sem, k1_0_0, k1_0_1, k1_1_0, k1_1_1, k1_1_2, k1_1_3]; done) | (simp [go_sem, *]; done)
      have s2_0 : w.heap.size < w2.heap.size := by omega
      have k2_1_0 : w2.cell? ⟨w.heap.size + 1, 0, none⟩ = some (.int .i64 x) := by rw [hc2 _ _ (by first | (simp; done) | omega | (simp; omega))]; first | assumption | (simp [go_sem]; done) | (simp [go_sem, k1_0_0, k1_0_1, k1_1_0, k1_1_1, k1_1_2, k1_1_3]; done) | (simp [go_sem, *]; done)
      have k2_1_1 : w2.cell? ⟨w.heap.size + 1, 1, none⟩ = some (.int .i64 y) := by rw [hc2 _ _ (by first | (simp; done) | omega | (simp; omega))]; first | assumption | (simp [go_sem]; done) | (simp [go_sem, k1_0_0, k1_0_1, k1_1_0, k1_1_1, k1_1_2, k1_1_3]; done) | (simp [go_sem, *]; done)
      have k2_1_2 : w2.cell? ⟨w.heap.size + 1, 2, none⟩ = some (.bool r) := by rw [hc2 _ _ (by first | (simp; done) | omega | (simp; omega))]; first | assumption | (simp [go_sem]; done) | (simp [go_sem, k1_0_0, k1_0_1, k1_1_0, k1_1_1, k1_1_2, k1_1_3]; done) | (simp [go_sem, *]; done)
      have k2_1_3 : w2.cell? ⟨w.heap.size + 1, 3, none⟩ = some (.bool u) := by rw [hc2 _ _ (by first | (simp; done) | omega | (simp; omega))]; first | assumption | (simp [go_sem]; done) | (simp [go_sem, k1_0_0, k1_0_1, k1_1_0, k1_1_1, k1_1_2, k1_1_3]; done) | (simp [go_sem, *]; done)
      have s2_1 : w.heap.size + 1 < w2.heap.size := by omega
      have hB2 : Below w.heap.size w w2 := (by repeat (first | exact Below.refl _ _ | exact HB1.out | refine bl_alloc ?_ _ | refine bl_drewN ?_ _ | refine bl_trans (by assumption) ?_ | refine bl_set ?_ (by first | omega | (simp; done) | (simp; omega)) _))
      have HB2 := Lib.hid hB2
      clear hB2 hc2 hf2 hb2 k1_0_0 k1_0_1 k1_1_0 k1_1_1 k1_1_2 k1_1_3
      go_wp2
      go_ret2
      exact ⟨ret_ib (by rw [HT.out]) (by rw [HE.out]), HB2.out⟩
set_option maxHeartbeats 800000 in
theorem impl_PeriodOfBeam (a b x y : Int) (r u : Bool) (w : World) :
    Calls Try.prog 44 #[.agg #[.int .i64 a, .int .i64 b], .agg #[.int .i64 x, .int .i64 y, .bool r, .bool u]] w fun e w' => e = .returned (.tuple #[.int .i64 (tP a b x y r u), .bool (okN a b x y r u)]) ∧ Below w.heap.size w w' := by
  cases h : okB a b x y
  · go_enter Try.func44, Try.ntmps44
    go_wp2_with fail
    refine (impl_IsBeam _ _ _ _ _ _ _).mono ?_
    rintro e w1 ⟨rfl, hb1⟩
    obtain ⟨hc1, hf1⟩ := bcell hb1
    have hz1 := bsize hb1
    (try simp only [World.size_alloc, World.size_setCell] at hz1)
    have k1_0_0 : w1.cell? ⟨w.heap.size, 0, none⟩ = some (.int .i64 a) := by rw [hc1 _ _ (by first | (simp; done) | omega | (simp; omega))]; first | assumption | (simp [go_sem]; done) | (simp [go_sem]; done) | (simp [go_sem, *]; done)
    have k1_0_1 : w1.cell? ⟨w.heap.size, 1, none⟩ = some (.int .i64 b) := by rw [hc1 _ _ (by first | (simp; done) | omega | (simp; omega))]; first | assumption | (simp [go_sem]; done) | (simp [go_sem]; done) | (simp [go_sem, *]; done)
    have s1_0 : w.heap.size < w1.heap.size := by omega
    have k1_1_0 : w1.cell? ⟨w.heap.size + 1, 0, none⟩ = some (.int .i64 x) := by rw [hc1 _ _ (by first | (simp; done) | omega | (simp; omega))]; first | assumption | (simp [go_sem]; done) | (simp [go_sem]; done) | (simp [go_sem, *]; done)
    have k1_1_1 : w1.cell? ⟨w.heap.size + 1, 1, none⟩ = some (.int .i64 y) := by rw [hc1 _ _ (by first | (simp; done) | omega | (simp; omega))]; first | assumption | (simp [go_sem]; done) | (simp [go_sem]; done) | (simp [go_sem, *]; done)
    have k1_1_2 : w1.cell? ⟨w.heap.size + 1, 2, none⟩ = some (.bool r) := by rw [hc1 _ _ (by first | (simp; done) | omega | (simp; omega))]; first | assumption | (simp [go_sem]; done) | (simp [go_sem]; done) | (simp [go_sem, *]; done)
    have k1_1_3 : w1.cell? ⟨w.heap.size + 1, 3, none⟩ = some (.bool u) := by rw [hc1 _ _ (by first | (simp; done) | omega | (simp; omega))]; first | assumption | (simp [go_sem]; done) | (simp [go_sem]; done) | (simp [go_sem, *]; done)
    have s1_1 : w.heap.size + 1 < w1.heap.size := by omega
    have hB1 : Below w.heap.size w w1 := (by repeat (first | exact Below.refl _ _ | refine bl_alloc ?_ _ | refine bl_drewN ?_ _ | refine bl_trans (by assumption) ?_ | refine bl_set ?_ (by first | omega | (simp; done) | (simp; omega)) _))
    have HB1 := Lib.hid hB1
    clear hB1 hc1 hf1 hb1
    rw [h]
    go_wp2
    go_ret2
    exact ⟨by simp [okN, tP, h], HB1.out⟩
  · have HW := fun W => Lib.hid (wayOf_of h r u W)
    have hn := wlen_pos (wayI_args h r u).1
    cases he : (wayI a b x y r u).e
    · have hM : wlen (wayI a b x y r u) = (wayI a b x y r u).M := by simp [wlen, he]
      have HT := Lib.hid (show tP a b x y r u = (wlen (wayI a b x y r u) : Nat) by rw [hM]; simp [tP, okN, h, he])
      have HE := Lib.hid (show okN a b x y r u = true by simp [okN, h, he])
      clear hM
      generalize wlen (wayI a b x y r u) = n at *
      go_enter Try.func44, Try.ntmps44
      go_wp2_with fail
      refine (impl_IsBeam _ _ _ _ _ _ _).mono ?_
      rintro e w1 ⟨rfl, hb1⟩
      obtain ⟨hc1, hf1⟩ := bcell hb1
      have hz1 := bsize hb1
      (try simp only [World.size_alloc, World.size_setCell] at hz1)
      have k1_0_0 : w1.cell? ⟨w.heap.size, 0, none⟩ = some (.int .i64 a) := by rw [hc1 _ _ (by first | (simp; done) | omega | (simp; omega))]; first | assumption | (simp [go_sem]; done) | (simp [go_sem]; done) | (simp [go_sem, *]; done)
      have k1_0_1 : w1.cell? ⟨w.heap.size, 1, none⟩ = some (.int .i64 b) := by rw [hc1 _ _ (by first | (simp; done) | omega | (simp; omega))]; first | assumption | (simp [go_sem]; done) | (simp [go_sem]; done) | (simp [go_sem, *]; done)
      have s1_0 : w.heap.size < w1.heap.size := by omega
      have k1_1_0 : w1.cell? ⟨w.heap.size + 1, 0, none⟩ = some (.int .i64 x) := by rw [hc1 _ _ (by first | (simp; done) | omega | (simp; omega))]; first | assumption | (simp [go_sem]; done) | (simp [go_sem]; done) | (simp [go_sem, *]; done)
      have k1_1_1 : w1.cell? ⟨w.heap.size + 1, 1, none⟩ = some (.int .i64 y) := by rw [hc1 _ _ (by first | (simp; done) | omega | (simp; omega))]; first | assumption | (simp [go_sem]; done) | (simp [go_sem]; done) | (simp [go_sem, *]; done)
      have k1_1_2 : w1.cell? ⟨w.heap.size + 1, 2, none⟩ = some (.bool r) := by rw [hc1 _ _ (by first | (simp; done) | omega | (simp; omega))]; first | assumption | (simp [go_sem]; done) | (simp [go_sem]; done) | (simp [go_sem, *]; done)
      have k1_1_3 : w1.cell? ⟨w.heap.size + 1, 3, none⟩ = some (.bool u) := by rw [hc1 _ _ (by first | (simp; done) | omega | (simp; omega))]; first | assumption | (simp [go_sem]; done) | (simp [go_sem]; done) | (simp [go_sem, *]; done)
      have s1_1 : w.heap.size + 1 < w1.heap.size := by omega
      have hB1 : Below w.heap.size w w1 := (by repeat (first | exact Below.refl _ _ | refine bl_alloc ?_ _ | refine bl_drewN ?_ _ | refine bl_trans (by assumption) ?_ | refine bl_set ?_ (by first | omega | (simp; done) | (simp; omega)) _))
      have HB1 := Lib.hid hB1
      clear hB1 hc1 hf1 hb1
      rw [h]
      have HBp2 := HB1
      go_wp2_with fail
      refine ((HW _).out).mono ?_
      rintro e w2 ⟨g, cap, rfl, hR, hb2⟩
      obtain ⟨hc2, hf2⟩ := bcell hb2
      have hz2 := bsize hb2
      (try simp only [World.size_alloc, World.size_setCell] at hz2)
      have k2_0_0 : w2.cell? ⟨w.heap.size, 0, none⟩ = some (.int .i64 a) := by rw [hc2 _ _ (by first | (simp; done) | omega | (simp; omega))]; first | assumption | (simp [go_sem]; done) | (simp [go_sem, k1_0_0, k1_0_1, k1_1_0, k1_1_1, k1_1_2, k1_1_3]; done) | (simp [go_sem, *]; done)
      have k2_0_1 : w2.cell? ⟨w.heap.size, 1, none⟩ = some (.int .i64 b) := by rw [hc2 _ _ (by first | (simp; done) | omega | (simp; omega))]; first | assumption | (simp [go_sem]; done) | (simp [go_sem, k1_0_0, k1_0_1, k1_1_0, k1_1_1, k1_1_2, k1_1_3]; done) | (simp [go_sem, *]; done)
      have s2_0 : w.heap.size < w2.heap.size := by omega
      have k2_1_0 : w2.cell? ⟨w.heap.size + 1, 0, none⟩ = some (.int .i64 x) := by rw [hc2 _ _ (by first | (simp; done) | omega | (simp; omega))]; first | assumption | (simp [go_sem]; done) | (simp [go_sem, k1_0_0, k1_0_1, k1_1_0, k1_1_1, k1_1_2, k1_1_3]; done) | (simp [go_sem, *]; done)
      have k2_1_1 : w2.cell? ⟨w.heap.size + 1, 1, none⟩ = some (.int .i64 y) := by rw [hc2 _ _ (by first | (simp; done) | omega | (simp; omega))]; first | assumption | (simp [go_sem]; done) | (simp [go_sem, k1_0_0, k1_0_1, k1_1_0, k1_1_1, k1_1_2, k1_1_3]; done) | (simp [go_sem, *]; done)
      have k2_1_2 : w2.cell? ⟨w.heap.size + 1, 2, none⟩ = some (.bool r) := by rw [hc2 _ _ (by first | (simp; done) | omega | (simp; omega))]; first | assumption | (simp [go_sem]; done) | (simp [go_sem, k1_0_0, k1_0_1, k1_1_0, k1_1_1, k1_1_2, k1_1_3]; done) | (simp [go_sem, *]; done)
      have k2_1_3 : w2.cell? ⟨w.heap.size + 1, 3, none⟩ = some (.bool u) := by rw [hc2 _ _ (by first | (simp; done) | omega | (simp; omega))]; first | assumption | (simp [go_sem]; done) | (simp [go_sem, k1_0_0, k1_0_1, k1_1_0, k1_1_1, k1_1_2, k1_1_3]; done) | (simp [go_sem, *]; done)
      have s2_1 : w.heap.size + 1 < w2.heap.size := by omega
      have hB2 : Below w.heap.size w w2 := (by repeat (first | exact Below.refl _ _ | exact HB1.out | refine bl_alloc ?_ _ | refine bl_drewN ?_ _ | refine bl_trans (by assumption) ?_ | refine bl_set ?_ (by first | omega | (simp; done) | (simp; omega)) _))
      have HB2 := Lib.hid hB2
      clear hB2 hc2 hf2 hb2 k1_0_0 k1_0_1 k1_1_0 k1_1_1 k1_1_2 k1_1_3
      clear hR
      rw [he]
      go_wp2
      go_ret2
      exact ⟨ret_ib (by rw [HT.out]) (by rw [HE.out]), bl_alloc HB2.out _⟩
    · have HT := Lib.hid (show tP a b x y r u = 0 by simp [tP, okN, h, he])
      have HE := Lib.hid (show okN a b x y r u = false by simp [okN, h, he])
      generalize wlen (wayI a b x y r u) = n at *
      go_enter Try.func44, Try.ntmps44
      go_wp2_with fail
      refine (impl_IsBeam _ _ _ _ _ _ _).mono ?_
      rintro e w1 ⟨rfl, hb1⟩
      obtain ⟨hc1, hf1⟩ := bcell hb1
      have hz1 := bsize hb1
      (try simp only [World.size_alloc, World.size_setCell] at hz1)
      have k1_0_0 : w1.cell? ⟨w.heap.size, 0, none⟩ = some (.int .i64 a) := by rw [hc1 _ _ (by first | (simp; done) | omega | (simp; omega))]; first | assumption | (simp [go_sem]; done) | (simp [go_sem]; done) | (simp [go_sem, *]; done)
      have k1_0_1 : w1.cell? ⟨w.heap.size, 1, none⟩ = some (.int .i64 b) := by rw [hc1 _ _ (by first | (simp; done) | omega | (simp; omega))]; first | assumption | (simp [go_sem]; done) | (simp [go_sem]; done) | (simp [go_sem, *]; done)
      have s1_0 : w.heap.size < w1.heap.size := by omega
      have k1_1_0 : w1.cell? ⟨w.heap.size + 1, 0, none⟩ = some (.int .i64 x) := by rw [hc1 _ _ (by first | (simp; done) | omega | (simp; omega))]; first | assumption | (simp [go_sem]; done) | (simp [go_sem]; done) | (simp [go_sem, *]; done)
      have k1_1_1 : w1.cell? ⟨w.heap.size + 1, 1, none⟩ = some (.int .i64 y) := by rw [hc1 _ _ (by first | (simp; done) | omega | (simp; omega))]; first | assumption | (simp [go_sem]; done) | (simp [go_sem]; done) | (simp [go_sem, *]; done)
      have k1_1_2 : w1.cell? ⟨w.heap.size + 1, 2, none⟩ = some (.bool r) := by rw [hc1 _ _ (by first | (simp; done) | omega | (simp; omega))]; first | assumption | (simp [go_sem]; done) | (simp [go_sem]; done) | (simp [go_sem, *]; done)
      have k1_1_3 : w1.cell? ⟨w.heap.size + 1, 3, none⟩ = some (.bool u) := by rw [hc1 _ _ (by first | (simp; done) | omega | (simp; omega))]; first | assumption | (simp [go_sem]; done) | (simp [go_sem]; done) | (simp [go_sem, *]; done)
      have s1_1 : w.heap.size + 1 < w1.heap.size := by omega
      have hB1 : Below w.heap.size w w1 := (by repeat (first | exact Below.refl _ _ | refine bl_alloc ?_ _ | refine bl_drewN ?_ _ | refine bl_trans (by assumption) ?_ | refine bl_set ?_ (by first | omega | (simp; done) | (simp; omega)) _))
      have HB1 := Lib.hid hB1
      clear hB1 hc1 hf1 hb1
      rw [h]
      have HBp2 := HB1
      go_wp2_with fail
      refine ((HW _).out).mono ?_
      rintro e w2 ⟨g, cap, rfl, hR, hb2⟩
      obtain ⟨hc2, hf2⟩ := bcell hb2
      have hz2 := bsize hb2
      (try simp only [World.size_alloc, World.size_setCell] at hz2)
      have k2_0_0 : w2.cell? ⟨w.heap.size, 0, none⟩ = some (.int .i64 a) := by rw [hc2 _ _ (by first | (simp; done) | omega | (simp; omega))]; first | assumption | (simp [go_sem]; done) | (simp [go_sem, k1_0_0, k1_0_1, k1_1_0, k1_1_1, k1_1_2, k1_1_3]; done) | (simp [go_sem, *]; done)
      have k2_0_1 : w2.cell? ⟨w.heap.size, 1, none⟩ = some (.int .i64 b) := by rw [hc2 _ _ (by first | (simp; done) | omega | (simp; omega))]; first | assumption | (simp [go_sem]; done) | (simp [go_sem, k1_0_0, k1_0_1, k1_1_0, k1_1_1, k1_1_2, k1_1_3]; done) | (simp [go_sem, *]; done)
      have s2_0 : w.heap.size < w2.heap.size := by omega
      have k2_1_0 : w2.cell? ⟨w.heap.size + 1, 0, none⟩ = some (.int .i64 x) := by rw [hc2 _ _ (by first | (simp; done) | omega | (simp; omega))]; first | assumption | (simp [go_sem]; done) | (simp [go_sem, k1_0_0, k1_0_1, k1_1_0, k1_1_1, k1_1_2, k1_1_3]; done) | (simp [go_sem, *]; done)
      have k2_1_1 : w2.cell? ⟨w.heap.size + 1, 1, none⟩ = some (.int .i64 y) := by rw [hc2 _ _ (by first | (simp; done) | omega | (simp; omega))]; first | assumption | (simp [go_sem]; done) | (simp [go_sem, k1_0_0, k1_0_1, k1_1_0, k1_1_1, k1_1_2, k1_1_3]; done) | (simp [go_sem, *]; done)
      have k2_1_2 : w2.cell? ⟨w.heap.size + 1, 2, none⟩ = some (.bool r) := by rw [hc2 _ _ (by first | (simp; done) | omega | (simp; omega))]; first | assumption | (simp [go_sem]; done) | (simp [go_sem, k1_0_0, k1_0_1, k1_1_0, k1_1_1, k1_1_2, k1_1_3]; done) | (simp [go_sem, *]; done)
      have k2_1_3 : w2.cell? ⟨w.heap.size + 1, 3, none⟩ = some (.bool u) := by rw [hc2 _ _ (by first | (simp; done) | omega | (simp; omega))]; first | assumption | (simp [go_sem]; done) | (simp [go_sem, k1_0_0, k1_0_1, k1_1_0, k1_1_1, k1_1_2, k1_1_3]; done) | (simp [go_sem, *]; done)
      have s2_1 : w.heap.size + 1 < w2.heap.size := by omega
      have hB2 : Below w.heap.size w w2 := (by repeat (first | exact Below.refl _ _ | exact HB1.out | refine bl_alloc ?_ _ | refine bl_drewN ?_ _ | refine bl_trans (by assumption) ?_ | refine bl_set ?_ (by first | omega | (simp; done) | (simp; omega)) _))
      have HB2 := Lib.hid hB2
      clear hB2 hc2 hf2 hb2 k1_0_0 k1_0_1 k1_1_0 k1_1_1 k1_1_2 k1_1_3
      clear hR
      rw [he]
      go_wp2
      go_ret2
      exact ⟨ret_ib (by rw [HT.out]) (by rw [HE.out]), bl_alloc HB2.out _⟩
set_option maxHeartbeats 1000000 in
theorem bePeriod_any (t : BWay) (h : t.ok) (he : t.e = false) (g cap n B : Nat) (w : World) (hR : BRow w B (.slice (some ⟨g, 0, none⟩) n cap) n t) (hn : t.M < n) :
    Calls Try.prog 75 #[.slice (some ⟨g, 0, none⟩) n cap] w fun e w' => e = .returned (.int .i64 (t.M : Nat)) ∧ Below w.heap.size w w' := by
  have R0 := Lib.hid hR
  have OK := Lib.hid h
  have EE := Lib.hid he
  have MS := Lib.hid (t.M_spec h)
  have hM7 := M_le h
  have nocor := Lib.hid (fun j => BWay.no_cor h he j)
  clear hR h he
  go_enter Try.func75, Try.ntmps75
  go_wp2
  go_loopw [3] (fun kk wr => ∃ (k m : Nat), kk = .int .i64 (k : Nat) ∧ 1 ≤ k ∧ k ≤ t.M ∧ wr = w.drewN m) (fun kk _ => t.M - (intOf kk).toNat)
  case atStart => exact ⟨1, 0, rfl, Nat.le_refl _, MS.out.1, rfl⟩
  case round =>
    obtain ⟨k, m, rfl, hk1, hk2, rfl⟩ := hrel
    obtain ⟨g', cap', e, hgB, hg, hc1, hc2, hcc⟩ := R0.out.open_ (show 0 < n by omega)
    simp only [Value.slice.injEq, Option.some.injEq, Addr.mk.injEq, and_true, true_and] at e
    obtain ⟨rfl, rfl⟩ := e
    obtain ⟨c0, c1, c2, c3⟩ := hcc k (by omega)
    obtain ⟨d0, d1, d2, d3⟩ := hcc 0 (by omega)
    rw [bm_go (.inr (nocor.out k))] at c0 c1 c2 c3
    rw [bm_go (.inl rfl)] at d0 d1 d2 d3
    simp only [List.getElem?_cons_zero, List.getElem?_cons_succ, Nat.zero_mul, Nat.zero_add] at c0 c1 c2 c3 d0 d1 d2 d3
    clear hcc
    have ix0 : (0 : Int) ≤ (k : Int) := by omega
    have ix1 : (k : Int) < (n : Int) := by omega
    have ix2 : (0 : Int) < (n : Int) := by omega
    by_cases hlt : k < t.M
    · have hns := (BWay.stop_no (MS.out.2.2.1 k hk1 hlt)).2
      have key : (t.x k ≠ t.x 0 ∨ t.x k = t.x 0 ∧ t.y k ≠ t.y 0) ∨ (t.x k = t.x 0 ∧ t.y k = t.y 0 ∧ t.r k ≠ t.r 0) ∨ (t.x k = t.x 0 ∧ t.y k = t.y 0 ∧ t.r k = t.r 0 ∧ t.u k ≠ t.u 0) := by
        by_cases e1 : t.x k = t.x 0
        · by_cases e2 : t.y k = t.y 0
          · by_cases e3 : t.r k = t.r 0
            · by_cases e4 : t.u k = t.u 0
              · rw [same_of_eq (by rw [e1]) (by rw [e2]) e3 e4] at hns; cases hns
              · exact .inr (.inr ⟨e1, e2, e3, e4⟩)
            · exact .inr (.inl ⟨e1, e2, e3⟩)
          · exact .inl (.inr ⟨e1, e2⟩)
        · exact .inl (.inl e1)
      clear hns
      have HLT := Lib.hid hlt
      rcases key with (e1 | ⟨e1, e2⟩) | ⟨e1, e2, e3⟩ | ⟨e1, e2, e3, e4⟩
      case' inl.inl => have n1 : ¬ ((t.x k : Nat) : Int) = ((t.x 0 : Nat) : Int) := by omega
      case' inl.inr => rw [e1] at c0; have n1 : ¬ ((t.y k : Nat) : Int) = ((t.y 0 : Nat) : Int) := by omega
      case' inr.inl => rw [e1] at c0; rw [e2] at c1; have n1 := e3
      case' inr.inr => rw [e1] at c0; rw [e2] at c1; rw [e3] at c2; have n1 := e4
      all_goals
        (try clear e1); (try clear e2); (try clear e3); (try clear e4)
        go_wp2_with fail
        go_quiet (fail)
        go_wp2
        go_roundw
        case rel => exact ⟨k + 1, m + nq, by go_num, by omega, HLT.out, by simp⟩
        case measure => have := HLT.out; simp only [intOf]; omega
    · obtain rfl : k = t.M := by omega
      have hs : t.same t.M = true := by
        have h1 := MS.out.2.2.2
        have h2 := nocor.out t.M
        simpa [BWay.stop, h2] using h1
      obtain ⟨e1, e2, e3, e4⟩ := eqs_of_same hs
      rw [e1] at c0
      rw [e2] at c1
      rw [e3] at c2
      rw [e4] at c3
      clear hs e1 e2 e3 e4
      go_wp2_with fail
      go_quiet (fail)
      go_wp2
      go_ret
      exact ⟨rfl, below_drewN (below_drewN (Below.refl _ _) _) _⟩
set_option maxHeartbeats 800000 in
theorem spec_PeriodOfBeam (a b x y : Int) (r u : Bool) (w : World) :
    Calls Try.prog 43 #[.agg #[.int .i64 a, .int .i64 b], .agg #[.int .i64 x, .int .i64 y, .bool r, .bool u]] w fun e w' => e = .returned (.tuple #[.int .i64 (tP a b x y r u), .bool (okN a b x y r u)]) ∧ Below w.heap.size w w' := by
  cases h : okB a b x y
  · go_enter Try.func43, Try.ntmps43
    go_wp2_with fail
    refine (spec_beGood _ _ _ _ _ _ _).mono ?_
    rintro e w1 ⟨rfl, hb1⟩
    obtain ⟨hc1, hf1⟩ := bcell hb1
    have hz1 := bsize hb1
    (try simp only [World.size_alloc, World.size_setCell] at hz1)
    have k1_0_0 : w1.cell? ⟨w.heap.size, 0, none⟩ = some (.int .i64 a) := by rw [hc1 _ _ (by first | (simp; done) | omega | (simp; omega))]; first | assumption | (simp [go_sem]; done) | (simp [go_sem]; done) | (simp [go_sem, *]; done)
    have k1_0_1 : w1.cell? ⟨w.heap.size, 1, none⟩ = some (.int .i64 b) := by rw [hc1 _ _ (by first | (simp; done) | omega | (simp; omega))]; first | assumption | (simp [go_sem]; done) | (simp [go_sem]; done) | (simp [go_sem, *]; done)
    have s1_0 : w.heap.size < w1.heap.size := by omega
    have k1_1_0 : w1.cell? ⟨w.heap.size + 1, 0, none⟩ = some (.int .i64 x) := by rw [hc1 _ _ (by first | (simp; done) | omega | (simp; omega))]; first | assumption | (simp [go_sem]; done) | (simp [go_sem]; done) | (simp [go_sem, *]; done)
    have k1_1_1 : w1.cell? ⟨w.heap.size + 1, 1, none⟩ = some (.int .i64 y) := by rw [hc1 _ _ (by first | (simp; done) | omega | (simp; omega))]; first | assumption | (simp [go_sem]; done) | (simp [go_sem]; done) | (simp [go_sem, *]; done)
    have k1_1_2 : w1.cell? ⟨w.heap.size + 1, 2, none⟩ = some (.bool r) := by rw [hc1 _ _ (by first | (simp; done) | omega | (simp; omega))]; first | assumption | (simp [go_sem]; done) | (simp [go_sem]; done) | (simp [go_sem, *]; done)
    have k1_1_3 : w1.cell? ⟨w.heap.size + 1, 3, none⟩ = some (.bool u) := by rw [hc1 _ _ (by first | (simp; done) | omega | (simp; omega))]; first | assumption | (simp [go_sem]; done) | (simp [go_sem]; done) | (simp [go_sem, *]; done)
    have s1_1 : w.heap.size + 1 < w1.heap.size := by omega
    have hB1 : Below w.heap.size w w1 := (by repeat (first | exact Below.refl _ _ | refine bl_alloc ?_ _ | refine bl_drewN ?_ _ | refine bl_trans (by assumption) ?_ | refine bl_set ?_ (by first | omega | (simp; done) | (simp; omega)) _))
    have HB1 := Lib.hid hB1
    clear hB1 hc1 hf1 hb1
    rw [h]
    go_wp2
    go_ret2
    exact ⟨by simp [okN, tP, h], HB1.out⟩
  · have HX := long_le (wayI_args h r u).1
    have OK := Lib.hid (wayI_args h r u).1
    have hm := (wayI a b x y r u).made_lt (longN (wayI a b x y r u))
    have HML := Lib.hid (fun he => made_long' (t := wayI a b x y r u) he (longN (wayI a b x y r u)))
    have HW := fun W => Lib.hid (beEnd_of h r u W)
    cases he : (wayI a b x y r u).e
    · have HT := Lib.hid (show tP a b x y r u = ((wayI a b x y r u).M : Nat) by simp [tP, okN, h, he])
      have HE := Lib.hid (show okN a b x y r u = true by simp [okN, h, he])
      have hml := HML.out he
      generalize (wayI a b x y r u).made (longN (wayI a b x y r u)) = n at *
      generalize sidesS (wayI a b x y r u) n = sd at *
      have HMN := Lib.hid (show (wayI a b x y r u).M < n + 1 by rw [hml]; exact Nat.lt_succ_of_lt HX.2)
      clear hm hml
      go_enter Try.func43, Try.ntmps43
      go_wp2_with fail
      refine (spec_beGood _ _ _ _ _ _ _).mono ?_
      rintro e w1 ⟨rfl, hb1⟩
      obtain ⟨hc1, hf1⟩ := bcell hb1
      have hz1 := bsize hb1
      (try simp only [World.size_alloc, World.size_setCell] at hz1)
      have k1_0_0 : w1.cell? ⟨w.heap.size, 0, none⟩ = some (.int .i64 a) := by rw [hc1 _ _ (by first | (simp; done) | omega | (simp; omega))]; first | assumption | (simp [go_sem]; done) | (simp [go_sem]; done) | (simp [go_sem, *]; done)
      have k1_0_1 : w1.cell? ⟨w.heap.size, 1, none⟩ = some (.int .i64 b) := by rw [hc1 _ _ (by first | (simp; done) | omega | (simp; omega))]; first | assumption | (simp [go_sem]; done) | (simp [go_sem]; done) | (simp [go_sem, *]; done)
      have s1_0 : w.heap.size < w1.heap.size := by omega
      have k1_1_0 : w1.cell? ⟨w.heap.size + 1, 0, none⟩ = some (.int .i64 x) := by rw [hc1 _ _ (by first | (simp; done) | omega | (simp; omega))]; first | assumption | (simp [go_sem]; done) | (simp [go_sem]; done) | (simp [go_sem, *]; done)
      have k1_1_1 : w1.cell? ⟨w.heap.size + 1, 1, none⟩ = some (.int .i64 y) := by rw [hc1 _ _ (by first | (simp; done) | omega | (simp; omega))]; first | assumption | (simp [go_sem]; done) | (simp [go_sem]; done) | (simp [go_sem, *]; done)
      have k1_1_2 : w1.cell? ⟨w.heap.size + 1, 2, none⟩ = some (.bool r) := by rw [hc1 _ _ (by first | (simp; done) | omega | (simp; omega))]; first | assumption | (simp [go_sem]; done) | (simp [go_sem]; done) | (simp [go_sem, *]; done)
      have k1_1_3 : w1.cell? ⟨w.heap.size + 1, 3, none⟩ = some (.bool u) := by rw [hc1 _ _ (by first | (simp; done) | omega | (simp; omega))]; first | assumption | (simp [go_sem]; done) | (simp [go_sem]; done) | (simp [go_sem, *]; done)
      have s1_1 : w.heap.size + 1 < w1.heap.size := by omega
      have hB1 : Below w.heap.size w w1 := (by repeat (first | exact Below.refl _ _ | refine bl_alloc ?_ _ | refine bl_drewN ?_ _ | refine bl_trans (by assumption) ?_ | refine bl_set ?_ (by first | omega | (simp; done) | (simp; omega)) _))
      have HB1 := Lib.hid hB1
      clear hB1 hc1 hf1 hb1
      rw [h]
      have HBp2 := HB1
      go_wp2_with fail
      refine ((HW _).out).mono ?_
      rintro e w2 ⟨g, cap, rfl, hR, hb2⟩
      obtain ⟨hc2, hf2⟩ := bcell hb2
      have hz2 := bsize hb2
      (try simp only [World.size_alloc, World.size_setCell] at hz2)
      have k2_0_0 : w2.cell? ⟨w.heap.size, 0, none⟩ = some (.int .i64 a) := by rw [hc2 _ _ (by first | (simp; done) | omega | (simp; omega))]; first | assumption | (simp [go_sem]; done) | (simp [go_sem, k1_0_0, k1_0_1, k1_1_0, k1_1_1, k1_1_2, k1_1_3]; done) | (simp [go_sem, *]; done)
      have k2_0_1 : w2.cell? ⟨w.heap.size, 1, none⟩ = some (.int .i64 b) := by rw [hc2 _ _ (by first | (simp; done) | omega | (simp; omega))]; first | assumption | (simp [go_sem]; done) | (simp [go_sem, k1_0_0, k1_0_1, k1_1_0, k1_1_1, k1_1_2, k1_1_3]; done) | (simp [go_sem, *]; done)
      have s2_0 : w.heap.size < w2.heap.size := by omega
      have k2_1_0 : w2.cell? ⟨w.heap.size + 1, 0, none⟩ = some (.int .i64 x) := by rw [hc2 _ _ (by first | (simp; done) | omega | (simp; omega))]; first | assumption | (simp [go_sem]; done) | (simp [go_sem, k1_0_0, k1_0_1, k1_1_0, k1_1_1, k1_1_2, k1_1_3]; done) | (simp [go_sem, *]; done)
      have k2_1_1 : w2.cell? ⟨w.heap.size + 1, 1, none⟩ = some (.int .i64 y) := by rw [hc2 _ _ (by first | (simp; done) | omega | (simp; omega))]; first | assumption | (simp [go_sem]; done) | (simp [go_sem, k1_0_0, k1_0_1, k1_1_0, k1_1_1, k1_1_2, k1_1_3]; done) | (simp [go_sem, *]; done)
      have k2_1_2 : w2.cell? ⟨w.heap.size + 1, 2, none⟩ = some (.bool r) := by rw [hc2 _ _ (by first | (simp; done) | omega | (simp; omega))]; first | assumption | (simp [go_sem]; done) | (simp [go_sem, k1_0_0, k1_0_1, k1_1_0, k1_1_1, k1_1_2, k1_1_3]; done) | (simp [go_sem, *]; done)
      have k2_1_3 : w2.cell? ⟨w.heap.size + 1, 3, none⟩ = some (.bool u) := by rw [hc2 _ _ (by first | (simp; done) | omega | (simp; omega))]; first | assumption | (simp [go_sem]; done) | (simp [go_sem, k1_0_0, k1_0_1, k1_1_0, k1_1_1, k1_1_2, k1_1_3]; done) | (simp [go_sem, *]; done)
      have s2_1 : w.heap.size + 1 < w2.heap.size := by omega
      have hB2 : Below w.heap.size w w2 := (by repeat (first | exact Below.refl _ _ | exact HB1.out | refine bl_alloc ?_ _ | refine bl_drewN ?_ _ | refine bl_trans (by assumption) ?_ | refine bl_set ?_ (by first | omega | (simp; done) | (simp; omega)) _))
      have HB2 := Lib.hid hB2
      clear hB2 hc2 hf2 hb2 k1_0_0 k1_0_1 k1_1_0 k1_1_1 k1_1_2 k1_1_3
      have HR := Lib.hid hR
      clear hR
      rw [he]
      have HBp3 := HB2
      go_wp2_with fail
      refine (bePeriod_any _ OK.out he g cap _ _ _ HR.out HMN.out).mono ?_
      rintro e w3 ⟨rfl, hb3⟩
      obtain ⟨hc3, hf3⟩ := bcell hb3
      have hz3 := bsize hb3
      (try simp only [World.size_alloc, World.size_setCell] at hz3)
      have k3_0_0 : w3.cell? ⟨w.heap.size, 0, none⟩ = some (.int .i64 a) := by rw [hc3 _ _ (by first | (simp; done) | omega | (simp; omega))]; first | assumption | (simp [go_sem]; done) | (simp [go_sem, k2_0_0, k2_0_1, k2_1_0, k2_1_1, k2_1_2, k2_1_3]; done) | (simp [go_sem, *]; done)
      have k3_0_1 : w3.cell? ⟨w.heap.size, 1, none⟩ = some (.int .i64 b) := by rw [hc3 _ _ (by first | (simp; done) | omega | (simp; omega))]; first | assumption | (simp [go_sem]; done) | (simp [go_sem, k2_0_0, k2_0_1, k2_1_0, k2_1_1, k2_1_2, k2_1_3]; done) | (simp [go_sem, *]; done)
      have s3_0 : w.heap.size < w3.heap.size := by omega
      have k3_1_0 : w3.cell? ⟨w.heap.size + 1, 0, none⟩ = some (.int .i64 x) := by rw [hc3 _ _ (by first | (simp; done) | omega | (simp; omega))]; first | assumption | (simp [go_sem]; done) | (simp [go_sem, k2_0_0, k2_0_1, k2_1_0, k2_1_1, k2_1_2, k2_1_3]; done) | (simp [go_sem, *]; done)
      have k3_1_1 : w3.cell? ⟨w.heap.size + 1, 1, none⟩ = some (.int .i64 y) := by rw [hc3 _ _ (by first | (simp; done) | omega | (simp; omega))]; first | assumption | (simp [go_sem]; done) | (simp [go_sem, k2_0_0, k2_0_1, k2_1_0, k2_1_1, k2_1_2, k2_1_3]; done) | (simp [go_sem, *]; done)
      have k3_1_2 : w3.cell? ⟨w.heap.size + 1, 2, none⟩ = some (.bool r) := by rw [hc3 _ _ (by first | (simp; done) | omega | (simp; omega))]; first | assumption | (simp [go_sem]; done) | (simp [go_sem, k2_0_0, k2_0_1, k2_1_0, k2_1_1, k2_1_2, k2_1_3]; done) | (simp [go_sem, *]; done)
      have k3_1_3 : w3.cell? ⟨w.heap.size + 1, 3, none⟩ = some (.bool u) := by rw [hc3 _ _ (by first | (simp; done) | omega | (simp; omega))]; first | assumption | (simp [go_sem]; done) | (simp [go_sem, k2_0_0, k2_0_1, k2_1_0, k2_1_1, k2_1_2, k2_1_3]; done) | (simp [go_sem, *]; done)
      have s3_1 : w.heap.size + 1 < w3.heap.size := by omega
      have hB3 : Below w.heap.size w w3 := (by repeat (first | exact Below.refl _ _ | exact HB2.out | refine bl_alloc ?_ _ | refine bl_drewN ?_ _ | refine bl_trans (by assumption) ?_ | refine bl_set ?_ (by first | omega | (simp; done) | (simp; omega)) _))
      have HB3 := Lib.hid hB3
      clear hB3 hc3 hf3 hb3 k2_0_0 k2_0_1 k2_1_0 k2_1_1 k2_1_2 k2_1_3
      go_wp2
      go_ret2
      exact ⟨ret_ib (by rw [HT.out]) (by rw [HE.out]), HB3.out⟩
    · have HT := Lib.hid (show tP a b x y r u = 0 by simp [tP, okN, h, he])
      have HE := Lib.hid (show okN a b x y r u = false by simp [okN, h, he])
      generalize (wayI a b x y r u).made (longN (wayI a b x y r u)) = n at *
      generalize sidesS (wayI a b x y r u) n = sd at *
      go_enter Try.func43, Try.ntmps43
      go_wp2_with fail
      refine (spec_beGood _ _ _ _ _ _ _).mono ?_
      rintro e w1 ⟨rfl, hb1⟩
      obtain ⟨hc1, hf1⟩ := bcell hb1
      have hz1 := bsize hb1
      (try simp only [World.size_alloc, World.size_setCell] at hz1)
      have k1_0_0 : w1.cell? ⟨w.heap.size, 0, none⟩ = some (.int .i64 a) := by rw [hc1 _ _ (by first | (simp; done) | omega | (simp; omega))]; first | assumption | (simp [go_sem]; done) | (simp [go_sem]; done) | (simp [go_sem, *]; done)
      have k1_0_1 : w1.cell? ⟨w.heap.size, 1, none⟩ = some (.int .i64 b) := by rw [hc1 _ _ (by first | (simp; done) | omega | (simp; omega))]; first | assumption | (simp [go_sem]; done) | (simp [go_sem]; done) | (simp [go_sem, *]; done)
      have s1_0 : w.heap.size < w1.heap.size := by omega
      have k1_1_0 : w1.cell? ⟨w.heap.size + 1, 0, none⟩ = some (.int .i64 x) := by rw [hc1 _ _ (by first | (simp; done) | omega | (simp; omega))]; first | assumption | (simp [go_sem]; done) | (simp [go_sem]; done) | (simp [go_sem, *]; done)
      have k1_1_1 : w1.cell? ⟨w.heap.size + 1, 1, none⟩ = some (.int .i64 y) := by rw [hc1 _ _ (by first | (simp; done) | omega | (simp; omega))]; first | assumption | (simp [go_sem]; done) | (simp [go_sem]; done) | (simp [go_sem, *]; done)
      have k1_1_2 : w1.cell? ⟨w.heap.size + 1, 2, none⟩ = some (.bool r) := by rw [hc1 _ _ (by first | (simp; done) | omega | (simp; omega))]; first | assumption | (simp [go_sem]; done) | (simp [go_sem]; done) | (simp [go_sem, *]; done)
      have k1_1_3 : w1.cell? ⟨w.heap.size + 1, 3, none⟩ = some (.bool u) := by rw [hc1 _ _ (by first | (simp; done) | omega | (simp; omega))]; first | assumption | (simp [go_sem]; done) | (simp [go_sem]; done) | (simp [go_sem, *]; done)
      have s1_1 : w.heap.size + 1 < w1.heap.size := by omega
      have hB1 : Below w.heap.size w w1 := (by repeat (first | exact Below.refl _ _ | refine bl_alloc ?_ _ | refine bl_drewN ?_ _ | refine bl_trans (by assumption) ?_ | refine bl_set ?_ (by first | omega | (simp; done) | (simp; omega)) _))
      have HB1 := Lib.hid hB1
      clear hB1 hc1 hf1 hb1
      rw [h]
      have HBp2 := HB1
      go_wp2_with fail
      refine ((HW _).out).mono ?_
      rintro e w2 ⟨g, cap, rfl, hR, hb2⟩
      obtain ⟨hc2, hf2⟩ := bcell hb2
      have hz2 := bsize hb2
      (try simp only [World.size_alloc, World.size_setCell] at hz2)
      have k2_0_0 : w2.cell? ⟨w.heap.size, 0, none⟩ = some (.int .i64 a) := by rw [hc2 _ _ (by first | (simp; done) | omega | (simp; omega))]; first | assumption | (simp [go_sem]; done) | (simp [go_sem, k1_0_0, k1_0_1, k1_1_0, k1_1_1, k1_1_2, k1_1_3]; done) | (simp [go_sem, *]; done)
      have k2_0_1 : w2.cell? ⟨w.heap.size, 1, none⟩ = some (.int .i64 b) := by rw [hc2 _ _ (by first | (simp; done) | omega | (simp; omega))]; first | assumption | (simp [go_sem]; done) | (simp [go_sem, k1_0_0, k1_0_1, k1_1_0, k1_1_1, k1_1_2, k1_1_3]; done) | (simp [go_sem, *]; done)
      have s2_0 : w.heap.size < w2.heap.size := by omega
      have k2_1_0 : w2.cell? ⟨w.heap.size + 1, 0, none⟩ = some (.int .i64 x) := by rw [hc2 _ _ (by first | (simp; done) | omega | (simp; omega))]; first | assumption | (simp [go_sem]; done) | (simp [go_sem, k1_0_0, k1_0_1, k1_1_0, k1_1_1, k1_1_2, k1_1_3]; done) | (simp [go_sem, *]; done)
      have k2_1_1 : w2.cell? ⟨w.heap.size + 1, 1, none⟩ = some (.int .i64 y) := by rw [hc2 _ _ (by first | (simp; done) | omega | (simp; omega))]; first | assumption | (simp [go_sem]; done) | (simp [go_sem, k1_0_0, k1_0_1, k1_1_0, k1_1_1, k1_1_2, k1_1_3]; done) | (simp [go_sem, *]; done)
      have k2_1_2 : w2.cell? ⟨w.heap.size + 1, 2, none⟩ = some (.bool r) := by rw [hc2 _ _ (by first | (simp; done) | omega | (simp; omega))]; first | assumption | (simp [go_sem]; done) | (simp [go_sem, k1_0_0, k1_0_1, k1_1_0, k1_1_1, k1_1_2, k1_1_3]; done) | (simp [go_sem, *]; done)
      have k2_1_3 : w2.cell? ⟨w.heap.size + 1, 3, none⟩ = some (.bool u) := by rw [hc2 _ _ (by first | (simp; done) | omega | (simp; omega))]; first | assumption | (simp [go_sem]; done) | (simp [go_sem, k1_0_0, k1_0_1, k1_1_0, k1_1_1, k1_1_2, k1_1_3]; done) | (simp [go_sem, *]; done)
      have s2_1 : w.heap.size + 1 < w2.heap.size := by omega
      have hB2 : Below w.heap.size w w2 := (by repeat (first | exact Below.refl _ _ | exact HB1.out | refine bl_alloc ?_ _ | refine bl_drewN ?_ _ | refine bl_trans (by assumption) ?_ | refine bl_set ?_ (by first | omega | (simp; done) | (simp; omega)) _))
      have HB2 := Lib.hid hB2
      clear hB2 hc2 hf2 hb2 k1_0_0 k1_0_1 k1_1_0 k1_1_1 k1_1_2 k1_1_3
      clear hR
      rw [he]
      go_wp2
      go_ret2
      exact ⟨ret_ib (by rw [HT.out]) (by rw [HE.out]), HB2.out⟩
end Go.Proofs.Ytnhjiipkekblfaa
