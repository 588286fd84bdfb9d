/- StepsToCorner, PeriodOfBeam: by the program and by the model alike. -/
import Derived.Test.YtgpfnbajjephpaaB5
namespace Go.Proofs.Ytgpfnbajjephpaa
open Go.RowKit Beam Go.Deep
set_option linter.unusedVariables false
set_option linter.unusedSimpArgs false
def longN (t : BWay) : Nat := 4 * t.W * t.H + 1
theorem long_le {t : BWay} (h : t.ok) : longN t ≤ 14401 ∧ t.M < longN t := by
  have h1 : 4 * t.W * t.H ≤ 4 * 60 * 60 := Nat.mul_le_mul (Nat.mul_le_mul (Nat.le_refl 4) h.2.2.1) h.2.2.2
  have h2 := (t.M_spec h).2.1
  have h3 : 2 * t.W * t.H ≤ 4 * t.W * t.H := Nat.mul_le_mul_right _ (Nat.mul_le_mul_right _ (by omega))
  unfold longN; omega
theorem made_long {t : BWay} (h : t.ok) (he : t.e = true) : t.made (longN t) = t.M := by
  have := (long_le h).2
  unfold BWay.made; rw [if_pos he]; omega
theorem made_long' {t : BWay} (he : t.e = false) (s : Nat) : t.made s = s := by
  unfold BWay.made; rw [if_neg (by simp [he])]
theorem cor_last {t : BWay} (h : t.ok) : t.cor (t.made (longN t)) = t.e := by
  cases he : t.e
  · exact BWay.no_cor h he _
  · rw [made_long h he]; exact he
def okE (a b x y : Int) (r u : Bool) : Bool := okB a b x y && (wayI a b x y r u).e
def tM (a b x y : Int) (r u : Bool) : Int := if okE a b x y r u then ((wayI a b x y r u).M : Nat) else 0
def okN (a b x y : Int) (r u : Bool) : Bool := okB a b x y && !(wayI a b x y r u).e
def tP (a b x y : Int) (r u : Bool) : Int := if okN a b x y r u then ((wayI a b x y r u).M : Nat) else 0
theorem lp (W H : Nat) (hW : W ≤ 60) (hH : H ≤ 60) : (0 ≤ (4 : Int) * (W : Int) ∧ (4 : Int) * (W : Int) ≤ 240) ∧ 0 ≤ (4 : Int) * (W : Int) * (H : Int) ∧ (4 : Int) * (W : Int) * (H : Int) ≤ 14400 := by
  have h1 : 4 * W * H ≤ 4 * 60 * 60 := Nat.mul_le_mul (Nat.mul_le_mul (Nat.le_refl 4) hW) hH
  have e : (4 : Int) * (W : Int) * (H : Int) = ((4 * W * H : Nat) : Int) := by push_cast; rfl
  rw [e]
  omega
set_option maxHeartbeats 400000 in
theorem beLong_any (t : BWay) (h : t.ok) (w : World) : Calls Try.prog 17 #[.agg #[.int .i64 (t.W : Nat), .int .i64 (t.H : Nat)]] w fun e w' => e = .returned (.int .i64 (longN t : Nat)) ∧ Below w.heap.size w w' := by
  obtain ⟨⟨p1, p2⟩, p3, p4⟩ := lp t.W t.H h.2.2.1 h.2.2.2
  have HL := Lib.hid (show ((longN t : Nat) : Int) = 4 * (t.W : Int) * (t.H : Int) + 1 by unfold longN; push_cast; rfl)
  go_enter Try.func17, Try.ntmps17
  go_wp2
  go_ret
  exact ⟨by rw [HL.out]; rfl, (by repeat (first | exact Below.refl _ _ | refine bl_alloc ?_ _ | refine bl_drewN ?_ _ | refine bl_trans (by assumption) ?_ | refine bl_set ?_ (by first | omega | (simp; done) | (simp; omega)) _))⟩
set_option maxHeartbeats 1000000 in
theorem beEnd_any (t : BWay) (h : t.ok) (r u : Bool) (hr : turnI t.W (t.x 0) r = t.r 0) (hu : turnI t.H (t.y 0) u = t.u 0) (w : World) :
    Calls Try.prog 9 #[.agg #[.int .i64 (t.W : Nat), .int .i64 (t.H : Nat)], .agg #[.int .i64 (t.x 0 : Nat), .int .i64 (t.y 0 : Nat), .bool r, .bool u]] w fun e w' => ∃ g cap, e = .returned (.tuple #[.slice (some ⟨g, 0, none⟩) (t.made (longN t) + 1) cap, .string (sidesS t (t.made (longN t))), .bool t.e]) ∧ BRow w' w.heap.size (.slice (some ⟨g, 0, none⟩) (t.made (longN t) + 1) cap) (t.made (longN t) + 1) t ∧ Below w.heap.size w w' := by
  have OK := Lib.hid h
  have HR := Lib.hid hr
  have HU := Lib.hid hu
  have hl1 := (long_le h).1
  clear h hr hu
  go_enter Try.func9, Try.ntmps9
  go_wp2_with fail
  have hS : CL6 w ((w.alloc (.cells #[.int .i64 (t.W : Nat), .int .i64 (t.H : Nat)] 28)).alloc (.cells #[.int .i64 (t.x 0 : Nat), .int .i64 (t.y 0 : Nat), .bool r, .bool u] 30)) (t.W : Nat) (t.H : Nat) (t.x 0 : Nat) (t.y 0 : Nat) r u := ⟨by simp, by simp, by simp, by simp, by simp, by simp, by simp, (by repeat (first | exact Below.refl _ _ | refine bl_alloc ?_ _ | refine bl_drewN ?_ _ | refine bl_trans (by assumption) ?_ | refine bl_set ?_ (by first | omega | (simp; done) | (simp; omega)) _))⟩
  unfold CL6 at hS
  go_region_held3 (fun w' => w'.cell? ⟨w.heap.size, 0, none⟩ = some (.int .i64 (t.W : Nat)) ∧ w'.cell? ⟨w.heap.size, 1, none⟩ = some (.int .i64 (t.H : Nat)) ∧ w'.cell? ⟨w.heap.size + 1, 0, none⟩ = some (.int .i64 (t.x 0 : Nat)) ∧ w'.cell? ⟨w.heap.size + 1, 1, none⟩ = some (.int .i64 (t.y 0 : Nat)) ∧ w'.cell? ⟨w.heap.size + 1, 2, none⟩ = some (.bool r) ∧ w'.cell? ⟨w.heap.size + 1, 3, none⟩ = some (.bool u) ∧ w.heap.size + 1 < w'.heap.size ∧ Below w.heap.size w w') (first | exact S6_after hb2 (by assumption) | exact S6_after (below_drewN (Below.refl _ _) _) (by assumption) | exact S6_after (Below.drew (Below.refl _ _)) (by assumption) | assumption) (first | (go_at_call 17; refine (beLong_any t OK.out _).mono ?_; rintro e w2 ⟨rfl, hb2⟩; have hzb : w.heap.size ≤ w2.heap.size := by (have := hb2.size; simp at this; omega)) | (go_at_call 16; refine (beRun_any t OK.out r u HR.out HU.out _ (by omega) _).mono ?_; rintro e w2 ⟨v, rfl, hR, hb2⟩))
  rename_i hh
  obtain ⟨a0, a1, b0, b1, b2, b3, hz, hbw⟩ := hh
  obtain ⟨g, cap, rfl, hgB, hgs, -⟩ := hR.open_ (by omega)
  have HC := Lib.hid (cor_last OK.out)
  have HCI := Lib.hid (corI t (t.made (longN t)))
  have HR' := Lib.hid hR
  have hm := Nat.le_trans (BWay.made_lt (t := t) (longN t)).1 hl1
  generalize hN : t.made (longN t) = n at *
  have HN := Lib.hid hN
  clear hN
  have HS := Lib.hid (fun v (hb : Below w2.heap.size w2 v) => S9.mk (k := n) ⟨a0, a1, hz⟩ hR (by omega) hb)
  have hS := HS.out w2 (Below.refl _ _)
  unfold S9 at hS
  have HW := Lib.hid hbw
  have ix0 : (0 : Int) ≤ (n : Int) := by omega
  have ix1 : (n : Int) < (n : Int) + 1 := by omega
  have ix2 : IntKind.i64.wrap ((n : Int) + 1 - 1) = (n : Int) := by rw [Int.add_sub_cancel]; exact IntWalk.i64_in _ (by omega)
  have ix3 : IntKind.i64.wrap (n : Int) = (n : Int) := IntWalk.i64_in _ (by omega)
  have ix4 : IntKind.i64.wrap (((n + 1 : Nat) : Int) - 1) = (n : Int) := by rw [show ((n + 1 : Nat) : Int) - 1 = (n : Int) by omega]; exact ix3
  have ix5 : (n : Int).toNat = n := by omega
  clear hR a0 a1 b0 b1 b2 b3 hbw hb2
  go_wp2_with fail
  go_region_held3 (fun w' => w'.cell? ⟨w.heap.size, 0, none⟩ = some (.int .i64 (t.W : Nat)) ∧ w'.cell? ⟨w.heap.size, 1, none⟩ = some (.int .i64 (t.H : Nat)) ∧ w'.cell? ⟨g, n * 4, none⟩ = some (.int .i64 (t.x n : Nat)) ∧ w'.cell? ⟨g, n * 4 + 1, none⟩ = some (.int .i64 (t.y n : Nat)) ∧ w'.cell? ⟨g, n * 4 + 2, none⟩ = some (.bool (t.kr n)) ∧ w'.cell? ⟨g, n * 4 + 3, none⟩ = some (.bool (t.ku n)) ∧ Below w2.heap.size w2 w') (first | exact HS.out _ (bl_trans hb9 (last7 (by assumption))) | exact HS.out _ (below_drewN (Below.refl _ _) _) | exact HS.out _ (Below.drew (Below.refl _ _)) | assumption) (first | (go_at_call 18; refine (beCorner_any _ _ _ _ _ _ _).mono ?_; rintro e w9 ⟨rfl, hb9⟩; rw [HCI.out, HC.out]))
  rename_i hh
  have hB := last7 hh
  have HR9 := Lib.hid (HR'.out.keep hB)
  have HW9 := Lib.hid (bl_trans hB HW.out)
  clear hh hB hS hb9
  go_wp2
  go_ret3
  exact ⟨_, _, by rw [HN.out]; rfl, by rw [HN.out]; exact HR9.out.mono hzb, HW9.out⟩

theorem beEnd_of {a b x y : Int} (h : okB a b x y = true) (r u : Bool) (w : World) :
    Calls Try.prog 9 #[.agg #[.int .i64 a, .int .i64 b], .agg #[.int .i64 x, .int .i64 y, .bool r, .bool u]] w fun e w' => ∃ g cap, e = .returned (.tuple #[.slice (some ⟨g, 0, none⟩) ((wayI a b x y r u).made (longN (wayI a b x y r u)) + 1) cap, .string (sidesS (wayI a b x y r u) ((wayI a b x y r u).made (longN (wayI a b x y r u)))), .bool (wayI a b x y r u).e]) ∧ BRow w' w.heap.size (.slice (some ⟨g, 0, none⟩) ((wayI a b x y r u).made (longN (wayI a b x y r u)) + 1) cap) ((wayI a b x y r u).made (longN (wayI a b x y r u)) + 1) (wayI a b x y r u) ∧ Below w.heap.size w w' := by
  obtain ⟨hk, h1, h2, h3, h4, h5, h6⟩ := wayI_args h r u
  generalize wayI a b x y r u = t at *
  rw [h1, h2, h3, h4]
  exact beEnd_any t hk r u h5 h6 w
theorem ret_ib {a b : Int} {c d : Bool} (h1 : a = b) (h2 : c = d) : Ending.returned (.tuple #[.int .i64 a, .bool c]) = .returned (.tuple #[.int .i64 b, .bool d]) := by rw [h1, h2]
theorem ret_iib {a b a' b' : Int} {c d : Bool} (h1 : a = b) (h3 : a' = b') (h2 : c = d) : Ending.returned (.tuple #[.int .i64 a, .int .i64 a', .bool c]) = .returned (.tuple #[.int .i64 b, .int .i64 b', .bool d]) := by rw [h1, h2, h3]
end Go.Proofs.Ytgpfnbajjephpaa
