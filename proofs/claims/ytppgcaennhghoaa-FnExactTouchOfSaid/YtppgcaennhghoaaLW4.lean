/- Contracts of the functions of chapter 5: ways in corridors, how far they go up and down, their squares. -/
import Derived.Test.YtppgcaennhghoaaLW3
namespace Go.Proofs.Ytppgcaennhghoaa
open Go.RowKit
set_option linter.unusedVariables false
set_option linter.unusedSimpArgs false
theorem S7_after {w u v : World} {x1 x2 x3 x4 x5 x6 x7 : Value} (hb : Below u.heap.size u v) (h : u.cell? ⟨w.heap.size, 0, none⟩ = some x1 ∧ u.cell? ⟨w.heap.size, 1, none⟩ = some x2 ∧ u.cell? ⟨w.heap.size, 2, none⟩ = some x3 ∧ u.cell? ⟨w.heap.size, 3, none⟩ = some x4 ∧ u.cell? ⟨w.heap.size, 4, none⟩ = some x5 ∧ u.cell? ⟨w.heap.size, 5, none⟩ = some x6 ∧ u.cell? ⟨w.heap.size, 6, none⟩ = some x7 ∧ w.heap.size < u.heap.size ∧ Below w.heap.size w u) :
    v.cell? ⟨w.heap.size, 0, none⟩ = some x1 ∧ v.cell? ⟨w.heap.size, 1, none⟩ = some x2 ∧ v.cell? ⟨w.heap.size, 2, none⟩ = some x3 ∧ v.cell? ⟨w.heap.size, 3, none⟩ = some x4 ∧ v.cell? ⟨w.heap.size, 4, none⟩ = some x5 ∧ v.cell? ⟨w.heap.size, 5, none⟩ = some x6 ∧ v.cell? ⟨w.heap.size, 6, none⟩ = some x7 ∧ w.heap.size < v.heap.size ∧ Below w.heap.size w v := by
  obtain ⟨h1, h2, h3, h4, h5, h6, h7, h8, h9⟩ := h
  exact ⟨cell_after hb h8 h1, cell_after hb h8 h2, cell_after hb h8 h3, cell_after hb h8 h4, cell_after hb h8 h5, cell_after hb h8 h6, cell_after hb h8 h7, size_after hb h8, bl_trans hb h9⟩
theorem last9 {a b c d e f g h D : Prop} (k : a ∧ b ∧ c ∧ d ∧ e ∧ f ∧ g ∧ h ∧ D) : D := k.2.2.2.2.2.2.2.2
def inCo (a b c d h : Int) : Bool := okSp2 a b c d && (within h 2 1000 && (decide (b < h) && decide (d < h)))
def okCo (a b c d h t : Int) : Bool := inCo a b c d h && within t 1 50
theorem inCo_true {a b c d h : Int} (e : inCo a b c d h = true) : ((-1000 ≤ a ∧ a ≤ 1000) ∧ 1 ≤ b ∧ b ≤ 1000) ∧ ((-1000 ≤ c ∧ c ≤ 1000) ∧ 1 ≤ d ∧ d ≤ 1000) ∧ (2 ≤ h ∧ h ≤ 1000) ∧ b < h ∧ d < h := by
  simp only [inCo, okSp2, Bool.and_eq_true, decide_eq_true_eq] at e
  exact ⟨okSp_true e.1.1, okSp_true e.1.2, within_true e.2.1, e.2.2.1, e.2.2.2⟩
theorem okCo_true {a b c d h t : Int} (e : okCo a b c d h t = true) : (((-1000 ≤ a ∧ a ≤ 1000) ∧ 1 ≤ b ∧ b ≤ 1000) ∧ ((-1000 ≤ c ∧ c ≤ 1000) ∧ 1 ≤ d ∧ d ≤ 1000) ∧ (2 ≤ h ∧ h ≤ 1000) ∧ b < h ∧ d < h) ∧ 1 ≤ t ∧ t ≤ 50 := by
  simp only [okCo, Bool.and_eq_true] at e
  exact ⟨inCo_true e.1, within_true e.2⟩
def tmr (b h : Int) (g : Bool) : Int := if g then b else h - b
def rsT (b h k : Int) (g : Bool) : Int := tmr b h g + k * h
def rsA (b d h t : Int) (g : Bool) : Int := rsT b h (t - 1) g + tmr d h (g == (t % 2 == 1))
theorem tmr_bd {b h : Int} (h1 : 1 ≤ b) (h2 : b < h) (h3 : h ≤ 1000) (g : Bool) : 1 ≤ tmr b h g ∧ tmr b h g ≤ 999 := by
  cases g <;> simp only [tmr, if_true, Bool.false_eq_true, if_false] <;> omega
theorem rsT_bd {b h k : Int} (h1 : 1 ≤ b) (h2 : b < h) (h3 : h ≤ 1000) (k0 : 0 ≤ k) (k1 : k ≤ 50) (g : Bool) : (0 ≤ k * h ∧ k * h ≤ 50000) ∧ 1 ≤ rsT b h k g ∧ rsT b h k g ≤ 51000 := by
  have := mul_bd2 (a := k) (b := h) (m := 50) (k := 1000) k0 (by omega) k1 h3
  have := tmr_bd h1 h2 h3 g
  unfold rsT
  omega
theorem rsA_bd {b d h t : Int} (h1 : 1 ≤ b) (h2 : b < h) (h3 : h ≤ 1000) (d1 : 1 ≤ d) (d2 : d < h) (t0 : 1 ≤ t) (t1 : t ≤ 50) (g : Bool) : 1 ≤ rsA b d h t g ∧ rsA b d h t g ≤ 52000 := by
  have := rsT_bd h1 h2 h3 (show 0 ≤ t - 1 by omega) (by omega) g
  have := tmr_bd d1 d2 h3 (g == (t % 2 == 1))
  unfold rsA
  omega
set_option maxHeartbeats 400000 in
theorem toMirror_any (a b h : Int) (g : Bool) (h1 : 1 ≤ b) (h2 : b < h) (h3 : h ≤ 1000) (w : World) :
    Calls Try.prog 104 #[.agg #[.int .i64 a, .int .i64 b], .int .i64 h, .bool g] w fun e w' => e = .returned (.int .i64 (tmr b h g)) ∧ Below w.heap.size w w' := by
  cases g
  all_goals
    go_enter Try.func104, Try.ntmps104
    go_wp2
    go_ret
    exact ⟨by simp [tmr], (by repeat (first | exact Below.refl _ _ | refine bl_alloc ?_ _ | refine bl_drewN ?_ _ | refine bl_trans (by assumption) ?_ | refine bl_set ?_ (by first | omega | (simp; done) | (simp; omega)) _))⟩
set_option maxHeartbeats 4000000 in
theorem riseTo_any (a b c d h t : Int) (g : Bool) (k : Int) (hk : okCo a b c d h t = true) (k0 : 0 ≤ k) (k1 : k ≤ 50) (w : World) :
    Calls Try.prog 103 #[.agg #[.int .i64 a, .int .i64 b, .int .i64 c, .int .i64 d, .int .i64 h, .int .i64 t, .bool g], .int .i64 k] w fun e w' => e = .returned (.int .i64 (rsT b h k g)) ∧ Below w.heap.size w w' := by
  obtain ⟨⟨⟨⟨a1, a2⟩, b1, b2⟩, ⟨⟨c1, c2⟩, d1, d2⟩, ⟨h1, h2⟩, h3, h4⟩, t1, t2⟩ := okCo_true hk
  obtain ⟨⟨f1, f2⟩, f3, f4⟩ := rsT_bd b1 h3 h2 k0 k1 g
  obtain ⟨f5, f6⟩ := tmr_bd b1 h3 h2 g
  have HR := Lib.hid (show rsT b h k g = tmr b h g + k * h from rfl)
  have HT := fun W => Lib.hid (toMirror_any a b h g b1 h3 h2 W)
  have n1 : IntKind.i64.wrap (k * h) = k * h := IntWalk.i64_in _ (by omega)
  have n2 : IntKind.i64.wrap (tmr b h g + k * h) = tmr b h g + k * h := IntWalk.i64_in _ (by omega)
  generalize tmr b h g = T at *
  go_enter Try.func103, Try.ntmps103
  go_wp2_with fail
  have hS : (w.alloc (.cells #[.int .i64 a, .int .i64 b, .int .i64 c, .int .i64 d, .int .i64 h, .int .i64 t, .bool g] 83)).cell? ⟨w.heap.size, 0, none⟩ = some (.int .i64 a) ∧ (w.alloc (.cells #[.int .i64 a, .int .i64 b, .int .i64 c, .int .i64 d, .int .i64 h, .int .i64 t, .bool g] 83)).cell? ⟨w.heap.size, 1, none⟩ = some (.int .i64 b) ∧ (w.alloc (.cells #[.int .i64 a, .int .i64 b, .int .i64 c, .int .i64 d, .int .i64 h, .int .i64 t, .bool g] 83)).cell? ⟨w.heap.size, 2, none⟩ = some (.int .i64 c) ∧ (w.alloc (.cells #[.int .i64 a, .int .i64 b, .int .i64 c, .int .i64 d, .int .i64 h, .int .i64 t, .bool g] 83)).cell? ⟨w.heap.size, 3, none⟩ = some (.int .i64 d) ∧ (w.alloc (.cells #[.int .i64 a, .int .i64 b, .int .i64 c, .int .i64 d, .int .i64 h, .int .i64 t, .bool g] 83)).cell? ⟨w.heap.size, 4, none⟩ = some (.int .i64 h) ∧ (w.alloc (.cells #[.int .i64 a, .int .i64 b, .int .i64 c, .int .i64 d, .int .i64 h, .int .i64 t, .bool g] 83)).cell? ⟨w.heap.size, 5, none⟩ = some (.int .i64 t) ∧ (w.alloc (.cells #[.int .i64 a, .int .i64 b, .int .i64 c, .int .i64 d, .int .i64 h, .int .i64 t, .bool g] 83)).cell? ⟨w.heap.size, 6, none⟩ = some (.bool g) ∧ w.heap.size < (w.alloc (.cells #[.int .i64 a, .int .i64 b, .int .i64 c, .int .i64 d, .int .i64 h, .int .i64 t, .bool g] 83)).heap.size ∧ Below w.heap.size w (w.alloc (.cells #[.int .i64 a, .int .i64 b, .int .i64 c, .int .i64 d, .int .i64 h, .int .i64 t, .bool g] 83)) := ⟨by simp [go_sem], by simp [go_sem], by simp [go_sem], by simp [go_sem], by simp [go_sem], by simp [go_sem], by simp [go_sem], by simp [go_sem], (by repeat (first | exact Below.refl _ _ | refine bl_alloc ?_ _ | refine bl_drewN ?_ _ | refine bl_trans (by assumption) ?_ | refine bl_set ?_ (by first | omega | (simp; done) | (simp; omega)) _))⟩
  go_region_held3 (fun w' => w'.cell? ⟨w.heap.size, 0, none⟩ = some (.int .i64 a) ∧ w'.cell? ⟨w.heap.size, 1, none⟩ = some (.int .i64 b) ∧ w'.cell? ⟨w.heap.size, 2, none⟩ = some (.int .i64 c) ∧ w'.cell? ⟨w.heap.size, 3, none⟩ = some (.int .i64 d) ∧ w'.cell? ⟨w.heap.size, 4, none⟩ = some (.int .i64 h) ∧ w'.cell? ⟨w.heap.size, 5, none⟩ = some (.int .i64 t) ∧ w'.cell? ⟨w.heap.size, 6, none⟩ = some (.bool g) ∧ w.heap.size < w'.heap.size ∧ Below w.heap.size w w') (first | exact S7_after hb2 (by assumption) | exact S7_after (below_drewN (Below.refl _ _) _) (by assumption) | exact S7_after (Below.drew (Below.refl _ _)) (by assumption) | assumption) (first | (go_at_call 104; refine ((HT _).out).mono ?_; rintro e w2 ⟨rfl, hb2⟩))
  go_wp2
  go_ret
  exact ⟨by rw [HR.out]; first | done | rfl | (simp [n1, n2]; done), last9 (by assumption)⟩
set_option maxHeartbeats 8000000 in
theorem rise_any (a b c d h t : Int) (g : Bool) (hk : okCo a b c d h t = true) (w : World) :
    Calls Try.prog 88 #[.agg #[.int .i64 a, .int .i64 b, .int .i64 c, .int .i64 d, .int .i64 h, .int .i64 t, .bool g]] w fun e w' => e = .returned (.int .i64 (rsA b d h t g)) ∧ Below w.heap.size w w' := by
  obtain ⟨⟨⟨⟨a1, a2⟩, b1, b2⟩, ⟨⟨c1, c2⟩, d1, d2⟩, ⟨h1, h2⟩, h3, h4⟩, t1, t2⟩ := okCo_true hk
  obtain ⟨⟨f1, f2⟩, f3, f4⟩ := rsT_bd b1 h3 h2 (show 0 ≤ t - 1 by omega) (by omega) g
  obtain ⟨f5, f6⟩ := tmr_bd d1 h4 h2 (g == (t % 2 == 1))
  have HR := Lib.hid (show rsA b d h t g = rsT b h (t - 1) g + tmr d h (g == (t % 2 == 1)) from rfl)
  have HT := fun W => Lib.hid (toMirror_any c d h (g == (t % 2 == 1)) d1 h4 h2 W)
  have HK := fun W => Lib.hid (riseTo_any a b c d h t g (t - 1) hk (by omega) (by omega) W)
  have n0 : IntKind.i64.wrap (t - 1) = t - 1 := IntWalk.i64_in _ (by omega)
  have n2 : IntKind.i64.wrap (rsT b h (t - 1) g + tmr d h (g == (t % 2 == 1))) = rsT b h (t - 1) g + tmr d h (g == (t % 2 == 1)) := IntWalk.i64_in _ (by omega)
  clear hk f1 f2
  generalize rsT b h (t - 1) g = U at *
  generalize tmr d h (g == (t % 2 == 1)) = T at *
  have ht : t.tmod 2 = t % 2 := Int.tmod_eq_emod_of_nonneg (by omega)
  rcases (show t % 2 = 0 ∨ t % 2 = 1 by omega) with hp | hp
  all_goals
    cases g
    · rw [hp] at HT
      go_enter Try.func88, Try.ntmps88
      go_wp2_with fail
      have hS : (w.alloc (.cells #[.int .i64 a, .int .i64 b, .int .i64 c, .int .i64 d, .int .i64 h, .int .i64 t, .bool false] 83)).cell? ⟨w.heap.size, 0, none⟩ = some (.int .i64 a) ∧ (w.alloc (.cells #[.int .i64 a, .int .i64 b, .int .i64 c, .int .i64 d, .int .i64 h, .int .i64 t, .bool false] 83)).cell? ⟨w.heap.size, 1, none⟩ = some (.int .i64 b) ∧ (w.alloc (.cells #[.int .i64 a, .int .i64 b, .int .i64 c, .int .i64 d, .int .i64 h, .int .i64 t, .bool false] 83)).cell? ⟨w.heap.size, 2, none⟩ = some (.int .i64 c) ∧ (w.alloc (.cells #[.int .i64 a, .int .i64 b, .int .i64 c, .int .i64 d, .int .i64 h, .int .i64 t, .bool false] 83)).cell? ⟨w.heap.size, 3, none⟩ = some (.int .i64 d) ∧ (w.alloc (.cells #[.int .i64 a, .int .i64 b, .int .i64 c, .int .i64 d, .int .i64 h, .int .i64 t, .bool false] 83)).cell? ⟨w.heap.size, 4, none⟩ = some (.int .i64 h) ∧ (w.alloc (.cells #[.int .i64 a, .int .i64 b, .int .i64 c, .int .i64 d, .int .i64 h, .int .i64 t, .bool false] 83)).cell? ⟨w.heap.size, 5, none⟩ = some (.int .i64 t) ∧ (w.alloc (.cells #[.int .i64 a, .int .i64 b, .int .i64 c, .int .i64 d, .int .i64 h, .int .i64 t, .bool false] 83)).cell? ⟨w.heap.size, 6, none⟩ = some (.bool false) ∧ w.heap.size < (w.alloc (.cells #[.int .i64 a, .int .i64 b, .int .i64 c, .int .i64 d, .int .i64 h, .int .i64 t, .bool false] 83)).heap.size ∧ Below w.heap.size w (w.alloc (.cells #[.int .i64 a, .int .i64 b, .int .i64 c, .int .i64 d, .int .i64 h, .int .i64 t, .bool false] 83)) := ⟨by simp [go_sem], by simp [go_sem], by simp [go_sem], by simp [go_sem], by simp [go_sem], by simp [go_sem], by simp [go_sem], by simp [go_sem], (by repeat (first | exact Below.refl _ _ | refine bl_alloc ?_ _ | refine bl_drewN ?_ _ | refine bl_trans (by assumption) ?_ | refine bl_set ?_ (by first | omega | (simp; done) | (simp; omega)) _))⟩
      go_region_held3 (fun w' => w'.cell? ⟨w.heap.size, 0, none⟩ = some (.int .i64 a) ∧ w'.cell? ⟨w.heap.size, 1, none⟩ = some (.int .i64 b) ∧ w'.cell? ⟨w.heap.size, 2, none⟩ = some (.int .i64 c) ∧ w'.cell? ⟨w.heap.size, 3, none⟩ = some (.int .i64 d) ∧ w'.cell? ⟨w.heap.size, 4, none⟩ = some (.int .i64 h) ∧ w'.cell? ⟨w.heap.size, 5, none⟩ = some (.int .i64 t) ∧ w'.cell? ⟨w.heap.size, 6, none⟩ = some (.bool false) ∧ w.heap.size < w'.heap.size ∧ Below w.heap.size w w') (first | exact S7_after hb2 (by assumption) | exact S7_after (below_drewN (Below.refl _ _) _) (by assumption) | exact S7_after (Below.drew (Below.refl _ _)) (by assumption) | assumption) (first | (go_at_call_of 103 (Value.int IntKind.i64 (t - 1)); refine ((HK _).out).mono ?_; rintro e w2 ⟨rfl, hb2⟩) | (go_at_call 103; refine ((HK _).out).mono ?_; rintro e w2 ⟨rfl, hb2⟩) | (go_at_call 104; refine ((HT _).out).mono ?_; rintro e w2 ⟨rfl, hb2⟩))
      go_wp2
      go_ret
      exact ⟨by rw [HR.out]; first | done | rfl | (simp [n0, n2]; done), last9 (by assumption)⟩
    · rw [hp] at HT
      go_enter Try.func88, Try.ntmps88
      go_wp2_with fail
      have hS : (w.alloc (.cells #[.int .i64 a, .int .i64 b, .int .i64 c, .int .i64 d, .int .i64 h, .int .i64 t, .bool true] 83)).cell? ⟨w.heap.size, 0, none⟩ = some (.int .i64 a) ∧ (w.alloc (.cells #[.int .i64 a, .int .i64 b, .int .i64 c, .int .i64 d, .int .i64 h, .int .i64 t, .bool true] 83)).cell? ⟨w.heap.size, 1, none⟩ = some (.int .i64 b) ∧ (w.alloc (.cells #[.int .i64 a, .int .i64 b, .int .i64 c, .int .i64 d, .int .i64 h, .int .i64 t, .bool true] 83)).cell? ⟨w.heap.size, 2, none⟩ = some (.int .i64 c) ∧ (w.alloc (.cells #[.int .i64 a, .int .i64 b, .int .i64 c, .int .i64 d, .int .i64 h, .int .i64 t, .bool true] 83)).cell? ⟨w.heap.size, 3, none⟩ = some (.int .i64 d) ∧ (w.alloc (.cells #[.int .i64 a, .int .i64 b, .int .i64 c, .int .i64 d, .int .i64 h, .int .i64 t, .bool true] 83)).cell? ⟨w.heap.size, 4, none⟩ = some (.int .i64 h) ∧ (w.alloc (.cells #[.int .i64 a, .int .i64 b, .int .i64 c, .int .i64 d, .int .i64 h, .int .i64 t, .bool true] 83)).cell? ⟨w.heap.size, 5, none⟩ = some (.int .i64 t) ∧ (w.alloc (.cells #[.int .i64 a, .int .i64 b, .int .i64 c, .int .i64 d, .int .i64 h, .int .i64 t, .bool true] 83)).cell? ⟨w.heap.size, 6, none⟩ = some (.bool true) ∧ w.heap.size < (w.alloc (.cells #[.int .i64 a, .int .i64 b, .int .i64 c, .int .i64 d, .int .i64 h, .int .i64 t, .bool true] 83)).heap.size ∧ Below w.heap.size w (w.alloc (.cells #[.int .i64 a, .int .i64 b, .int .i64 c, .int .i64 d, .int .i64 h, .int .i64 t, .bool true] 83)) := ⟨by simp [go_sem], by simp [go_sem], by simp [go_sem], by simp [go_sem], by simp [go_sem], by simp [go_sem], by simp [go_sem], by simp [go_sem], (by repeat (first | exact Below.refl _ _ | refine bl_alloc ?_ _ | refine bl_drewN ?_ _ | refine bl_trans (by assumption) ?_ | refine bl_set ?_ (by first | omega | (simp; done) | (simp; omega)) _))⟩
      go_region_held3 (fun w' => w'.cell? ⟨w.heap.size, 0, none⟩ = some (.int .i64 a) ∧ w'.cell? ⟨w.heap.size, 1, none⟩ = some (.int .i64 b) ∧ w'.cell? ⟨w.heap.size, 2, none⟩ = some (.int .i64 c) ∧ w'.cell? ⟨w.heap.size, 3, none⟩ = some (.int .i64 d) ∧ w'.cell? ⟨w.heap.size, 4, none⟩ = some (.int .i64 h) ∧ w'.cell? ⟨w.heap.size, 5, none⟩ = some (.int .i64 t) ∧ w'.cell? ⟨w.heap.size, 6, none⟩ = some (.bool true) ∧ w.heap.size < w'.heap.size ∧ Below w.heap.size w w') (first | exact S7_after hb2 (by assumption) | exact S7_after (below_drewN (Below.refl _ _) _) (by assumption) | exact S7_after (Below.drew (Below.refl _ _)) (by assumption) | assumption) (first | (go_at_call_of 103 (Value.int IntKind.i64 (t - 1)); refine ((HK _).out).mono ?_; rintro e w2 ⟨rfl, hb2⟩) | (go_at_call 103; refine ((HK _).out).mono ?_; rintro e w2 ⟨rfl, hb2⟩) | (go_at_call 104; refine ((HT _).out).mono ?_; rintro e w2 ⟨rfl, hb2⟩))
      go_wp2
      go_ret
      exact ⟨by rw [HR.out]; first | done | rfl | (simp [n0, n2]; done), last9 (by assumption)⟩
end Go.Proofs.Ytppgcaennhghoaa
