/- A clue dropped, a clue added, by the program and by the model. -/
import Derived.Test.YtahcfjpplkemdaaPZ8
import Derived.Deep.AppendLies
namespace Go.Proofs.Ytahcfjpplkemdaa
open Go.RowKit
set_option linter.unusedVariables false
set_option linter.unusedSimpArgs false
/-- what is kept of the boxes of a call: the puzzle, and the result as it is at first -/
def DX (w : World) (wd : Int) (v : Value) (R : Nat) (W : World) : Prop :=
  (W.cell? ⟨w.heap.size, 0, none⟩ = some (.int .i64 wd) ∧ W.cell? ⟨w.heap.size, 1, none⟩ = some v) ∧ (W.cell? ⟨R, 0, none⟩ = some (.int .i64 0) ∧ W.cell? ⟨R, 1, none⟩ = some (.slice none 0 0)) ∧ (W.frozen? ⟨R, 0, none⟩ = false ∧ W.frozen? ⟨R, 1, none⟩ = false) ∧ (w.heap.size < W.heap.size ∧ R < W.heap.size) ∧ Below w.heap.size w W
theorem DX.after {w u v : World} {wd : Int} {x : Value} {R : Nat} (hb : Below u.heap.size u v) (h : DX w wd x R u) : DX w wd x R v :=
  ⟨⟨cell_after hb h.2.2.2.1.1 h.1.1, cell_after hb h.2.2.2.1.1 h.1.2⟩, ⟨cell_after hb h.2.2.2.1.2 h.2.1.1, cell_after hb h.2.2.2.1.2 h.2.1.2⟩, ⟨frozen_after hb h.2.2.2.1.2 h.2.2.1.1, frozen_after hb h.2.2.2.1.2 h.2.2.1.2⟩, ⟨size_after hb h.2.2.2.1.1, size_after hb h.2.2.2.1.2⟩, bl_trans hb h.2.2.2.2⟩
theorem DX.drew {w u : World} {wd : Int} {x : Value} {R : Nat} (h : DX w wd x R u) : DX w wd x R u.drew := h.after (Below.drew (Below.refl _ _))
def dok (wd : Int) (n : Nat) (f : Nat → Int) (k : Int) : Bool := okP wd n f && within k 0 ((n : Int) - 1)
def drW (wd : Int) (n : Nat) (f : Nat → Int) (k : Int) : Int := if dok wd n f k then wd else 0
def drN (wd : Int) (n : Nat) (f : Nat → Int) (k : Int) : Nat := if dok wd n f k then n - 1 else 0
theorem drN_le (wd : Int) (n : Nat) (f : Nat → Int) (k : Int) : drN wd n f k ≤ n := by
  unfold drN
  split <;> omega
def vr (W : World) (R i : Nat) : Value := (W.cell? ⟨R, i, none⟩).getD undef
theorem vr_is {W : World} {R i : Nat} {x : Value} (h : W.cell? ⟨R, i, none⟩ = some x) : W.cell? ⟨R, i, none⟩ = some (vr W R i) := by rw [vr, h]; rfl
theorem AS_after {w u v : World} {x0 x1 y0 y1 y2 : Value} (hb : Below u.heap.size u v)
    (h : u.cell? ⟨w.heap.size, 0, none⟩ = some x0 ∧ u.cell? ⟨w.heap.size, 1, none⟩ = some x1 ∧ u.cell? ⟨w.heap.size + 1, 0, none⟩ = some y0 ∧ u.cell? ⟨w.heap.size + 1, 1, none⟩ = some y1 ∧ u.cell? ⟨w.heap.size + 1, 2, none⟩ = some y2 ∧ u.cell? ⟨w.heap.size + 1 + 1, 0, none⟩ = some (vr u (w.heap.size + 1 + 1) 0) ∧ u.cell? ⟨w.heap.size + 1 + 1, 1, none⟩ = some (vr u (w.heap.size + 1 + 1) 1) ∧ u.frozen? ⟨w.heap.size + 1 + 1, 0, none⟩ = false ∧ u.frozen? ⟨w.heap.size + 1 + 1, 1, none⟩ = false ∧ w.heap.size + 1 + 1 < u.heap.size ∧ Below w.heap.size w u) :
    v.cell? ⟨w.heap.size, 0, none⟩ = some x0 ∧ v.cell? ⟨w.heap.size, 1, none⟩ = some x1 ∧ v.cell? ⟨w.heap.size + 1, 0, none⟩ = some y0 ∧ v.cell? ⟨w.heap.size + 1, 1, none⟩ = some y1 ∧ v.cell? ⟨w.heap.size + 1, 2, none⟩ = some y2 ∧ v.cell? ⟨w.heap.size + 1 + 1, 0, none⟩ = some (vr v (w.heap.size + 1 + 1) 0) ∧ v.cell? ⟨w.heap.size + 1 + 1, 1, none⟩ = some (vr v (w.heap.size + 1 + 1) 1) ∧ v.frozen? ⟨w.heap.size + 1 + 1, 0, none⟩ = false ∧ v.frozen? ⟨w.heap.size + 1 + 1, 1, none⟩ = false ∧ w.heap.size + 1 + 1 < v.heap.size ∧ Below w.heap.size w v := by
  obtain ⟨h0, h1, h2, h3, h4, h5, h6, h7, h8, h9, hB⟩ := h
  exact ⟨cell_after hb (by omega) h0, cell_after hb (by omega) h1, cell_after hb (by omega) h2, cell_after hb (by omega) h3, cell_after hb (by omega) h4, vr_is (cell_after hb h9 h5), vr_is (cell_after hb h9 h6), frozen_after hb h9 h7, frozen_after hb h9 h8, size_after hb h9, bl_trans hb hB⟩
theorem AS_set {w u : World} {x0 x1 y0 y1 y2 z0 z1 : Value}
    (h : u.cell? ⟨w.heap.size, 0, none⟩ = some x0 ∧ u.cell? ⟨w.heap.size, 1, none⟩ = some x1 ∧ u.cell? ⟨w.heap.size + 1, 0, none⟩ = some y0 ∧ u.cell? ⟨w.heap.size + 1, 1, none⟩ = some y1 ∧ u.cell? ⟨w.heap.size + 1, 2, none⟩ = some y2 ∧ u.cell? ⟨w.heap.size + 1 + 1, 0, none⟩ = some (vr u (w.heap.size + 1 + 1) 0) ∧ u.cell? ⟨w.heap.size + 1 + 1, 1, none⟩ = some (vr u (w.heap.size + 1 + 1) 1) ∧ u.frozen? ⟨w.heap.size + 1 + 1, 0, none⟩ = false ∧ u.frozen? ⟨w.heap.size + 1 + 1, 1, none⟩ = false ∧ w.heap.size + 1 + 1 < u.heap.size ∧ Below w.heap.size w u) :
    ((u.setCell ⟨w.heap.size + 1 + 1, 0, none⟩ z0).setCell ⟨w.heap.size + 1 + 1, 1, none⟩ z1).cell? ⟨w.heap.size, 0, none⟩ = some x0 ∧ ((u.setCell ⟨w.heap.size + 1 + 1, 0, none⟩ z0).setCell ⟨w.heap.size + 1 + 1, 1, none⟩ z1).cell? ⟨w.heap.size, 1, none⟩ = some x1 ∧ ((u.setCell ⟨w.heap.size + 1 + 1, 0, none⟩ z0).setCell ⟨w.heap.size + 1 + 1, 1, none⟩ z1).cell? ⟨w.heap.size + 1, 0, none⟩ = some y0 ∧ ((u.setCell ⟨w.heap.size + 1 + 1, 0, none⟩ z0).setCell ⟨w.heap.size + 1 + 1, 1, none⟩ z1).cell? ⟨w.heap.size + 1, 1, none⟩ = some y1 ∧ ((u.setCell ⟨w.heap.size + 1 + 1, 0, none⟩ z0).setCell ⟨w.heap.size + 1 + 1, 1, none⟩ z1).cell? ⟨w.heap.size + 1, 2, none⟩ = some y2 ∧ ((u.setCell ⟨w.heap.size + 1 + 1, 0, none⟩ z0).setCell ⟨w.heap.size + 1 + 1, 1, none⟩ z1).cell? ⟨w.heap.size + 1 + 1, 0, none⟩ = some (vr ((u.setCell ⟨w.heap.size + 1 + 1, 0, none⟩ z0).setCell ⟨w.heap.size + 1 + 1, 1, none⟩ z1) (w.heap.size + 1 + 1) 0) ∧ ((u.setCell ⟨w.heap.size + 1 + 1, 0, none⟩ z0).setCell ⟨w.heap.size + 1 + 1, 1, none⟩ z1).cell? ⟨w.heap.size + 1 + 1, 1, none⟩ = some (vr ((u.setCell ⟨w.heap.size + 1 + 1, 0, none⟩ z0).setCell ⟨w.heap.size + 1 + 1, 1, none⟩ z1) (w.heap.size + 1 + 1) 1) ∧ ((u.setCell ⟨w.heap.size + 1 + 1, 0, none⟩ z0).setCell ⟨w.heap.size + 1 + 1, 1, none⟩ z1).frozen? ⟨w.heap.size + 1 + 1, 0, none⟩ = false ∧ ((u.setCell ⟨w.heap.size + 1 + 1, 0, none⟩ z0).setCell ⟨w.heap.size + 1 + 1, 1, none⟩ z1).frozen? ⟨w.heap.size + 1 + 1, 1, none⟩ = false ∧ w.heap.size + 1 + 1 < ((u.setCell ⟨w.heap.size + 1 + 1, 0, none⟩ z0).setCell ⟨w.heap.size + 1 + 1, 1, none⟩ z1).heap.size ∧ Below w.heap.size w ((u.setCell ⟨w.heap.size + 1 + 1, 0, none⟩ z0).setCell ⟨w.heap.size + 1 + 1, 1, none⟩ z1) := by
  obtain ⟨h0, h1, h2, h3, h4, h5, h6, h7, h8, h9, hB⟩ := h
  exact ⟨by simp [go_sem, h0], by simp [go_sem, h1], by simp [go_sem, h2], by simp [go_sem, h3], by simp [go_sem, h4], vr_is (x := z0) (by simp [go_sem, h5]), vr_is (x := z1) (by simp [go_sem, h6]), by simp [go_sem, h7], by simp [go_sem, h8], by simpa using h9, bl_set (bl_set hB (by simp; omega) _) (by simp; omega) _⟩
theorem AS_under {w u v : World} {x0 x1 y0 y1 y2 : Value} (hb : Below (w.heap.size + 1 + 1 + 1) u v)
    (h : u.cell? ⟨w.heap.size, 0, none⟩ = some x0 ∧ u.cell? ⟨w.heap.size, 1, none⟩ = some x1 ∧ u.cell? ⟨w.heap.size + 1, 0, none⟩ = some y0 ∧ u.cell? ⟨w.heap.size + 1, 1, none⟩ = some y1 ∧ u.cell? ⟨w.heap.size + 1, 2, none⟩ = some y2 ∧ u.cell? ⟨w.heap.size + 1 + 1, 0, none⟩ = some (vr u (w.heap.size + 1 + 1) 0) ∧ u.cell? ⟨w.heap.size + 1 + 1, 1, none⟩ = some (vr u (w.heap.size + 1 + 1) 1) ∧ u.frozen? ⟨w.heap.size + 1 + 1, 0, none⟩ = false ∧ u.frozen? ⟨w.heap.size + 1 + 1, 1, none⟩ = false ∧ w.heap.size + 1 + 1 < u.heap.size ∧ Below w.heap.size w u) :
    v.cell? ⟨w.heap.size, 0, none⟩ = some x0 ∧ v.cell? ⟨w.heap.size, 1, none⟩ = some x1 ∧ v.cell? ⟨w.heap.size + 1, 0, none⟩ = some y0 ∧ v.cell? ⟨w.heap.size + 1, 1, none⟩ = some y1 ∧ v.cell? ⟨w.heap.size + 1, 2, none⟩ = some y2 ∧ v.cell? ⟨w.heap.size + 1 + 1, 0, none⟩ = some (vr v (w.heap.size + 1 + 1) 0) ∧ v.cell? ⟨w.heap.size + 1 + 1, 1, none⟩ = some (vr v (w.heap.size + 1 + 1) 1) ∧ v.frozen? ⟨w.heap.size + 1 + 1, 0, none⟩ = false ∧ v.frozen? ⟨w.heap.size + 1 + 1, 1, none⟩ = false ∧ w.heap.size + 1 + 1 < v.heap.size ∧ Below w.heap.size w v := by
  obtain ⟨h0, h1, h2, h3, h4, h5, h6, h7, h8, h9, hB⟩ := h
  have hc : ∀ b o, b < w.heap.size + 1 + 1 + 1 → v.cell? ⟨b, o, none⟩ = u.cell? ⟨b, o, none⟩ := fun b o h => hb.cell (p := ⟨b, o, none⟩) h
  have hf : ∀ b o, b < w.heap.size + 1 + 1 + 1 → v.frozen? ⟨b, o, none⟩ = u.frozen? ⟨b, o, none⟩ := fun b o h => hb.frozen (p := ⟨b, o, none⟩) h
  exact ⟨by rw [hc _ _ (by omega)]; exact h0, by rw [hc _ _ (by omega)]; exact h1, by rw [hc _ _ (by omega)]; exact h2, by rw [hc _ _ (by omega)]; exact h3, by rw [hc _ _ (by omega)]; exact h4, vr_is (by rw [hc _ _ (by omega)]; exact h5), vr_is (by rw [hc _ _ (by omega)]; exact h6), by rw [hf _ _ (by omega)]; exact h7, by rw [hf _ _ (by omega)]; exact h8, Nat.lt_of_lt_of_le h9 hb.size, hB.trans (hb.mono (by omega))⟩
theorem AS_bel {w u : World} {x0 x1 y0 y1 y2 y3 y4 : Value} (h : u.cell? ⟨w.heap.size, 0, none⟩ = some x0 ∧ u.cell? ⟨w.heap.size, 1, none⟩ = some x1 ∧ u.cell? ⟨w.heap.size + 1, 0, none⟩ = some y0 ∧ u.cell? ⟨w.heap.size + 1, 1, none⟩ = some y1 ∧ u.cell? ⟨w.heap.size + 1, 2, none⟩ = some y2 ∧ u.cell? ⟨w.heap.size + 1 + 1, 0, none⟩ = some y3 ∧ u.cell? ⟨w.heap.size + 1 + 1, 1, none⟩ = some y4 ∧ u.frozen? ⟨w.heap.size + 1 + 1, 0, none⟩ = false ∧ u.frozen? ⟨w.heap.size + 1 + 1, 1, none⟩ = false ∧ w.heap.size + 1 + 1 < u.heap.size ∧ Below w.heap.size w u) : w.heap.size + 1 + 1 < u.heap.size ∧ Below w.heap.size w u := h.2.2.2.2.2.2.2.2.2
def CX (C : Nat) (k a b : Int) (W : World) : Prop := (W.cell? ⟨C, 0, none⟩ = some (.int .i64 k) ∧ W.cell? ⟨C, 1, none⟩ = some (.int .i64 a) ∧ W.cell? ⟨C, 2, none⟩ = some (.int .i64 b)) ∧ C < W.heap.size
theorem CX.after {u v : World} {C : Nat} {k a b : Int} (hb : Below u.heap.size u v) (h : CX C k a b u) : CX C k a b v :=
  ⟨⟨cell_after hb h.2 h.1.1, cell_after hb h.2 h.1.2.1, cell_after hb h.2 h.1.2.2⟩, size_after hb h.2⟩
theorem CX.drew {u : World} {C : Nat} {k a b : Int} (h : CX C k a b u) : CX C k a b u.drew := h.after (Below.drew (Below.refl _ _))
theorem heap_two (W : World) (o1 o2 : Obj) : ((W.alloc o1).alloc o2).heap[W.heap.size]? = some o1 := by
  rw [heap_alloc_old (W.alloc o1) o2 (by simp)]; exact heap_alloc_new W o1
theorem heap_sec (W : World) (o1 o2 : Obj) : ((W.alloc o1).alloc o2).heap[W.heap.size + 1]? = some o2 := by
  have h := heap_alloc_new (W.alloc o1) o2
  rwa [World.size_alloc] at h
theorem heap_secD (W : World) (o1 o2 : Obj) : ((W.alloc o1).alloc o2).drew.heap[W.heap.size + 1]? = some o2 := heap_sec W o1 o2
theorem heap_twoD (W : World) (o1 o2 : Obj) : ((W.alloc o1).alloc o2).drew.heap[W.heap.size]? = some o1 := heap_two W o1 o2
theorem AS_of {w W : World} {wd k a b : Int} {v : Value} (h : DX w wd v (w.heap.size + 1 + 1) W) (c : CX (w.heap.size + 1) k a b W) :
    W.cell? ⟨w.heap.size, 0, none⟩ = some (.int .i64 wd) ∧ W.cell? ⟨w.heap.size, 1, none⟩ = some v ∧ W.cell? ⟨w.heap.size + 1, 0, none⟩ = some (.int .i64 k) ∧ W.cell? ⟨w.heap.size + 1, 1, none⟩ = some (.int .i64 a) ∧ W.cell? ⟨w.heap.size + 1, 2, none⟩ = some (.int .i64 b) ∧ W.cell? ⟨w.heap.size + 1 + 1, 0, none⟩ = some (vr W (w.heap.size + 1 + 1) 0) ∧ W.cell? ⟨w.heap.size + 1 + 1, 1, none⟩ = some (vr W (w.heap.size + 1 + 1) 1) ∧ W.frozen? ⟨w.heap.size + 1 + 1, 0, none⟩ = false ∧ W.frozen? ⟨w.heap.size + 1 + 1, 1, none⟩ = false ∧ w.heap.size + 1 + 1 < W.heap.size ∧ Below w.heap.size w W :=
  ⟨h.1.1, h.1.2, c.1.1, c.1.2.1, c.1.2.2, vr_is h.2.1.1, vr_is h.2.1.2, h.2.2.1.1, h.2.2.1.2, h.2.2.2.1.2, h.2.2.2.2⟩
def aok (wd : Int) (n : Nat) (f : Nat → Int) (k a b : Int) : Bool := okP wd n f && (okK k a b && !decide (n = 6))
def adW (wd : Int) (n : Nat) (f : Nat → Int) (k a b : Int) : Int := if aok wd n f k a b then wd else 0
def adN (wd : Int) (n : Nat) (f : Nat → Int) (k a b : Int) : Nat := if aok wd n f k a b then n + 1 else 0
theorem adN_le (wd : Int) (n : Nat) (f : Nat → Int) (k a b : Int) : adN wd n f k a b ≤ n + 1 := by
  unfold adN
  split <;> omega
theorem cat_snoc (f : Nat → Int) (n : Nat) (k a b : Int) : ∀ i, i < (n + 1) * 3 → catF f n (snocF (fun _ => 0) 0 k a b) i = snocF f n k a b i := by
  intro i hi
  unfold catF snocF
  by_cases h : i < n * 3
  · rw [if_pos h, if_pos h]
  · rw [if_neg h, if_neg h, if_neg (by omega)]
    by_cases h1 : i = n * 3
    · rw [if_pos h1, if_pos (by omega)]
    · by_cases h2 : i = n * 3 + 1
      · rw [if_neg h1, if_pos h2, if_neg (by omega), if_pos (by omega)]
      · rw [if_neg h1, if_neg h2, if_neg (by omega), if_neg (by omega)]
theorem cat_twice {W : World} {B n : Nat} {v : Value} {f : Nat → Int} {k a b : Int} (h : OClu W B v (0 + n + 1) (catF (catF (fun _ => 0) 0 f) (0 + n) (snocF (fun _ => 0) 0 k a b))) : OClu W B v (n + 1) (snocF f n k a b) := by
  rw [Nat.zero_add] at h
  refine h.congr fun i hi => ?_
  rw [← cat_snoc f n k a b i hi]
  simp only [catF, Nat.zero_mul, Nat.not_lt_zero, if_false, Nat.sub_zero]
set_option maxRecDepth 8000 in
set_option maxHeartbeats 1600000 in
theorem impl_AddClue (wd : Int) (v : Value) (n : Nat) (f : Nat → Int) (k ca cb : Int) (w : World) (h : PClu w v n f) (hcap : Caps v) :
    Calls Try.prog 20 #[.agg #[.int .i64 wd, v], .agg #[.int .i64 k, .int .i64 ca, .int .i64 cb]] w fun e w' => ∃ u, e = .returned (.tuple #[.agg #[.int .i64 (adW wd n f k ca cb), u], .bool (aok wd n f k ca cb)]) ∧ OClu w' w.heap.size u (adN wd n f k ca cb) (snocF f n k ca cb) ∧ Below w.heap.size w w' := by
  obtain ⟨a, c, rfl⟩ := h.shape
  have hl := h.len_le
  have hnc : n ≤ c := hcap _ _ _ rfl
  have HH := Lib.hid h
  clear h hcap
  cases hk : okP wd n f
  · have e1 : aok wd n f k ca cb = false := by rw [aok, hk]; rfl
    have e2 : adW wd n f k ca cb = 0 := by rw [adW, e1]; rfl
    have e3 : adN wd n f k ca cb = 0 := by rw [adN, e1]; rfl
    rw [e1, e2, e3]
    clear e1 e2 e3
    go_enter Try.func20, Try.ntmps20
    go_wp2_with fail
    refine (impl_IsPuzzle wd _ n f _ (HH.out.keep (by repeat (first | exact Below.refl _ _ | refine bl_alloc ?_ _ | refine bl_drewN ?_ _ | refine bl_trans (by assumption) ?_ | refine bl_set ?_ (by first | omega | (simp; done) | (simp; omega)) _)))).mono ?_
    rintro e w1 ⟨rfl, hbw1⟩
    obtain ⟨hcw1, hfw1⟩ := bcell hbw1
    have hzw1 := bsize hbw1
    (try simp only [World.size_alloc, World.size_setCell] at hzw1)
    have kw1_0_0 : w1.cell? ⟨w.heap.size, 0, none⟩ = some (.int .i64 wd) := by rw [hcw1 _ _ (by first | (simp; done) | omega | (simp; omega))]; first | assumption | (simp [go_sem]; done) | (simp [go_sem]; done) | (simp [go_sem, *]; done)
    have kw1_0_1 : w1.cell? ⟨w.heap.size, 1, none⟩ = some (.slice a n c) := by rw [hcw1 _ _ (by first | (simp; done) | omega | (simp; omega))]; first | assumption | (simp [go_sem]; done) | (simp [go_sem]; done) | (simp [go_sem, *]; done)
    have sw1_0 : w.heap.size < w1.heap.size := by first | omega | (simp at *; omega)
    have kw1_1_0 : w1.cell? ⟨w.heap.size + 1, 0, none⟩ = some (.int .i64 k) := by rw [hcw1 _ _ (by first | (simp; done) | omega | (simp; omega))]; first | assumption | (simp [go_sem]; done) | (simp [go_sem]; done) | (simp [go_sem, *]; done)
    have kw1_1_1 : w1.cell? ⟨w.heap.size + 1, 1, none⟩ = some (.int .i64 ca) := by rw [hcw1 _ _ (by first | (simp; done) | omega | (simp; omega))]; first | assumption | (simp [go_sem]; done) | (simp [go_sem]; done) | (simp [go_sem, *]; done)
    have kw1_1_2 : w1.cell? ⟨w.heap.size + 1, 2, none⟩ = some (.int .i64 cb) := by rw [hcw1 _ _ (by first | (simp; done) | omega | (simp; omega))]; first | assumption | (simp [go_sem]; done) | (simp [go_sem]; done) | (simp [go_sem, *]; done)
    have sw1_1 : w.heap.size + 1 < w1.heap.size := by first | omega | (simp at *; omega)
    have kw1_2_0 : w1.cell? ⟨w.heap.size + 1 + 1, 0, none⟩ = some (.int .i64 0) := by rw [hcw1 _ _ (by first | (simp; done) | omega | (simp; omega))]; first | assumption | (simp [go_sem]; done) | (simp [go_sem]; done) | (simp [go_sem, *]; done)
    have fw1_2_0 : w1.frozen? ⟨w.heap.size + 1 + 1, 0, none⟩ = false := by rw [hfw1 _ _ (by first | (simp; done) | omega | (simp; omega))]; first | assumption | (simp [go_sem]; done) | (simp [go_sem]; done) | (simp [go_sem, *]; done)
    have kw1_2_1 : w1.cell? ⟨w.heap.size + 1 + 1, 1, none⟩ = some (.slice none 0 0) := by rw [hcw1 _ _ (by first | (simp; done) | omega | (simp; omega))]; first | assumption | (simp [go_sem]; done) | (simp [go_sem]; done) | (simp [go_sem, *]; done)
    have fw1_2_1 : w1.frozen? ⟨w.heap.size + 1 + 1, 1, none⟩ = false := by rw [hfw1 _ _ (by first | (simp; done) | omega | (simp; omega))]; first | assumption | (simp [go_sem]; done) | (simp [go_sem]; done) | (simp [go_sem, *]; done)
    have sw1_2 : w.heap.size + 1 + 1 < w1.heap.size := by first | omega | (simp at *; omega)
    have hBw1 : Below w.heap.size w w1 := (by repeat (first | exact Below.refl _ _ | refine bl_alloc ?_ _ | refine bl_drewN ?_ _ | refine bl_trans (by assumption) ?_ | refine bl_set ?_ (by first | omega | (simp; done) | (simp; omega)) _))
    have HBw1 := Lib.hid hBw1
    clear hBw1 hcw1 hfw1 hbw1
    rw [hk]
    go_wp2
    exact bodyPost_ret (v := .tuple #[.agg #[.int .i64 0, .slice none 0 0], .bool false]) (by simp [results, Try.results20, go_sem, kw1_0_0, kw1_0_1, kw1_1_0, kw1_1_1, kw1_1_2, kw1_2_0, kw1_2_1, fw1_2_0, fw1_2_1]) rfl ⟨.slice none 0 0, rfl, OClu.nil _ _ _, (by repeat (first | refine bl_set ?_ (by first | omega | (simp; done) | (simp; omega)) _ | exact HBw1.out))⟩
  · obtain ⟨⟨k1, k2⟩, k3, k4⟩ := okP_true hk
    clear k4
    have hwd : within wd 1 12 = true := by simp [within]; omega
    cases hkk : okK k ca cb
    · have e1 : aok wd n f k ca cb = false := by rw [aok, hk, hkk]; rfl
      have e2 : adW wd n f k ca cb = 0 := by rw [adW, e1]; rfl
      have e3 : adN wd n f k ca cb = 0 := by rw [adN, e1]; rfl
      rw [e1, e2, e3]
      clear e1 e2 e3
      go_enter Try.func20, Try.ntmps20
      go_wp2_with fail
      refine (impl_IsPuzzle wd _ n f _ (HH.out.keep (by repeat (first | exact Below.refl _ _ | refine bl_alloc ?_ _ | refine bl_drewN ?_ _ | refine bl_trans (by assumption) ?_ | refine bl_set ?_ (by first | omega | (simp; done) | (simp; omega)) _)))).mono ?_
      rintro e w1 ⟨rfl, hbw1⟩
      obtain ⟨hcw1, hfw1⟩ := bcell hbw1
      have hzw1 := bsize hbw1
      (try simp only [World.size_alloc, World.size_setCell] at hzw1)
      have kw1_0_0 : w1.cell? ⟨w.heap.size, 0, none⟩ = some (.int .i64 wd) := by rw [hcw1 _ _ (by first | (simp; done) | omega | (simp; omega))]; first | assumption | (simp [go_sem]; done) | (simp [go_sem]; done) | (simp [go_sem, *]; done)
      have kw1_0_1 : w1.cell? ⟨w.heap.size, 1, none⟩ = some (.slice a n c) := by rw [hcw1 _ _ (by first | (simp; done) | omega | (simp; omega))]; first | assumption | (simp [go_sem]; done) | (simp [go_sem]; done) | (simp [go_sem, *]; done)
      have sw1_0 : w.heap.size < w1.heap.size := by first | omega | (simp at *; omega)
      have kw1_1_0 : w1.cell? ⟨w.heap.size + 1, 0, none⟩ = some (.int .i64 k) := by rw [hcw1 _ _ (by first | (simp; done) | omega | (simp; omega))]; first | assumption | (simp [go_sem]; done) | (simp [go_sem]; done) | (simp [go_sem, *]; done)
      have kw1_1_1 : w1.cell? ⟨w.heap.size + 1, 1, none⟩ = some (.int .i64 ca) := by rw [hcw1 _ _ (by first | (simp; done) | omega | (simp; omega))]; first | assumption | (simp [go_sem]; done) | (simp [go_sem]; done) | (simp [go_sem, *]; done)
      have kw1_1_2 : w1.cell? ⟨w.heap.size + 1, 2, none⟩ = some (.int .i64 cb) := by rw [hcw1 _ _ (by first | (simp; done) | omega | (simp; omega))]; first | assumption | (simp [go_sem]; done) | (simp [go_sem]; done) | (simp [go_sem, *]; done)
      have sw1_1 : w.heap.size + 1 < w1.heap.size := by first | omega | (simp at *; omega)
      have kw1_2_0 : w1.cell? ⟨w.heap.size + 1 + 1, 0, none⟩ = some (.int .i64 0) := by rw [hcw1 _ _ (by first | (simp; done) | omega | (simp; omega))]; first | assumption | (simp [go_sem]; done) | (simp [go_sem]; done) | (simp [go_sem, *]; done)
      have fw1_2_0 : w1.frozen? ⟨w.heap.size + 1 + 1, 0, none⟩ = false := by rw [hfw1 _ _ (by first | (simp; done) | omega | (simp; omega))]; first | assumption | (simp [go_sem]; done) | (simp [go_sem]; done) | (simp [go_sem, *]; done)
      have kw1_2_1 : w1.cell? ⟨w.heap.size + 1 + 1, 1, none⟩ = some (.slice none 0 0) := by rw [hcw1 _ _ (by first | (simp; done) | omega | (simp; omega))]; first | assumption | (simp [go_sem]; done) | (simp [go_sem]; done) | (simp [go_sem, *]; done)
      have fw1_2_1 : w1.frozen? ⟨w.heap.size + 1 + 1, 1, none⟩ = false := by rw [hfw1 _ _ (by first | (simp; done) | omega | (simp; omega))]; first | assumption | (simp [go_sem]; done) | (simp [go_sem]; done) | (simp [go_sem, *]; done)
      have sw1_2 : w.heap.size + 1 + 1 < w1.heap.size := by first | omega | (simp at *; omega)
      have hBw1 : Below w.heap.size w w1 := (by repeat (first | exact Below.refl _ _ | refine bl_alloc ?_ _ | refine bl_drewN ?_ _ | refine bl_trans (by assumption) ?_ | refine bl_set ?_ (by first | omega | (simp; done) | (simp; omega)) _))
      have HBw1 := Lib.hid hBw1
      clear hBw1 hcw1 hfw1 hbw1
      rw [hk]
      go_wp2_with fail
      refine (impl_IsClue wd k ca cb _).mono ?_
      rintro e w2 ⟨rfl, hbw2⟩
      obtain ⟨hcw2, hfw2⟩ := bcell hbw2
      have hzw2 := bsize hbw2
      (try simp only [World.size_alloc, World.size_setCell] at hzw2)
      have hkw2 : Below w1.heap.size w1 w2 := (by repeat (first | exact Below.refl _ _ | refine bl_alloc ?_ _ | refine bl_drewN ?_ _ | refine bl_trans (by assumption) ?_ | refine bl_set ?_ (by first | omega | (simp; done) | (simp; omega)) _))
      have kw2_0_0 : w2.cell? ⟨w.heap.size, 0, none⟩ = some (.int .i64 wd) := cell_after hkw2 sw1_0 kw1_0_0
      have kw2_0_1 : w2.cell? ⟨w.heap.size, 1, none⟩ = some (.slice a n c) := cell_after hkw2 sw1_0 kw1_0_1
      have sw2_0 : w.heap.size < w2.heap.size := size_after hkw2 sw1_0
      have kw2_1_0 : w2.cell? ⟨w.heap.size + 1, 0, none⟩ = some (.int .i64 k) := cell_after hkw2 sw1_1 kw1_1_0
      have kw2_1_1 : w2.cell? ⟨w.heap.size + 1, 1, none⟩ = some (.int .i64 ca) := cell_after hkw2 sw1_1 kw1_1_1
      have kw2_1_2 : w2.cell? ⟨w.heap.size + 1, 2, none⟩ = some (.int .i64 cb) := cell_after hkw2 sw1_1 kw1_1_2
      have sw2_1 : w.heap.size + 1 < w2.heap.size := size_after hkw2 sw1_1
      have kw2_2_0 : w2.cell? ⟨w.heap.size + 1 + 1, 0, none⟩ = some (.int .i64 0) := cell_after hkw2 sw1_2 kw1_2_0
      have fw2_2_0 : w2.frozen? ⟨w.heap.size + 1 + 1, 0, none⟩ = false := frozen_after hkw2 sw1_2 fw1_2_0
      have kw2_2_1 : w2.cell? ⟨w.heap.size + 1 + 1, 1, none⟩ = some (.slice none 0 0) := cell_after hkw2 sw1_2 kw1_2_1
      have fw2_2_1 : w2.frozen? ⟨w.heap.size + 1 + 1, 1, none⟩ = false := frozen_after hkw2 sw1_2 fw1_2_1
      have sw2_2 : w.heap.size + 1 + 1 < w2.heap.size := size_after hkw2 sw1_2
      have hBw2 : Below w.heap.size w w2 := (by repeat (first | exact HBw1.out | exact Below.refl _ _ | refine bl_alloc ?_ _ | refine bl_drewN ?_ _ | refine bl_trans (by assumption) ?_ | refine bl_set ?_ (by first | omega | (simp; done) | (simp; omega)) _))
      have HBw2 := Lib.hid hBw2
      clear hBw2 hcw2 hfw2 hbw2 hkw2 kw1_0_0 kw1_0_1 sw1_0 kw1_1_0 kw1_1_1 kw1_1_2 sw1_1 kw1_2_0 kw1_2_1 fw1_2_0 fw1_2_1 sw1_2
      rw [hwd, hkk]
      go_wp2
      exact bodyPost_ret (v := .tuple #[.agg #[.int .i64 0, .slice none 0 0], .bool false]) (by simp [results, Try.results20, go_sem, kw2_0_0, kw2_0_1, kw2_1_0, kw2_1_1, kw2_1_2, kw2_2_0, kw2_2_1, fw2_2_0, fw2_2_1]) rfl ⟨.slice none 0 0, rfl, OClu.nil _ _ _, (by repeat (first | refine bl_set ?_ (by first | omega | (simp; done) | (simp; omega)) _ | exact HBw2.out))⟩
    · by_cases hn : n = 6
      · have e1 : aok wd n f k ca cb = false := by rw [aok, hk, hkk, hn]; rfl
        have e2 : adW wd n f k ca cb = 0 := by rw [adW, e1]; rfl
        have e3 : adN wd n f k ca cb = 0 := by rw [adN, e1]; rfl
        rw [e1, e2, e3]
        clear e1 e2 e3
        have hn6 : ((n : Int) == 6) = true := by simp; omega
        have Hn := Lib.hid hn
        clear hn
        go_enter Try.func20, Try.ntmps20
        go_wp2_with fail
        refine (impl_IsPuzzle wd _ n f _ (HH.out.keep (by repeat (first | exact Below.refl _ _ | refine bl_alloc ?_ _ | refine bl_drewN ?_ _ | refine bl_trans (by assumption) ?_ | refine bl_set ?_ (by first | omega | (simp; done) | (simp; omega)) _)))).mono ?_
        rintro e w1 ⟨rfl, hbw1⟩
        obtain ⟨hcw1, hfw1⟩ := bcell hbw1
        have hzw1 := bsize hbw1
        (try simp only [World.size_alloc, World.size_setCell] at hzw1)
        have kw1_0_0 : w1.cell? ⟨w.heap.size, 0, none⟩ = some (.int .i64 wd) := by rw [hcw1 _ _ (by first | (simp; done) | omega | (simp; omega))]; first | assumption | (simp [go_sem]; done) | (simp [go_sem]; done) | (simp [go_sem, *]; done)
        have kw1_0_1 : w1.cell? ⟨w.heap.size, 1, none⟩ = some (.slice a n c) := by rw [hcw1 _ _ (by first | (simp; done) | omega | (simp; omega))]; first | assumption | (simp [go_sem]; done) | (simp [go_sem]; done) | (simp [go_sem, *]; done)
        have sw1_0 : w.heap.size < w1.heap.size := by first | omega | (simp at *; omega)
        have kw1_1_0 : w1.cell? ⟨w.heap.size + 1, 0, none⟩ = some (.int .i64 k) := by rw [hcw1 _ _ (by first | (simp; done) | omega | (simp; omega))]; first | assumption | (simp [go_sem]; done) | (simp [go_sem]; done) | (simp [go_sem, *]; done)
        have kw1_1_1 : w1.cell? ⟨w.heap.size + 1, 1, none⟩ = some (.int .i64 ca) := by rw [hcw1 _ _ (by first | (simp; done) | omega | (simp; omega))]; first | assumption | (simp [go_sem]; done) | (simp [go_sem]; done) | (simp [go_sem, *]; done)
        have kw1_1_2 : w1.cell? ⟨w.heap.size + 1, 2, none⟩ = some (.int .i64 cb) := by rw [hcw1 _ _ (by first | (simp; done) | omega | (simp; omega))]; first | assumption | (simp [go_sem]; done) | (simp [go_sem]; done) | (simp [go_sem, *]; done)
        have sw1_1 : w.heap.size + 1 < w1.heap.size := by first | omega | (simp at *; omega)
        have kw1_2_0 : w1.cell? ⟨w.heap.size + 1 + 1, 0, none⟩ = some (.int .i64 0) := by rw [hcw1 _ _ (by first | (simp; done) | omega | (simp; omega))]; first | assumption | (simp [go_sem]; done) | (simp [go_sem]; done) | (simp [go_sem, *]; done)
        have fw1_2_0 : w1.frozen? ⟨w.heap.size + 1 + 1, 0, none⟩ = false := by rw [hfw1 _ _ (by first | (simp; done) | omega | (simp; omega))]; first | assumption | (simp [go_sem]; done) | (simp [go_sem]; done) | (simp [go_sem, *]; done)
        have kw1_2_1 : w1.cell? ⟨w.heap.size + 1 + 1, 1, none⟩ = some (.slice none 0 0) := by rw [hcw1 _ _ (by first | (simp; done) | omega | (simp; omega))]; first | assumption | (simp [go_sem]; done) | (simp [go_sem]; done) | (simp [go_sem, *]; done)
        have fw1_2_1 : w1.frozen? ⟨w.heap.size + 1 + 1, 1, none⟩ = false := by rw [hfw1 _ _ (by first | (simp; done) | omega | (simp; omega))]; first | assumption | (simp [go_sem]; done) | (simp [go_sem]; done) | (simp [go_sem, *]; done)
        have sw1_2 : w.heap.size + 1 + 1 < w1.heap.size := by first | omega | (simp at *; omega)
        have hBw1 : Below w.heap.size w w1 := (by repeat (first | exact Below.refl _ _ | refine bl_alloc ?_ _ | refine bl_drewN ?_ _ | refine bl_trans (by assumption) ?_ | refine bl_set ?_ (by first | omega | (simp; done) | (simp; omega)) _))
        have HBw1 := Lib.hid hBw1
        clear hBw1 hcw1 hfw1 hbw1
        rw [hk]
        go_wp2_with fail
        refine (impl_IsClue wd k ca cb _).mono ?_
        rintro e w2 ⟨rfl, hbw2⟩
        obtain ⟨hcw2, hfw2⟩ := bcell hbw2
        have hzw2 := bsize hbw2
        (try simp only [World.size_alloc, World.size_setCell] at hzw2)
        have hkw2 : Below w1.heap.size w1 w2 := (by repeat (first | exact Below.refl _ _ | refine bl_alloc ?_ _ | refine bl_drewN ?_ _ | refine bl_trans (by assumption) ?_ | refine bl_set ?_ (by first | omega | (simp; done) | (simp; omega)) _))
        have kw2_0_0 : w2.cell? ⟨w.heap.size, 0, none⟩ = some (.int .i64 wd) := cell_after hkw2 sw1_0 kw1_0_0
        have kw2_0_1 : w2.cell? ⟨w.heap.size, 1, none⟩ = some (.slice a n c) := cell_after hkw2 sw1_0 kw1_0_1
        have sw2_0 : w.heap.size < w2.heap.size := size_after hkw2 sw1_0
        have kw2_1_0 : w2.cell? ⟨w.heap.size + 1, 0, none⟩ = some (.int .i64 k) := cell_after hkw2 sw1_1 kw1_1_0
        have kw2_1_1 : w2.cell? ⟨w.heap.size + 1, 1, none⟩ = some (.int .i64 ca) := cell_after hkw2 sw1_1 kw1_1_1
        have kw2_1_2 : w2.cell? ⟨w.heap.size + 1, 2, none⟩ = some (.int .i64 cb) := cell_after hkw2 sw1_1 kw1_1_2
        have sw2_1 : w.heap.size + 1 < w2.heap.size := size_after hkw2 sw1_1
        have kw2_2_0 : w2.cell? ⟨w.heap.size + 1 + 1, 0, none⟩ = some (.int .i64 0) := cell_after hkw2 sw1_2 kw1_2_0
        have fw2_2_0 : w2.frozen? ⟨w.heap.size + 1 + 1, 0, none⟩ = false := frozen_after hkw2 sw1_2 fw1_2_0
        have kw2_2_1 : w2.cell? ⟨w.heap.size + 1 + 1, 1, none⟩ = some (.slice none 0 0) := cell_after hkw2 sw1_2 kw1_2_1
        have fw2_2_1 : w2.frozen? ⟨w.heap.size + 1 + 1, 1, none⟩ = false := frozen_after hkw2 sw1_2 fw1_2_1
        have sw2_2 : w.heap.size + 1 + 1 < w2.heap.size := size_after hkw2 sw1_2
        have hBw2 : Below w.heap.size w w2 := (by repeat (first | exact HBw1.out | exact Below.refl _ _ | refine bl_alloc ?_ _ | refine bl_drewN ?_ _ | refine bl_trans (by assumption) ?_ | refine bl_set ?_ (by first | omega | (simp; done) | (simp; omega)) _))
        have HBw2 := Lib.hid hBw2
        clear hBw2 hcw2 hfw2 hbw2 hkw2 kw1_0_0 kw1_0_1 sw1_0 kw1_1_0 kw1_1_1 kw1_1_2 sw1_1 kw1_2_0 kw1_2_1 fw1_2_0 fw1_2_1 sw1_2
        rw [hwd, hkk]
        go_wp2
        exact bodyPost_ret (v := .tuple #[.agg #[.int .i64 0, .slice none 0 0], .bool false]) (by simp [results, Try.results20, go_sem, kw2_0_0, kw2_0_1, kw2_1_0, kw2_1_1, kw2_1_2, kw2_2_0, kw2_2_1, fw2_2_0, fw2_2_1]) rfl ⟨.slice none 0 0, rfl, OClu.nil _ _ _, (by repeat (first | refine bl_set ?_ (by first | omega | (simp; done) | (simp; omega)) _ | exact HBw2.out))⟩
      · have e1 : aok wd n f k ca cb = true := by rw [aok, hk, hkk]; simp [hn]
        have e2 : adW wd n f k ca cb = wd := by rw [adW, e1]; rfl
        have e3 : adN wd n f k ca cb = n + 1 := by rw [adN, e1]; rfl
        rw [e1, e2, e3]
        have hn6 : ((n : Int) == 6) = false := by simp; omega
        clear e1 e2 e3
        go_enter Try.func20, Try.ntmps20
        go_wp2_with fail
        refine (impl_IsPuzzle wd _ n f _ (HH.out.keep (by repeat (first | exact Below.refl _ _ | refine bl_alloc ?_ _ | refine bl_drewN ?_ _ | refine bl_trans (by assumption) ?_ | refine bl_set ?_ (by first | omega | (simp; done) | (simp; omega)) _)))).mono ?_
        rintro e w1 ⟨rfl, hbw1⟩
        obtain ⟨hcw1, hfw1⟩ := bcell hbw1
        have hzw1 := bsize hbw1
        (try simp only [World.size_alloc, World.size_setCell] at hzw1)
        have kw1_0_0 : w1.cell? ⟨w.heap.size, 0, none⟩ = some (.int .i64 wd) := by rw [hcw1 _ _ (by first | (simp; done) | omega | (simp; omega))]; first | assumption | (simp [go_sem]; done) | (simp [go_sem]; done) | (simp [go_sem, *]; done)
        have kw1_0_1 : w1.cell? ⟨w.heap.size, 1, none⟩ = some (.slice a n c) := by rw [hcw1 _ _ (by first | (simp; done) | omega | (simp; omega))]; first | assumption | (simp [go_sem]; done) | (simp [go_sem]; done) | (simp [go_sem, *]; done)
        have sw1_0 : w.heap.size < w1.heap.size := by first | omega | (simp at *; omega)
        have kw1_1_0 : w1.cell? ⟨w.heap.size + 1, 0, none⟩ = some (.int .i64 k) := by rw [hcw1 _ _ (by first | (simp; done) | omega | (simp; omega))]; first | assumption | (simp [go_sem]; done) | (simp [go_sem]; done) | (simp [go_sem, *]; done)
        have kw1_1_1 : w1.cell? ⟨w.heap.size + 1, 1, none⟩ = some (.int .i64 ca) := by rw [hcw1 _ _ (by first | (simp; done) | omega | (simp; omega))]; first | assumption | (simp [go_sem]; done) | (simp [go_sem]; done) | (simp [go_sem, *]; done)
        have kw1_1_2 : w1.cell? ⟨w.heap.size + 1, 2, none⟩ = some (.int .i64 cb) := by rw [hcw1 _ _ (by first | (simp; done) | omega | (simp; omega))]; first | assumption | (simp [go_sem]; done) | (simp [go_sem]; done) | (simp [go_sem, *]; done)
        have sw1_1 : w.heap.size + 1 < w1.heap.size := by first | omega | (simp at *; omega)
        have kw1_2_0 : w1.cell? ⟨w.heap.size + 1 + 1, 0, none⟩ = some (.int .i64 0) := by rw [hcw1 _ _ (by first | (simp; done) | omega | (simp; omega))]; first | assumption | (simp [go_sem]; done) | (simp [go_sem]; done) | (simp [go_sem, *]; done)
        have fw1_2_0 : w1.frozen? ⟨w.heap.size + 1 + 1, 0, none⟩ = false := by rw [hfw1 _ _ (by first | (simp; done) | omega | (simp; omega))]; first | assumption | (simp [go_sem]; done) | (simp [go_sem]; done) | (simp [go_sem, *]; done)
        have kw1_2_1 : w1.cell? ⟨w.heap.size + 1 + 1, 1, none⟩ = some (.slice none 0 0) := by rw [hcw1 _ _ (by first | (simp; done) | omega | (simp; omega))]; first | assumption | (simp [go_sem]; done) | (simp [go_sem]; done) | (simp [go_sem, *]; done)
        have fw1_2_1 : w1.frozen? ⟨w.heap.size + 1 + 1, 1, none⟩ = false := by rw [hfw1 _ _ (by first | (simp; done) | omega | (simp; omega))]; first | assumption | (simp [go_sem]; done) | (simp [go_sem]; done) | (simp [go_sem, *]; done)
        have sw1_2 : w.heap.size + 1 + 1 < w1.heap.size := by first | omega | (simp at *; omega)
        have hBw1 : Below w.heap.size w w1 := (by repeat (first | exact Below.refl _ _ | refine bl_alloc ?_ _ | refine bl_drewN ?_ _ | refine bl_trans (by assumption) ?_ | refine bl_set ?_ (by first | omega | (simp; done) | (simp; omega)) _))
        have HBw1 := Lib.hid hBw1
        clear hBw1 hcw1 hfw1 hbw1
        rw [hk]
        go_wp2_with fail
        refine (impl_IsClue wd k ca cb _).mono ?_
        rintro e w2 ⟨rfl, hbw2⟩
        obtain ⟨hcw2, hfw2⟩ := bcell hbw2
        have hzw2 := bsize hbw2
        (try simp only [World.size_alloc, World.size_setCell] at hzw2)
        have hkw2 : Below w1.heap.size w1 w2 := (by repeat (first | exact Below.refl _ _ | refine bl_alloc ?_ _ | refine bl_drewN ?_ _ | refine bl_trans (by assumption) ?_ | refine bl_set ?_ (by first | omega | (simp; done) | (simp; omega)) _))
        have kw2_0_0 : w2.cell? ⟨w.heap.size, 0, none⟩ = some (.int .i64 wd) := cell_after hkw2 sw1_0 kw1_0_0
        have kw2_0_1 : w2.cell? ⟨w.heap.size, 1, none⟩ = some (.slice a n c) := cell_after hkw2 sw1_0 kw1_0_1
        have sw2_0 : w.heap.size < w2.heap.size := size_after hkw2 sw1_0
        have kw2_1_0 : w2.cell? ⟨w.heap.size + 1, 0, none⟩ = some (.int .i64 k) := cell_after hkw2 sw1_1 kw1_1_0
        have kw2_1_1 : w2.cell? ⟨w.heap.size + 1, 1, none⟩ = some (.int .i64 ca) := cell_after hkw2 sw1_1 kw1_1_1
        have kw2_1_2 : w2.cell? ⟨w.heap.size + 1, 2, none⟩ = some (.int .i64 cb) := cell_after hkw2 sw1_1 kw1_1_2
        have sw2_1 : w.heap.size + 1 < w2.heap.size := size_after hkw2 sw1_1
        have kw2_2_0 : w2.cell? ⟨w.heap.size + 1 + 1, 0, none⟩ = some (.int .i64 0) := cell_after hkw2 sw1_2 kw1_2_0
        have fw2_2_0 : w2.frozen? ⟨w.heap.size + 1 + 1, 0, none⟩ = false := frozen_after hkw2 sw1_2 fw1_2_0
        have kw2_2_1 : w2.cell? ⟨w.heap.size + 1 + 1, 1, none⟩ = some (.slice none 0 0) := cell_after hkw2 sw1_2 kw1_2_1
        have fw2_2_1 : w2.frozen? ⟨w.heap.size + 1 + 1, 1, none⟩ = false := frozen_after hkw2 sw1_2 fw1_2_1
        have sw2_2 : w.heap.size + 1 + 1 < w2.heap.size := size_after hkw2 sw1_2
        have hBw2 : Below w.heap.size w w2 := (by repeat (first | exact HBw1.out | exact Below.refl _ _ | refine bl_alloc ?_ _ | refine bl_drewN ?_ _ | refine bl_trans (by assumption) ?_ | refine bl_set ?_ (by first | omega | (simp; done) | (simp; omega)) _))
        have HBw2 := Lib.hid hBw2
        clear hBw2 hcw2 hfw2 hbw2 hkw2 kw1_0_0 kw1_0_1 sw1_0 kw1_1_0 kw1_1_1 kw1_1_2 sw1_1 kw1_2_0 kw1_2_1 fw1_2_0 fw1_2_1 sw1_2
        rw [hwd, hkk]
        have hS := AS_of ⟨⟨kw2_0_0, kw2_0_1⟩, ⟨kw2_2_0, kw2_2_1⟩, ⟨fw2_2_0, fw2_2_1⟩, ⟨sw2_0, sw2_2⟩, HBw2.out⟩ ⟨⟨kw2_1_0, kw2_1_1, kw2_1_2⟩, sw2_1⟩
        have HSS := Lib.hid hS
        go_wp2_with fail
        go_region_held3 (fun w' => w'.cell? ⟨w.heap.size, 0, none⟩ = some (.int .i64 wd) ∧ w'.cell? ⟨w.heap.size, 1, none⟩ = some (.slice a n c) ∧ w'.cell? ⟨w.heap.size + 1, 0, none⟩ = some (.int .i64 k) ∧ w'.cell? ⟨w.heap.size + 1, 1, none⟩ = some (.int .i64 ca) ∧ w'.cell? ⟨w.heap.size + 1, 2, none⟩ = some (.int .i64 cb) ∧ w'.cell? ⟨w.heap.size + 1 + 1, 0, none⟩ = some (vr w' (w.heap.size + 1 + 1) 0) ∧ w'.cell? ⟨w.heap.size + 1 + 1, 1, none⟩ = some (vr w' (w.heap.size + 1 + 1) 1) ∧ w'.frozen? ⟨w.heap.size + 1 + 1, 0, none⟩ = false ∧ w'.frozen? ⟨w.heap.size + 1 + 1, 1, none⟩ = false ∧ w.heap.size + 1 + 1 < w'.heap.size ∧ Below w.heap.size w w') (first | exact AS_after hb4 (by assumption) | exact AS_after hq3 (by assumption) | exact AS_under hq3 (by assumption) | exact AS_under hq6 (by assumption) | exact AS_after (bl_alloc (Below.refl _ _) _) (by assumption) | exact AS_set (by assumption) | exact AS_after (below_drewN (Below.refl _ _) _) (by assumption) | exact AS_after (Below.drew (Below.refl _ _)) (by assumption) | assumption) (first | (go_at_call 49; refine (firstClues_any _ _ _ _ _ (by omega) (by omega)).mono ?_; rintro e w5 ⟨rfl, rfl⟩) | (go_at_call 48; refine (newPuzzle_any wd _ (n + 1) _ _ (by assumption) (by omega)).mono ?_; have hs5 := (AS_bel (u := w5) (by assumption)).1; rintro e w6 ⟨u2, rfl, hO4, hb4⟩; have S6 := Lib.hid (AS_after (w := w) (u := w5) hb4 (by assumption)); have hO4 := (hO4.lower (C := w.heap.size + 1 + 1 + 1) (by omega)).congr (g := snocF f n k ca cb) (cat_snoc f n k ca cb); obtain ⟨a2, c2, rfl⟩ := hO4.toP.shape) | (refine step_app_full rfl (.tmp 30) (.tmp 32) rfl a n f rfl ((HH.out.keep (AS_bel (by assumption)).2).first (Nat.le_refl _) n) (.slice (some ⟨_, 0, none⟩) 1 1) 1 (snocF (fun _ => 0) 0 k ca cb) rfl (PClu_one (by simp) (by simp [go_sem]) (by simp [go_sem]) (by simp [go_sem])) (by omega) ?_; intro v5 w5 hq1 hq2 hq3 hq4 hq5; clear hq2 hq4 hq5) | fail)
        all_goals
          obtain ⟨_, _, _, _, _, r0, r1, z0, z1, _, hB⟩ := S6.out
          have O4 := Lib.hid hO4
          have HB := Lib.hid hB
          go_wp2
          exact bodyPost_ret (v := .tuple #[.agg #[.int .i64 wd, .slice a2 (n + 1) c2], .bool true]) (by simp [results, Try.results20, go_sem, r0, r1, z0, z1]) rfl ⟨.slice a2 (n + 1) c2, rfl, (((O4.out.low (by simp) _).low (by simp) _).lower (by omega)), (by repeat (first | refine bl_set ?_ (by first | omega | (simp; done) | (simp; omega)) _ | exact HB.out))⟩
set_option maxRecDepth 8000 in
set_option maxHeartbeats 1600000 in
theorem spec_AddClue (wd : Int) (v : Value) (n : Nat) (f : Nat → Int) (k ca cb : Int) (w : World) (h : PClu w v n f) (hcap : Caps v) :
    Calls Try.prog 17 #[.agg #[.int .i64 wd, v], .agg #[.int .i64 k, .int .i64 ca, .int .i64 cb]] w fun e w' => ∃ u, e = .returned (.tuple #[.agg #[.int .i64 (adW wd n f k ca cb), u], .bool (aok wd n f k ca cb)]) ∧ OClu w' w.heap.size u (adN wd n f k ca cb) (snocF f n k ca cb) ∧ Below w.heap.size w w' := by
  obtain ⟨a, c, rfl⟩ := h.shape
  have hl := h.len_le
  have hnc : n ≤ c := hcap _ _ _ rfl
  have HH := Lib.hid h
  clear h hcap
  cases hk : okP wd n f
  · have e1 : aok wd n f k ca cb = false := by rw [aok, hk]; rfl
    have e2 : adW wd n f k ca cb = 0 := by rw [adW, e1]; rfl
    have e3 : adN wd n f k ca cb = 0 := by rw [adN, e1]; rfl
    rw [e1, e2, e3]
    clear e1 e2 e3
    go_enter Try.func17, Try.ntmps17
    go_wp2_with fail
    refine (pzGood_any wd _ n f _ (HH.out.keep (by repeat (first | exact Below.refl _ _ | refine bl_alloc ?_ _ | refine bl_drewN ?_ _ | refine bl_trans (by assumption) ?_ | refine bl_set ?_ (by first | omega | (simp; done) | (simp; omega)) _)))).mono ?_
    rintro e w1 ⟨rfl, hbw1⟩
    obtain ⟨hcw1, hfw1⟩ := bcell hbw1
    have hzw1 := bsize hbw1
    (try simp only [World.size_alloc, World.size_setCell] at hzw1)
    have kw1_0_0 : w1.cell? ⟨w.heap.size, 0, none⟩ = some (.int .i64 wd) := by rw [hcw1 _ _ (by first | (simp; done) | omega | (simp; omega))]; first | assumption | (simp [go_sem]; done) | (simp [go_sem]; done) | (simp [go_sem, *]; done)
    have kw1_0_1 : w1.cell? ⟨w.heap.size, 1, none⟩ = some (.slice a n c) := by rw [hcw1 _ _ (by first | (simp; done) | omega | (simp; omega))]; first | assumption | (simp [go_sem]; done) | (simp [go_sem]; done) | (simp [go_sem, *]; done)
    have sw1_0 : w.heap.size < w1.heap.size := by first | omega | (simp at *; omega)
    have kw1_1_0 : w1.cell? ⟨w.heap.size + 1, 0, none⟩ = some (.int .i64 k) := by rw [hcw1 _ _ (by first | (simp; done) | omega | (simp; omega))]; first | assumption | (simp [go_sem]; done) | (simp [go_sem]; done) | (simp [go_sem, *]; done)
    have kw1_1_1 : w1.cell? ⟨w.heap.size + 1, 1, none⟩ = some (.int .i64 ca) := by rw [hcw1 _ _ (by first | (simp; done) | omega | (simp; omega))]; first | assumption | (simp [go_sem]; done) | (simp [go_sem]; done) | (simp [go_sem, *]; done)
    have kw1_1_2 : w1.cell? ⟨w.heap.size + 1, 2, none⟩ = some (.int .i64 cb) := by rw [hcw1 _ _ (by first | (simp; done) | omega | (simp; omega))]; first | assumption | (simp [go_sem]; done) | (simp [go_sem]; done) | (simp [go_sem, *]; done)
    have sw1_1 : w.heap.size + 1 < w1.heap.size := by first | omega | (simp at *; omega)
    have kw1_2_0 : w1.cell? ⟨w.heap.size + 1 + 1, 0, none⟩ = some (.int .i64 0) := by rw [hcw1 _ _ (by first | (simp; done) | omega | (simp; omega))]; first | assumption | (simp [go_sem]; done) | (simp [go_sem]; done) | (simp [go_sem, *]; done)
    have fw1_2_0 : w1.frozen? ⟨w.heap.size + 1 + 1, 0, none⟩ = false := by rw [hfw1 _ _ (by first | (simp; done) | omega | (simp; omega))]; first | assumption | (simp [go_sem]; done) | (simp [go_sem]; done) | (simp [go_sem, *]; done)
    have kw1_2_1 : w1.cell? ⟨w.heap.size + 1 + 1, 1, none⟩ = some (.slice none 0 0) := by rw [hcw1 _ _ (by first | (simp; done) | omega | (simp; omega))]; first | assumption | (simp [go_sem]; done) | (simp [go_sem]; done) | (simp [go_sem, *]; done)
    have fw1_2_1 : w1.frozen? ⟨w.heap.size + 1 + 1, 1, none⟩ = false := by rw [hfw1 _ _ (by first | (simp; done) | omega | (simp; omega))]; first | assumption | (simp [go_sem]; done) | (simp [go_sem]; done) | (simp [go_sem, *]; done)
    have sw1_2 : w.heap.size + 1 + 1 < w1.heap.size := by first | omega | (simp at *; omega)
    have hBw1 : Below w.heap.size w w1 := (by repeat (first | exact Below.refl _ _ | refine bl_alloc ?_ _ | refine bl_drewN ?_ _ | refine bl_trans (by assumption) ?_ | refine bl_set ?_ (by first | omega | (simp; done) | (simp; omega)) _))
    have HBw1 := Lib.hid hBw1
    clear hBw1 hcw1 hfw1 hbw1
    rw [hk]
    go_wp2
    exact bodyPost_ret (v := .tuple #[.agg #[.int .i64 0, .slice none 0 0], .bool false]) (by simp [results, Try.results17, go_sem, kw1_0_0, kw1_0_1, kw1_1_0, kw1_1_1, kw1_1_2, kw1_2_0, kw1_2_1, fw1_2_0, fw1_2_1]) rfl ⟨.slice none 0 0, rfl, OClu.nil _ _ _, (by repeat (first | refine bl_set ?_ (by first | omega | (simp; done) | (simp; omega)) _ | exact HBw1.out))⟩
  · obtain ⟨⟨k1, k2⟩, k3, k4⟩ := okP_true hk
    clear k4
    have hwd : within wd 1 12 = true := by simp [within]; omega
    cases hkk : okK k ca cb
    · have e1 : aok wd n f k ca cb = false := by rw [aok, hk, hkk]; rfl
      have e2 : adW wd n f k ca cb = 0 := by rw [adW, e1]; rfl
      have e3 : adN wd n f k ca cb = 0 := by rw [adN, e1]; rfl
      rw [e1, e2, e3]
      clear e1 e2 e3
      go_enter Try.func17, Try.ntmps17
      go_wp2_with fail
      refine (pzGood_any wd _ n f _ (HH.out.keep (by repeat (first | exact Below.refl _ _ | refine bl_alloc ?_ _ | refine bl_drewN ?_ _ | refine bl_trans (by assumption) ?_ | refine bl_set ?_ (by first | omega | (simp; done) | (simp; omega)) _)))).mono ?_
      rintro e w1 ⟨rfl, hbw1⟩
      obtain ⟨hcw1, hfw1⟩ := bcell hbw1
      have hzw1 := bsize hbw1
      (try simp only [World.size_alloc, World.size_setCell] at hzw1)
      have kw1_0_0 : w1.cell? ⟨w.heap.size, 0, none⟩ = some (.int .i64 wd) := by rw [hcw1 _ _ (by first | (simp; done) | omega | (simp; omega))]; first | assumption | (simp [go_sem]; done) | (simp [go_sem]; done) | (simp [go_sem, *]; done)
      have kw1_0_1 : w1.cell? ⟨w.heap.size, 1, none⟩ = some (.slice a n c) := by rw [hcw1 _ _ (by first | (simp; done) | omega | (simp; omega))]; first | assumption | (simp [go_sem]; done) | (simp [go_sem]; done) | (simp [go_sem, *]; done)
      have sw1_0 : w.heap.size < w1.heap.size := by first | omega | (simp at *; omega)
      have kw1_1_0 : w1.cell? ⟨w.heap.size + 1, 0, none⟩ = some (.int .i64 k) := by rw [hcw1 _ _ (by first | (simp; done) | omega | (simp; omega))]; first | assumption | (simp [go_sem]; done) | (simp [go_sem]; done) | (simp [go_sem, *]; done)
      have kw1_1_1 : w1.cell? ⟨w.heap.size + 1, 1, none⟩ = some (.int .i64 ca) := by rw [hcw1 _ _ (by first | (simp; done) | omega | (simp; omega))]; first | assumption | (simp [go_sem]; done) | (simp [go_sem]; done) | (simp [go_sem, *]; done)
      have kw1_1_2 : w1.cell? ⟨w.heap.size + 1, 2, none⟩ = some (.int .i64 cb) := by rw [hcw1 _ _ (by first | (simp; done) | omega | (simp; omega))]; first | assumption | (simp [go_sem]; done) | (simp [go_sem]; done) | (simp [go_sem, *]; done)
      have sw1_1 : w.heap.size + 1 < w1.heap.size := by first | omega | (simp at *; omega)
      have kw1_2_0 : w1.cell? ⟨w.heap.size + 1 + 1, 0, none⟩ = some (.int .i64 0) := by rw [hcw1 _ _ (by first | (simp; done) | omega | (simp; omega))]; first | assumption | (simp [go_sem]; done) | (simp [go_sem]; done) | (simp [go_sem, *]; done)
      have fw1_2_0 : w1.frozen? ⟨w.heap.size + 1 + 1, 0, none⟩ = false := by rw [hfw1 _ _ (by first | (simp; done) | omega | (simp; omega))]; first | assumption | (simp [go_sem]; done) | (simp [go_sem]; done) | (simp [go_sem, *]; done)
      have kw1_2_1 : w1.cell? ⟨w.heap.size + 1 + 1, 1, none⟩ = some (.slice none 0 0) := by rw [hcw1 _ _ (by first | (simp; done) | omega | (simp; omega))]; first | assumption | (simp [go_sem]; done) | (simp [go_sem]; done) | (simp [go_sem, *]; done)
      have fw1_2_1 : w1.frozen? ⟨w.heap.size + 1 + 1, 1, none⟩ = false := by rw [hfw1 _ _ (by first | (simp; done) | omega | (simp; omega))]; first | assumption | (simp [go_sem]; done) | (simp [go_sem]; done) | (simp [go_sem, *]; done)
      have sw1_2 : w.heap.size + 1 + 1 < w1.heap.size := by first | omega | (simp at *; omega)
      have hBw1 : Below w.heap.size w w1 := (by repeat (first | exact Below.refl _ _ | refine bl_alloc ?_ _ | refine bl_drewN ?_ _ | refine bl_trans (by assumption) ?_ | refine bl_set ?_ (by first | omega | (simp; done) | (simp; omega)) _))
      have HBw1 := Lib.hid hBw1
      clear hBw1 hcw1 hfw1 hbw1
      rw [hk]
      go_wp2_with fail
      refine (pzClue_any k ca cb _).mono ?_
      rintro e w2 ⟨rfl, hbw2⟩
      obtain ⟨hcw2, hfw2⟩ := bcell hbw2
      have hzw2 := bsize hbw2
      (try simp only [World.size_alloc, World.size_setCell] at hzw2)
      have hkw2 : Below w1.heap.size w1 w2 := (by repeat (first | exact Below.refl _ _ | refine bl_alloc ?_ _ | refine bl_drewN ?_ _ | refine bl_trans (by assumption) ?_ | refine bl_set ?_ (by first | omega | (simp; done) | (simp; omega)) _))
      have kw2_0_0 : w2.cell? ⟨w.heap.size, 0, none⟩ = some (.int .i64 wd) := cell_after hkw2 sw1_0 kw1_0_0
      have kw2_0_1 : w2.cell? ⟨w.heap.size, 1, none⟩ = some (.slice a n c) := cell_after hkw2 sw1_0 kw1_0_1
      have sw2_0 : w.heap.size < w2.heap.size := size_after hkw2 sw1_0
      have kw2_1_0 : w2.cell? ⟨w.heap.size + 1, 0, none⟩ = some (.int .i64 k) := cell_after hkw2 sw1_1 kw1_1_0
      have kw2_1_1 : w2.cell? ⟨w.heap.size + 1, 1, none⟩ = some (.int .i64 ca) := cell_after hkw2 sw1_1 kw1_1_1
      have kw2_1_2 : w2.cell? ⟨w.heap.size + 1, 2, none⟩ = some (.int .i64 cb) := cell_after hkw2 sw1_1 kw1_1_2
      have sw2_1 : w.heap.size + 1 < w2.heap.size := size_after hkw2 sw1_1
      have kw2_2_0 : w2.cell? ⟨w.heap.size + 1 + 1, 0, none⟩ = some (.int .i64 0) := cell_after hkw2 sw1_2 kw1_2_0
      have fw2_2_0 : w2.frozen? ⟨w.heap.size + 1 + 1, 0, none⟩ = false := frozen_after hkw2 sw1_2 fw1_2_0
      have kw2_2_1 : w2.cell? ⟨w.heap.size + 1 + 1, 1, none⟩ = some (.slice none 0 0) := cell_after hkw2 sw1_2 kw1_2_1
      have fw2_2_1 : w2.frozen? ⟨w.heap.size + 1 + 1, 1, none⟩ = false := frozen_after hkw2 sw1_2 fw1_2_1
      have sw2_2 : w.heap.size + 1 + 1 < w2.heap.size := size_after hkw2 sw1_2
      have hBw2 : Below w.heap.size w w2 := (by repeat (first | exact HBw1.out | exact Below.refl _ _ | refine bl_alloc ?_ _ | refine bl_drewN ?_ _ | refine bl_trans (by assumption) ?_ | refine bl_set ?_ (by first | omega | (simp; done) | (simp; omega)) _))
      have HBw2 := Lib.hid hBw2
      clear hBw2 hcw2 hfw2 hbw2 hkw2 kw1_0_0 kw1_0_1 sw1_0 kw1_1_0 kw1_1_1 kw1_1_2 sw1_1 kw1_2_0 kw1_2_1 fw1_2_0 fw1_2_1 sw1_2
      rw [hkk]
      go_wp2
      exact bodyPost_ret (v := .tuple #[.agg #[.int .i64 0, .slice none 0 0], .bool false]) (by simp [results, Try.results17, go_sem, kw2_0_0, kw2_0_1, kw2_1_0, kw2_1_1, kw2_1_2, kw2_2_0, kw2_2_1, fw2_2_0, fw2_2_1]) rfl ⟨.slice none 0 0, rfl, OClu.nil _ _ _, (by repeat (first | refine bl_set ?_ (by first | omega | (simp; done) | (simp; omega)) _ | exact HBw2.out))⟩
    · by_cases hn : n = 6
      · have e1 : aok wd n f k ca cb = false := by rw [aok, hk, hkk, hn]; rfl
        have e2 : adW wd n f k ca cb = 0 := by rw [adW, e1]; rfl
        have e3 : adN wd n f k ca cb = 0 := by rw [adN, e1]; rfl
        rw [e1, e2, e3]
        clear e1 e2 e3
        have hn6 : ((n : Int) == 6) = true := by simp; omega
        have Hn := Lib.hid hn
        clear hn
        go_enter Try.func17, Try.ntmps17
        go_wp2_with fail
        refine (pzGood_any wd _ n f _ (HH.out.keep (by repeat (first | exact Below.refl _ _ | refine bl_alloc ?_ _ | refine bl_drewN ?_ _ | refine bl_trans (by assumption) ?_ | refine bl_set ?_ (by first | omega | (simp; done) | (simp; omega)) _)))).mono ?_
        rintro e w1 ⟨rfl, hbw1⟩
        obtain ⟨hcw1, hfw1⟩ := bcell hbw1
        have hzw1 := bsize hbw1
        (try simp only [World.size_alloc, World.size_setCell] at hzw1)
        have kw1_0_0 : w1.cell? ⟨w.heap.size, 0, none⟩ = some (.int .i64 wd) := by rw [hcw1 _ _ (by first | (simp; done) | omega | (simp; omega))]; first | assumption | (simp [go_sem]; done) | (simp [go_sem]; done) | (simp [go_sem, *]; done)
        have kw1_0_1 : w1.cell? ⟨w.heap.size, 1, none⟩ = some (.slice a n c) := by rw [hcw1 _ _ (by first | (simp; done) | omega | (simp; omega))]; first | assumption | (simp [go_sem]; done) | (simp [go_sem]; done) | (simp [go_sem, *]; done)
        have sw1_0 : w.heap.size < w1.heap.size := by first | omega | (simp at *; omega)
        have kw1_1_0 : w1.cell? ⟨w.heap.size + 1, 0, none⟩ = some (.int .i64 k) := by rw [hcw1 _ _ (by first | (simp; done) | omega | (simp; omega))]; first | assumption | (simp [go_sem]; done) | (simp [go_sem]; done) | (simp [go_sem, *]; done)
        have kw1_1_1 : w1.cell? ⟨w.heap.size + 1, 1, none⟩ = some (.int .i64 ca) := by rw [hcw1 _ _ (by first | (simp; done) | omega | (simp; omega))]; first | assumption | (simp [go_sem]; done) | (simp [go_sem]; done) | (simp [go_sem, *]; done)
        have kw1_1_2 : w1.cell? ⟨w.heap.size + 1, 2, none⟩ = some (.int .i64 cb) := by rw [hcw1 _ _ (by first | (simp; done) | omega | (simp; omega))]; first | assumption | (simp [go_sem]; done) | (simp [go_sem]; done) | (simp [go_sem, *]; done)
        have sw1_1 : w.heap.size + 1 < w1.heap.size := by first | omega | (simp at *; omega)
        have kw1_2_0 : w1.cell? ⟨w.heap.size + 1 + 1, 0, none⟩ = some (.int .i64 0) := by rw [hcw1 _ _ (by first | (simp; done) | omega | (simp; omega))]; first | assumption | (simp [go_sem]; done) | (simp [go_sem]; done) | (simp [go_sem, *]; done)
        have fw1_2_0 : w1.frozen? ⟨w.heap.size + 1 + 1, 0, none⟩ = false := by rw [hfw1 _ _ (by first | (simp; done) | omega | (simp; omega))]; first | assumption | (simp [go_sem]; done) | (simp [go_sem]; done) | (simp [go_sem, *]; done)
        have kw1_2_1 : w1.cell? ⟨w.heap.size + 1 + 1, 1, none⟩ = some (.slice none 0 0) := by rw [hcw1 _ _ (by first | (simp; done) | omega | (simp; omega))]; first | assumption | (simp [go_sem]; done) | (simp [go_sem]; done) | (simp [go_sem, *]; done)
        have fw1_2_1 : w1.frozen? ⟨w.heap.size + 1 + 1, 1, none⟩ = false := by rw [hfw1 _ _ (by first | (simp; done) | omega | (simp; omega))]; first | assumption | (simp [go_sem]; done) | (simp [go_sem]; done) | (simp [go_sem, *]; done)
        have sw1_2 : w.heap.size + 1 + 1 < w1.heap.size := by first | omega | (simp at *; omega)
        have hBw1 : Below w.heap.size w w1 := (by repeat (first | exact Below.refl _ _ | refine bl_alloc ?_ _ | refine bl_drewN ?_ _ | refine bl_trans (by assumption) ?_ | refine bl_set ?_ (by first | omega | (simp; done) | (simp; omega)) _))
        have HBw1 := Lib.hid hBw1
        clear hBw1 hcw1 hfw1 hbw1
        rw [hk]
        go_wp2_with fail
        refine (pzClue_any k ca cb _).mono ?_
        rintro e w2 ⟨rfl, hbw2⟩
        obtain ⟨hcw2, hfw2⟩ := bcell hbw2
        have hzw2 := bsize hbw2
        (try simp only [World.size_alloc, World.size_setCell] at hzw2)
        have hkw2 : Below w1.heap.size w1 w2 := (by repeat (first | exact Below.refl _ _ | refine bl_alloc ?_ _ | refine bl_drewN ?_ _ | refine bl_trans (by assumption) ?_ | refine bl_set ?_ (by first | omega | (simp; done) | (simp; omega)) _))
        have kw2_0_0 : w2.cell? ⟨w.heap.size, 0, none⟩ = some (.int .i64 wd) := cell_after hkw2 sw1_0 kw1_0_0
        have kw2_0_1 : w2.cell? ⟨w.heap.size, 1, none⟩ = some (.slice a n c) := cell_after hkw2 sw1_0 kw1_0_1
        have sw2_0 : w.heap.size < w2.heap.size := size_after hkw2 sw1_0
        have kw2_1_0 : w2.cell? ⟨w.heap.size + 1, 0, none⟩ = some (.int .i64 k) := cell_after hkw2 sw1_1 kw1_1_0
        have kw2_1_1 : w2.cell? ⟨w.heap.size + 1, 1, none⟩ = some (.int .i64 ca) := cell_after hkw2 sw1_1 kw1_1_1
        have kw2_1_2 : w2.cell? ⟨w.heap.size + 1, 2, none⟩ = some (.int .i64 cb) := cell_after hkw2 sw1_1 kw1_1_2
        have sw2_1 : w.heap.size + 1 < w2.heap.size := size_after hkw2 sw1_1
        have kw2_2_0 : w2.cell? ⟨w.heap.size + 1 + 1, 0, none⟩ = some (.int .i64 0) := cell_after hkw2 sw1_2 kw1_2_0
        have fw2_2_0 : w2.frozen? ⟨w.heap.size + 1 + 1, 0, none⟩ = false := frozen_after hkw2 sw1_2 fw1_2_0
        have kw2_2_1 : w2.cell? ⟨w.heap.size + 1 + 1, 1, none⟩ = some (.slice none 0 0) := cell_after hkw2 sw1_2 kw1_2_1
        have fw2_2_1 : w2.frozen? ⟨w.heap.size + 1 + 1, 1, none⟩ = false := frozen_after hkw2 sw1_2 fw1_2_1
        have sw2_2 : w.heap.size + 1 + 1 < w2.heap.size := size_after hkw2 sw1_2
        have hBw2 : Below w.heap.size w w2 := (by repeat (first | exact HBw1.out | exact Below.refl _ _ | refine bl_alloc ?_ _ | refine bl_drewN ?_ _ | refine bl_trans (by assumption) ?_ | refine bl_set ?_ (by first | omega | (simp; done) | (simp; omega)) _))
        have HBw2 := Lib.hid hBw2
        clear hBw2 hcw2 hfw2 hbw2 hkw2 kw1_0_0 kw1_0_1 sw1_0 kw1_1_0 kw1_1_1 kw1_1_2 sw1_1 kw1_2_0 kw1_2_1 fw1_2_0 fw1_2_1 sw1_2
        rw [hkk]
        go_wp2
        exact bodyPost_ret (v := .tuple #[.agg #[.int .i64 0, .slice none 0 0], .bool false]) (by simp [results, Try.results17, go_sem, kw2_0_0, kw2_0_1, kw2_1_0, kw2_1_1, kw2_1_2, kw2_2_0, kw2_2_1, fw2_2_0, fw2_2_1]) rfl ⟨.slice none 0 0, rfl, OClu.nil _ _ _, (by repeat (first | refine bl_set ?_ (by first | omega | (simp; done) | (simp; omega)) _ | exact HBw2.out))⟩
      · have e1 : aok wd n f k ca cb = true := by rw [aok, hk, hkk]; simp [hn]
        have e2 : adW wd n f k ca cb = wd := by rw [adW, e1]; rfl
        have e3 : adN wd n f k ca cb = n + 1 := by rw [adN, e1]; rfl
        rw [e1, e2, e3]
        have hn6 : ((n : Int) == 6) = false := by simp; omega
        clear e1 e2 e3
        go_enter Try.func17, Try.ntmps17
        go_wp2_with fail
        refine (pzGood_any wd _ n f _ (HH.out.keep (by repeat (first | exact Below.refl _ _ | refine bl_alloc ?_ _ | refine bl_drewN ?_ _ | refine bl_trans (by assumption) ?_ | refine bl_set ?_ (by first | omega | (simp; done) | (simp; omega)) _)))).mono ?_
        rintro e w1 ⟨rfl, hbw1⟩
        obtain ⟨hcw1, hfw1⟩ := bcell hbw1
        have hzw1 := bsize hbw1
        (try simp only [World.size_alloc, World.size_setCell] at hzw1)
        have kw1_0_0 : w1.cell? ⟨w.heap.size, 0, none⟩ = some (.int .i64 wd) := by rw [hcw1 _ _ (by first | (simp; done) | omega | (simp; omega))]; first | assumption | (simp [go_sem]; done) | (simp [go_sem]; done) | (simp [go_sem, *]; done)
        have kw1_0_1 : w1.cell? ⟨w.heap.size, 1, none⟩ = some (.slice a n c) := by rw [hcw1 _ _ (by first | (simp; done) | omega | (simp; omega))]; first | assumption | (simp [go_sem]; done) | (simp [go_sem]; done) | (simp [go_sem, *]; done)
        have sw1_0 : w.heap.size < w1.heap.size := by first | omega | (simp at *; omega)
        have kw1_1_0 : w1.cell? ⟨w.heap.size + 1, 0, none⟩ = some (.int .i64 k) := by rw [hcw1 _ _ (by first | (simp; done) | omega | (simp; omega))]; first | assumption | (simp [go_sem]; done) | (simp [go_sem]; done) | (simp [go_sem, *]; done)
        have kw1_1_1 : w1.cell? ⟨w.heap.size + 1, 1, none⟩ = some (.int .i64 ca) := by rw [hcw1 _ _ (by first | (simp; done) | omega | (simp; omega))]; first | assumption | (simp [go_sem]; done) | (simp [go_sem]; done) | (simp [go_sem, *]; done)
        have kw1_1_2 : w1.cell? ⟨w.heap.size + 1, 2, none⟩ = some (.int .i64 cb) := by rw [hcw1 _ _ (by first | (simp; done) | omega | (simp; omega))]; first | assumption | (simp [go_sem]; done) | (simp [go_sem]; done) | (simp [go_sem, *]; done)
        have sw1_1 : w.heap.size + 1 < w1.heap.size := by first | omega | (simp at *; omega)
        have kw1_2_0 : w1.cell? ⟨w.heap.size + 1 + 1, 0, none⟩ = some (.int .i64 0) := by rw [hcw1 _ _ (by first | (simp; done) | omega | (simp; omega))]; first | assumption | (simp [go_sem]; done) | (simp [go_sem]; done) | (simp [go_sem, *]; done)
        have fw1_2_0 : w1.frozen? ⟨w.heap.size + 1 + 1, 0, none⟩ = false := by rw [hfw1 _ _ (by first | (simp; done) | omega | (simp; omega))]; first | assumption | (simp [go_sem]; done) | (simp [go_sem]; done) | (simp [go_sem, *]; done)
        have kw1_2_1 : w1.cell? ⟨w.heap.size + 1 + 1, 1, none⟩ = some (.slice none 0 0) := by rw [hcw1 _ _ (by first | (simp; done) | omega | (simp; omega))]; first | assumption | (simp [go_sem]; done) | (simp [go_sem]; done) | (simp [go_sem, *]; done)
        have fw1_2_1 : w1.frozen? ⟨w.heap.size + 1 + 1, 1, none⟩ = false := by rw [hfw1 _ _ (by first | (simp; done) | omega | (simp; omega))]; first | assumption | (simp [go_sem]; done) | (simp [go_sem]; done) | (simp [go_sem, *]; done)
        have sw1_2 : w.heap.size + 1 + 1 < w1.heap.size := by first | omega | (simp at *; omega)
        have hBw1 : Below w.heap.size w w1 := (by repeat (first | exact Below.refl _ _ | refine bl_alloc ?_ _ | refine bl_drewN ?_ _ | refine bl_trans (by assumption) ?_ | refine bl_set ?_ (by first | omega | (simp; done) | (simp; omega)) _))
        have HBw1 := Lib.hid hBw1
        clear hBw1 hcw1 hfw1 hbw1
        rw [hk]
        go_wp2_with fail
        refine (pzClue_any k ca cb _).mono ?_
        rintro e w2 ⟨rfl, hbw2⟩
        obtain ⟨hcw2, hfw2⟩ := bcell hbw2
        have hzw2 := bsize hbw2
        (try simp only [World.size_alloc, World.size_setCell] at hzw2)
        have hkw2 : Below w1.heap.size w1 w2 := (by repeat (first | exact Below.refl _ _ | refine bl_alloc ?_ _ | refine bl_drewN ?_ _ | refine bl_trans (by assumption) ?_ | refine bl_set ?_ (by first | omega | (simp; done) | (simp; omega)) _))
        have kw2_0_0 : w2.cell? ⟨w.heap.size, 0, none⟩ = some (.int .i64 wd) := cell_after hkw2 sw1_0 kw1_0_0
        have kw2_0_1 : w2.cell? ⟨w.heap.size, 1, none⟩ = some (.slice a n c) := cell_after hkw2 sw1_0 kw1_0_1
        have sw2_0 : w.heap.size < w2.heap.size := size_after hkw2 sw1_0
        have kw2_1_0 : w2.cell? ⟨w.heap.size + 1, 0, none⟩ = some (.int .i64 k) := cell_after hkw2 sw1_1 kw1_1_0
        have kw2_1_1 : w2.cell? ⟨w.heap.size + 1, 1, none⟩ = some (.int .i64 ca) := cell_after hkw2 sw1_1 kw1_1_1
        have kw2_1_2 : w2.cell? ⟨w.heap.size + 1, 2, none⟩ = some (.int .i64 cb) := cell_after hkw2 sw1_1 kw1_1_2
        have sw2_1 : w.heap.size + 1 < w2.heap.size := size_after hkw2 sw1_1
        have kw2_2_0 : w2.cell? ⟨w.heap.size + 1 + 1, 0, none⟩ = some (.int .i64 0) := cell_after hkw2 sw1_2 kw1_2_0
        have fw2_2_0 : w2.frozen? ⟨w.heap.size + 1 + 1, 0, none⟩ = false := frozen_after hkw2 sw1_2 fw1_2_0
        have kw2_2_1 : w2.cell? ⟨w.heap.size + 1 + 1, 1, none⟩ = some (.slice none 0 0) := cell_after hkw2 sw1_2 kw1_2_1
        have fw2_2_1 : w2.frozen? ⟨w.heap.size + 1 + 1, 1, none⟩ = false := frozen_after hkw2 sw1_2 fw1_2_1
        have sw2_2 : w.heap.size + 1 + 1 < w2.heap.size := size_after hkw2 sw1_2
        have hBw2 : Below w.heap.size w w2 := (by repeat (first | exact HBw1.out | exact Below.refl _ _ | refine bl_alloc ?_ _ | refine bl_drewN ?_ _ | refine bl_trans (by assumption) ?_ | refine bl_set ?_ (by first | omega | (simp; done) | (simp; omega)) _))
        have HBw2 := Lib.hid hBw2
        clear hBw2 hcw2 hfw2 hbw2 hkw2 kw1_0_0 kw1_0_1 sw1_0 kw1_1_0 kw1_1_1 kw1_1_2 sw1_1 kw1_2_0 kw1_2_1 fw1_2_0 fw1_2_1 sw1_2
        rw [hkk]
        have hS := AS_of ⟨⟨kw2_0_0, kw2_0_1⟩, ⟨kw2_2_0, kw2_2_1⟩, ⟨fw2_2_0, fw2_2_1⟩, ⟨sw2_0, sw2_2⟩, HBw2.out⟩ ⟨⟨kw2_1_0, kw2_1_1, kw2_1_2⟩, sw2_1⟩
        have HSS := Lib.hid hS
        go_wp2_with fail
        go_region_held3 (fun w' => w'.cell? ⟨w.heap.size, 0, none⟩ = some (.int .i64 wd) ∧ w'.cell? ⟨w.heap.size, 1, none⟩ = some (.slice a n c) ∧ w'.cell? ⟨w.heap.size + 1, 0, none⟩ = some (.int .i64 k) ∧ w'.cell? ⟨w.heap.size + 1, 1, none⟩ = some (.int .i64 ca) ∧ w'.cell? ⟨w.heap.size + 1, 2, none⟩ = some (.int .i64 cb) ∧ w'.cell? ⟨w.heap.size + 1 + 1, 0, none⟩ = some (vr w' (w.heap.size + 1 + 1) 0) ∧ w'.cell? ⟨w.heap.size + 1 + 1, 1, none⟩ = some (vr w' (w.heap.size + 1 + 1) 1) ∧ w'.frozen? ⟨w.heap.size + 1 + 1, 0, none⟩ = false ∧ w'.frozen? ⟨w.heap.size + 1 + 1, 1, none⟩ = false ∧ w.heap.size + 1 + 1 < w'.heap.size ∧ Below w.heap.size w w') (first | exact AS_after hb4 (by assumption) | exact AS_after hq3 (by assumption) | exact AS_under hq3 (by assumption) | exact AS_under hq6 (by assumption) | exact AS_after (bl_alloc (Below.refl _ _) _) (by assumption) | exact AS_set (by assumption) | exact AS_after (below_drewN (Below.refl _ _) _) (by assumption) | exact AS_after (Below.drew (Below.refl _ _)) (by assumption) | assumption) (first | (refine step_app_own rfl (.tmp 23) (.tmp 25) rfl (w.heap.size + 1 + 1 + 1) (.slice (some ⟨_, 0, none⟩) 0 0) 0 (fun _ => 0) rfl ⟨rfl, .inr ⟨_, 0, #[], rfl, (by have := (AS_bel (w := w) (u := w2) HSS.out).1; first | omega | (simp; omega)), (by first | exact heap_alloc_new _ _ | exact heap_two _ _ _ | exact heap_twoD _ _ _ | exact heap_sec _ _ _ | exact heap_secD _ _ _), Nat.le_refl _, by unfold maxLen; omega, rfl, rfl⟩⟩ (.slice a n c) n f rfl (HH.out.keep (AS_bel (by assumption)).2) (by have := (AS_bel (w := w) (u := w2) HSS.out).1; first | omega | (simp; omega)) (by omega) ?_; intro v5 w5 hq1 hq2; have hq3 : Below (w.heap.size + 1 + 1 + 1) _ w5 := (Below.refl _ _).grown hq2 (by have := (AS_bel (w := w) (u := w2) HSS.out).1; first | omega | (simp; omega)) (fun g e => by have := (AS_bel (w := w) (u := w2) HSS.out).1; simp [Value.ownBlock] at e; omega); have hs5 : w.heap.size + 1 + 1 + 1 ≤ w5.heap.size := Nat.le_trans (by have := (AS_bel (w := w) (u := w2) HSS.out).1; first | omega | (simp; omega)) hq3.size; have HCK := Lib.hid (fun (b o : Nat) (h1 : b < _) (h2 : some b ≠ Value.ownBlock _) => World.grownBy.cell_far hq2 ⟨b, o, none⟩ h1 h2); have HSZ := Lib.hid hq2.size; clear hq2) | (refine step_app_own rfl (.tmp 26) (.tmp 28) rfl (w.heap.size + 1 + 1 + 1) v5 (0 + n) (catF (fun _ => 0) 0 f) rfl (OClu.keep hq1 (bl_alloc (Below.refl _ _) _)) (.slice (some ⟨_, 0, none⟩) 1 1) 1 (snocF (fun _ => 0) 0 k ca cb) rfl (PClu_one (by simp) (by simp [go_sem]) (by simp [go_sem]) (by simp [go_sem])) (by rw [World.size_alloc]; omega) (by omega) ?_; intro v7 w7 hq7 hq8; have hq6 := (Below.refl (w.heap.size + 1 + 1 + 1) (w5.alloc (.cells #[.int .i64 k, .int .i64 ca, .int .i64 cb] 57))).grown hq8 (by rw [World.size_alloc]; omega) (fun g e => (World.ownsRow.lt hq1 g e).1); have S6 := Lib.hid (AS_under (w := w) hq6 (by assumption)); have hO4 := cat_twice hq7; obtain ⟨a2, c2, rfl⟩ := hO4.toP.shape; have hbu := build_puz wd a2 (n + 1) c2; clear hq7 hq8) | (refine step_app_own rfl (.tmp 26) (.tmp 28) rfl (w.heap.size + 1 + 1 + 1) v5 (0 + n) (catF (fun _ => 0) 0 f) rfl hq1 (.slice (some ⟨_, 0, none⟩) 1 1) 1 (snocF (fun _ => 0) 0 k ca cb) rfl (PClu_one (Nat.lt_of_lt_of_le (by first | (simp; done) | (simp; omega)) HSZ.out) (by rw [HCK.out _ _ (by first | (simp; done) | (simp; omega)) (by simp [Value.ownBlock])]; simp [go_sem]) (by rw [HCK.out _ _ (by first | (simp; done) | (simp; omega)) (by simp [Value.ownBlock])]; simp [go_sem]) (by rw [HCK.out _ _ (by first | (simp; done) | (simp; omega)) (by simp [Value.ownBlock])]; simp [go_sem])) hs5 (by omega) ?_; intro v7 w7 hq7 hq8; have hq6 := (Below.refl (w.heap.size + 1 + 1 + 1) w5).grown hq8 hs5 (fun g e => (World.ownsRow.lt hq1 g e).1); have S6 := Lib.hid (AS_under (w := w) hq6 (by assumption)); have hO4 := cat_twice hq7; obtain ⟨a2, c2, rfl⟩ := hO4.toP.shape; have hbu := build_puz wd a2 (n + 1) c2; clear hq7 hq8) | fail)
        all_goals
          obtain ⟨_, _, _, _, _, r0, r1, z0, z1, _, hB⟩ := S6.out
          have O4 := Lib.hid hO4
          have HB := Lib.hid hB
          go_wp2
          exact bodyPost_ret (v := .tuple #[.agg #[.int .i64 wd, .slice a2 (n + 1) c2], .bool true]) (by simp [results, Try.results17, go_sem, r0, r1, z0, z1]) rfl ⟨.slice a2 (n + 1) c2, rfl, (((O4.out.low (by simp) _).low (by simp) _).lower (by omega)), (by repeat (first | refine bl_set ?_ (by first | omega | (simp; done) | (simp; omega)) _ | exact HB.out))⟩
end Go.Proofs.Ytahcfjpplkemdaa
