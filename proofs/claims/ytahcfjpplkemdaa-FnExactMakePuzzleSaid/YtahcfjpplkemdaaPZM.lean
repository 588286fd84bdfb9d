/- Puzzles that are made, by the program and by the model. -/
import Derived.Test.YtahcfjpplkemdaaPZ8
import Derived.Deep.AppendLies
namespace Go.Proofs.Ytahcfjpplkemdaa
open Go.RowKit
set_option linter.unusedVariables false
set_option linter.unusedSimpArgs false
/-- the clues that are made, one behind the other -/
def mkF (wd l r z : Int) (i : Nat) : Int :=
  if i % 3 = 0 then kd z (i / 3) else if i % 3 = 1 then vA (kd z (i / 3)) (yy z (i / 3)) wd l r else vB (kd z (i / 3)) (yy z (i / 3)) wd l r
theorem mkF_snoc (wd l r z : Int) (j : Nat) : ∀ i, i < (j + 1) * 3 → catF (mkF wd l r z) j (snocF (fun _ => 0) 0 (kd z j) (vA (kd z j) (yy z j) wd l r) (vB (kd z j) (yy z j) wd l r)) i = mkF wd l r z i := by
  intro i hi
  unfold catF snocF
  by_cases h : i < j * 3
  · rw [if_pos h]
  · rw [if_neg h, if_neg (by omega)]
    unfold mkF
    rcases (show i = j * 3 ∨ i = j * 3 + 1 ∨ i = j * 3 + 2 by omega) with rfl | rfl | rfl
    · have e1 : j * 3 - j * 3 = 0 * 3 := by omega
      have e2 : j * 3 % 3 = 0 := by omega
      have e3 : j * 3 / 3 = j := by omega
      rw [if_pos e1, if_pos e2, e3]
    · have e1 : ¬ j * 3 + 1 - j * 3 = 0 * 3 := by omega
      have e1' : j * 3 + 1 - j * 3 = 0 * 3 + 1 := by omega
      have e2 : ¬ (j * 3 + 1) % 3 = 0 := by omega
      have e2' : (j * 3 + 1) % 3 = 1 := by omega
      have e3 : (j * 3 + 1) / 3 = j := by omega
      rw [if_neg e1, if_pos e1', if_neg e2, if_pos e2', e3]
    · have e1 : ¬ j * 3 + 2 - j * 3 = 0 * 3 := by omega
      have e1' : ¬ j * 3 + 2 - j * 3 = 0 * 3 + 1 := by omega
      have e2 : ¬ (j * 3 + 2) % 3 = 0 := by omega
      have e2' : ¬ (j * 3 + 2) % 3 = 1 := by omega
      have e3 : (j * 3 + 2) / 3 = j := by omega
      rw [if_neg e1, if_neg e1', if_neg e2, if_neg e2', e3]
def mkO (wd l r c s : Int) : Bool := okH wd l r && (within c 0 6 && within s 0 9999)
def mkW (wd l r c s : Int) : Int := if mkO wd l r c s then wd else 0
def mkN (wd l r c s : Int) : Nat := if mkO wd l r c s then c.toNat else 0
theorem mkN_le (wd l r c s : Int) : mkN wd l r c s ≤ 1048576 := by
  unfold mkN
  split
  · rename_i h
    simp only [mkO, Bool.and_eq_true] at h
    have := within_true h.2.1
    omega
  · omega
theorem kd_kind (z : Int) (j : Nat) : kd z j = 0 ∨ kd z j = 1 ∨ kd z j = 2 ∨ kd z j = 3 ∨ kd z j = 4 ∨ kd z j = 5 := by
  unfold kd
  omega
/-- what is kept of the boxes of the call: the ladders, the result as it is at first, the puzzle that is made -/
def MX (w : World) (wd l r : Int) (Q : Nat) (v : Value) (W : World) : Prop :=
  ((W.cell? ⟨w.heap.size, 0, none⟩ = some (.int .i64 wd) ∧ W.cell? ⟨w.heap.size, 1, none⟩ = some (.int .i64 l) ∧ W.cell? ⟨w.heap.size, 2, none⟩ = some (.int .i64 r)) ∧
   (W.cell? ⟨w.heap.size + 1, 0, none⟩ = some (.int .i64 0) ∧ W.cell? ⟨w.heap.size + 1, 1, none⟩ = some (.slice none 0 0)) ∧
   (W.frozen? ⟨w.heap.size + 1, 0, none⟩ = false ∧ W.frozen? ⟨w.heap.size + 1, 1, none⟩ = false) ∧
   (W.cell? ⟨Q, 0, none⟩ = some (.int .i64 wd) ∧ W.cell? ⟨Q, 1, none⟩ = some v) ∧
   (W.frozen? ⟨Q, 0, none⟩ = false ∧ W.frozen? ⟨Q, 1, none⟩ = false)) ∧
  (w.heap.size + 1 < Q ∧ Q < W.heap.size) ∧ Below w.heap.size w W
theorem MX.under {w u v : World} {wd l r : Int} {Q : Nat} {x : Value} (hb : Below (Q + 1) u v) (h : MX w wd l r Q x u) : MX w wd l r Q x v := by
  obtain ⟨⟨⟨a0, a1, a2⟩, ⟨b0, b1⟩, ⟨c0, c1⟩, ⟨d0, d1⟩, e0, e1⟩, ⟨f0, f1⟩, g⟩ := h
  have hc : ∀ b o, b < Q + 1 → v.cell? ⟨b, o, none⟩ = u.cell? ⟨b, o, none⟩ := fun b o h => hb.cell (p := ⟨b, o, none⟩) h
  have hf : ∀ b o, b < Q + 1 → v.frozen? ⟨b, o, none⟩ = u.frozen? ⟨b, o, none⟩ := fun b o h => hb.frozen (p := ⟨b, o, none⟩) h
  refine ⟨⟨⟨?_, ?_, ?_⟩, ⟨?_, ?_⟩, ⟨?_, ?_⟩, ⟨?_, ?_⟩, ?_, ?_⟩, ⟨f0, Nat.lt_of_lt_of_le f1 hb.size⟩, g.trans (hb.mono (by omega))⟩ <;> first | (rw [hc _ _ (by omega)]; assumption) | (rw [hf _ _ (by omega)]; assumption)
theorem MX.after {w u v : World} {wd l r : Int} {Q : Nat} {x : Value} (hb : Below u.heap.size u v) (h : MX w wd l r Q x u) : MX w wd l r Q x v := h.under (hb.mono (by have := h.2.1.2; omega))
theorem MX.drew {w u : World} {wd l r : Int} {Q : Nat} {x : Value} (h : MX w wd l r Q x u) : MX w wd l r Q x u.drew := h.after (Below.drew (Below.refl _ _))
theorem MX.set {w u : World} {wd l r : Int} {Q : Nat} {x : Value} (y : Value) (h : MX w wd l r Q x u) : MX w wd l r Q y (u.setCell ⟨Q, 1, none⟩ y) := by
  obtain ⟨⟨⟨a0, a1, a2⟩, ⟨b0, b1⟩, ⟨c0, c1⟩, ⟨d0, d1⟩, e0, e1⟩, ⟨f0, f1⟩, g⟩ := h
  have hq : ¬ w.heap.size = Q := by omega
  have hq2 : ¬ w.heap.size + 1 = Q := by omega
  have hq3 : ¬ Q = w.heap.size := by omega
  have hq4 : ¬ Q = w.heap.size + 1 := by omega
  refine ⟨⟨⟨?_, ?_, ?_⟩, ⟨?_, ?_⟩, ⟨?_, ?_⟩, ⟨?_, ?_⟩, ?_, ?_⟩, ⟨f0, by simpa using f1⟩, bl_set g (by simp; omega) _⟩ <;> simp [go_sem, *]
theorem nextNumber_any (z : Int) (h0 : 0 ≤ z) (h1 : z ≤ 10007) (w : World) : Calls Try.prog 59 #[.int .i64 z] w fun e w' => e = .returned (.int .i64 (nxt z)) ∧ w = w' := by
  go_enter Try.func59, Try.ntmps59
  go_wp2
  go_ret
  exact ⟨by simp [nxt], rfl⟩
theorem pzNext_any (z : Int) (h0 : 0 ≤ z) (h1 : z ≤ 10007) (w : World) : Calls Try.prog 55 #[.int .i64 z] w fun e w' => e = .returned (.int .i64 (nxt z)) ∧ w = w' := by
  go_enter Try.func55, Try.ntmps55
  go_wp2
  go_ret
  exact ⟨by simp [nxt]; omega, rfl⟩
set_option maxHeartbeats 800000 in
theorem pzOf_any (k y wd l r : Int) (hk : k = 0 ∨ k = 1 ∨ k = 2 ∨ k = 3 ∨ k = 4 ∨ k = 5) (y0 : 0 ≤ y) (h : okH wd l r = true) (w : World) :
    Calls Try.prog 56 #[.int .i64 k, .int .i64 y, .agg #[.int .i64 wd, .int .i64 l, .int .i64 r]] w fun e w' => e = .returned (.agg #[.int .i64 k, .int .i64 (vA k (y % 2) wd l r), .int .i64 (vB k (y % 2) wd l r)]) ∧ Below w.heap.size w w' := by
  by_cases h3 : k = 3
  · subst h3
    have Hc := fun W => Lib.hid (pzValue_any 3 (y % 2) wd l r (by omega) (by omega) h W)
    generalize vA 3 (y % 2) wd l r = x at *
    generalize vB 3 (y % 2) wd l r = b at *
    clear h hk
    go_enter Try.func56, Try.ntmps56
    go_wp2_with fail
    refine ((Hc _).out).mono ?_
    rintro e w1 ⟨rfl, hbw1⟩
    obtain ⟨hcw1, hfw1⟩ := bcell hbw1
    have hzw1 := bsize hbw1
    (try simp only [World.size_alloc, World.size_setCell] at hzw1)
    have kw1_0_0 : w1.cell? ⟨w.heap.size, 0, none⟩ = some (.int .i64 wd) := by rw [hcw1 _ _ (by first | (simp; done) | omega | (simp; omega))]; first | assumption | (simp [go_sem]; done) | (simp [go_sem]; done) | (simp [go_sem, *]; done)
    have kw1_0_1 : w1.cell? ⟨w.heap.size, 1, none⟩ = some (.int .i64 l) := by rw [hcw1 _ _ (by first | (simp; done) | omega | (simp; omega))]; first | assumption | (simp [go_sem]; done) | (simp [go_sem]; done) | (simp [go_sem, *]; done)
    have kw1_0_2 : w1.cell? ⟨w.heap.size, 2, none⟩ = some (.int .i64 r) := by rw [hcw1 _ _ (by first | (simp; done) | omega | (simp; omega))]; first | assumption | (simp [go_sem]; done) | (simp [go_sem]; done) | (simp [go_sem, *]; done)
    have sw1_0 : w.heap.size < w1.heap.size := by first | omega | (simp at *; omega)
    have kw1_1_0 : w1.cell? ⟨w.heap.size + 1, 0, none⟩ = some (.int .i64 0) := by rw [hcw1 _ _ (by first | (simp; done) | omega | (simp; omega))]; first | assumption | (simp [go_sem]; done) | (simp [go_sem]; done) | (simp [go_sem, *]; done)
    have fw1_1_0 : w1.frozen? ⟨w.heap.size + 1, 0, none⟩ = false := by rw [hfw1 _ _ (by first | (simp; done) | omega | (simp; omega))]; first | assumption | (simp [go_sem]; done) | (simp [go_sem]; done) | (simp [go_sem, *]; done)
    have kw1_1_1 : w1.cell? ⟨w.heap.size + 1, 1, none⟩ = some (.int .i64 0) := by rw [hcw1 _ _ (by first | (simp; done) | omega | (simp; omega))]; first | assumption | (simp [go_sem]; done) | (simp [go_sem]; done) | (simp [go_sem, *]; done)
    have fw1_1_1 : w1.frozen? ⟨w.heap.size + 1, 1, none⟩ = false := by rw [hfw1 _ _ (by first | (simp; done) | omega | (simp; omega))]; first | assumption | (simp [go_sem]; done) | (simp [go_sem]; done) | (simp [go_sem, *]; done)
    have kw1_1_2 : w1.cell? ⟨w.heap.size + 1, 2, none⟩ = some (.int .i64 0) := by rw [hcw1 _ _ (by first | (simp; done) | omega | (simp; omega))]; first | assumption | (simp [go_sem]; done) | (simp [go_sem]; done) | (simp [go_sem, *]; done)
    have fw1_1_2 : w1.frozen? ⟨w.heap.size + 1, 2, none⟩ = false := by rw [hfw1 _ _ (by first | (simp; done) | omega | (simp; omega))]; first | assumption | (simp [go_sem]; done) | (simp [go_sem]; done) | (simp [go_sem, *]; done)
    have sw1_1 : w.heap.size + 1 < w1.heap.size := by first | omega | (simp at *; omega)
    have hBw1 : Below w.heap.size w w1 := (by repeat (first | exact Below.refl _ _ | refine bl_alloc ?_ _ | refine bl_drewN ?_ _ | refine bl_trans (by assumption) ?_ | refine bl_set ?_ (by first | omega | (simp; done) | (simp; omega)) _))
    have HBw1 := Lib.hid hBw1
    clear hBw1 hcw1 hfw1 hbw1
    go_wp2
    exact bodyPost_ret (v := .agg #[.int .i64 3, .int .i64 x, .int .i64 b]) (by simp [results, Try.results56, go_sem, kw1_0_0, kw1_0_1, kw1_0_2, kw1_1_0, kw1_1_1, kw1_1_2, fw1_1_0, fw1_1_1, fw1_1_2]) rfl ⟨rfl, (by repeat (first | refine bl_set ?_ (by first | omega | (simp; done) | (simp; omega)) _ | exact HBw1.out))⟩
  · have Hc := fun W => Lib.hid (pzValue_any k 0 wd l r hk (fun _ => rfl) h W)
    have e1 : vA k (y % 2) wd l r = vA k 0 wd l r := by unfold vA; simp [h3]
    have e2 : vB k (y % 2) wd l r = vB k 0 wd l r := by unfold vB; simp [h3]
    rw [e1, e2]
    generalize vA k 0 wd l r = x at *
    generalize vB k 0 wd l r = b at *
    clear h hk e1 e2
    go_enter Try.func56, Try.ntmps56
    go_wp2_with fail
    refine ((Hc _).out).mono ?_
    rintro e w1 ⟨rfl, hbw1⟩
    obtain ⟨hcw1, hfw1⟩ := bcell hbw1
    have hzw1 := bsize hbw1
    (try simp only [World.size_alloc, World.size_setCell] at hzw1)
    have kw1_0_0 : w1.cell? ⟨w.heap.size, 0, none⟩ = some (.int .i64 wd) := by rw [hcw1 _ _ (by first | (simp; done) | omega | (simp; omega))]; first | assumption | (simp [go_sem]; done) | (simp [go_sem]; done) | (simp [go_sem, *]; done)
    have kw1_0_1 : w1.cell? ⟨w.heap.size, 1, none⟩ = some (.int .i64 l) := by rw [hcw1 _ _ (by first | (simp; done) | omega | (simp; omega))]; first | assumption | (simp [go_sem]; done) | (simp [go_sem]; done) | (simp [go_sem, *]; done)
    have kw1_0_2 : w1.cell? ⟨w.heap.size, 2, none⟩ = some (.int .i64 r) := by rw [hcw1 _ _ (by first | (simp; done) | omega | (simp; omega))]; first | assumption | (simp [go_sem]; done) | (simp [go_sem]; done) | (simp [go_sem, *]; done)
    have sw1_0 : w.heap.size < w1.heap.size := by first | omega | (simp at *; omega)
    have kw1_1_0 : w1.cell? ⟨w.heap.size + 1, 0, none⟩ = some (.int .i64 0) := by rw [hcw1 _ _ (by first | (simp; done) | omega | (simp; omega))]; first | assumption | (simp [go_sem]; done) | (simp [go_sem]; done) | (simp [go_sem, *]; done)
    have fw1_1_0 : w1.frozen? ⟨w.heap.size + 1, 0, none⟩ = false := by rw [hfw1 _ _ (by first | (simp; done) | omega | (simp; omega))]; first | assumption | (simp [go_sem]; done) | (simp [go_sem]; done) | (simp [go_sem, *]; done)
    have kw1_1_1 : w1.cell? ⟨w.heap.size + 1, 1, none⟩ = some (.int .i64 0) := by rw [hcw1 _ _ (by first | (simp; done) | omega | (simp; omega))]; first | assumption | (simp [go_sem]; done) | (simp [go_sem]; done) | (simp [go_sem, *]; done)
    have fw1_1_1 : w1.frozen? ⟨w.heap.size + 1, 1, none⟩ = false := by rw [hfw1 _ _ (by first | (simp; done) | omega | (simp; omega))]; first | assumption | (simp [go_sem]; done) | (simp [go_sem]; done) | (simp [go_sem, *]; done)
    have kw1_1_2 : w1.cell? ⟨w.heap.size + 1, 2, none⟩ = some (.int .i64 0) := by rw [hcw1 _ _ (by first | (simp; done) | omega | (simp; omega))]; first | assumption | (simp [go_sem]; done) | (simp [go_sem]; done) | (simp [go_sem, *]; done)
    have fw1_1_2 : w1.frozen? ⟨w.heap.size + 1, 2, none⟩ = false := by rw [hfw1 _ _ (by first | (simp; done) | omega | (simp; omega))]; first | assumption | (simp [go_sem]; done) | (simp [go_sem]; done) | (simp [go_sem, *]; done)
    have sw1_1 : w.heap.size + 1 < w1.heap.size := by first | omega | (simp at *; omega)
    have hBw1 : Below w.heap.size w w1 := (by repeat (first | exact Below.refl _ _ | refine bl_alloc ?_ _ | refine bl_drewN ?_ _ | refine bl_trans (by assumption) ?_ | refine bl_set ?_ (by first | omega | (simp; done) | (simp; omega)) _))
    have HBw1 := Lib.hid hBw1
    clear hBw1 hcw1 hfw1 hbw1
    go_wp2
    exact bodyPost_ret (v := .agg #[.int .i64 k, .int .i64 x, .int .i64 b]) (by simp [results, Try.results56, go_sem, kw1_0_0, kw1_0_1, kw1_0_2, kw1_1_0, kw1_1_1, kw1_1_2, fw1_1_0, fw1_1_1, fw1_1_2]) rfl ⟨rfl, (by repeat (first | refine bl_set ?_ (by first | omega | (simp; done) | (simp; omega)) _ | exact HBw1.out))⟩
theorem impl_mk_pack (wd l r s : Int) (j : Nat) (h : okH wd l r = true) (s0 : 0 ≤ s) (s1 : s ≤ 9999) : ∃ Z Y X a b : Int, Hid (zs s j = Z) ∧ (0 ≤ Y ∧ Y ≤ 10006) ∧ (0 ≤ X ∧ X ≤ 10007) ∧
    (∀ W : World, Hid (Calls Try.prog 59 #[.int .i64 Z] W fun e w' => e = .returned (.int .i64 Y) ∧ W = w')) ∧ (∀ W : World, Hid (Calls Try.prog 59 #[.int .i64 Y] W fun e w' => e = .returned (.int .i64 X) ∧ W = w')) ∧
    (∀ W : World, Hid (Calls Try.prog 60 #[.agg #[.int .i64 wd, .int .i64 l, .int .i64 r], .int .i64 (Y % 6), .int .i64 (X.tmod 2)] W fun e w' => e = .returned (.agg #[.int .i64 (Y % 6), .int .i64 a, .int .i64 b]) ∧ Below W.heap.size W w')) ∧ Hid (zs s (j + 1) = X) ∧ Hid (∀ i, i < (j + 1) * 3 → catF (mkF wd l r s) j (snocF (fun _ => 0) 0 (Y % 6) a b) i = mkF wd l r s i) := by
  have h1 := zs_bd s0 s1 j
  have h2 := nxt_bd h1.1 h1.2
  exact ⟨_, nxt (zs s j), zs s (j + 1), vA (kd s j) (yy s j) wd l r, vB (kd s j) (yy s j) wd l r, Lib.hid rfl, ⟨h2.1, by omega⟩, zs_bd s0 s1 (j + 1), fun W => Lib.hid (nextNumber_any _ h1.1 h1.2 W), fun W => Lib.hid (nextNumber_any _ h2.1 (by omega) W), fun W => Lib.hid (by rw [Int.tmod_eq_emod_of_nonneg (zs_bd s0 s1 (j + 1)).1]; exact clueOf_any (nxt (zs s j) % 6) (zs s (j + 1) % 2) wd l r (kd_kind s j) h W), Lib.hid rfl, Lib.hid (mkF_snoc wd l r s j)⟩
theorem spec_mk_pack (wd l r s : Int) (j : Nat) (h : okH wd l r = true) (s0 : 0 ≤ s) (s1 : s ≤ 9999) : ∃ Z Y X a b : Int, Hid (zs s j = Z) ∧ (0 ≤ Y ∧ Y ≤ 10006) ∧ (0 ≤ X ∧ X ≤ 10007) ∧
    (∀ W : World, Hid (Calls Try.prog 55 #[.int .i64 Z] W fun e w' => e = .returned (.int .i64 Y) ∧ W = w')) ∧ (∀ W : World, Hid (Calls Try.prog 55 #[.int .i64 Y] W fun e w' => e = .returned (.int .i64 X) ∧ W = w')) ∧
    (∀ W : World, Hid (Calls Try.prog 56 #[.int .i64 (Y % 6), .int .i64 X, .agg #[.int .i64 wd, .int .i64 l, .int .i64 r]] W fun e w' => e = .returned (.agg #[.int .i64 (Y % 6), .int .i64 a, .int .i64 b]) ∧ Below W.heap.size W w')) ∧ Hid (zs s (j + 1) = X) ∧ Hid (∀ i, i < (j + 1) * 3 → catF (mkF wd l r s) j (snocF (fun _ => 0) 0 (Y % 6) a b) i = mkF wd l r s i) := by
  have h1 := zs_bd s0 s1 j
  have h2 := nxt_bd h1.1 h1.2
  exact ⟨_, nxt (zs s j), zs s (j + 1), vA (kd s j) (yy s j) wd l r, vB (kd s j) (yy s j) wd l r, Lib.hid rfl, ⟨h2.1, by omega⟩, zs_bd s0 s1 (j + 1), fun W => Lib.hid (pzNext_any _ h1.1 h1.2 W), fun W => Lib.hid (pzNext_any _ h2.1 (by omega) W), fun W => Lib.hid (pzOf_any (nxt (zs s j) % 6) (zs s (j + 1)) wd l r (kd_kind s j) (zs_bd s0 s1 (j + 1)).1 h W), Lib.hid rfl, Lib.hid (mkF_snoc wd l r s j)⟩
set_option maxRecDepth 8000 in
set_option maxHeartbeats 1600000 in
theorem impl_MakePuzzle (wd l r c s : Int) (w : World) :
    Calls Try.prog 26 #[.agg #[.int .i64 wd, .int .i64 l, .int .i64 r], .int .i64 c, .int .i64 s] w fun e w' => ∃ u, e = .returned (.tuple #[.agg #[.int .i64 (mkW wd l r c s), u], .bool (mkO wd l r c s)]) ∧ OClu w' w.heap.size u (mkN wd l r c s) (mkF wd l r s) ∧ Below w.heap.size w w' := by
  cases hk : okH wd l r
  · have e1 : mkO wd l r c s = false := by simp [mkO, hk]
    have e2 : mkW wd l r c s = 0 := by rw [mkW, e1]; rfl
    have e3 : mkN wd l r c s = 0 := by rw [mkN, e1]; rfl
    rw [e1, e2, e3]
    clear e1 e2 e3
    go_enter Try.func26, Try.ntmps26
    go_wp2_with fail
    refine (areHidden_any wd l r _).mono ?_
    rintro e w1 ⟨rfl, hbw1⟩
    obtain ⟨hcw1, hfw1⟩ := bcell hbw1
    have hzw1 := bsize hbw1
    (try simp only [World.size_alloc, World.size_setCell] at hzw1)
    have kw1_0_0 : w1.cell? ⟨w.heap.size, 0, none⟩ = some (.int .i64 wd) := by rw [hcw1 _ _ (by first | (simp; done) | omega | (simp; omega))]; first | assumption | (simp [go_sem]; done) | (simp [go_sem]; done) | (simp [go_sem, *]; done)
    have kw1_0_1 : w1.cell? ⟨w.heap.size, 1, none⟩ = some (.int .i64 l) := by rw [hcw1 _ _ (by first | (simp; done) | omega | (simp; omega))]; first | assumption | (simp [go_sem]; done) | (simp [go_sem]; done) | (simp [go_sem, *]; done)
    have kw1_0_2 : w1.cell? ⟨w.heap.size, 2, none⟩ = some (.int .i64 r) := by rw [hcw1 _ _ (by first | (simp; done) | omega | (simp; omega))]; first | assumption | (simp [go_sem]; done) | (simp [go_sem]; done) | (simp [go_sem, *]; done)
    have sw1_0 : w.heap.size < w1.heap.size := by first | omega | (simp at *; omega)
    have kw1_1_0 : w1.cell? ⟨w.heap.size + 1, 0, none⟩ = some (.int .i64 0) := by rw [hcw1 _ _ (by first | (simp; done) | omega | (simp; omega))]; first | assumption | (simp [go_sem]; done) | (simp [go_sem]; done) | (simp [go_sem, *]; done)
    have fw1_1_0 : w1.frozen? ⟨w.heap.size + 1, 0, none⟩ = false := by rw [hfw1 _ _ (by first | (simp; done) | omega | (simp; omega))]; first | assumption | (simp [go_sem]; done) | (simp [go_sem]; done) | (simp [go_sem, *]; done)
    have kw1_1_1 : w1.cell? ⟨w.heap.size + 1, 1, none⟩ = some (.slice none 0 0) := by rw [hcw1 _ _ (by first | (simp; done) | omega | (simp; omega))]; first | assumption | (simp [go_sem]; done) | (simp [go_sem]; done) | (simp [go_sem, *]; done)
    have fw1_1_1 : w1.frozen? ⟨w.heap.size + 1, 1, none⟩ = false := by rw [hfw1 _ _ (by first | (simp; done) | omega | (simp; omega))]; first | assumption | (simp [go_sem]; done) | (simp [go_sem]; done) | (simp [go_sem, *]; done)
    have sw1_1 : w.heap.size + 1 < w1.heap.size := by first | omega | (simp at *; omega)
    have hBw1 : Below w.heap.size w w1 := (by repeat (first | exact Below.refl _ _ | refine bl_alloc ?_ _ | refine bl_drewN ?_ _ | refine bl_trans (by assumption) ?_ | refine bl_set ?_ (by first | omega | (simp; done) | (simp; omega)) _))
    have HBw1 := Lib.hid hBw1
    clear hBw1 hcw1 hfw1 hbw1
    rw [hk]
    go_wp2
    exact bodyPost_ret (v := .tuple #[.agg #[.int .i64 0, .slice none 0 0], .bool false]) (by simp [results, Try.results26, go_sem, kw1_0_0, kw1_0_1, kw1_0_2, kw1_1_0, kw1_1_1, fw1_1_0, fw1_1_1]) rfl ⟨.slice none 0 0, rfl, OClu.nil _ _ _, (by repeat (first | refine bl_set ?_ (by first | omega | (simp; done) | (simp; omega)) _ | exact HBw1.out))⟩
  · cases hc : within c 0 6
    · have e1 : mkO wd l r c s = false := by simp [mkO, hk, hc]
      have e2 : mkW wd l r c s = 0 := by rw [mkW, e1]; rfl
      have e3 : mkN wd l r c s = 0 := by rw [mkN, e1]; rfl
      rw [e1, e2, e3]
      clear e1 e2 e3
      go_enter Try.func26, Try.ntmps26
      go_wp2_with fail
      refine (areHidden_any wd l r _).mono ?_
      rintro e w1 ⟨rfl, hbw1⟩
      obtain ⟨hcw1, hfw1⟩ := bcell hbw1
      have hzw1 := bsize hbw1
      (try simp only [World.size_alloc, World.size_setCell] at hzw1)
      have kw1_0_0 : w1.cell? ⟨w.heap.size, 0, none⟩ = some (.int .i64 wd) := by rw [hcw1 _ _ (by first | (simp; done) | omega | (simp; omega))]; first | assumption | (simp [go_sem]; done) | (simp [go_sem]; done) | (simp [go_sem, *]; done)
      have kw1_0_1 : w1.cell? ⟨w.heap.size, 1, none⟩ = some (.int .i64 l) := by rw [hcw1 _ _ (by first | (simp; done) | omega | (simp; omega))]; first | assumption | (simp [go_sem]; done) | (simp [go_sem]; done) | (simp [go_sem, *]; done)
      have kw1_0_2 : w1.cell? ⟨w.heap.size, 2, none⟩ = some (.int .i64 r) := by rw [hcw1 _ _ (by first | (simp; done) | omega | (simp; omega))]; first | assumption | (simp [go_sem]; done) | (simp [go_sem]; done) | (simp [go_sem, *]; done)
      have sw1_0 : w.heap.size < w1.heap.size := by first | omega | (simp at *; omega)
      have kw1_1_0 : w1.cell? ⟨w.heap.size + 1, 0, none⟩ = some (.int .i64 0) := by rw [hcw1 _ _ (by first | (simp; done) | omega | (simp; omega))]; first | assumption | (simp [go_sem]; done) | (simp [go_sem]; done) | (simp [go_sem, *]; done)
      have fw1_1_0 : w1.frozen? ⟨w.heap.size + 1, 0, none⟩ = false := by rw [hfw1 _ _ (by first | (simp; done) | omega | (simp; omega))]; first | assumption | (simp [go_sem]; done) | (simp [go_sem]; done) | (simp [go_sem, *]; done)
      have kw1_1_1 : w1.cell? ⟨w.heap.size + 1, 1, none⟩ = some (.slice none 0 0) := by rw [hcw1 _ _ (by first | (simp; done) | omega | (simp; omega))]; first | assumption | (simp [go_sem]; done) | (simp [go_sem]; done) | (simp [go_sem, *]; done)
      have fw1_1_1 : w1.frozen? ⟨w.heap.size + 1, 1, none⟩ = false := by rw [hfw1 _ _ (by first | (simp; done) | omega | (simp; omega))]; first | assumption | (simp [go_sem]; done) | (simp [go_sem]; done) | (simp [go_sem, *]; done)
      have sw1_1 : w.heap.size + 1 < w1.heap.size := by first | omega | (simp at *; omega)
      have hBw1 : Below w.heap.size w w1 := (by repeat (first | exact Below.refl _ _ | refine bl_alloc ?_ _ | refine bl_drewN ?_ _ | refine bl_trans (by assumption) ?_ | refine bl_set ?_ (by first | omega | (simp; done) | (simp; omega)) _))
      have HBw1 := Lib.hid hBw1
      clear hBw1 hcw1 hfw1 hbw1
      rw [hk]
      go_wp2_with (go_at_call 58; refine (isWithin_any _ _ _ _).mono ?_; rintro e w' ⟨rfl, rfl⟩; rw [hc])
      exact bodyPost_ret (v := .tuple #[.agg #[.int .i64 0, .slice none 0 0], .bool false]) (by simp [results, Try.results26, go_sem, kw1_0_0, kw1_0_1, kw1_0_2, kw1_1_0, kw1_1_1, fw1_1_0, fw1_1_1]) rfl ⟨.slice none 0 0, rfl, OClu.nil _ _ _, (by repeat (first | refine bl_set ?_ (by first | omega | (simp; done) | (simp; omega)) _ | exact HBw1.out))⟩
    · cases hs : within s 0 9999
      · have e1 : mkO wd l r c s = false := by simp [mkO, hk, hc, hs]
        have e2 : mkW wd l r c s = 0 := by rw [mkW, e1]; rfl
        have e3 : mkN wd l r c s = 0 := by rw [mkN, e1]; rfl
        rw [e1, e2, e3]
        clear e1 e2 e3
        go_enter Try.func26, Try.ntmps26
        go_wp2_with fail
        refine (areHidden_any wd l r _).mono ?_
        rintro e w1 ⟨rfl, hbw1⟩
        obtain ⟨hcw1, hfw1⟩ := bcell hbw1
        have hzw1 := bsize hbw1
        (try simp only [World.size_alloc, World.size_setCell] at hzw1)
        have kw1_0_0 : w1.cell? ⟨w.heap.size, 0, none⟩ = some (.int .i64 wd) := by rw [hcw1 _ _ (by first | (simp; done) | omega | (simp; omega))]; first | assumption | (simp [go_sem]; done) | (simp [go_sem]; done) | (simp [go_sem, *]; done)
        have kw1_0_1 : w1.cell? ⟨w.heap.size, 1, none⟩ = some (.int .i64 l) := by rw [hcw1 _ _ (by first | (simp; done) | omega | (simp; omega))]; first | assumption | (simp [go_sem]; done) | (simp [go_sem]; done) | (simp [go_sem, *]; done)
        have kw1_0_2 : w1.cell? ⟨w.heap.size, 2, none⟩ = some (.int .i64 r) := by rw [hcw1 _ _ (by first | (simp; done) | omega | (simp; omega))]; first | assumption | (simp [go_sem]; done) | (simp [go_sem]; done) | (simp [go_sem, *]; done)
        have sw1_0 : w.heap.size < w1.heap.size := by first | omega | (simp at *; omega)
        have kw1_1_0 : w1.cell? ⟨w.heap.size + 1, 0, none⟩ = some (.int .i64 0) := by rw [hcw1 _ _ (by first | (simp; done) | omega | (simp; omega))]; first | assumption | (simp [go_sem]; done) | (simp [go_sem]; done) | (simp [go_sem, *]; done)
        have fw1_1_0 : w1.frozen? ⟨w.heap.size + 1, 0, none⟩ = false := by rw [hfw1 _ _ (by first | (simp; done) | omega | (simp; omega))]; first | assumption | (simp [go_sem]; done) | (simp [go_sem]; done) | (simp [go_sem, *]; done)
        have kw1_1_1 : w1.cell? ⟨w.heap.size + 1, 1, none⟩ = some (.slice none 0 0) := by rw [hcw1 _ _ (by first | (simp; done) | omega | (simp; omega))]; first | assumption | (simp [go_sem]; done) | (simp [go_sem]; done) | (simp [go_sem, *]; done)
        have fw1_1_1 : w1.frozen? ⟨w.heap.size + 1, 1, none⟩ = false := by rw [hfw1 _ _ (by first | (simp; done) | omega | (simp; omega))]; first | assumption | (simp [go_sem]; done) | (simp [go_sem]; done) | (simp [go_sem, *]; done)
        have sw1_1 : w.heap.size + 1 < w1.heap.size := by first | omega | (simp at *; omega)
        have hBw1 : Below w.heap.size w w1 := (by repeat (first | exact Below.refl _ _ | refine bl_alloc ?_ _ | refine bl_drewN ?_ _ | refine bl_trans (by assumption) ?_ | refine bl_set ?_ (by first | omega | (simp; done) | (simp; omega)) _))
        have HBw1 := Lib.hid hBw1
        clear hBw1 hcw1 hfw1 hbw1
        rw [hk]
        go_wp2_with (go_at_call 58; refine (isWithin_any _ _ _ _).mono ?_; rintro e w' ⟨rfl, rfl⟩; (first | rw [hc] | rw [hs] | fail))
        exact bodyPost_ret (v := .tuple #[.agg #[.int .i64 0, .slice none 0 0], .bool false]) (by simp [results, Try.results26, go_sem, kw1_0_0, kw1_0_1, kw1_0_2, kw1_1_0, kw1_1_1, fw1_1_0, fw1_1_1]) rfl ⟨.slice none 0 0, rfl, OClu.nil _ _ _, (by repeat (first | refine bl_set ?_ (by first | omega | (simp; done) | (simp; omega)) _ | exact HBw1.out))⟩
      · have e1 : mkO wd l r c s = true := by simp [mkO, hk, hc, hs]
        have e2 : mkW wd l r c s = wd := by rw [mkW, e1]; rfl
        have e3 : mkN wd l r c s = c.toNat := by rw [mkN, e1]; rfl
        rw [e1, e2, e3]
        clear e1 e2 e3
        obtain ⟨c0, c1⟩ := within_true hc
        obtain ⟨s0, s1⟩ := within_true hs
        obtain ⟨n, rfl⟩ := Int.eq_ofNat_of_zero_le c0
        have hn : ((n : Int)).toNat = n := by omega
        rw [hn]
        clear hn
        have hn6 : n ≤ 6 := by omega
        go_enter Try.func26, Try.ntmps26
        go_wp2_with fail
        refine (areHidden_any wd l r _).mono ?_
        rintro e w1 ⟨rfl, hbw1⟩
        obtain ⟨hcw1, hfw1⟩ := bcell hbw1
        have hzw1 := bsize hbw1
        (try simp only [World.size_alloc, World.size_setCell] at hzw1)
        have kw1_0_0 : w1.cell? ⟨w.heap.size, 0, none⟩ = some (.int .i64 wd) := by rw [hcw1 _ _ (by first | (simp; done) | omega | (simp; omega))]; first | assumption | (simp [go_sem]; done) | (simp [go_sem]; done) | (simp [go_sem, *]; done)
        have kw1_0_1 : w1.cell? ⟨w.heap.size, 1, none⟩ = some (.int .i64 l) := by rw [hcw1 _ _ (by first | (simp; done) | omega | (simp; omega))]; first | assumption | (simp [go_sem]; done) | (simp [go_sem]; done) | (simp [go_sem, *]; done)
        have kw1_0_2 : w1.cell? ⟨w.heap.size, 2, none⟩ = some (.int .i64 r) := by rw [hcw1 _ _ (by first | (simp; done) | omega | (simp; omega))]; first | assumption | (simp [go_sem]; done) | (simp [go_sem]; done) | (simp [go_sem, *]; done)
        have sw1_0 : w.heap.size < w1.heap.size := by first | omega | (simp at *; omega)
        have kw1_1_0 : w1.cell? ⟨w.heap.size + 1, 0, none⟩ = some (.int .i64 0) := by rw [hcw1 _ _ (by first | (simp; done) | omega | (simp; omega))]; first | assumption | (simp [go_sem]; done) | (simp [go_sem]; done) | (simp [go_sem, *]; done)
        have fw1_1_0 : w1.frozen? ⟨w.heap.size + 1, 0, none⟩ = false := by rw [hfw1 _ _ (by first | (simp; done) | omega | (simp; omega))]; first | assumption | (simp [go_sem]; done) | (simp [go_sem]; done) | (simp [go_sem, *]; done)
        have kw1_1_1 : w1.cell? ⟨w.heap.size + 1, 1, none⟩ = some (.slice none 0 0) := by rw [hcw1 _ _ (by first | (simp; done) | omega | (simp; omega))]; first | assumption | (simp [go_sem]; done) | (simp [go_sem]; done) | (simp [go_sem, *]; done)
        have fw1_1_1 : w1.frozen? ⟨w.heap.size + 1, 1, none⟩ = false := by rw [hfw1 _ _ (by first | (simp; done) | omega | (simp; omega))]; first | assumption | (simp [go_sem]; done) | (simp [go_sem]; done) | (simp [go_sem, *]; done)
        have sw1_1 : w.heap.size + 1 < w1.heap.size := by first | omega | (simp at *; omega)
        have hBw1 : Below w.heap.size w w1 := (by repeat (first | exact Below.refl _ _ | refine bl_alloc ?_ _ | refine bl_drewN ?_ _ | refine bl_trans (by assumption) ?_ | refine bl_set ?_ (by first | omega | (simp; done) | (simp; omega)) _))
        have HBw1 := Lib.hid hBw1
        clear hBw1 hcw1 hfw1 hbw1
        rw [hk]
        have HX0 := Lib.hid (⟨kw1_0_0, kw1_0_1, kw1_0_2, kw1_1_0, kw1_1_1, fw1_1_0, fw1_1_1, sw1_0, sw1_1, HBw1.out⟩ : (w1.cell? ⟨w.heap.size, 0, none⟩ = some (.int .i64 wd) ∧ w1.cell? ⟨w.heap.size, 1, none⟩ = some (.int .i64 l) ∧ w1.cell? ⟨w.heap.size, 2, none⟩ = some (.int .i64 r) ∧ w1.cell? ⟨w.heap.size + 1, 0, none⟩ = some (.int .i64 0) ∧ w1.cell? ⟨w.heap.size + 1, 1, none⟩ = some (.slice none 0 0) ∧ w1.frozen? ⟨w.heap.size + 1, 0, none⟩ = false ∧ w1.frozen? ⟨w.heap.size + 1, 1, none⟩ = false ∧ w.heap.size < w1.heap.size ∧ w.heap.size + 1 < w1.heap.size ∧ Below w.heap.size w w1))
        have HM := Lib.hid (show MX w wd l r w1.heap.size (.slice none 0 0) (w1.alloc (.cells #[.int .i64 wd, .slice none 0 0] 53)) by
          obtain ⟨a0, a1, a2, b0, b1, f0, f1, z0, z1, hb⟩ := HX0.out
          have hk1 := bl_alloc (Below.refl w1.heap.size w1) (.cells #[.int .i64 wd, .slice none 0 0] 53)
          exact ⟨⟨⟨cell_after hk1 z0 a0, cell_after hk1 z0 a1, cell_after hk1 z0 a2⟩, ⟨cell_after hk1 z1 b0, cell_after hk1 z1 b1⟩, ⟨frozen_after hk1 z1 f0, frozen_after hk1 z1 f1⟩, ⟨by simp, by simp⟩, by simp [go_sem], by simp [go_sem]⟩, ⟨z1, by simp⟩, bl_alloc hb _⟩)
        have HH := Lib.hid hk
        go_wp2_with (go_at_call 58; refine (isWithin_any _ _ _ _).mono ?_; rintro e w' ⟨rfl, rfl⟩; (first | rw [hc] | rw [hs] | fail))
        clear hk hc hs HX0
        go_loopw [9, 30] (fun zv iv wr => ∃ (j : Nat) (v : Value), zv = .int .i64 (zs s j) ∧ iv = .int .i64 (j : Int) ∧ j ≤ n ∧ OClu wr (w1.heap.size + 1) v j (mkF wd l r s) ∧ MX w wd l r w1.heap.size v wr) (fun zv iv _ => n - (intOf iv).toNat)
        case atStart => exact ⟨0, .slice none 0 0, rfl, by simp, Nat.zero_le _, OClu.nil _ _ _, HM.out⟩
        case round =>
          obtain ⟨j, v, rfl, rfl, hjn, hO, hX⟩ := hrel
          obtain ⟨a, cp, rfl⟩ := hO.toP.shape
          have O := Lib.hid hO
          have MM := Lib.hid hX
          clear hO HM kw1_0_0 kw1_0_1 kw1_0_2 kw1_1_0 kw1_1_1 fw1_1_0 fw1_1_1 sw1_0 sw1_1
          obtain ⟨⟨⟨p0, p1, p2⟩, ⟨r0, r1⟩, ⟨y0, y1⟩, ⟨q0, q1⟩, x0, x1⟩, ⟨z0, z1⟩, hB⟩ := hX
          have HB := Lib.hid hB
          clear hB
          have hsz : w.heap.size < wr.heap.size := by omega
          have hsz1 : w.heap.size + 1 < wr.heap.size := by omega
          by_cases hlt : j < n
          · obtain ⟨Z, Y, X, ca, cb, EZ, ⟨hy0, hy1⟩, ⟨hx0, hx1⟩, N1, N2, NC, EX, ES⟩ := impl_mk_pack wd l r s j HH.out s0 s1
            rw [EZ.out]
            have hlt' : (j : Int) < (n : Int) := by omega
            go_wp2_with fail
            refine ((N1 _).out).mono ?_
            rintro e w' ⟨rfl, rfl⟩
            go_wp2_with fail
            refine ((N2 _).out).mono ?_
            rintro e w' ⟨rfl, rfl⟩
            go_wp2_with fail
            go_region_law (first | (go_simp; go_at_call 60; refine ((NC _).out).mono ?_; rintro e w5 ⟨rfl, hb⟩; have MMb := Lib.hid (MM.out.drew.after hb); have OOb := Lib.hid ((O.out.keep (Below.drew (Below.refl _ _))).keep hb); have hz5 := hb.size; clear hb; obtain ⟨⟨⟨g0, g1, g2⟩, ⟨g3, g4⟩, ⟨g5, g6⟩, ⟨g7, g8⟩, g9, ga⟩, ⟨gz0, gz1⟩, hB5⟩ := MMb.out; have HB5 := Lib.hid hB5; clear hB5) | (refine step_app_own rfl (.tmp 39) (.tmp 45) rfl (w1.heap.size + 1) _ j (mkF wd l r s) rfl (OOb.out.keep (bl_alloc (Below.refl _ _) _)) (.slice (some ⟨_, 0, none⟩) 1 1) 1 (snocF (fun _ => 0) 0 (Y % 6) ca cb) rfl (PClu_one (by simp) (by simp [go_sem]) (by simp [go_sem]) (by simp [go_sem])) (by simp; omega) (by omega) ?_; intro v7 w7 hq7 hq8; have hq9 := (Below.refl (w1.heap.size + 1) _).grown hq8 (by simp; omega) (fun g e => (World.ownsRow.lt OOb.out g e).1); have M7 := Lib.hid ((MMb.out.after (bl_alloc (Below.refl _ _) _)).under hq9); have O7 := Lib.hid (hq7.congr ES.out); clear hq7 hq8 hq9; obtain ⟨⟨⟨h0, h1, h2⟩, ⟨h3, h4⟩, ⟨h5, h6⟩, ⟨h7, h8⟩, h9, ha⟩, ⟨hz0, hz1⟩, hB7⟩ := M7.out; have HB7 := Lib.hid hB7; clear hB7; obtain ⟨a7, c7, rfl⟩ := O7.out.toP.shape) | fail)
            all_goals
              go_wp2_with fail
              go_roundw
              case rel => exact ⟨j + 1, .slice a7 (j + 1) c7, by rw [EX.out], by go_num, hlt, O7.out.low (by simp) _, M7.out.set _⟩
              case measure => simp only [intOf]; omega
          · obtain rfl : j = n := by omega
            go_wp2
            exact bodyPost_ret (v := .tuple #[.agg #[.int .i64 wd, .slice a j cp], .bool true]) (by simp [results, Try.results26, go_sem, r0, r1, y0, y1]) rfl ⟨.slice a j cp, rfl, (((O.out.low (by simp; omega) _).low (by simp; omega) _).lower (by omega)), (by repeat (first | refine bl_set ?_ (by first | omega | (simp; done) | (simp; omega)) _ | exact HB.out))⟩
set_option maxRecDepth 8000 in
set_option maxHeartbeats 1600000 in
theorem spec_MakePuzzle (wd l r c s : Int) (w : World) :
    Calls Try.prog 24 #[.agg #[.int .i64 wd, .int .i64 l, .int .i64 r], .int .i64 c, .int .i64 s] w fun e w' => ∃ u, e = .returned (.tuple #[.agg #[.int .i64 (mkW wd l r c s), u], .bool (mkO wd l r c s)]) ∧ OClu w' w.heap.size u (mkN wd l r c s) (mkF wd l r s) ∧ Below w.heap.size w w' := by
  cases hk : okH wd l r
  · have e1 : mkO wd l r c s = false := by simp [mkO, hk]
    have e2 : mkW wd l r c s = 0 := by rw [mkW, e1]; rfl
    have e3 : mkN wd l r c s = 0 := by rw [mkN, e1]; rfl
    rw [e1, e2, e3]
    clear e1 e2 e3
    go_enter Try.func24, Try.ntmps24
    go_wp2_with fail
    refine (pzHidden_any wd l r _).mono ?_
    rintro e w1 ⟨rfl, hbw1⟩
    obtain ⟨hcw1, hfw1⟩ := bcell hbw1
    have hzw1 := bsize hbw1
    (try simp only [World.size_alloc, World.size_setCell] at hzw1)
    have kw1_0_0 : w1.cell? ⟨w.heap.size, 0, none⟩ = some (.int .i64 wd) := by rw [hcw1 _ _ (by first | (simp; done) | omega | (simp; omega))]; first | assumption | (simp [go_sem]; done) | (simp [go_sem]; done) | (simp [go_sem, *]; done)
    have kw1_0_1 : w1.cell? ⟨w.heap.size, 1, none⟩ = some (.int .i64 l) := by rw [hcw1 _ _ (by first | (simp; done) | omega | (simp; omega))]; first | assumption | (simp [go_sem]; done) | (simp [go_sem]; done) | (simp [go_sem, *]; done)
    have kw1_0_2 : w1.cell? ⟨w.heap.size, 2, none⟩ = some (.int .i64 r) := by rw [hcw1 _ _ (by first | (simp; done) | omega | (simp; omega))]; first | assumption | (simp [go_sem]; done) | (simp [go_sem]; done) | (simp [go_sem, *]; done)
    have sw1_0 : w.heap.size < w1.heap.size := by first | omega | (simp at *; omega)
    have kw1_1_0 : w1.cell? ⟨w.heap.size + 1, 0, none⟩ = some (.int .i64 0) := by rw [hcw1 _ _ (by first | (simp; done) | omega | (simp; omega))]; first | assumption | (simp [go_sem]; done) | (simp [go_sem]; done) | (simp [go_sem, *]; done)
    have fw1_1_0 : w1.frozen? ⟨w.heap.size + 1, 0, none⟩ = false := by rw [hfw1 _ _ (by first | (simp; done) | omega | (simp; omega))]; first | assumption | (simp [go_sem]; done) | (simp [go_sem]; done) | (simp [go_sem, *]; done)
    have kw1_1_1 : w1.cell? ⟨w.heap.size + 1, 1, none⟩ = some (.slice none 0 0) := by rw [hcw1 _ _ (by first | (simp; done) | omega | (simp; omega))]; first | assumption | (simp [go_sem]; done) | (simp [go_sem]; done) | (simp [go_sem, *]; done)
    have fw1_1_1 : w1.frozen? ⟨w.heap.size + 1, 1, none⟩ = false := by rw [hfw1 _ _ (by first | (simp; done) | omega | (simp; omega))]; first | assumption | (simp [go_sem]; done) | (simp [go_sem]; done) | (simp [go_sem, *]; done)
    have sw1_1 : w.heap.size + 1 < w1.heap.size := by first | omega | (simp at *; omega)
    have hBw1 : Below w.heap.size w w1 := (by repeat (first | exact Below.refl _ _ | refine bl_alloc ?_ _ | refine bl_drewN ?_ _ | refine bl_trans (by assumption) ?_ | refine bl_set ?_ (by first | omega | (simp; done) | (simp; omega)) _))
    have HBw1 := Lib.hid hBw1
    clear hBw1 hcw1 hfw1 hbw1
    rw [hk]
    go_wp2
    exact bodyPost_ret (v := .tuple #[.agg #[.int .i64 0, .slice none 0 0], .bool false]) (by simp [results, Try.results24, go_sem, kw1_0_0, kw1_0_1, kw1_0_2, kw1_1_0, kw1_1_1, fw1_1_0, fw1_1_1]) rfl ⟨.slice none 0 0, rfl, OClu.nil _ _ _, (by repeat (first | refine bl_set ?_ (by first | omega | (simp; done) | (simp; omega)) _ | exact HBw1.out))⟩
  · cases hc : within c 0 6
    · have e1 : mkO wd l r c s = false := by simp [mkO, hk, hc]
      have e2 : mkW wd l r c s = 0 := by rw [mkW, e1]; rfl
      have e3 : mkN wd l r c s = 0 := by rw [mkN, e1]; rfl
      rw [e1, e2, e3]
      clear e1 e2 e3
      go_enter Try.func24, Try.ntmps24
      go_wp2_with fail
      refine (pzHidden_any wd l r _).mono ?_
      rintro e w1 ⟨rfl, hbw1⟩
      obtain ⟨hcw1, hfw1⟩ := bcell hbw1
      have hzw1 := bsize hbw1
      (try simp only [World.size_alloc, World.size_setCell] at hzw1)
      have kw1_0_0 : w1.cell? ⟨w.heap.size, 0, none⟩ = some (.int .i64 wd) := by rw [hcw1 _ _ (by first | (simp; done) | omega | (simp; omega))]; first | assumption | (simp [go_sem]; done) | (simp [go_sem]; done) | (simp [go_sem, *]; done)
      have kw1_0_1 : w1.cell? ⟨w.heap.size, 1, none⟩ = some (.int .i64 l) := by rw [hcw1 _ _ (by first | (simp; done) | omega | (simp; omega))]; first | assumption | (simp [go_sem]; done) | (simp [go_sem]; done) | (simp [go_sem, *]; done)
      have kw1_0_2 : w1.cell? ⟨w.heap.size, 2, none⟩ = some (.int .i64 r) := by rw [hcw1 _ _ (by first | (simp; done) | omega | (simp; omega))]; first | assumption | (simp [go_sem]; done) | (simp [go_sem]; done) | (simp [go_sem, *]; done)
      have sw1_0 : w.heap.size < w1.heap.size := by first | omega | (simp at *; omega)
      have kw1_1_0 : w1.cell? ⟨w.heap.size + 1, 0, none⟩ = some (.int .i64 0) := by rw [hcw1 _ _ (by first | (simp; done) | omega | (simp; omega))]; first | assumption | (simp [go_sem]; done) | (simp [go_sem]; done) | (simp [go_sem, *]; done)
      have fw1_1_0 : w1.frozen? ⟨w.heap.size + 1, 0, none⟩ = false := by rw [hfw1 _ _ (by first | (simp; done) | omega | (simp; omega))]; first | assumption | (simp [go_sem]; done) | (simp [go_sem]; done) | (simp [go_sem, *]; done)
      have kw1_1_1 : w1.cell? ⟨w.heap.size + 1, 1, none⟩ = some (.slice none 0 0) := by rw [hcw1 _ _ (by first | (simp; done) | omega | (simp; omega))]; first | assumption | (simp [go_sem]; done) | (simp [go_sem]; done) | (simp [go_sem, *]; done)
      have fw1_1_1 : w1.frozen? ⟨w.heap.size + 1, 1, none⟩ = false := by rw [hfw1 _ _ (by first | (simp; done) | omega | (simp; omega))]; first | assumption | (simp [go_sem]; done) | (simp [go_sem]; done) | (simp [go_sem, *]; done)
      have sw1_1 : w.heap.size + 1 < w1.heap.size := by first | omega | (simp at *; omega)
      have hBw1 : Below w.heap.size w w1 := (by repeat (first | exact Below.refl _ _ | refine bl_alloc ?_ _ | refine bl_drewN ?_ _ | refine bl_trans (by assumption) ?_ | refine bl_set ?_ (by first | omega | (simp; done) | (simp; omega)) _))
      have HBw1 := Lib.hid hBw1
      clear hBw1 hcw1 hfw1 hbw1
      rw [hk]
      go_wp2_with (go_at_call 54; refine (l1In_any _ _ _ _).mono ?_; rintro e w' ⟨rfl, rfl⟩; rw [hc])
      exact bodyPost_ret (v := .tuple #[.agg #[.int .i64 0, .slice none 0 0], .bool false]) (by simp [results, Try.results24, go_sem, kw1_0_0, kw1_0_1, kw1_0_2, kw1_1_0, kw1_1_1, fw1_1_0, fw1_1_1]) rfl ⟨.slice none 0 0, rfl, OClu.nil _ _ _, (by repeat (first | refine bl_set ?_ (by first | omega | (simp; done) | (simp; omega)) _ | exact HBw1.out))⟩
    · cases hs : within s 0 9999
      · have e1 : mkO wd l r c s = false := by simp [mkO, hk, hc, hs]
        have e2 : mkW wd l r c s = 0 := by rw [mkW, e1]; rfl
        have e3 : mkN wd l r c s = 0 := by rw [mkN, e1]; rfl
        rw [e1, e2, e3]
        clear e1 e2 e3
        go_enter Try.func24, Try.ntmps24
        go_wp2_with fail
        refine (pzHidden_any wd l r _).mono ?_
        rintro e w1 ⟨rfl, hbw1⟩
        obtain ⟨hcw1, hfw1⟩ := bcell hbw1
        have hzw1 := bsize hbw1
        (try simp only [World.size_alloc, World.size_setCell] at hzw1)
        have kw1_0_0 : w1.cell? ⟨w.heap.size, 0, none⟩ = some (.int .i64 wd) := by rw [hcw1 _ _ (by first | (simp; done) | omega | (simp; omega))]; first | assumption | (simp [go_sem]; done) | (simp [go_sem]; done) | (simp [go_sem, *]; done)
        have kw1_0_1 : w1.cell? ⟨w.heap.size, 1, none⟩ = some (.int .i64 l) := by rw [hcw1 _ _ (by first | (simp; done) | omega | (simp; omega))]; first | assumption | (simp [go_sem]; done) | (simp [go_sem]; done) | (simp [go_sem, *]; done)
        have kw1_0_2 : w1.cell? ⟨w.heap.size, 2, none⟩ = some (.int .i64 r) := by rw [hcw1 _ _ (by first | (simp; done) | omega | (simp; omega))]; first | assumption | (simp [go_sem]; done) | (simp [go_sem]; done) | (simp [go_sem, *]; done)
        have sw1_0 : w.heap.size < w1.heap.size := by first | omega | (simp at *; omega)
        have kw1_1_0 : w1.cell? ⟨w.heap.size + 1, 0, none⟩ = some (.int .i64 0) := by rw [hcw1 _ _ (by first | (simp; done) | omega | (simp; omega))]; first | assumption | (simp [go_sem]; done) | (simp [go_sem]; done) | (simp [go_sem, *]; done)
        have fw1_1_0 : w1.frozen? ⟨w.heap.size + 1, 0, none⟩ = false := by rw [hfw1 _ _ (by first | (simp; done) | omega | (simp; omega))]; first | assumption | (simp [go_sem]; done) | (simp [go_sem]; done) | (simp [go_sem, *]; done)
        have kw1_1_1 : w1.cell? ⟨w.heap.size + 1, 1, none⟩ = some (.slice none 0 0) := by rw [hcw1 _ _ (by first | (simp; done) | omega | (simp; omega))]; first | assumption | (simp [go_sem]; done) | (simp [go_sem]; done) | (simp [go_sem, *]; done)
        have fw1_1_1 : w1.frozen? ⟨w.heap.size + 1, 1, none⟩ = false := by rw [hfw1 _ _ (by first | (simp; done) | omega | (simp; omega))]; first | assumption | (simp [go_sem]; done) | (simp [go_sem]; done) | (simp [go_sem, *]; done)
        have sw1_1 : w.heap.size + 1 < w1.heap.size := by first | omega | (simp at *; omega)
        have hBw1 : Below w.heap.size w w1 := (by repeat (first | exact Below.refl _ _ | refine bl_alloc ?_ _ | refine bl_drewN ?_ _ | refine bl_trans (by assumption) ?_ | refine bl_set ?_ (by first | omega | (simp; done) | (simp; omega)) _))
        have HBw1 := Lib.hid hBw1
        clear hBw1 hcw1 hfw1 hbw1
        rw [hk]
        go_wp2_with (go_at_call 54; refine (l1In_any _ _ _ _).mono ?_; rintro e w' ⟨rfl, rfl⟩; (first | rw [hc] | rw [hs] | fail))
        exact bodyPost_ret (v := .tuple #[.agg #[.int .i64 0, .slice none 0 0], .bool false]) (by simp [results, Try.results24, go_sem, kw1_0_0, kw1_0_1, kw1_0_2, kw1_1_0, kw1_1_1, fw1_1_0, fw1_1_1]) rfl ⟨.slice none 0 0, rfl, OClu.nil _ _ _, (by repeat (first | refine bl_set ?_ (by first | omega | (simp; done) | (simp; omega)) _ | exact HBw1.out))⟩
      · have e1 : mkO wd l r c s = true := by simp [mkO, hk, hc, hs]
        have e2 : mkW wd l r c s = wd := by rw [mkW, e1]; rfl
        have e3 : mkN wd l r c s = c.toNat := by rw [mkN, e1]; rfl
        rw [e1, e2, e3]
        clear e1 e2 e3
        obtain ⟨c0, c1⟩ := within_true hc
        obtain ⟨s0, s1⟩ := within_true hs
        obtain ⟨n, rfl⟩ := Int.eq_ofNat_of_zero_le c0
        have hn : ((n : Int)).toNat = n := by omega
        rw [hn]
        clear hn
        have hn6 : n ≤ 6 := by omega
        go_enter Try.func24, Try.ntmps24
        go_wp2_with fail
        refine (pzHidden_any wd l r _).mono ?_
        rintro e w1 ⟨rfl, hbw1⟩
        obtain ⟨hcw1, hfw1⟩ := bcell hbw1
        have hzw1 := bsize hbw1
        (try simp only [World.size_alloc, World.size_setCell] at hzw1)
        have kw1_0_0 : w1.cell? ⟨w.heap.size, 0, none⟩ = some (.int .i64 wd) := by rw [hcw1 _ _ (by first | (simp; done) | omega | (simp; omega))]; first | assumption | (simp [go_sem]; done) | (simp [go_sem]; done) | (simp [go_sem, *]; done)
        have kw1_0_1 : w1.cell? ⟨w.heap.size, 1, none⟩ = some (.int .i64 l) := by rw [hcw1 _ _ (by first | (simp; done) | omega | (simp; omega))]; first | assumption | (simp [go_sem]; done) | (simp [go_sem]; done) | (simp [go_sem, *]; done)
        have kw1_0_2 : w1.cell? ⟨w.heap.size, 2, none⟩ = some (.int .i64 r) := by rw [hcw1 _ _ (by first | (simp; done) | omega | (simp; omega))]; first | assumption | (simp [go_sem]; done) | (simp [go_sem]; done) | (simp [go_sem, *]; done)
        have sw1_0 : w.heap.size < w1.heap.size := by first | omega | (simp at *; omega)
        have kw1_1_0 : w1.cell? ⟨w.heap.size + 1, 0, none⟩ = some (.int .i64 0) := by rw [hcw1 _ _ (by first | (simp; done) | omega | (simp; omega))]; first | assumption | (simp [go_sem]; done) | (simp [go_sem]; done) | (simp [go_sem, *]; done)
        have fw1_1_0 : w1.frozen? ⟨w.heap.size + 1, 0, none⟩ = false := by rw [hfw1 _ _ (by first | (simp; done) | omega | (simp; omega))]; first | assumption | (simp [go_sem]; done) | (simp [go_sem]; done) | (simp [go_sem, *]; done)
        have kw1_1_1 : w1.cell? ⟨w.heap.size + 1, 1, none⟩ = some (.slice none 0 0) := by rw [hcw1 _ _ (by first | (simp; done) | omega | (simp; omega))]; first | assumption | (simp [go_sem]; done) | (simp [go_sem]; done) | (simp [go_sem, *]; done)
        have fw1_1_1 : w1.frozen? ⟨w.heap.size + 1, 1, none⟩ = false := by rw [hfw1 _ _ (by first | (simp; done) | omega | (simp; omega))]; first | assumption | (simp [go_sem]; done) | (simp [go_sem]; done) | (simp [go_sem, *]; done)
        have sw1_1 : w.heap.size + 1 < w1.heap.size := by first | omega | (simp at *; omega)
        have hBw1 : Below w.heap.size w w1 := (by repeat (first | exact Below.refl _ _ | refine bl_alloc ?_ _ | refine bl_drewN ?_ _ | refine bl_trans (by assumption) ?_ | refine bl_set ?_ (by first | omega | (simp; done) | (simp; omega)) _))
        have HBw1 := Lib.hid hBw1
        clear hBw1 hcw1 hfw1 hbw1
        rw [hk]
        have HX0 := Lib.hid (⟨kw1_0_0, kw1_0_1, kw1_0_2, kw1_1_0, kw1_1_1, fw1_1_0, fw1_1_1, sw1_0, sw1_1, HBw1.out⟩ : (w1.cell? ⟨w.heap.size, 0, none⟩ = some (.int .i64 wd) ∧ w1.cell? ⟨w.heap.size, 1, none⟩ = some (.int .i64 l) ∧ w1.cell? ⟨w.heap.size, 2, none⟩ = some (.int .i64 r) ∧ w1.cell? ⟨w.heap.size + 1, 0, none⟩ = some (.int .i64 0) ∧ w1.cell? ⟨w.heap.size + 1, 1, none⟩ = some (.slice none 0 0) ∧ w1.frozen? ⟨w.heap.size + 1, 0, none⟩ = false ∧ w1.frozen? ⟨w.heap.size + 1, 1, none⟩ = false ∧ w.heap.size < w1.heap.size ∧ w.heap.size + 1 < w1.heap.size ∧ Below w.heap.size w w1))
        have HM := Lib.hid (show MX w wd l r w1.heap.size (.slice none 0 0) (w1.alloc (.cells #[.int .i64 wd, .slice none 0 0] 53)) by
          obtain ⟨a0, a1, a2, b0, b1, f0, f1, z0, z1, hb⟩ := HX0.out
          have hk1 := bl_alloc (Below.refl w1.heap.size w1) (.cells #[.int .i64 wd, .slice none 0 0] 53)
          exact ⟨⟨⟨cell_after hk1 z0 a0, cell_after hk1 z0 a1, cell_after hk1 z0 a2⟩, ⟨cell_after hk1 z1 b0, cell_after hk1 z1 b1⟩, ⟨frozen_after hk1 z1 f0, frozen_after hk1 z1 f1⟩, ⟨by simp, by simp⟩, by simp [go_sem], by simp [go_sem]⟩, ⟨z1, by simp⟩, bl_alloc hb _⟩)
        have HH := Lib.hid hk
        go_wp2_with (go_at_call 54; refine (l1In_any _ _ _ _).mono ?_; rintro e w' ⟨rfl, rfl⟩; (first | rw [hc] | rw [hs] | fail))
        clear hk hc hs HX0
        go_loopw [1, 9] (fun iv zv wr => ∃ (j : Nat) (v : Value), zv = .int .i64 (zs s j) ∧ iv = .int .i64 ((n - j : Nat) : Int) ∧ j ≤ n ∧ OClu wr (w1.heap.size + 1) v j (mkF wd l r s) ∧ MX w wd l r w1.heap.size v wr) (fun iv zv _ => (intOf iv).toNat)
        case atStart => exact ⟨0, .slice none 0 0, rfl, by simp, Nat.zero_le _, OClu.nil _ _ _, HM.out⟩
        case round =>
          obtain ⟨j, v, rfl, rfl, hjn, hO, hX⟩ := hrel
          obtain ⟨a, cp, rfl⟩ := hO.toP.shape
          have O := Lib.hid hO
          have MM := Lib.hid hX
          clear hO HM kw1_0_0 kw1_0_1 kw1_0_2 kw1_1_0 kw1_1_1 fw1_1_0 fw1_1_1 sw1_0 sw1_1
          obtain ⟨⟨⟨p0, p1, p2⟩, ⟨r0, r1⟩, ⟨y0, y1⟩, ⟨q0, q1⟩, x0, x1⟩, ⟨z0, z1⟩, hB⟩ := hX
          have HB := Lib.hid hB
          clear hB
          have hsz : w.heap.size < wr.heap.size := by omega
          have hsz1 : w.heap.size + 1 < wr.heap.size := by omega
          by_cases hlt : j < n
          · obtain ⟨Z, Y, X, ca, cb, EZ, ⟨hy0, hy1⟩, ⟨hx0, hx1⟩, N1, N2, NC, EX, ES⟩ := spec_mk_pack wd l r s j HH.out s0 s1
            rw [EZ.out]
            have hpos : (0:Int) < ((n - j : Nat) : Int) := by omega
            go_wp2_with fail
            refine ((N1 _).out).mono ?_
            rintro e w' ⟨rfl, rfl⟩
            go_wp2_with fail
            refine ((N2 _).out).mono ?_
            rintro e w' ⟨rfl, rfl⟩
            go_wp2_with fail
            go_region_law (first | (go_simp; go_at_call 56; refine ((NC _).out).mono ?_; rintro e w5 ⟨rfl, hb⟩; have MMb := Lib.hid (MM.out.drew.after hb); have OOb := Lib.hid ((O.out.keep (Below.drew (Below.refl _ _))).keep hb); have hz5 := hb.size; clear hb; obtain ⟨⟨⟨g0, g1, g2⟩, ⟨g3, g4⟩, ⟨g5, g6⟩, ⟨g7, g8⟩, g9, ga⟩, ⟨gz0, gz1⟩, hB5⟩ := MMb.out; have HB5 := Lib.hid hB5; clear hB5) | (refine step_app_own rfl (.tmp 40) (.tmp 45) rfl (w1.heap.size + 1) _ j (mkF wd l r s) rfl (OOb.out.keep (bl_alloc (Below.refl _ _) _)) (.slice (some ⟨_, 0, none⟩) 1 1) 1 (snocF (fun _ => 0) 0 (Y % 6) ca cb) rfl (PClu_one (by simp) (by simp [go_sem]) (by simp [go_sem]) (by simp [go_sem])) (by simp; omega) (by omega) ?_; intro v7 w7 hq7 hq8; have hq9 := (Below.refl (w1.heap.size + 1) _).grown hq8 (by simp; omega) (fun g e => (World.ownsRow.lt OOb.out g e).1); have M7 := Lib.hid ((MMb.out.after (bl_alloc (Below.refl _ _) _)).under hq9); have O7 := Lib.hid (hq7.congr ES.out); clear hq7 hq8 hq9; obtain ⟨⟨⟨h0, h1, h2⟩, ⟨h3, h4⟩, ⟨h5, h6⟩, ⟨h7, h8⟩, h9, ha⟩, ⟨hz0, hz1⟩, hB7⟩ := M7.out; have HB7 := Lib.hid hB7; clear hB7; obtain ⟨a7, c7, rfl⟩ := O7.out.toP.shape) | fail)
            all_goals
              go_wp2_with fail
              go_roundw
              case rel => exact ⟨j + 1, .slice a7 (j + 1) c7, by rw [EX.out], by go_num, hlt, O7.out.low (by simp) _, M7.out.set _⟩
              case measure => simp only [intOf]; omega
          · obtain rfl : j = n := by omega
            go_wp2
            exact bodyPost_ret (v := .tuple #[.agg #[.int .i64 wd, .slice a j cp], .bool true]) (by simp [results, Try.results24, go_sem, r0, r1, y0, y1]) rfl ⟨.slice a j cp, rfl, (((O.out.low (by simp; omega) _).low (by simp; omega) _).lower (by omega)), (by repeat (first | refine bl_set ?_ (by first | omega | (simp; done) | (simp; omega)) _ | exact HB.out))⟩
end Go.Proofs.Ytahcfjpplkemdaa
