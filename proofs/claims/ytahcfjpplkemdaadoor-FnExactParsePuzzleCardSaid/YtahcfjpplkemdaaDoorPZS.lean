/- Puzzles read from a text, by the model: what the program reads. -/
import Derived.Test.YtahcfjpplkemdaaDoorPZR
namespace Go.Proofs.YtahcfjpplkemdaaDoor
open Go.RowKit
set_option linter.unusedVariables false
set_option linter.unusedSimpArgs false
theorem pzParse_any (s : ByteArray) (hs : s.size ≤ 1048576) (w : World) :
    Calls Tryd.prog 22 #[.string s] w fun e w' => ∃ (wd : Int) (n : Nat) (f : Nat → Int) (u : Value), e = .returned (.tuple #[.agg #[.int .i64 wd, u], .bool (okZS s)]) ∧ OClu w' w.heap.size u n f ∧ (okZS s = true → wd = rdV (zx s) ∧ n = (PZs (zy s)).length ∧ f = fS (PZs (zy s))) ∧ Below w.heap.size w w' := by
  have e : s = ⟨s.data.toList.toArray⟩ := by simp
  have h := pzParse_list s.data.toList (by rw [len_data]; exact hs) s e w
  rw [← e] at h
  exact h
set_option maxRecDepth 8000 in
set_option maxHeartbeats 1600000 in
theorem spec_ParsePuzzle (s : ByteArray) (hs : s.size ≤ 1048576) (w : World) :
    Calls Tryd.prog 10 #[.string s] w fun e w' => ∃ u, e = .returned (.tuple #[.agg #[.int .i64 (zW s), u], .bool (okZI s)]) ∧ OClu w' w.heap.size u (zN s) (zF s) ∧ Below w.heap.size w w' := by
  have HI := Lib.hid (same_ok s)
  go_enter Tryd.func10, Tryd.ntmps10
  go_wp2_with fail
  refine (pzParse_any s hs _).mono ?_
  rintro e w1 ⟨wd, n, f, u, rfl, hO, hV, hbw1⟩
  obtain ⟨hcw1, hfw1⟩ := bcell hbw1
  have hzw1 := bsize hbw1
  (try simp only [World.size_alloc, World.size_setCell] at hzw1)
  have hO := hO.lower (C := w.heap.size + 1) (by first | omega | (simp; done) | (simp; omega))
  obtain ⟨a1, c1, rfl⟩ := hO.toP.shape
  have HO := Lib.hid hO
  have HV := Lib.hid hV
  clear hO hV
  have kw1_0_0 : w1.cell? ⟨w.heap.size, 0, none⟩ = some (.int .i64 0) := by rw [hcw1 _ _ (by first | (simp; done) | omega | (simp; omega))]; first | assumption | (simp [go_sem]; done) | (simp [go_sem]; done) | (simp [go_sem, *]; done)
  have fw1_0_0 : w1.frozen? ⟨w.heap.size, 0, none⟩ = false := by rw [hfw1 _ _ (by first | (simp; done) | omega | (simp; omega))]; first | assumption | (simp [go_sem]; done) | (simp [go_sem]; done) | (simp [go_sem, *]; done)
  have kw1_0_1 : w1.cell? ⟨w.heap.size, 1, none⟩ = some (.slice none 0 0) := by rw [hcw1 _ _ (by first | (simp; done) | omega | (simp; omega))]; first | assumption | (simp [go_sem]; done) | (simp [go_sem]; done) | (simp [go_sem, *]; done)
  have fw1_0_1 : w1.frozen? ⟨w.heap.size, 1, none⟩ = false := by rw [hfw1 _ _ (by first | (simp; done) | omega | (simp; omega))]; first | assumption | (simp [go_sem]; done) | (simp [go_sem]; done) | (simp [go_sem, *]; done)
  have sw1_0 : w.heap.size < w1.heap.size := by first | omega | (simp at *; omega)
  have hBw1 : Below w.heap.size w w1 := (by repeat (first | exact Below.refl _ _ | refine bl_alloc ?_ _ | refine bl_drewN ?_ _ | refine bl_trans (by assumption) ?_ | refine bl_set ?_ (by first | omega | (simp; done) | (simp; omega)) _))
  have HBw1 := Lib.hid hBw1
  clear hBw1 hcw1 hfw1 hbw1
  cases hk : okZS s
  · have HK := Lib.hid (show okZI s = false by rw [HI.out, hk])
    have HZ := Lib.hid (show zW s = 0 by simp [zW, HK.out])
    have HZN := Lib.hid (show zN s = 0 by simp [zN, HK.out])
    clear hk
    go_wp2
    exact bodyPost_ret (v := .tuple #[.agg #[.int .i64 0, .slice none 0 0], .bool false]) (by simp [results, Tryd.results10, go_sem, kw1_0_0, kw1_0_1, fw1_0_0, fw1_0_1, sw1_0, Nat.ne_of_lt sw1_0, (Nat.ne_of_lt sw1_0).symm]) rfl ⟨.slice none 0 0, by rw [HK.out, HZ.out], by rw [HZN.out]; exact OClu.nil _ _ _, (by repeat (first | refine bl_alloc ?_ _ | refine bl_set ?_ (by first | omega | (simp; done) | (simp; omega)) _ | exact HBw1.out))⟩
  · have HK := Lib.hid (show okZI s = true by rw [HI.out, hk])
    obtain ⟨q1, q2, q3⟩ := HV.out hk
    obtain ⟨r1, r2, r3⟩ := same_val s hk
    have HZ := Lib.hid (show zW s = wd by rw [q1, r1])
    have HZN := Lib.hid (show zN s = n by rw [q2, r2])
    have HF := Lib.hid (show ∀ i, i < n * 3 → f i = zF s i from fun i hi => by rw [q3]; exact r3 i (by rw [← r2, ← q2]; exact hi))
    clear hk q1 q2 q3 r1 r2 r3 HV
    go_wp2
    exact bodyPost_ret (v := .tuple #[.agg #[.int .i64 wd, .slice a1 n c1], .bool true]) (by simp [results, Tryd.results10, go_sem, kw1_0_0, kw1_0_1, fw1_0_0, fw1_0_1, sw1_0, Nat.ne_of_lt sw1_0, (Nat.ne_of_lt sw1_0).symm]) rfl ⟨.slice a1 n c1, by rw [HK.out, HZ.out], by rw [HZN.out]; first | exact ((((HO.out.keep (bl_alloc (Below.refl _ _) _)).low (Nat.lt_succ_self _) _).low (Nat.lt_succ_self _) _).lower (Nat.le_succ _)).congr HF.out | exact ((((HO.out.low (Nat.lt_succ_self _) _).low (Nat.lt_succ_self _) _).keep (bl_alloc (Below.refl _ _) _)).lower (Nat.le_succ _)).congr HF.out, (by repeat (first | refine bl_alloc ?_ _ | refine bl_set ?_ (by first | omega | (simp; done) | (simp; omega)) _ | exact HBw1.out))⟩
end Go.Proofs.YtahcfjpplkemdaaDoor
