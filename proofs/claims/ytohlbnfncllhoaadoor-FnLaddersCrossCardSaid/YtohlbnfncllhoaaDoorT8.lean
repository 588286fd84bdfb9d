/- ParseLadders, by the program. -/
import Derived.Test.YtohlbnfncllhoaaDoorT7
namespace Go.Proofs.YtohlbnfncllhoaaDoor
open Go.RowKit
def MaxL (w : World) : Prop := ∃ m, w.cell? ⟨0, 0, none⟩ = some (.int .i64 m)
theorem MaxL.below {w w' : World} (h : MaxL w) (hb : Below w.heap.size w w') : MaxL w' := by
  obtain ⟨m, hm⟩ := h
  have hlt : 0 < w.heap.size := by
    by_cases c : 0 < w.heap.size
    · exact c
    · simp [World.cell?, Array.getElem?_eq_none (Nat.le_of_not_lt c)] at hm
  exact ⟨m, cell_after hb hlt hm⟩
theorem cut_max (s : ByteArray) (b : UInt8) (hs : s.size ≤ 1048576) {w0 w : World} (h : MaxL w0) (hb : Below w0.heap.size w0 w) :
    Calls Tryd.prog 46 #[.string s, .string ⟨#[b]⟩] w fun e w' => e = .returned (.tuple #[.string (cutA s b), .string (cutB s b), .bool (Lib.cut s.data.toList [b]).2.2]) ∧ ∃ n, w' = w.drewN n := by
  obtain ⟨m, hm⟩ := h.below hb
  exact Tryd.strings_Cut s ⟨#[b]⟩ m w (by omega) hm
theorem parse_at (s : ByteArray) (hs : s.size ≤ 1048576) {w0 w : World} (T : Tab w0) (E : Errs w0) (hb : Below w0.heap.size w0 w) :
    Calls Tryd.prog 47 #[.string s] w fun e w' => e = .returned (.tuple #[.int .i64 (pnV s), .bool (pnB s)]) ∧ Below w.heap.size w w' := parseNumber_any s hs w (T.below hb) (E.below hb)
set_option maxHeartbeats 1000000 in
theorem impl_ParseLadders (s : ByteArray) (hs : s.size ≤ 1048576) (w : World) (T : Tab w) (E : Errs w) (M : MaxL w) :
    Calls Tryd.prog 23 #[.string s] w fun e w' => e = .returned (.tuple #[.agg #[.int .i64 (Z (plB s) (pnV (cutA s 58))), .int .i64 (Z (plB s) (pnV (cutA (cutB s 58) 47))), .int .i64 (Z (plB s) (pnV (cutB (cutB s 58) 47)))], .bool (plB s)]) ∧ Below w.heap.size w w' := by
  obtain ⟨s1, s2⟩ := cut_size s 58
  obtain ⟨s3, s4⟩ := cut_size (cutB s 58) 47
  have HZ : Hid (∀ ok x, Z ok x = if ok then x else 0) := Lib.hid fun _ _ => rfl
  have HP := Lib.hid (show plB s = ((pnB (cutA s 58) && (pnB (cutA (cutB s 58) 47) && pnB (cutB (cutB s 58) 47))) && okL (pnV (cutA s 58)) (pnV (cutA (cutB s 58) 47)) (pnV (cutB (cutB s 58) 47))) from rfl)
  have T0 := Lib.hid T
  have E0 := Lib.hid E
  have M0 := Lib.hid M
  have C1 := fun {W : World} (hb : Below w.heap.size w W) => Lib.hid (cut_max s 58 hs M hb)
  have C2 := fun {W : World} (hb : Below w.heap.size w W) => Lib.hid (cut_max (cutB s 58) 47 (by omega) M hb)
  have P1 := fun {W : World} (hb : Below w.heap.size w W) => Lib.hid (parse_at (cutA s 58) (by omega) T E hb)
  have P2 := fun {W : World} (hb : Below w.heap.size w W) => Lib.hid (parse_at (cutA (cutB s 58) 47) (by omega) T E hb)
  have P3 := fun {W : World} (hb : Below w.heap.size w W) => Lib.hid (parse_at (cutB (cutB s 58) 47) (by omega) T E hb)
  clear T E M
  generalize (Lib.cut s.data.toList [58]).2.2 = f1 at *
  generalize (Lib.cut (cutB s 58).data.toList [47]).2.2 = f2 at *
  generalize pnV (cutA s 58) = a at *
  generalize pnV (cutA (cutB s 58) 47) = b at *
  generalize pnV (cutB (cutB s 58) 47) = c at *
  generalize cutA (cutB s 58) 47 = y1 at *
  generalize cutB (cutB s 58) 47 = y2 at *
  generalize cutA s 58 = x1 at *
  generalize cutB s 58 = x2 at *
  go_enter Tryd.func23, Tryd.ntmps23
  go_wp2_with fail
  refine ((C1 (by repeat (first | exact Below.refl _ _ | refine bl_alloc ?_ _ | refine bl_drewN ?_ _ | refine bl_trans (by assumption) ?_ | refine bl_set ?_ (by first | omega | (simp; done) | (simp; omega)) _))).out).mono ?_
  rintro e w' ⟨rfl, k1, rfl⟩
  go_wp2_with fail
  refine ((C2 (by repeat (first | exact Below.refl _ _ | refine bl_alloc ?_ _ | refine bl_drewN ?_ _ | refine bl_trans (by assumption) ?_ | refine bl_set ?_ (by first | omega | (simp; done) | (simp; omega)) _))).out).mono ?_
  rintro e w' ⟨rfl, k2, rfl⟩
  go_wp2_with fail
  refine ((P1 (by repeat (first | exact Below.refl _ _ | refine bl_alloc ?_ _ | refine bl_drewN ?_ _ | refine bl_trans (by assumption) ?_ | refine bl_set ?_ (by first | omega | (simp; done) | (simp; omega)) _))).out).mono ?_
  rintro e w1 ⟨rfl, hb1⟩
  obtain ⟨hc1, hf1⟩ := bcell hb1
  have hz1 := bsize hb1
  (try simp only [World.size_alloc, World.size_drewN] at hz1)
  have z1 : w.heap.size < w1.heap.size := by simp at hz1; omega
  go_wp2_with fail
  refine ((P2 (by repeat (first | exact Below.refl _ _ | refine bl_alloc ?_ _ | refine bl_drewN ?_ _ | refine bl_trans (by assumption) ?_ | refine bl_set ?_ (by first | omega | (simp; done) | (simp; omega)) _))).out).mono ?_
  rintro e w2 ⟨rfl, hb2⟩
  obtain ⟨hc2, hf2⟩ := bcell hb2
  have hz2 := bsize hb2
  have z2 : w.heap.size < w2.heap.size := by omega
  go_wp2_with fail
  refine ((P3 (by repeat (first | exact Below.refl _ _ | refine bl_alloc ?_ _ | refine bl_drewN ?_ _ | refine bl_trans (by assumption) ?_ | refine bl_set ?_ (by first | omega | (simp; done) | (simp; omega)) _))).out).mono ?_
  rintro e w3 ⟨rfl, hb3⟩
  obtain ⟨hc3, hf3⟩ := bcell hb3
  have hz3 := bsize hb3
  have z3 : w.heap.size < w3.heap.size := by omega
  have k3 : Below w.heap.size w w3 := (by repeat (first | exact Below.refl _ _ | refine bl_alloc ?_ _ | refine bl_drewN ?_ _ | refine bl_trans (by assumption) ?_ | refine bl_set ?_ (by first | omega | (simp; done) | (simp; omega)) _))
  have K3 := Lib.hid k3
  clear k3
  cases q1 : pnB x1
  · have P := Lib.hid (show plB s = false by rw [HP.out, q1]; rfl)
    go_wp2
    refine bodyPost_ret (v := .tuple #[.agg #[.int .i64 0, .int .i64 0, .int .i64 0], .bool false]) (by simp [results, Tryd.results23, go_sem, *]) rfl ⟨by rw [P.out]; rfl, bl_set (bl_set (bl_set K3.out (Nat.le_refl _) _) (Nat.le_refl _) _) (Nat.le_refl _) _⟩
  cases q2 : pnB y1
  · have P := Lib.hid (show plB s = false by rw [HP.out, q2]; simp)
    go_wp2
    refine bodyPost_ret (v := .tuple #[.agg #[.int .i64 0, .int .i64 0, .int .i64 0], .bool false]) (by simp [results, Tryd.results23, go_sem, *]) rfl ⟨by rw [P.out]; rfl, bl_set (bl_set (bl_set K3.out (Nat.le_refl _) _) (Nat.le_refl _) _) (Nat.le_refl _) _⟩
  cases q3 : pnB y2
  · have P := Lib.hid (show plB s = false by rw [HP.out, q3]; simp)
    go_wp2
    refine bodyPost_ret (v := .tuple #[.agg #[.int .i64 0, .int .i64 0, .int .i64 0], .bool false]) (by simp [results, Tryd.results23, go_sem, *]) rfl ⟨by rw [P.out]; rfl, bl_set (bl_set (bl_set K3.out (Nat.le_refl _) _) (Nat.le_refl _) _) (Nat.le_refl _) _⟩
  have P := Lib.hid (show plB s = okL a b c by rw [HP.out, q1, q2, q3]; rfl)
  clear HP
  go_wp2_with fail
  refine (onlyLadders_any _ _ _ _).mono ?_
  rintro e w4 ⟨rfl, hb4⟩
  obtain ⟨hc4, hf4⟩ := bcell hb4
  have hz4 := bsize hb4
  have z4 : w.heap.size < w4.heap.size := by omega
  have k4 : Below w.heap.size w w4 := bl_trans hb4 K3.out
  have K4 := Lib.hid k4
  clear k4
  go_wp2
  refine bodyPost_ret (v := .tuple #[.agg #[.int .i64 (Z (okL a b c) a), .int .i64 (Z (okL a b c) b), .int .i64 (Z (okL a b c) c)], .bool (okL a b c)]) (by simp [results, Tryd.results23, go_sem, *]) rfl ⟨by rw [P.out], bl_set (bl_set (bl_set K4.out (Nat.le_refl _) _) (Nat.le_refl _) _) (Nat.le_refl _) _⟩
end Go.Proofs.YtohlbnfncllhoaaDoor
