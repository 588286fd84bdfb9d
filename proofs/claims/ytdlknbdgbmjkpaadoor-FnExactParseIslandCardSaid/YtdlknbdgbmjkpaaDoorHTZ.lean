/- Islands that are read back, by both. -/
import Derived.Test.YtdlknbdgbmjkpaaDoorHTY
import Derived.Test.YtdlknbdgbmjkpaaDoorT6
namespace Go.Proofs.YtdlknbdgbmjkpaaDoor
open Go.RowKit
set_option linter.unusedVariables false
set_option linter.unusedSimpArgs false
set_option maxHeartbeats 1000000 in
theorem spec_ParseIsland (s : ByteArray) (hs : s.size ≤ 1048576) (w : World) :
    Calls Tryd.prog 8 #[.string s] w fun e w' => ∃ a b c d ok, e = .returned (.tuple #[.agg #[.int .i64 a, .int .i64 b, .int .i64 c, .int .i64 d], .bool ok]) ∧ ReadI s a b c d ok ∧ Below w.heap.size w w' := by
  go_enter Tryd.func8, Tryd.ntmps8
  go_wp2_with fail
  refine (htParse_any s hs _).mono ?_
  rintro e w1 ⟨a, b, c, d, ok, rfl, hP, hb⟩
  have HP := Lib.hid hP
  clear hP
  obtain ⟨hc, hf⟩ := bcell hb
  have hz := bsize hb
  (try simp only [World.size_alloc] at hz)
  have hz0 : w.heap.size < w1.heap.size := by omega
  go_wp2
  refine bodyPost_ret (v := .tuple #[.agg #[.int .i64 a, .int .i64 b, .int .i64 c, .int .i64 d], .bool ok]) (by simp [results, Tryd.results8, go_sem, *]) rfl ⟨_, _, _, _, _, rfl, HP.out, (by repeat (first | exact Below.refl _ _ | refine bl_alloc ?_ _ | refine bl_drewN ?_ _ | refine bl_trans (by assumption) ?_ | refine bl_set ?_ (by first | omega | (simp; done) | (simp; omega)) _))⟩
def cutA (s : ByteArray) (b : UInt8) : ByteArray := ⟨(Lib.cut s.data.toList [b]).1.toArray⟩
def cutB (s : ByteArray) (b : UInt8) : ByteArray := ⟨(Lib.cut s.data.toList [b]).2.1.toArray⟩
theorem cut_size (s : ByteArray) (b : UInt8) : (cutA s b).size ≤ s.size ∧ (cutB s b).size ≤ s.size := by
  have hl : s.data.toList.length = s.size := by rw [Array.length_toList]; rfl
  have h1 : (cutA s b).size = (Lib.cut s.data.toList [b]).1.length := rfl
  have h2 : (cutB s b).size = (Lib.cut s.data.toList [b]).2.1.length := rfl
  rw [h1, h2, ← hl]
  unfold Lib.cut
  split
  · simp only [List.length_take, List.length_drop]; omega
  · simp
theorem pn_nil : pnB ⟨#[]⟩ = false := by
  cases h : pnB ⟨#[]⟩
  · rfl
  · have := (pn_sound h).2
    exact absurd this.symm (digits_ne _)
theorem cut_key (t : ByteArray) (b : UInt8) (hne : (cutB t b).data.toList ≠ []) : t.data.toList = (cutA t b).data.toList ++ b :: (cutB t b).data.toList := by
  have ha : (cutA t b).data.toList = (Lib.cut t.data.toList [b]).1 := by simp [cutA]
  have hb : (cutB t b).data.toList = (Lib.cut t.data.toList [b]).2.1 := by simp [cutB]
  rw [ha, hb]
  rw [hb] at hne
  rcases hq : Lib.cut t.data.toList [b] with ⟨x, y, f⟩
  rw [hq] at hne
  cases f
  · exact absurd (cut_lost hq).2 hne
  · exact cut_found hq
theorem partsI_sound {s : ByteArray} (h1 : pnB (cutA (cutA s 58) 124) = true) (h2 : pnB (cutB (cutA s 58) 124) = true) (h3 : pnB (cutA (cutB s 58) 47) = true) (h4 : pnB (cutB (cutB s 58) 47) = true) : txI (pnV (cutA (cutA s 58) 124)) (pnV (cutB (cutA s 58) 124)) (pnV (cutA (cutB s 58) 47)) (pnV (cutB (cutB s 58) 47)) = s := by
  obtain ⟨p1, e1⟩ := pn_sound h1
  obtain ⟨p2, e2⟩ := pn_sound h2
  obtain ⟨p3, e3⟩ := pn_sound h3
  obtain ⟨p4, e4⟩ := pn_sound h4
  apply bytes_eq
  rw [txI_list _ _ _ _ p1 p2 p3 p4, ← e1, ← e2, ← e3, ← e4]
  have k1 := cut_key (cutA s 58) 124 (by rw [e2]; exact digits_ne _)
  have k2 := cut_key (cutB s 58) 47 (by rw [e4]; exact digits_ne _)
  have k3 := cut_key s 58 (by rw [k2]; simp)
  rw [k3, k1, k2]
  simp
theorem partsI_complete {s : ByteArray} {a b c d : Int} (h : okIs a b c d = true) (e : txI a b c d = s) :
    (pnB (cutA (cutA s 58) 124) = true ∧ pnB (cutB (cutA s 58) 124) = true ∧ pnB (cutA (cutB s 58) 47) = true ∧ pnB (cutB (cutB s 58) 47) = true) ∧ pnV (cutA (cutA s 58) 124) = a ∧ pnV (cutB (cutA s 58) 124) = b ∧ pnV (cutA (cutB s 58) 47) = c ∧ pnV (cutB (cutB s 58) 47) = d := by
  obtain ⟨x, y, z, u, ⟨rfl, rfl, rfl, rfl⟩, ⟨l1, l2, l3, l4⟩, e1, _⟩ := txI_parts h
  rw [e] at e1
  have e1' : s.data.toList = (Lib.decDigits x ++ 124 :: Lib.decDigits y) ++ 58 :: (Lib.decDigits z ++ 47 :: Lib.decDigits u) := by rw [e1]; simp
  have q1 := cut_hit (b := 58) (x := Lib.decDigits x ++ 124 :: Lib.decDigits y) (y := Lib.decDigits z ++ 47 :: Lib.decDigits u) (not_glue (n58 _) (by decide) (n58 _))
  rw [← e1'] at q1
  have a1 : (cutA s 58).data.toList = Lib.decDigits x ++ 124 :: Lib.decDigits y := by simp [cutA, q1]
  have b1 : (cutB s 58).data.toList = Lib.decDigits z ++ 47 :: Lib.decDigits u := by
    show (Lib.cut s.data.toList [58]).2.1 = _
    rw [q1]
  have q2 := cut_hit (b := 124) (y := Lib.decDigits y) (n124 x)
  rw [← a1] at q2
  have q3 := cut_hit (b := 47) (y := Lib.decDigits u) (n47 z)
  rw [← b1] at q3
  have a2 : (cutA (cutA s 58) 124).data.toList = Lib.decDigits x := by
    show (Lib.cut (cutA s 58).data.toList [124]).1 = _
    rw [q2]
  have b2 : (cutB (cutA s 58) 124).data.toList = Lib.decDigits y := by
    show (Lib.cut (cutA s 58).data.toList [124]).2.1 = _
    rw [q2]
  have a3 : (cutA (cutB s 58) 47).data.toList = Lib.decDigits z := by
    show (Lib.cut (cutB s 58).data.toList [47]).1 = _
    rw [q3]
  have b3 : (cutB (cutB s 58) 47).data.toList = Lib.decDigits u := by
    show (Lib.cut (cutB s 58).data.toList [47]).2.1 = _
    rw [q3]
  obtain ⟨r1, s1⟩ := pn_complete l1 a2
  obtain ⟨r2, s2⟩ := pn_complete l2 b2
  obtain ⟨r3, s3⟩ := pn_complete l3 a3
  obtain ⟨r4, s4⟩ := pn_complete l4 b3
  exact ⟨⟨r1, r2, r3, r4⟩, s1, s2, s3, s4⟩
def piB (s : ByteArray) : Bool := (pnB (cutA (cutA s 58) 124) && (pnB (cutB (cutA s 58) 124) && (pnB (cutA (cutB s 58) 47) && pnB (cutB (cutB s 58) 47)))) && okIs (pnV (cutA (cutA s 58) 124)) (pnV (cutB (cutA s 58) 124)) (pnV (cutA (cutB s 58) 47)) (pnV (cutB (cutB s 58) 47))
theorem pi_read (s : ByteArray) : ReadI s (Z (piB s) (pnV (cutA (cutA s 58) 124))) (Z (piB s) (pnV (cutB (cutA s 58) 124))) (Z (piB s) (pnV (cutA (cutB s 58) 47))) (Z (piB s) (pnV (cutB (cutB s 58) 47))) (piB s) := by
  refine ⟨⟨fun h => ?_, fun a b c d h e => ?_⟩, fun h => by simp [Z, h]⟩
  · have h' := h
    simp only [piB, Bool.and_eq_true] at h'
    simp only [Z, h, if_true]
    exact ⟨h'.2, partsI_sound h'.1.1 h'.1.2.1 h'.1.2.2.1 h'.1.2.2.2⟩
  · obtain ⟨⟨h1, h2, h3, h4⟩, e1, e2, e3, e4⟩ := partsI_complete h e
    rw [piB, h1, h2, h3, h4, e1, e2, e3, e4, h]; rfl
def MaxL (w : World) : Prop := ∃ m, w.cell? ⟨0, 0, none⟩ = some (.int .i64 m)
theorem MaxL.below {w w' : World} (h : MaxL w) (hb : Below w.heap.size w w') : MaxL w' := by
  obtain ⟨m, hm⟩ := h
  have hlt : 0 < w.heap.size := by
    by_cases c : 0 < w.heap.size
    · exact c
    · simp [World.cell?, Array.getElem?_eq_none (Nat.le_of_not_lt c)] at hm
  exact ⟨m, by rw [(bcell hb).1 _ _ hlt]; exact hm⟩
theorem cut_max (s : ByteArray) (b : UInt8) (hs : s.size ≤ 1048576) {w0 w : World} (h : MaxL w0) (hb : Below w0.heap.size w0 w) :
    Calls Tryd.prog 16 #[.string s, .string ⟨#[b]⟩] w fun e w' => e = .returned (.tuple #[.string (cutA s b), .string (cutB s b), .bool (Lib.cut s.data.toList [b]).2.2]) ∧ ∃ n, w' = w.drewN n := by
  obtain ⟨m, hm⟩ := h.below hb
  exact Tryd.strings_Cut s ⟨#[b]⟩ m w (by omega) hm
theorem parse_at (s : ByteArray) (hs : s.size ≤ 1048576) {w0 w : World} (T : Tab w0) (E : Errs w0) (hb : Below w0.heap.size w0 w) :
    Calls Tryd.prog 17 #[.string s] w fun e w' => e = .returned (.tuple #[.int .i64 (pnV s), .bool (pnB s)]) ∧ Below w.heap.size w w' := parseNumber_any s hs w (T.below hb) (E.below hb)
set_option maxRecDepth 100000 in
set_option maxHeartbeats 4000000 in
theorem impl_ParseIsland (s : ByteArray) (hs : s.size ≤ 1048576) (w : World) (T : Tab w) (E : Errs w) (M : MaxL w) :
    Calls Tryd.prog 9 #[.string s] w fun e w' => e = .returned (.tuple #[.agg #[.int .i64 (Z (piB s) (pnV (cutA (cutA s 58) 124))), .int .i64 (Z (piB s) (pnV (cutB (cutA s 58) 124))), .int .i64 (Z (piB s) (pnV (cutA (cutB s 58) 47))), .int .i64 (Z (piB s) (pnV (cutB (cutB s 58) 47)))], .bool (piB s)]) ∧ Below w.heap.size w w' := by
  obtain ⟨s1, s2⟩ := cut_size s 58
  obtain ⟨s3, s4⟩ := cut_size (cutA s 58) 124
  obtain ⟨s5, s6⟩ := cut_size (cutB s 58) 47
  have HP := Lib.hid (show piB s = ((pnB (cutA (cutA s 58) 124) && (pnB (cutB (cutA s 58) 124) && (pnB (cutA (cutB s 58) 47) && pnB (cutB (cutB s 58) 47)))) && okIs (pnV (cutA (cutA s 58) 124)) (pnV (cutB (cutA s 58) 124)) (pnV (cutA (cutB s 58) 47)) (pnV (cutB (cutB s 58) 47))) from rfl)
  have C1 := fun {W : World} (hb : Below w.heap.size w W) => Lib.hid (cut_max s 58 hs M hb)
  have C2 := fun {W : World} (hb : Below w.heap.size w W) => Lib.hid (cut_max (cutA s 58) 124 (by omega) M hb)
  have C3 := fun {W : World} (hb : Below w.heap.size w W) => Lib.hid (cut_max (cutB s 58) 47 (by omega) M hb)
  have P1 := fun {W : World} (hb : Below w.heap.size w W) => Lib.hid (parse_at (cutA (cutA s 58) 124) (by omega) T E hb)
  have P2 := fun {W : World} (hb : Below w.heap.size w W) => Lib.hid (parse_at (cutB (cutA s 58) 124) (by omega) T E hb)
  have P3 := fun {W : World} (hb : Below w.heap.size w W) => Lib.hid (parse_at (cutA (cutB s 58) 47) (by omega) T E hb)
  have P4 := fun {W : World} (hb : Below w.heap.size w W) => Lib.hid (parse_at (cutB (cutB s 58) 47) (by omega) T E hb)
  have HI := fun W => Lib.hid (onlyIsland_any (pnV (cutA (cutA s 58) 124)) (pnV (cutB (cutA s 58) 124)) (pnV (cutA (cutB s 58) 47)) (pnV (cutB (cutB s 58) 47)) W)
  clear T E M
  generalize (Lib.cut s.data.toList [58]).2.2 = f1 at *
  generalize (Lib.cut (cutA s 58).data.toList [124]).2.2 = f2 at *
  generalize (Lib.cut (cutB s 58).data.toList [47]).2.2 = f3 at *
  generalize pnV (cutA (cutA s 58) 124) = a at *
  generalize pnV (cutB (cutA s 58) 124) = b at *
  generalize pnV (cutA (cutB s 58) 47) = c at *
  generalize pnV (cutB (cutB s 58) 47) = d at *
  generalize cutA (cutA s 58) 124 = x1 at *
  generalize cutB (cutA s 58) 124 = x2 at *
  generalize cutA (cutB s 58) 47 = y1 at *
  generalize cutB (cutB s 58) 47 = y2 at *
  generalize cutA s 58 = xs at *
  generalize cutB s 58 = ys at *
  go_enter Tryd.func9, Tryd.ntmps9
  go_wp2_with fail
  refine ((C1 (by repeat (first | exact Below.refl _ _ | refine bl_alloc ?_ _ | refine bl_drewN ?_ _ | refine bl_trans (by assumption) ?_ | refine bl_set ?_ (by first | omega | (simp; done) | (simp; omega)) _))).out).mono ?_
  rintro e w' ⟨rfl, k1, rfl⟩
  go_wp2_with fail
  refine ((C2 (by repeat (first | exact Below.refl _ _ | refine bl_alloc ?_ _ | refine bl_drewN ?_ _ | refine bl_trans (by assumption) ?_ | refine bl_set ?_ (by first | omega | (simp; done) | (simp; omega)) _))).out).mono ?_
  rintro e w' ⟨rfl, k2, rfl⟩
  go_wp2_with fail
  refine ((C3 (by repeat (first | exact Below.refl _ _ | refine bl_alloc ?_ _ | refine bl_drewN ?_ _ | refine bl_trans (by assumption) ?_ | refine bl_set ?_ (by first | omega | (simp; done) | (simp; omega)) _))).out).mono ?_
  rintro e w' ⟨rfl, k3, rfl⟩
  go_wp2_with fail
  refine ((P1 (by repeat (first | exact Below.refl _ _ | refine bl_alloc ?_ _ | refine bl_drewN ?_ _ | refine bl_trans (by assumption) ?_ | refine bl_set ?_ (by first | omega | (simp; done) | (simp; omega)) _))).out).mono ?_
  rintro e w1 ⟨rfl, hbw1⟩
  obtain ⟨hcw1, hfw1⟩ := bcell hbw1
  have hzw1 := bsize hbw1
  (try simp only [World.size_alloc, World.size_setCell] at hzw1)
  have kw1_0_0 : w1.cell? ⟨w.heap.size, 0, none⟩ = some (.int .i64 0) := by rw [hcw1 _ _ (by first | (simp; done) | omega | (simp; omega))]; first | assumption | (simp [go_sem]; done) | (simp [go_sem]; done) | (simp [go_sem, *]; done)
  have fw1_0_0 : w1.frozen? ⟨w.heap.size, 0, none⟩ = false := by rw [hfw1 _ _ (by first | (simp; done) | omega | (simp; omega))]; first | assumption | (simp [go_sem]; done) | (simp [go_sem]; done) | (simp [go_sem, *]; done)
  have kw1_0_1 : w1.cell? ⟨w.heap.size, 1, none⟩ = some (.int .i64 0) := by rw [hcw1 _ _ (by first | (simp; done) | omega | (simp; omega))]; first | assumption | (simp [go_sem]; done) | (simp [go_sem]; done) | (simp [go_sem, *]; done)
  have fw1_0_1 : w1.frozen? ⟨w.heap.size, 1, none⟩ = false := by rw [hfw1 _ _ (by first | (simp; done) | omega | (simp; omega))]; first | assumption | (simp [go_sem]; done) | (simp [go_sem]; done) | (simp [go_sem, *]; done)
  have kw1_0_2 : w1.cell? ⟨w.heap.size, 2, none⟩ = some (.int .i64 0) := by rw [hcw1 _ _ (by first | (simp; done) | omega | (simp; omega))]; first | assumption | (simp [go_sem]; done) | (simp [go_sem]; done) | (simp [go_sem, *]; done)
  have fw1_0_2 : w1.frozen? ⟨w.heap.size, 2, none⟩ = false := by rw [hfw1 _ _ (by first | (simp; done) | omega | (simp; omega))]; first | assumption | (simp [go_sem]; done) | (simp [go_sem]; done) | (simp [go_sem, *]; done)
  have kw1_0_3 : w1.cell? ⟨w.heap.size, 3, none⟩ = some (.int .i64 0) := by rw [hcw1 _ _ (by first | (simp; done) | omega | (simp; omega))]; first | assumption | (simp [go_sem]; done) | (simp [go_sem]; done) | (simp [go_sem, *]; done)
  have fw1_0_3 : w1.frozen? ⟨w.heap.size, 3, none⟩ = false := by rw [hfw1 _ _ (by first | (simp; done) | omega | (simp; omega))]; first | assumption | (simp [go_sem]; done) | (simp [go_sem]; done) | (simp [go_sem, *]; done)
  have sw1_0 : w.heap.size < w1.heap.size := by first | omega | (simp at *; omega)
  have hBw1 : Below w.heap.size w w1 := (by repeat (first | exact Below.refl _ _ | refine bl_alloc ?_ _ | refine bl_drewN ?_ _ | refine bl_trans (by assumption) ?_ | refine bl_set ?_ (by first | omega | (simp; done) | (simp; omega)) _))
  have HBw1 := Lib.hid hBw1
  clear hBw1 hcw1 hfw1 hbw1
  go_wp2_with fail
  refine ((P2 (HBw1.out)).out).mono ?_
  rintro e w2 ⟨rfl, hbw2⟩
  obtain ⟨hcw2, hfw2⟩ := bcell hbw2
  have hzw2 := bsize hbw2
  (try simp only [World.size_alloc, World.size_setCell] at hzw2)
  have hkw2 : Below w1.heap.size w1 w2 := (by repeat (first | exact Below.refl _ _ | refine bl_alloc ?_ _ | refine bl_drewN ?_ _ | refine bl_trans (by assumption) ?_ | refine bl_set ?_ (by first | omega | (simp; done) | (simp; omega)) _))
  have kw2_0_0 : w2.cell? ⟨w.heap.size, 0, none⟩ = some (.int .i64 0) := cell_after hkw2 sw1_0 kw1_0_0
  have fw2_0_0 : w2.frozen? ⟨w.heap.size, 0, none⟩ = false := frozen_after hkw2 sw1_0 fw1_0_0
  have kw2_0_1 : w2.cell? ⟨w.heap.size, 1, none⟩ = some (.int .i64 0) := cell_after hkw2 sw1_0 kw1_0_1
  have fw2_0_1 : w2.frozen? ⟨w.heap.size, 1, none⟩ = false := frozen_after hkw2 sw1_0 fw1_0_1
  have kw2_0_2 : w2.cell? ⟨w.heap.size, 2, none⟩ = some (.int .i64 0) := cell_after hkw2 sw1_0 kw1_0_2
  have fw2_0_2 : w2.frozen? ⟨w.heap.size, 2, none⟩ = false := frozen_after hkw2 sw1_0 fw1_0_2
  have kw2_0_3 : w2.cell? ⟨w.heap.size, 3, none⟩ = some (.int .i64 0) := cell_after hkw2 sw1_0 kw1_0_3
  have fw2_0_3 : w2.frozen? ⟨w.heap.size, 3, none⟩ = false := frozen_after hkw2 sw1_0 fw1_0_3
  have sw2_0 : w.heap.size < w2.heap.size := size_after hkw2 sw1_0
  have hBw2 : Below w.heap.size w w2 := (by repeat (first | exact HBw1.out | exact Below.refl _ _ | refine bl_alloc ?_ _ | refine bl_drewN ?_ _ | refine bl_trans (by assumption) ?_ | refine bl_set ?_ (by first | omega | (simp; done) | (simp; omega)) _))
  have HBw2 := Lib.hid hBw2
  clear hBw2 hcw2 hfw2 hbw2 hkw2 kw1_0_0 kw1_0_1 kw1_0_2 kw1_0_3 fw1_0_0 fw1_0_1 fw1_0_2 fw1_0_3 sw1_0
  go_wp2_with fail
  refine ((P3 (HBw2.out)).out).mono ?_
  rintro e w3 ⟨rfl, hbw3⟩
  obtain ⟨hcw3, hfw3⟩ := bcell hbw3
  have hzw3 := bsize hbw3
  (try simp only [World.size_alloc, World.size_setCell] at hzw3)
  have hkw3 : Below w2.heap.size w2 w3 := (by repeat (first | exact Below.refl _ _ | refine bl_alloc ?_ _ | refine bl_drewN ?_ _ | refine bl_trans (by assumption) ?_ | refine bl_set ?_ (by first | omega | (simp; done) | (simp; omega)) _))
  have kw3_0_0 : w3.cell? ⟨w.heap.size, 0, none⟩ = some (.int .i64 0) := cell_after hkw3 sw2_0 kw2_0_0
  have fw3_0_0 : w3.frozen? ⟨w.heap.size, 0, none⟩ = false := frozen_after hkw3 sw2_0 fw2_0_0
  have kw3_0_1 : w3.cell? ⟨w.heap.size, 1, none⟩ = some (.int .i64 0) := cell_after hkw3 sw2_0 kw2_0_1
  have fw3_0_1 : w3.frozen? ⟨w.heap.size, 1, none⟩ = false := frozen_after hkw3 sw2_0 fw2_0_1
  have kw3_0_2 : w3.cell? ⟨w.heap.size, 2, none⟩ = some (.int .i64 0) := cell_after hkw3 sw2_0 kw2_0_2
  have fw3_0_2 : w3.frozen? ⟨w.heap.size, 2, none⟩ = false := frozen_after hkw3 sw2_0 fw2_0_2
  have kw3_0_3 : w3.cell? ⟨w.heap.size, 3, none⟩ = some (.int .i64 0) := cell_after hkw3 sw2_0 kw2_0_3
  have fw3_0_3 : w3.frozen? ⟨w.heap.size, 3, none⟩ = false := frozen_after hkw3 sw2_0 fw2_0_3
  have sw3_0 : w.heap.size < w3.heap.size := size_after hkw3 sw2_0
  have hBw3 : Below w.heap.size w w3 := (by repeat (first | exact HBw2.out | exact Below.refl _ _ | refine bl_alloc ?_ _ | refine bl_drewN ?_ _ | refine bl_trans (by assumption) ?_ | refine bl_set ?_ (by first | omega | (simp; done) | (simp; omega)) _))
  have HBw3 := Lib.hid hBw3
  clear hBw3 hcw3 hfw3 hbw3 hkw3 kw2_0_0 kw2_0_1 kw2_0_2 kw2_0_3 fw2_0_0 fw2_0_1 fw2_0_2 fw2_0_3 sw2_0
  go_wp2_with fail
  refine ((P4 (HBw3.out)).out).mono ?_
  rintro e w4 ⟨rfl, hbw4⟩
  obtain ⟨hcw4, hfw4⟩ := bcell hbw4
  have hzw4 := bsize hbw4
  (try simp only [World.size_alloc, World.size_setCell] at hzw4)
  have hkw4 : Below w3.heap.size w3 w4 := (by repeat (first | exact Below.refl _ _ | refine bl_alloc ?_ _ | refine bl_drewN ?_ _ | refine bl_trans (by assumption) ?_ | refine bl_set ?_ (by first | omega | (simp; done) | (simp; omega)) _))
  have kw4_0_0 : w4.cell? ⟨w.heap.size, 0, none⟩ = some (.int .i64 0) := cell_after hkw4 sw3_0 kw3_0_0
  have fw4_0_0 : w4.frozen? ⟨w.heap.size, 0, none⟩ = false := frozen_after hkw4 sw3_0 fw3_0_0
  have kw4_0_1 : w4.cell? ⟨w.heap.size, 1, none⟩ = some (.int .i64 0) := cell_after hkw4 sw3_0 kw3_0_1
  have fw4_0_1 : w4.frozen? ⟨w.heap.size, 1, none⟩ = false := frozen_after hkw4 sw3_0 fw3_0_1
  have kw4_0_2 : w4.cell? ⟨w.heap.size, 2, none⟩ = some (.int .i64 0) := cell_after hkw4 sw3_0 kw3_0_2
  have fw4_0_2 : w4.frozen? ⟨w.heap.size, 2, none⟩ = false := frozen_after hkw4 sw3_0 fw3_0_2
  have kw4_0_3 : w4.cell? ⟨w.heap.size, 3, none⟩ = some (.int .i64 0) := cell_after hkw4 sw3_0 kw3_0_3
  have fw4_0_3 : w4.frozen? ⟨w.heap.size, 3, none⟩ = false := frozen_after hkw4 sw3_0 fw3_0_3
  have sw4_0 : w.heap.size < w4.heap.size := size_after hkw4 sw3_0
  have hBw4 : Below w.heap.size w w4 := (by repeat (first | exact HBw3.out | exact Below.refl _ _ | refine bl_alloc ?_ _ | refine bl_drewN ?_ _ | refine bl_trans (by assumption) ?_ | refine bl_set ?_ (by first | omega | (simp; done) | (simp; omega)) _))
  have HBw4 := Lib.hid hBw4
  clear hBw4 hcw4 hfw4 hbw4 hkw4 kw3_0_0 kw3_0_1 kw3_0_2 kw3_0_3 fw3_0_0 fw3_0_1 fw3_0_2 fw3_0_3 sw3_0
  cases q1 : pnB x1
  · have P := Lib.hid (show piB s = false by rw [HP.out, q1]; rfl)
    go_wp2
    refine bodyPost_ret (v := .tuple #[.agg #[.int .i64 0, .int .i64 0, .int .i64 0, .int .i64 0], .bool false]) (by simp [results, Tryd.results9, go_sem, *]) rfl ⟨by rw [P.out]; rfl, (by repeat (first | exact HBw4.out | exact Below.refl _ _ | refine bl_alloc ?_ _ | refine bl_drewN ?_ _ | refine bl_trans (by assumption) ?_ | refine bl_set ?_ (by first | omega | (simp; done) | (simp; omega)) _))⟩
  cases q2 : pnB x2
  · have P := Lib.hid (show piB s = false by rw [HP.out, q2]; simp)
    go_wp2
    refine bodyPost_ret (v := .tuple #[.agg #[.int .i64 0, .int .i64 0, .int .i64 0, .int .i64 0], .bool false]) (by simp [results, Tryd.results9, go_sem, *]) rfl ⟨by rw [P.out]; rfl, (by repeat (first | exact HBw4.out | exact Below.refl _ _ | refine bl_alloc ?_ _ | refine bl_drewN ?_ _ | refine bl_trans (by assumption) ?_ | refine bl_set ?_ (by first | omega | (simp; done) | (simp; omega)) _))⟩
  cases q3 : pnB y1
  · have P := Lib.hid (show piB s = false by rw [HP.out, q3]; simp)
    go_wp2
    refine bodyPost_ret (v := .tuple #[.agg #[.int .i64 0, .int .i64 0, .int .i64 0, .int .i64 0], .bool false]) (by simp [results, Tryd.results9, go_sem, *]) rfl ⟨by rw [P.out]; rfl, (by repeat (first | exact HBw4.out | exact Below.refl _ _ | refine bl_alloc ?_ _ | refine bl_drewN ?_ _ | refine bl_trans (by assumption) ?_ | refine bl_set ?_ (by first | omega | (simp; done) | (simp; omega)) _))⟩
  cases q4 : pnB y2
  · have P := Lib.hid (show piB s = false by rw [HP.out, q4]; simp)
    go_wp2
    refine bodyPost_ret (v := .tuple #[.agg #[.int .i64 0, .int .i64 0, .int .i64 0, .int .i64 0], .bool false]) (by simp [results, Tryd.results9, go_sem, *]) rfl ⟨by rw [P.out]; rfl, (by repeat (first | exact HBw4.out | exact Below.refl _ _ | refine bl_alloc ?_ _ | refine bl_drewN ?_ _ | refine bl_trans (by assumption) ?_ | refine bl_set ?_ (by first | omega | (simp; done) | (simp; omega)) _))⟩
  have P := Lib.hid (show piB s = okIs a b c d by rw [HP.out, q1, q2, q3, q4]; rfl)
  clear HP
  have PP := Lib.hid (show (Value.tuple #[.agg #[.int .i64 (Z (piB s) a), .int .i64 (Z (piB s) b), .int .i64 (Z (piB s) c), .int .i64 (Z (piB s) d)], .bool (piB s)]) = .tuple #[.agg #[.int .i64 (Z (okIs a b c d) a), .int .i64 (Z (okIs a b c d) b), .int .i64 (Z (okIs a b c d) c), .int .i64 (Z (okIs a b c d) d)], .bool (okIs a b c d)] by rw [P.out])
  clear P
  generalize Z (okIs a b c d) a = z0 at *
  generalize Z (okIs a b c d) b = z1 at *
  generalize Z (okIs a b c d) c = z2 at *
  generalize Z (okIs a b c d) d = z3 at *
  generalize okIs a b c d = zk at *
  go_wp2_with fail
  refine ((HI _).out).mono ?_
  rintro e w5 ⟨rfl, hbw5⟩
  obtain ⟨hcw5, hfw5⟩ := bcell hbw5
  have hzw5 := bsize hbw5
  (try simp only [World.size_alloc, World.size_setCell] at hzw5)
  have hkw5 : Below w4.heap.size w4 w5 := (by repeat (first | exact Below.refl _ _ | refine bl_alloc ?_ _ | refine bl_drewN ?_ _ | refine bl_trans (by assumption) ?_ | refine bl_set ?_ (by first | omega | (simp; done) | (simp; omega)) _))
  have kw5_0_0 : w5.cell? ⟨w.heap.size, 0, none⟩ = some (.int .i64 0) := cell_after hkw5 sw4_0 kw4_0_0
  have fw5_0_0 : w5.frozen? ⟨w.heap.size, 0, none⟩ = false := frozen_after hkw5 sw4_0 fw4_0_0
  have kw5_0_1 : w5.cell? ⟨w.heap.size, 1, none⟩ = some (.int .i64 0) := cell_after hkw5 sw4_0 kw4_0_1
  have fw5_0_1 : w5.frozen? ⟨w.heap.size, 1, none⟩ = false := frozen_after hkw5 sw4_0 fw4_0_1
  have kw5_0_2 : w5.cell? ⟨w.heap.size, 2, none⟩ = some (.int .i64 0) := cell_after hkw5 sw4_0 kw4_0_2
  have fw5_0_2 : w5.frozen? ⟨w.heap.size, 2, none⟩ = false := frozen_after hkw5 sw4_0 fw4_0_2
  have kw5_0_3 : w5.cell? ⟨w.heap.size, 3, none⟩ = some (.int .i64 0) := cell_after hkw5 sw4_0 kw4_0_3
  have fw5_0_3 : w5.frozen? ⟨w.heap.size, 3, none⟩ = false := frozen_after hkw5 sw4_0 fw4_0_3
  have sw5_0 : w.heap.size < w5.heap.size := size_after hkw5 sw4_0
  have hBw5 : Below w.heap.size w w5 := (by repeat (first | exact HBw4.out | exact Below.refl _ _ | refine bl_alloc ?_ _ | refine bl_drewN ?_ _ | refine bl_trans (by assumption) ?_ | refine bl_set ?_ (by first | omega | (simp; done) | (simp; omega)) _))
  have HBw5 := Lib.hid hBw5
  clear hBw5 hcw5 hfw5 hbw5 hkw5 kw4_0_0 kw4_0_1 kw4_0_2 kw4_0_3 fw4_0_0 fw4_0_1 fw4_0_2 fw4_0_3 sw4_0
  go_wp2
  refine bodyPost_ret (v := .tuple #[.agg #[.int .i64 z0, .int .i64 z1, .int .i64 z2, .int .i64 z3], .bool zk]) (by simp [results, Tryd.results9, go_sem, *]) rfl ⟨by rw [PP.out], (by repeat (first | exact HBw5.out | exact Below.refl _ _ | refine bl_alloc ?_ _ | refine bl_drewN ?_ _ | refine bl_trans (by assumption) ?_ | refine bl_set ?_ (by first | omega | (simp; done) | (simp; omega)) _))⟩
end Go.Proofs.YtdlknbdgbmjkpaaDoor
