/- Spots that are read back, by the program. -/
import Derived.Test.YtppgcaennhghoaaDoorLWY
import Derived.Test.YtppgcaennhghoaaDoorT6
namespace Go.Proofs.YtppgcaennhghoaaDoor
open Go.RowKit
set_option linter.unusedVariables false
set_option linter.unusedSimpArgs false
def ReadS (s : ByteArray) (a b : Int) (ok : Bool) : Prop := ParsedS s a b ok ∧ (ok = false → a = 0 ∧ b = 0)
theorem readS_unique {s : ByteArray} {a b a' b' : Int} {ok ok' : Bool} (h : ReadS s a b ok) (h' : ReadS s a' b' ok') : a = a' ∧ b = b' ∧ ok = ok' := by
  obtain ⟨⟨h1, h2⟩, h3⟩ := h
  obtain ⟨⟨h1', h2'⟩, h3'⟩ := h'
  cases ok <;> cases ok'
  · obtain ⟨rfl, rfl⟩ := h3 rfl
    obtain ⟨rfl, rfl⟩ := h3' rfl
    exact ⟨rfl, rfl, rfl⟩
  · obtain ⟨q1, q2⟩ := h1' rfl
    exact absurd (h2 _ _ q1 q2) (by simp)
  · obtain ⟨q1, q2⟩ := h1 rfl
    exact absurd (h2' _ _ q1 q2) (by simp)
  · obtain ⟨q1, q2⟩ := h1 rfl
    obtain ⟨q1', q2'⟩ := h1' rfl
    obtain ⟨e1, e2⟩ := txS_inj q1 q1' (q2.trans q2'.symm)
    exact ⟨e1, e2, rfl⟩
set_option maxHeartbeats 400000 in
theorem spec_ParseSpot (s : ByteArray) (hs : s.size ≤ 1048576) (w : World) :
    Calls Tryd.prog 8 #[.string s] w fun e w' => ∃ a b ok, e = .returned (.tuple #[.agg #[.int .i64 a, .int .i64 b], .bool ok]) ∧ ReadS s a b ok ∧ Below w.heap.size w w' := by
  go_enter Tryd.func8, Tryd.ntmps8
  go_wp2_with fail
  refine (lwParse_any s hs _).mono ?_
  rintro e w1 ⟨a, b, ok, rfl, hP, hb⟩
  have HP := Lib.hid hP
  clear hP
  obtain ⟨hc, hf⟩ := bcell hb
  have hz := bsize hb
  (try simp only [World.size_alloc] at hz)
  have hz0 : w.heap.size < w1.heap.size := by omega
  cases ok
  · go_wp2
    refine bodyPost_ret (v := .tuple #[.agg #[.int .i64 0, .int .i64 0], .bool false]) (by simp [results, Tryd.results8, go_sem, *]) rfl ⟨_, _, _, rfl, ⟨⟨(fun e => by cases e), HP.out.2⟩, fun _ => ⟨rfl, rfl⟩⟩, (by repeat (first | exact Below.refl _ _ | refine bl_alloc ?_ _ | refine bl_drewN ?_ _ | refine bl_trans (by assumption) ?_ | refine bl_set ?_ (by first | omega | (simp; done) | (simp; omega)) _))⟩
  · go_wp2
    refine bodyPost_ret (v := .tuple #[.agg #[.int .i64 a, .int .i64 b], .bool true]) (by simp [results, Tryd.results8, go_sem, *]) rfl ⟨_, _, _, rfl, ⟨HP.out, (fun e => by cases e)⟩, (by repeat (first | exact Below.refl _ _ | refine bl_alloc ?_ _ | refine bl_drewN ?_ _ | refine bl_trans (by assumption) ?_ | refine bl_set ?_ (by first | omega | (simp; done) | (simp; omega)) _))⟩
def cutA (s : ByteArray) (b : UInt8) : ByteArray := ⟨(Lib.cut s.data.toList [b]).1.toArray⟩
def cutB (s : ByteArray) (b : UInt8) : ByteArray := ⟨(Lib.cut s.data.toList [b]).2.1.toArray⟩
theorem cut_size (s : ByteArray) (b : UInt8) : (cutA s b).size ≤ s.size ∧ (cutB s b).size ≤ s.size := by
  have hl : s.data.toList.length = s.size := by rw [Array.length_toList]; rfl
  have h1 : (cutA s b).size = (Lib.cut s.data.toList [b]).1.length := rfl
  have h2 : (cutB s b).size = (Lib.cut s.data.toList [b]).2.1.length := rfl
  rw [h1, h2, ← hl]
  unfold Lib.cut
  split
  · simp only [List.length_take, List.length_drop]; omega
  · simp
theorem cut_key (t : ByteArray) (b : UInt8) (hne : (cutB t b).data.toList ≠ []) : t.data.toList = (cutA t b).data.toList ++ b :: (cutB t b).data.toList := by
  have ha : (cutA t b).data.toList = (Lib.cut t.data.toList [b]).1 := by simp [cutA]
  have hb : (cutB t b).data.toList = (Lib.cut t.data.toList [b]).2.1 := by simp [cutB]
  rw [ha, hb]
  rw [hb] at hne
  rcases hq : Lib.cut t.data.toList [b] with ⟨x, y, f⟩
  rw [hq] at hne
  cases f
  · exact absurd (cut_lost hq).2 hne
  · exact cut_found hq
theorem partsS_sound {s : ByteArray} (h1 : psB (cutA s 44) = true) (h2 : pnB (cutB s 44) = true) : txS (psV (cutA s 44)) (pnV (cutB s 44)) = s := by
  have e1 := ps_sound h1
  obtain ⟨p2, e2⟩ := pn_sound h2
  apply bytes_eq
  rw [txS_list _ _ p2, ← e1, ← e2]
  exact (cut_key s 44 (by rw [e2]; exact digits_ne _)).symm
theorem partsS_complete {s : ByteArray} {a b : Int} (h : okSp a b = true) (e : txS a b = s) :
    (psB (cutA s 44) = true ∧ pnB (cutB s 44) = true) ∧ psV (cutA s 44) = a ∧ pnV (cutB s 44) = b := by
  obtain ⟨⟨⟨a0, a1⟩, b0, b1⟩, e1, n1, n2, _⟩ := txS_parts h
  rw [e] at e1
  have q1 := cut_hit (y := Lib.decDigits b.toNat) n1
  rw [← e1] at q1
  have x1 : (cutA s 44).data.toList = Lib.itoa a := by simp [cutA, q1]
  have y1 : (cutB s 44).data.toList = Lib.decDigits b.toNat := by
    show (Lib.cut s.data.toList [44]).2.1 = _
    rw [q1]
  obtain ⟨r1, s1⟩ := ps_complete (n := a) (by omega) (by omega) x1
  obtain ⟨r2, s2⟩ := pn_complete (m := b.toNat) (by omega) y1
  exact ⟨⟨r1, r2⟩, s1, by rw [s2]; omega⟩
def ptB (s : ByteArray) : Bool := (psB (cutA s 44) && pnB (cutB s 44)) && okSp (psV (cutA s 44)) (pnV (cutB s 44))
def ZT (ok : Bool) (x : Int) : Int := if ok then x else 0
theorem pt_read (s : ByteArray) : ReadS s (ZT (ptB s) (psV (cutA s 44))) (ZT (ptB s) (pnV (cutB s 44))) (ptB s) := by
  refine ⟨⟨fun h => ?_, fun a b h e => ?_⟩, fun h => by simp [ZT, h]⟩
  · have h' := h
    simp only [ptB, Bool.and_eq_true] at h'
    simp only [ZT, h, if_true]
    exact ⟨h'.2, partsS_sound h'.1.1 h'.1.2⟩
  · obtain ⟨⟨h1, h2⟩, e1, e2⟩ := partsS_complete h e
    rw [ptB, h1, h2, e1, e2, h]; rfl
def MaxL (w : World) : Prop := ∃ m, w.cell? ⟨0, 0, none⟩ = some (.int .i64 m)
theorem MaxL.below {w w' : World} (h : MaxL w) (hb : Below w.heap.size w w') : MaxL w' := by
  obtain ⟨m, hm⟩ := h
  have hlt : 0 < w.heap.size := by
    by_cases c : 0 < w.heap.size
    · exact c
    · simp [World.cell?, Array.getElem?_eq_none (Nat.le_of_not_lt c)] at hm
  exact ⟨m, by rw [(bcell hb).1 _ _ hlt]; exact hm⟩
theorem cut_max (s : ByteArray) (b : UInt8) (hs : s.size ≤ 1048576) {w0 w : World} (h : MaxL w0) (hb : Below w0.heap.size w0 w) :
    Calls Tryd.prog 16 #[.string s, .string ⟨#[b]⟩] w fun e w' => e = .returned (.tuple #[.string (cutA s b), .string (cutB s b), .bool (Lib.cut s.data.toList [b]).2.2]) ∧ ∃ n, w' = w.drewN n := by
  obtain ⟨m, hm⟩ := h.below hb
  exact Tryd.strings_Cut s ⟨#[b]⟩ m w (by omega) hm
theorem parse_at (s : ByteArray) (hs : s.size ≤ 1048576) {w0 w : World} (T : Tab w0) (E : Errs w0) (hb : Below w0.heap.size w0 w) :
    Calls Tryd.prog 18 #[.string s] w fun e w' => e = .returned (.tuple #[.int .i64 (pnV s), .bool (pnB s)]) ∧ Below w.heap.size w w' := parseNumber_any s hs w (T.below hb) (E.below hb)
theorem parse_atS (s : ByteArray) (hs : s.size ≤ 1048576) {w0 w : World} (T : Tab w0) (E : Errs w0) (hb : Below w0.heap.size w0 w) :
    Calls Tryd.prog 17 #[.string s] w fun e w' => e = .returned (.tuple #[.int .i64 (psV s), .bool (psB s)]) ∧ Below w.heap.size w w' := parseSigned_any s hs w (T.below hb) (E.below hb)
set_option maxHeartbeats 1000000 in
theorem impl_ParseSpot (s : ByteArray) (hs : s.size ≤ 1048576) (w : World) (T : Tab w) (E : Errs w) (M : MaxL w) :
    Calls Tryd.prog 9 #[.string s] w fun e w' => e = .returned (.tuple #[.agg #[.int .i64 (ZT (ptB s) (psV (cutA s 44))), .int .i64 (ZT (ptB s) (pnV (cutB s 44)))], .bool (ptB s)]) ∧ Below w.heap.size w w' := by
  obtain ⟨s1, s2⟩ := cut_size s 44
  have HP := Lib.hid (show ptB s = ((psB (cutA s 44) && pnB (cutB s 44)) && okSp (psV (cutA s 44)) (pnV (cutB s 44))) from rfl)
  have C1 := fun {W : World} (hb : Below w.heap.size w W) => Lib.hid (cut_max s 44 hs M hb)
  have P1 := fun {W : World} (hb : Below w.heap.size w W) => Lib.hid (parse_atS (cutA s 44) (by omega) T E hb)
  have P2 := fun {W : World} (hb : Below w.heap.size w W) => Lib.hid (parse_at (cutB s 44) (by omega) T E hb)
  clear T E M
  generalize (Lib.cut s.data.toList [44]).2.2 = f1 at *
  generalize psV (cutA s 44) = a at *
  generalize pnV (cutB s 44) = b at *
  generalize psB (cutA s 44) = k1 at *
  generalize pnB (cutB s 44) = k2 at *
  generalize cutA s 44 = x1 at *
  generalize cutB s 44 = x2 at *
  generalize ptB s = pt at *
  have HZ : Hid (∀ ok x, ZT ok x = if ok then x else 0) := Lib.hid fun _ _ => rfl
  go_enter Tryd.func9, Tryd.ntmps9
  go_wp2_with fail
  refine ((C1 (by repeat (first | exact Below.refl _ _ | refine bl_alloc ?_ _ | refine bl_drewN ?_ _ | refine bl_trans (by assumption) ?_ | refine bl_set ?_ (by first | omega | (simp; done) | (simp; omega)) _))).out).mono ?_
  rintro e w' ⟨rfl, m1, rfl⟩
  go_wp2_with fail
  refine ((P1 (by repeat (first | exact Below.refl _ _ | refine bl_alloc ?_ _ | refine bl_drewN ?_ _ | refine bl_trans (by assumption) ?_ | refine bl_set ?_ (by first | omega | (simp; done) | (simp; omega)) _))).out).mono ?_
  rintro e w1 ⟨rfl, hb1⟩
  obtain ⟨hc1, hf1⟩ := bcell hb1
  have hz1 := bsize hb1
  (try simp only [World.size_alloc, World.size_drewN] at hz1)
  have z1 : w.heap.size < w1.heap.size := by simp at hz1; omega
  go_wp2_with fail
  refine ((P2 (by repeat (first | exact Below.refl _ _ | refine bl_alloc ?_ _ | refine bl_drewN ?_ _ | refine bl_trans (by assumption) ?_ | refine bl_set ?_ (by first | omega | (simp; done) | (simp; omega)) _))).out).mono ?_
  rintro e w2 ⟨rfl, hb2⟩
  obtain ⟨hc2, hf2⟩ := bcell hb2
  have hz2 := bsize hb2
  have z2 : w.heap.size < w2.heap.size := by omega
  have k3 : Below w.heap.size w w2 := (by repeat (first | exact Below.refl _ _ | refine bl_alloc ?_ _ | refine bl_drewN ?_ _ | refine bl_trans (by assumption) ?_ | refine bl_set ?_ (by first | omega | (simp; done) | (simp; omega)) _))
  have K3 := Lib.hid k3
  clear k3
  cases k1
  · obtain rfl : pt = false := by rw [HP.out]; rfl
    go_wp2
    refine bodyPost_ret (v := .tuple #[.agg #[.int .i64 0, .int .i64 0], .bool false]) (by simp [results, Tryd.results9, go_sem, *]) rfl ⟨rfl, ?_⟩
    repeat (first | exact K3.out | refine bl_alloc ?_ _ | refine bl_set ?_ (by first | omega | (simp; done) | (simp; omega)) _)
  cases k2
  · obtain rfl : pt = false := by rw [HP.out]; rfl
    go_wp2
    refine bodyPost_ret (v := .tuple #[.agg #[.int .i64 0, .int .i64 0], .bool false]) (by simp [results, Tryd.results9, go_sem, *]) rfl ⟨rfl, ?_⟩
    repeat (first | exact K3.out | refine bl_alloc ?_ _ | refine bl_set ?_ (by first | omega | (simp; done) | (simp; omega)) _)
  have P := Lib.hid (show pt = okSp a b by rw [HP.out]; rfl)
  clear HP
  have dr0 : w2.cell? ⟨w.heap.size, 0, none⟩ = some (.int .i64 0) := by simp [*]
  have dr1 : w2.cell? ⟨w.heap.size, 1, none⟩ = some (.int .i64 0) := by simp [*]
  have fr0 : w2.frozen? ⟨w.heap.size, 0, none⟩ = false := by simp [*]
  have fr1 : w2.frozen? ⟨w.heap.size, 1, none⟩ = false := by simp [*]
  clear hc1 hf1 hc2 hf2 hb1 hb2
  go_wp2_with fail
  refine (onlySpot_any _ _ _).mono ?_
  rintro e w4 ⟨rfl, hb4⟩
  have e0 := cell_after hb4 z2 dr0
  have e1 := cell_after hb4 z2 dr1
  have g0 := frozen_after hb4 z2 fr0
  have g1 := frozen_after hb4 z2 fr1
  have K4 := Lib.hid (bl_trans hb4 K3.out)
  have z4 := size_after hb4 z2
  clear hb4 dr0 dr1 fr0 fr1
  cases hok : okSp a b
  · obtain rfl : pt = false := by rw [P.out, hok]
    go_wp2
    refine bodyPost_ret (v := .tuple #[.agg #[.int .i64 0, .int .i64 0], .bool false]) (by simp [results, Tryd.results9, go_sem, Z, *]) rfl ⟨rfl, ?_⟩
    repeat (first | exact K4.out | refine bl_alloc ?_ _ | refine bl_set ?_ (by first | omega | (simp; done) | (simp; omega)) _)
  · obtain rfl : pt = true := by rw [P.out, hok]
    go_wp2
    refine bodyPost_ret (v := .tuple #[.agg #[.int .i64 a, .int .i64 b], .bool true]) (by simp [results, Tryd.results9, go_sem, Z, *]) rfl ⟨rfl, ?_⟩
    repeat (first | exact K4.out | refine bl_alloc ?_ _ | refine bl_set ?_ (by first | omega | (simp; done) | (simp; omega)) _)
end Go.Proofs.YtppgcaennhghoaaDoor
