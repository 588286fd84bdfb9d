/- Boxes that are read back, by the program. -/
import Derived.Test.YtjboffbhkffhkaaDoorLNY
import Derived.Test.YtjboffbhkffhkaaDoorT6
namespace Go.Proofs.YtjboffbhkffhkaaDoor
open Go.RowKit
set_option linter.unusedVariables false
set_option linter.unusedSimpArgs false
def ReadT (s : ByteArray) (a b : Int) (ok : Bool) : Prop := ParsedT s a b ok ∧ (ok = false → a = 0 ∧ b = 0)
theorem readT_unique {s : ByteArray} {a b a' b' : Int} {ok ok' : Bool} (h : ReadT s a b ok) (h' : ReadT s a' b' ok') : a = a' ∧ b = b' ∧ ok = ok' := by
  obtain ⟨⟨h1, h2⟩, h3⟩ := h
  obtain ⟨⟨h1', h2'⟩, h3'⟩ := h'
  cases ok <;> cases ok'
  · obtain ⟨rfl, rfl⟩ := h3 rfl
    obtain ⟨rfl, rfl⟩ := h3' rfl
    exact ⟨rfl, rfl, rfl⟩
  · obtain ⟨q1, q2⟩ := h1' rfl
    exact absurd (h2 _ _ q1 q2) (by simp)
  · obtain ⟨q1, q2⟩ := h1 rfl
    exact absurd (h2' _ _ q1 q2) (by simp)
  · obtain ⟨q1, q2⟩ := h1 rfl
    obtain ⟨q1', q2'⟩ := h1' rfl
    obtain ⟨e1, e2⟩ := txB_inj q1 q1' (q2.trans q2'.symm)
    exact ⟨e1, e2, rfl⟩
set_option maxHeartbeats 400000 in
theorem spec_ParseBox (s : ByteArray) (hs : s.size ≤ 1048576) (w : World) :
    Calls Tryd.prog 8 #[.string s] w fun e w' => ∃ a b ok, e = .returned (.tuple #[.agg #[.int .i64 a, .int .i64 b], .bool ok]) ∧ ReadT s a b ok ∧ Below w.heap.size w w' := by
  go_enter Tryd.func8, Tryd.ntmps8
  go_wp2_with fail
  refine (lnParse_any s hs _).mono ?_
  rintro e w1 ⟨a, b, ok, rfl, hP, hb⟩
  have HP := Lib.hid hP
  clear hP
  obtain ⟨hc, hf⟩ := bcell hb
  have hz := bsize hb
  (try simp only [World.size_alloc] at hz)
  have hz0 : w.heap.size < w1.heap.size := by omega
  cases ok
  · go_wp2
    refine bodyPost_ret (v := .tuple #[.agg #[.int .i64 0, .int .i64 0], .bool false]) (by simp [results, Tryd.results8, go_sem, *]) rfl ⟨_, _, _, rfl, ⟨⟨(fun e => by cases e), HP.out.2⟩, fun _ => ⟨rfl, rfl⟩⟩, (by repeat (first | exact Below.refl _ _ | refine bl_alloc ?_ _ | refine bl_drewN ?_ _ | refine bl_trans (by assumption) ?_ | refine bl_set ?_ (by first | omega | (simp; done) | (simp; omega)) _))⟩
  · go_wp2
    refine bodyPost_ret (v := .tuple #[.agg #[.int .i64 a, .int .i64 b], .bool true]) (by simp [results, Tryd.results8, go_sem, *]) rfl ⟨_, _, _, rfl, ⟨HP.out, (fun e => by cases e)⟩, (by repeat (first | exact Below.refl _ _ | refine bl_alloc ?_ _ | refine bl_drewN ?_ _ | refine bl_trans (by assumption) ?_ | refine bl_set ?_ (by first | omega | (simp; done) | (simp; omega)) _))⟩
def cutA (s : ByteArray) (b : UInt8) : ByteArray := ⟨(Lib.cut s.data.toList [b]).1.toArray⟩
def cutB (s : ByteArray) (b : UInt8) : ByteArray := ⟨(Lib.cut s.data.toList [b]).2.1.toArray⟩
theorem cut_size (s : ByteArray) (b : UInt8) : (cutA s b).size ≤ s.size ∧ (cutB s b).size ≤ s.size := by
  have hl : s.data.toList.length = s.size := by rw [Array.length_toList]; rfl
  have h1 : (cutA s b).size = (Lib.cut s.data.toList [b]).1.length := rfl
  have h2 : (cutB s b).size = (Lib.cut s.data.toList [b]).2.1.length := rfl
  rw [h1, h2, ← hl]
  unfold Lib.cut
  split
  · simp only [List.length_take, List.length_drop]; omega
  · simp
theorem pn_nil : pnB ⟨#[]⟩ = false := by
  cases h : pnB ⟨#[]⟩
  · rfl
  · have := (pn_sound h).2
    exact absurd this.symm (digits_ne _)
theorem cut_key (t : ByteArray) (b : UInt8) (hne : (cutB t b).data.toList ≠ []) : t.data.toList = (cutA t b).data.toList ++ b :: (cutB t b).data.toList := by
  have ha : (cutA t b).data.toList = (Lib.cut t.data.toList [b]).1 := by simp [cutA]
  have hb : (cutB t b).data.toList = (Lib.cut t.data.toList [b]).2.1 := by simp [cutB]
  rw [ha, hb]
  rw [hb] at hne
  rcases hq : Lib.cut t.data.toList [b] with ⟨x, y, f⟩
  rw [hq] at hne
  cases f
  · exact absurd (cut_lost hq).2 hne
  · exact cut_found hq
theorem partsT_sound {s : ByteArray} (h1 : pnB (cutA s 42) = true) (h2 : pnB (cutB s 42) = true) : txB (pnV (cutA s 42)) (pnV (cutB s 42)) = s := by
  obtain ⟨p1, e1⟩ := pn_sound h1
  obtain ⟨p2, e2⟩ := pn_sound h2
  apply bytes_eq
  rw [txB_list _ _ p1 p2, ← e1, ← e2]
  exact (cut_key s 42 (by rw [e2]; exact digits_ne _)).symm
theorem partsT_complete {s : ByteArray} {a b : Int} (h : okBx a b = true) (e : txB a b = s) :
    (pnB (cutA s 42) = true ∧ pnB (cutB s 42) = true) ∧ pnV (cutA s 42) = a ∧ pnV (cutB s 42) = b := by
  obtain ⟨x, y, ⟨rfl, rfl⟩, ⟨l1, l2⟩, e1, n1, n2, _⟩ := txB_parts h
  rw [e] at e1
  have q1 := cut_hit (y := Lib.decDigits y) n1
  rw [← e1] at q1
  have a1 : (cutA s 42).data.toList = Lib.decDigits x := by simp [cutA, q1]
  have b1 : (cutB s 42).data.toList = Lib.decDigits y := by
    show (Lib.cut s.data.toList [42]).2.1 = _
    rw [q1]
  obtain ⟨r1, s1⟩ := pn_complete l1 a1
  obtain ⟨r2, s2⟩ := pn_complete l2 b1
  exact ⟨⟨r1, r2⟩, s1, s2⟩
def ptB (s : ByteArray) : Bool := (pnB (cutA s 42) && pnB (cutB s 42)) && okBx (pnV (cutA s 42)) (pnV (cutB s 42))
def ZT (ok : Bool) (x : Int) : Int := if ok then x else 0
theorem pt_read (s : ByteArray) : ReadT s (ZT (ptB s) (pnV (cutA s 42))) (ZT (ptB s) (pnV (cutB s 42))) (ptB s) := by
  refine ⟨⟨fun h => ?_, fun a b h e => ?_⟩, fun h => by simp [ZT, h]⟩
  · have h' := h
    simp only [ptB, Bool.and_eq_true] at h'
    simp only [ZT, h, if_true]
    exact ⟨h'.2, partsT_sound h'.1.1 h'.1.2⟩
  · obtain ⟨⟨h1, h2⟩, e1, e2⟩ := partsT_complete h e
    rw [ptB, h1, h2, e1, e2, h]; rfl
def MaxL (w : World) : Prop := ∃ m, w.cell? ⟨0, 0, none⟩ = some (.int .i64 m)
theorem MaxL.below {w w' : World} (h : MaxL w) (hb : Below w.heap.size w w') : MaxL w' := by
  obtain ⟨m, hm⟩ := h
  have hlt : 0 < w.heap.size := by
    by_cases c : 0 < w.heap.size
    · exact c
    · simp [World.cell?, Array.getElem?_eq_none (Nat.le_of_not_lt c)] at hm
  exact ⟨m, by rw [(bcell hb).1 _ _ hlt]; exact hm⟩
theorem cut_max (s : ByteArray) (b : UInt8) (hs : s.size ≤ 1048576) {w0 w : World} (h : MaxL w0) (hb : Below w0.heap.size w0 w) :
    Calls Tryd.prog 16 #[.string s, .string ⟨#[b]⟩] w fun e w' => e = .returned (.tuple #[.string (cutA s b), .string (cutB s b), .bool (Lib.cut s.data.toList [b]).2.2]) ∧ ∃ n, w' = w.drewN n := by
  obtain ⟨m, hm⟩ := h.below hb
  exact Tryd.strings_Cut s ⟨#[b]⟩ m w (by omega) hm
theorem parse_at (s : ByteArray) (hs : s.size ≤ 1048576) {w0 w : World} (T : Tab w0) (E : Errs w0) (hb : Below w0.heap.size w0 w) :
    Calls Tryd.prog 17 #[.string s] w fun e w' => e = .returned (.tuple #[.int .i64 (pnV s), .bool (pnB s)]) ∧ Below w.heap.size w w' := parseNumber_any s hs w (T.below hb) (E.below hb)
set_option maxHeartbeats 1000000 in
theorem impl_ParseBox (s : ByteArray) (hs : s.size ≤ 1048576) (w : World) (T : Tab w) (E : Errs w) (M : MaxL w) :
    Calls Tryd.prog 9 #[.string s] w fun e w' => e = .returned (.tuple #[.agg #[.int .i64 (ZT (ptB s) (pnV (cutA s 42))), .int .i64 (ZT (ptB s) (pnV (cutB s 42)))], .bool (ptB s)]) ∧ Below w.heap.size w w' := by
  obtain ⟨s1, s2⟩ := cut_size s 42
  have HZ : Hid (∀ ok x, ZT ok x = if ok then x else 0) := Lib.hid fun _ _ => rfl
  have HP := Lib.hid (show ptB s = ((pnB (cutA s 42) && pnB (cutB s 42)) && okBx (pnV (cutA s 42)) (pnV (cutB s 42))) from rfl)
  have C1 := fun {W : World} (hb : Below w.heap.size w W) => Lib.hid (cut_max s 42 hs M hb)
  have P1 := fun {W : World} (hb : Below w.heap.size w W) => Lib.hid (parse_at (cutA s 42) (by omega) T E hb)
  have P2 := fun {W : World} (hb : Below w.heap.size w W) => Lib.hid (parse_at (cutB s 42) (by omega) T E hb)
  clear T E M
  generalize (Lib.cut s.data.toList [42]).2.2 = f1 at *
  generalize pnV (cutA s 42) = a at *
  generalize pnV (cutB s 42) = b at *
  generalize cutA s 42 = x1 at *
  generalize cutB s 42 = x2 at *
  go_enter Tryd.func9, Tryd.ntmps9
  go_wp2_with fail
  refine ((C1 (by repeat (first | exact Below.refl _ _ | refine bl_alloc ?_ _ | refine bl_drewN ?_ _ | refine bl_trans (by assumption) ?_ | refine bl_set ?_ (by first | omega | (simp; done) | (simp; omega)) _))).out).mono ?_
  rintro e w' ⟨rfl, k1, rfl⟩
  go_wp2_with fail
  refine ((P1 (by repeat (first | exact Below.refl _ _ | refine bl_alloc ?_ _ | refine bl_drewN ?_ _ | refine bl_trans (by assumption) ?_ | refine bl_set ?_ (by first | omega | (simp; done) | (simp; omega)) _))).out).mono ?_
  rintro e w1 ⟨rfl, hb1⟩
  obtain ⟨hc1, hf1⟩ := bcell hb1
  have hz1 := bsize hb1
  (try simp only [World.size_alloc, World.size_drewN] at hz1)
  have z1 : w.heap.size < w1.heap.size := by simp at hz1; omega
  go_wp2_with fail
  refine ((P2 (by repeat (first | exact Below.refl _ _ | refine bl_alloc ?_ _ | refine bl_drewN ?_ _ | refine bl_trans (by assumption) ?_ | refine bl_set ?_ (by first | omega | (simp; done) | (simp; omega)) _))).out).mono ?_
  rintro e w2 ⟨rfl, hb2⟩
  obtain ⟨hc2, hf2⟩ := bcell hb2
  have hz2 := bsize hb2
  have z2 : w.heap.size < w2.heap.size := by omega
  have k3 : Below w.heap.size w w2 := (by repeat (first | exact Below.refl _ _ | refine bl_alloc ?_ _ | refine bl_drewN ?_ _ | refine bl_trans (by assumption) ?_ | refine bl_set ?_ (by first | omega | (simp; done) | (simp; omega)) _))
  have K3 := Lib.hid k3
  clear k3
  cases q1 : pnB x1
  · have P := Lib.hid (show ptB s = false by rw [HP.out, q1]; rfl)
    go_wp2
    refine bodyPost_ret (v := .tuple #[.agg #[.int .i64 0, .int .i64 0], .bool false]) (by simp [results, Tryd.results9, go_sem, *]) rfl ⟨by rw [P.out]; rfl, ?_⟩
    repeat (first | exact K3.out | refine bl_alloc ?_ _ | refine bl_set ?_ (by first | omega | (simp; done) | (simp; omega)) _)
  cases q2 : pnB x2
  · have P := Lib.hid (show ptB s = false by rw [HP.out, q1, q2]; rfl)
    go_wp2
    refine bodyPost_ret (v := .tuple #[.agg #[.int .i64 0, .int .i64 0], .bool false]) (by simp [results, Tryd.results9, go_sem, *]) rfl ⟨by rw [P.out]; rfl, ?_⟩
    repeat (first | exact K3.out | refine bl_alloc ?_ _ | refine bl_set ?_ (by first | omega | (simp; done) | (simp; omega)) _)
  have P := Lib.hid (show ptB s = okBx a b by rw [HP.out, q1, q2]; rfl)
  clear HP
  have dr0 : w2.cell? ⟨w.heap.size, 0, none⟩ = some (.int .i64 0) := by simp [*]
  have dr1 : w2.cell? ⟨w.heap.size, 1, none⟩ = some (.int .i64 0) := by simp [*]
  have fr0 : w2.frozen? ⟨w.heap.size, 0, none⟩ = false := by simp [*]
  have fr1 : w2.frozen? ⟨w.heap.size, 1, none⟩ = false := by simp [*]
  clear hc1 hf1 hc2 hf2 hb1 hb2
  go_wp2_with fail
  refine (impl_IsBox _ _ _).mono ?_
  rintro e w4 ⟨rfl, hb4⟩
  obtain ⟨hc4, hf4⟩ := bcell hb4
  have hz4 := bsize hb4
  (try simp only [World.size_alloc] at hz4)
  have e0 : w4.cell? ⟨w.heap.size, 0, none⟩ = some (.int .i64 0) := by rw [hc4 _ _ (by simp; omega)]; simp [go_sem, *]
  have e1 : w4.cell? ⟨w.heap.size, 1, none⟩ = some (.int .i64 0) := by rw [hc4 _ _ (by simp; omega)]; simp [go_sem, *]
  have g0 : w4.frozen? ⟨w.heap.size, 0, none⟩ = false := by rw [hf4 _ _ (by simp; omega)]; simp [go_sem, *]
  have g1 : w4.frozen? ⟨w.heap.size, 1, none⟩ = false := by rw [hf4 _ _ (by simp; omega)]; simp [go_sem, *]
  have c0 : w4.cell? ⟨w2.heap.size, 0, none⟩ = some (.int .i64 a) := by rw [hc4 _ _ (by simp)]; simp [go_sem]
  have c1 : w4.cell? ⟨w2.heap.size, 1, none⟩ = some (.int .i64 b) := by rw [hc4 _ _ (by simp)]; simp [go_sem]
  have k4 : Below w.heap.size w w4 := bl_trans hb4 (bl_alloc K3.out _)
  have K4 := Lib.hid k4
  have z4 : w.heap.size < w4.heap.size := by omega
  clear k4 hc4 hf4 hb4 dr0 dr1 fr0 fr1
  cases hok : okBx a b
  · go_wp2
    refine bodyPost_ret (v := .tuple #[.agg #[.int .i64 0, .int .i64 0], .bool false]) (by simp [results, Tryd.results9, go_sem, *]) rfl ⟨by rw [P.out, hok]; rfl, ?_⟩
    repeat (first | exact K4.out | refine bl_alloc ?_ _ | refine bl_set ?_ (by first | omega | (simp; done) | (simp; omega)) _)
  · go_wp2
    refine bodyPost_ret (v := .tuple #[.agg #[.int .i64 a, .int .i64 b], .bool true]) (by simp [results, Tryd.results9, go_sem, *]) rfl ⟨by rw [P.out, hok]; rfl, ?_⟩
    repeat (first | exact K4.out | refine bl_alloc ?_ _ | refine bl_set ?_ (by first | omega | (simp; done) | (simp; omega)) _)
end Go.Proofs.YtjboffbhkffhkaaDoor
