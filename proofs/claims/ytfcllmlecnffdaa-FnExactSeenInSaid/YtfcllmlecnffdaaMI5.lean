/- Lists of points: which of them are seen, and the least mirror for all of them. -/
import Derived.Test.YtfcllmlecnffdaaMI4
namespace Go.Proofs.Ytfcllmlecnffdaa
open Go.RowKit
theorem IRow.push {W w1 : World} {B : Nat} {v v' : Value} {xs : List Int} {x : Int} {o : Obj} (hB : B ≤ W.heap.size) (h : IRow W B v xs)
    (hO : w1.ownsRow B 3 1 v' (xs.length + 1) (xs.map (Value.int .i64) ++ [.int .i64 x])) (hg : (W.alloc o).grownBy w1 v.ownBlock) : IRow w1 B v' (xs ++ [x]) ∧ Below B W w1 := by
  refine ⟨?_, ((Below.refl B W).alloc hB o).grown hg (by simp; omega) fun g e => (World.ownsRow.lt h g e).1⟩
  unfold IRow
  simpa using hO
def okTo (f : Nat → List Int) (k : Nat) : Bool := (List.range k).all fun i => okPt (f i)
theorem okTo_succ (f : Nat → List Int) (k : Nat) : okTo f (k + 1) = (okTo f k && okPt (f k)) := by simp [okTo, List.range_succ]
theorem okTo_no {f : Nat → List Int} {k n : Nat} (h : okPt (f k) = false) (hk : k < n) : okTo f n = false := by
  rw [okTo, List.all_eq_false]
  exact ⟨k, by simp [hk], by simp [h]⟩
theorem okTo_at {f : Nat → List Int} {k n : Nat} (h : okTo f n = true) (hk : k < n) : okPt (f k) = true := by
  rw [okTo, List.all_eq_true] at h
  exact h k (by simp [hk])
def okPts (L : Nat) (f : Nat → List Int) : Bool := decide (L ≤ 10) && okTo f L
theorem okPts_true {L : Nat} {f : Nat → List Int} (h : okPts L f = true) : L ≤ 10 ∧ okTo f L = true := by simpa [okPts] using h

set_option maxHeartbeats 400000 in
theorem arePoints_any (u : Value) (L : Nat) (f : Nat → List Int) (w : World) (q : QQRow w u L f) :
    Calls Try.prog 112 #[u] w fun e w' => e = .returned (.bool (okPts L f)) ∧ ∃ n, w' = w.drewN n := by
  have hl := q.len_le
  have Q := Lib.hid q
  obtain ⟨a, c, rfl⟩ := q.shape
  clear q
  by_cases hL : L ≤ 10
  · go_enter Try.func112, Try.ntmps112
    go_wp2
    go_loopw [10] (fun i wr => ∃ j n : Nat, j ≤ L ∧ i = .int .i64 (j : Int) ∧ okTo f j = true ∧ wr = w.drewN n) (fun i _ => L - (intOf i).toNat)
    case atStart => exact ⟨0, 0, Nat.zero_le _, rfl, rfl, rfl⟩
    case round =>
      obtain ⟨j, n, hj, rfl, hg, rfl⟩ := hrel
      have HG := Lib.hid hg
      clear hg
      by_cases hlt : j < L
      · obtain ⟨b, off, cap, hv, hb, hc⟩ := Q.out.some_ (by omega)
        obtain ⟨u1, c1, hu⟩ := hc j hlt
        simp only [Value.slice.injEq, true_and] at hv
        obtain ⟨rfl, rfl⟩ := hv
        have HU := Lib.hid hu
        have hlt' : (j : Int) < (L : Int) := by omega
        clear hc hu
        cases t : okPt (f j)
        · have HZ := Lib.hid (show okPts L f = false by simp [okPts, okTo_no t hlt])
          go_wp2_with fail
          refine (isPoint_any _ _ _ (by exact HU.out)).mono ?_
          rintro e w' ⟨rfl, rfl⟩
          rw [t]
          go_wp2
          go_ret
          exact ⟨by rw [HZ.out]; first | done | rfl, n, rfl⟩
        · have HZ := Lib.hid (show okTo f (j + 1) = true by rw [okTo_succ, HG.out, t]; rfl)
          go_wp2_with fail
          refine (isPoint_any _ _ _ (by exact HU.out)).mono ?_
          rintro e w' ⟨rfl, rfl⟩
          rw [t]
          go_wp2
          go_roundw
          case rel => exact ⟨j + 1, n, by omega, by go_num, HZ.out, rfl⟩
          case measure => simp only [intOf]; omega
      · obtain rfl : j = L := by omega
        have HZ := Lib.hid (show okPts j f = true by simp [okPts, hL, HG.out])
        go_wp2
        go_ret
        exact ⟨by rw [HZ.out]; first | done | rfl, n, rfl⟩
  · have HZ := Lib.hid (show okPts L f = false by simp [okPts, hL])
    go_enter Try.func112, Try.ntmps112
    go_wp2
    go_ret
    exact ⟨by rw [HZ.out]; first | done | rfl, 0, rfl⟩

set_option maxHeartbeats 400000 in
theorem miPoints_any (u : Value) (L : Nat) (f : Nat → List Int) (w : World) (q : QQRow w u L f) :
    Calls Try.prog 111 #[u] w fun e w' => e = .returned (.bool (okPts L f)) ∧ ∃ n, w' = w.drewN n := by
  have hl := q.len_le
  have Q := Lib.hid q
  obtain ⟨a, c, rfl⟩ := q.shape
  clear q
  by_cases hL : L ≤ 10
  · go_enter Try.func111, Try.ntmps111
    go_wp2
    go_loopw [10] (fun i wr => ∃ j n : Nat, j ≤ L ∧ i = .int .i64 (j : Int) ∧ okTo f j = true ∧ wr = w.drewN n) (fun i _ => L - (intOf i).toNat)
    case atStart => exact ⟨0, 0, Nat.zero_le _, rfl, rfl, rfl⟩
    case round =>
      obtain ⟨j, n, hj, rfl, hg, rfl⟩ := hrel
      have HG := Lib.hid hg
      clear hg
      by_cases hlt : j < L
      · obtain ⟨b, off, cap, hv, hb, hc⟩ := Q.out.some_ (by omega)
        obtain ⟨u1, c1, hu⟩ := hc j hlt
        simp only [Value.slice.injEq, true_and] at hv
        obtain ⟨rfl, rfl⟩ := hv
        have HU := Lib.hid hu
        have hlt' : (j : Int) < (L : Int) := by omega
        clear hc hu
        cases t : okPt (f j)
        · have HZ := Lib.hid (show okPts L f = false by simp [okPts, okTo_no t hlt])
          go_wp2_with fail
          refine (miPoint_any _ _ _ (by exact HU.out)).mono ?_
          rintro e w' ⟨rfl, m, rfl⟩
          rw [t]
          go_wp2
          go_ret
          exact ⟨by rw [HZ.out]; first | done | rfl, n + m, (by simp)⟩
        · have HZ := Lib.hid (show okTo f (j + 1) = true by rw [okTo_succ, HG.out, t]; rfl)
          go_wp2_with fail
          refine (miPoint_any _ _ _ (by exact HU.out)).mono ?_
          rintro e w' ⟨rfl, m, rfl⟩
          rw [t]
          go_wp2
          go_roundw
          case rel => exact ⟨j + 1, n + m, by omega, by go_num, HZ.out, (by simp)⟩
          case measure => simp only [intOf]; omega
      · obtain rfl : j = L := by omega
        have HZ := Lib.hid (show okPts j f = true by simp [okPts, hL, HG.out])
        go_wp2
        go_ret
        exact ⟨by rw [HZ.out]; first | done | rfl, n, rfl⟩
  · have HZ := Lib.hid (show okPts L f = false by simp [okPts, hL])
    go_enter Try.func111, Try.ntmps111
    go_wp2
    go_ret
    exact ⟨by rw [HZ.out]; first | done | rfl, 0, rfl⟩

/-- the indices of those that are seen among the first k -/
def seenTo (xs : List Int) (f : Nat → List Int) (l h : Int) : Nat → List Int
  | 0 => []
  | k + 1 => seenTo xs f l h k ++ (if sees xs (f k) l h then [(k : Int)] else [])
theorem seenTo_len (xs : List Int) (f : Nat → List Int) (l h : Int) (k : Nat) : (seenTo xs f l h k).length ≤ k := by
  induction k with
  | zero => simp [seenTo]
  | succ m ih => simp only [seenTo]; split <;> simp <;> omega
theorem seen_yes {xs : List Int} {f : Nat → List Int} {l h : Int} {k : Nat} (t : sees xs (f k) l h = true) : seenTo xs f l h (k + 1) = seenTo xs f l h k ++ [(k : Int)] := by simp [seenTo, t]
theorem seen_no {xs : List Int} {f : Nat → List Int} {l h : Int} {k : Nat} (t : sees xs (f k) l h = false) : seenTo xs f l h (k + 1) = seenTo xs f l h k := by simp [seenTo, t]
def okSN (xs : List Int) (L : Nat) (f : Nat → List Int) (l h : Int) : Bool := okPt xs && (okPts L f && okPart l h)
def SNL (xs : List Int) (L : Nat) (f : Nat → List Int) (l h : Int) : List Int := if okSN xs L f l h then seenTo xs f l h L else []
theorem SNL_len (xs : List Int) (L : Nat) (f : Nat → List Int) (l h : Int) : (SNL xs L f l h).length ≤ 4000000 := by
  unfold SNL
  split
  · rename_i e
    simp only [okSN, Bool.and_eq_true] at e
    have := (okPts_true e.2.1).1
    have := seenTo_len xs f l h L
    omega
  · simp
theorem isSeen_l (v u : Value) (xs ys : List Int) (l h : Int) (w : World) (q1 : QRow w v xs) (q2 : QRow w u ys) (h1 : okPt xs = true) (h2 : okPt ys = true) (hl : 0 ≤ l ∧ l ≤ 500) (hh : 0 ≤ h ∧ h ≤ 500) :
    Calls Try.prog 109 #[v, u, .int .i64 l, .int .i64 h] w fun e w' => e = .returned (.bool (sees xs ys l h)) ∧ Below w.heap.size w w' := by
  obtain ⟨a, b, rfl, ha, hb⟩ := okPt_two h1
  obtain ⟨c, d, rfl, hc, hd⟩ := okPt_two h2
  refine (isSeen_any _ _ _ _ _ _ _ _ _ q1 q2 ha hb hc hd hl hh).mono ?_
  rintro e w' ⟨rfl, n, rfl⟩
  exact ⟨rfl, below_drewN (Below.refl _ _) _⟩
theorem miSees_l (v u : Value) (xs ys : List Int) (l h : Int) (w : World) (q1 : QRow w v xs) (q2 : QRow w u ys) (h1 : okPt xs = true) (h2 : okPt ys = true) (hl : 0 ≤ l ∧ l ≤ 500) (hh : 0 ≤ h ∧ h ≤ 500) :
    Calls Try.prog 107 #[v, u, .int .i64 l, .int .i64 h] w fun e w' => e = .returned (.bool (sees xs ys l h)) ∧ Below w.heap.size w w' := by
  obtain ⟨a, b, rfl, ha, hb⟩ := okPt_two h1
  obtain ⟨c, d, rfl, hc, hd⟩ := okPt_two h2
  exact miSees_any _ _ _ _ _ _ _ _ _ q1 q2 ha hb hc hd hl hh
set_option maxHeartbeats 1000000 in
theorem impl_SeenIn (v u : Value) (xs : List Int) (L : Nat) (f : Nat → List Int) (l h : Int) (w : World) (q1 : QRow w v xs) (q2 : QQRow w u L f) :
    Calls Try.prog 60 #[v, u, .int .i64 l, .int .i64 h] w fun e w' => ∃ r, e = .returned (.tuple #[r, .bool (okSN xs L f l h)]) ∧ IRow w' w.heap.size r (SNL xs L f l h) ∧ Below w.heap.size w w' := by
  have Q1 := Lib.hid q1
  have Q2 := Lib.hid q2
  have hl := q2.len_le
  obtain ⟨s0, c0, rfl⟩ := q2.shape
  clear q1 q2
  cases h1 : okPt xs
  · have HO := Lib.hid (show okSN xs L f l h = false by simp [okSN, h1])
    have HE := Lib.hid (show SNL xs L f l h = [] by simp [SNL, HO.out])
    go_enter Try.func60, Try.ntmps60
    go_wp2_with fail
    refine (isPoint_any _ _ _ (by exact Q1.out)).mono ?_
    rintro e w' ⟨rfl, rfl⟩
    rw [h1]
    go_wp2
    go_ret2
    exact ⟨_, by first | rfl | (rw [HO.out]; rfl), by rw [HE.out]; exact World.ownsRow_nil _ _ _ 1, (by repeat (first | exact Below.refl _ _ | refine bl_alloc ?_ _ | refine bl_drewN ?_ _ | refine bl_trans (by assumption) ?_ | refine bl_set ?_ (by first | omega | (simp; done) | (simp; omega)) _))⟩
  · cases h2 : okPts L f
    · have HO := Lib.hid (show okSN xs L f l h = false by simp [okSN, h1, h2])
      have HE := Lib.hid (show SNL xs L f l h = [] by simp [SNL, HO.out])
      go_enter Try.func60, Try.ntmps60
      go_wp2_with fail
      refine (isPoint_any _ _ _ (by exact Q1.out)).mono ?_
      rintro e w' ⟨rfl, rfl⟩
      rw [h1]
      go_wp2_with fail
      refine (arePoints_any _ _ _ _ (by exact Q2.out)).mono ?_
      rintro e w' ⟨rfl, n2, rfl⟩
      rw [h2]
      go_wp2
      go_ret2
      exact ⟨_, by first | rfl | (rw [HO.out]; rfl), by rw [HE.out]; exact World.ownsRow_nil _ _ _ 1, (by repeat (first | exact Below.refl _ _ | refine bl_alloc ?_ _ | refine bl_drewN ?_ _ | refine bl_trans (by assumption) ?_ | refine bl_set ?_ (by first | omega | (simp; done) | (simp; omega)) _))⟩
    · cases h3 : okPart l h
      · have HO := Lib.hid (show okSN xs L f l h = false by simp [okSN, h1, h2, h3])
        have HE := Lib.hid (show SNL xs L f l h = [] by simp [SNL, HO.out])
        go_enter Try.func60, Try.ntmps60
        go_wp2_with fail
        refine (isPoint_any _ _ _ (by exact Q1.out)).mono ?_
        rintro e w' ⟨rfl, rfl⟩
        rw [h1]
        go_wp2_with fail
        refine (arePoints_any _ _ _ _ (by exact Q2.out)).mono ?_
        rintro e w' ⟨rfl, n2, rfl⟩
        rw [h2]
        go_wp2_with fail
        refine (isPart_any _ _ _).mono ?_
        rintro e w' ⟨rfl, rfl⟩
        rw [h3]
        go_wp2
        go_ret2
        exact ⟨_, by first | rfl | (rw [HO.out]; rfl), by rw [HE.out]; exact World.ownsRow_nil _ _ _ 1, (by repeat (first | exact Below.refl _ _ | refine bl_alloc ?_ _ | refine bl_drewN ?_ _ | refine bl_trans (by assumption) ?_ | refine bl_set ?_ (by first | omega | (simp; done) | (simp; omega)) _))⟩
      · have HO := Lib.hid (show okSN xs L f l h = true by simp [okSN, h1, h2, h3])
        have HE := Lib.hid (show SNL xs L f l h = seenTo xs f l h L by simp [SNL, HO.out])
        obtain ⟨r1, r2⟩ := okPart_true h3
        obtain ⟨i0, hi, hz0, hz1, hz2⟩ := info_parts infoI
        have hr2 : 0 ≤ l ∧ l ≤ 500 := by omega
        have hr1 : 0 ≤ h ∧ h ≤ 500 := by omega
        have H1 := Lib.hid h1
        have HT := Lib.hid (okPts_true h2).2
        have hL10 := (okPts_true h2).1
        go_enter Try.func60, Try.ntmps60
        go_wp2_with fail
        refine (isPoint_any _ _ _ (by exact Q1.out)).mono ?_
        rintro e w' ⟨rfl, rfl⟩
        rw [h1]
        go_wp2_with fail
        refine (arePoints_any _ _ _ _ (by exact Q2.out)).mono ?_
        rintro e w' ⟨rfl, n2, rfl⟩
        rw [h2]
        go_wp2_with fail
        refine (isPart_any _ _ _).mono ?_
        rintro e w' ⟨rfl, rfl⟩
        rw [h3]
        clear h1 h2 h3
        go_wp2
        go_loopw [10, 29] (fun r i wr => ∃ j : Nat, j ≤ L ∧ i = .int .i64 (j : Int) ∧ IRow wr w.heap.size r (seenTo xs f l h j) ∧ Below w.heap.size w wr) (fun _ i _ => L - (intOf i).toNat)
        case atStart => exact ⟨0, Nat.zero_le _, rfl, World.ownsRow_nil _ _ _ 1, (by repeat (first | exact Below.refl _ _ | refine bl_alloc ?_ _ | refine bl_drewN ?_ _ | refine bl_trans (by assumption) ?_ | refine bl_set ?_ (by first | omega | (simp; done) | (simp; omega)) _))⟩
        case round =>
          obtain ⟨j, hj, rfl, hI, hW⟩ := hrel
          by_cases hlt : j < L
          · obtain ⟨b, off, cap, hv, hb, hc⟩ := (Q2.out.keep hW).some_ (by omega)
            obtain ⟨u1, c1, hu⟩ := hc j hlt
            simp only [Value.slice.injEq, true_and] at hv
            obtain ⟨rfl, rfl⟩ := hv
            have HU := Lib.hid hu
            have HV := Lib.hid (Q1.out.keep hW)
            have HI := Lib.hid hI
            have HW := Lib.hid hW
            have HBW := Lib.hid hW.size
            have hlt' : (j : Int) < (L : Int) := by omega
            clear hc hu hI hW
            go_wp2_with fail
            refine (isSeen_l _ _ _ _ _ _ _ (by exact HV.out) (by exact HU.out) H1.out (okTo_at HT.out hlt) hr2 hr1).mono ?_
            rintro e w2 ⟨rfl, hb2⟩
            have HI2 := Lib.hid (HI.out.keep hb2)
            have HW2 := Lib.hid (bl_trans hb2 HW.out)
            have hbw : w.heap.size ≤ w2.heap.size := HW2.out.size
            clear hb2 HI HW HV HU HBW
            cases t : sees xs (f j) l h
            · have HQ := Lib.hid (seen_no t)
              clear t
              go_wp2
              go_roundw
              case rel => exact ⟨j + 1, by omega, by go_num, by rw [HQ.out]; exact HI2.out, HW2.out⟩
              case measure => simp only [intOf]; omega
            · have HQ := Lib.hid (seen_yes t)
              have hll := seenTo_len xs f l h j
              have hO := Lib.hid (show w2.ownsRow w.heap.size 3 1 u10 (seenTo xs f l h j).length ((seenTo xs f l h j).map (Value.int .i64)) from HI2.out)
              clear t
              generalize hL : (seenTo xs f l h j).length = K at *
              have HL := Lib.hid hL
              clear hL
              go_wp2_with (at_builtin; refine wpList_append_own _ rfl _ _ 25 rfl w.heap.size 3 i0 (.int .i64 0) 1 8 Try.underlying25 hi hz0 hz1 hz2 rfl (by decide) _ _ _ rfl (hO.out.alloc _) ⟨w2.heap.size, 0, none⟩ 1 1 [.int .i64 (j : Int)] rfl rfl ?c1 ?c2 ?c3 ?c4 ?c5 ?_)
              all_goals (try first | exact cell_one_new _ _ _ | exact cell_one_alloc _ _ _ _ (by simp))
              case c2 => simp [Value.oneCell']
              case c3 => unfold maxLen; omega
              case c4 => omega
              case c5 => first | omega | (simp; omega)
              intro v' w3 hown1 hgrow1 _
              rw [← HL.out] at hown1
              obtain ⟨z1, z2⟩ := IRow.push (x := (j : Int)) (W := w2) hbw HI2.out hown1 hgrow1
              rw [← HQ.out] at z1
              have Z1 := Lib.hid z1
              have Z2 := Lib.hid (HW2.out.trans z2)
              clear z1 z2 hown1 hgrow1
              go_wp2
              go_roundw
              case rel => exact ⟨j + 1, by omega, by go_num, Z1.out, Z2.out⟩
              case measure => simp only [intOf]; omega
          · obtain rfl : j = L := by omega
            have HI := Lib.hid hI
            have HW := Lib.hid hW
            clear hI hW
            go_wp2
            go_ret2
            exact ⟨_, by rw [HO.out]; rfl, by rw [HE.out]; exact HI.out, HW.out⟩

set_option maxHeartbeats 1000000 in
theorem spec_SeenIn (v u : Value) (xs : List Int) (L : Nat) (f : Nat → List Int) (l h : Int) (w : World) (q1 : QRow w v xs) (q2 : QQRow w u L f) :
    Calls Try.prog 58 #[v, u, .int .i64 l, .int .i64 h] w fun e w' => ∃ r, e = .returned (.tuple #[r, .bool (okSN xs L f l h)]) ∧ IRow w' w.heap.size r (SNL xs L f l h) ∧ Below w.heap.size w w' := by
  have Q1 := Lib.hid q1
  have Q2 := Lib.hid q2
  have hl := q2.len_le
  obtain ⟨s0, c0, rfl⟩ := q2.shape
  clear q1 q2
  cases h1 : okPt xs
  · have HO := Lib.hid (show okSN xs L f l h = false by simp [okSN, h1])
    have HE := Lib.hid (show SNL xs L f l h = [] by simp [SNL, HO.out])
    go_enter Try.func58, Try.ntmps58
    go_wp2_with fail
    refine (miPoint_any _ _ _ (by exact Q1.out)).mono ?_
    rintro e w' ⟨rfl, n1, rfl⟩
    rw [h1]
    go_wp2
    go_ret2
    exact ⟨_, by first | rfl | (rw [HO.out]; rfl), by rw [HE.out]; exact World.ownsRow_nil _ _ _ 1, (by repeat (first | exact Below.refl _ _ | refine bl_alloc ?_ _ | refine bl_drewN ?_ _ | refine bl_trans (by assumption) ?_ | refine bl_set ?_ (by first | omega | (simp; done) | (simp; omega)) _))⟩
  · cases h2 : okPts L f
    · have HO := Lib.hid (show okSN xs L f l h = false by simp [okSN, h1, h2])
      have HE := Lib.hid (show SNL xs L f l h = [] by simp [SNL, HO.out])
      go_enter Try.func58, Try.ntmps58
      go_wp2_with fail
      refine (miPoint_any _ _ _ (by exact Q1.out)).mono ?_
      rintro e w' ⟨rfl, n1, rfl⟩
      rw [h1]
      go_wp2_with fail
      refine (miPoints_any _ _ _ _ (by exact Q2.out)).mono ?_
      rintro e w' ⟨rfl, n2, rfl⟩
      rw [h2]
      go_wp2
      go_ret2
      exact ⟨_, by first | rfl | (rw [HO.out]; rfl), by rw [HE.out]; exact World.ownsRow_nil _ _ _ 1, (by repeat (first | exact Below.refl _ _ | refine bl_alloc ?_ _ | refine bl_drewN ?_ _ | refine bl_trans (by assumption) ?_ | refine bl_set ?_ (by first | omega | (simp; done) | (simp; omega)) _))⟩
    · cases h3 : okPart l h
      · have HO := Lib.hid (show okSN xs L f l h = false by simp [okSN, h1, h2, h3])
        have HE := Lib.hid (show SNL xs L f l h = [] by simp [SNL, HO.out])
        go_enter Try.func58, Try.ntmps58
        go_wp2_with fail
        refine (miPoint_any _ _ _ (by exact Q1.out)).mono ?_
        rintro e w' ⟨rfl, n1, rfl⟩
        rw [h1]
        go_wp2_with fail
        refine (miPoints_any _ _ _ _ (by exact Q2.out)).mono ?_
        rintro e w' ⟨rfl, n2, rfl⟩
        rw [h2]
        go_wp2_with fail
        refine (miRange_any _ _ _).mono ?_
        rintro e w' ⟨rfl, rfl⟩
        rw [h3]
        go_wp2
        go_ret2
        exact ⟨_, by first | rfl | (rw [HO.out]; rfl), by rw [HE.out]; exact World.ownsRow_nil _ _ _ 1, (by repeat (first | exact Below.refl _ _ | refine bl_alloc ?_ _ | refine bl_drewN ?_ _ | refine bl_trans (by assumption) ?_ | refine bl_set ?_ (by first | omega | (simp; done) | (simp; omega)) _))⟩
      · have HO := Lib.hid (show okSN xs L f l h = true by simp [okSN, h1, h2, h3])
        have HE := Lib.hid (show SNL xs L f l h = seenTo xs f l h L by simp [SNL, HO.out])
        obtain ⟨r1, r2⟩ := okPart_true h3
        obtain ⟨i0, hi, hz0, hz1, hz2⟩ := info_parts infoI
        have hr2 : 0 ≤ l ∧ l ≤ 500 := by omega
        have hr1 : 0 ≤ h ∧ h ≤ 500 := by omega
        have H1 := Lib.hid h1
        have HT := Lib.hid (okPts_true h2).2
        have hL10 := (okPts_true h2).1
        go_enter Try.func58, Try.ntmps58
        go_wp2_with fail
        refine (miPoint_any _ _ _ (by exact Q1.out)).mono ?_
        rintro e w' ⟨rfl, n1, rfl⟩
        rw [h1]
        go_wp2_with fail
        refine (miPoints_any _ _ _ _ (by exact Q2.out)).mono ?_
        rintro e w' ⟨rfl, n2, rfl⟩
        rw [h2]
        go_wp2_with fail
        refine (miRange_any _ _ _).mono ?_
        rintro e w' ⟨rfl, rfl⟩
        rw [h3]
        clear h1 h2 h3
        go_wp2
        go_loopw [10, 29] (fun r i wr => ∃ j : Nat, j ≤ L ∧ i = .int .i64 (j : Int) ∧ IRow wr w.heap.size r (seenTo xs f l h j) ∧ Below w.heap.size w wr) (fun _ i _ => L - (intOf i).toNat)
        case atStart => exact ⟨0, Nat.zero_le _, rfl, World.ownsRow_nil _ _ _ 1, (by repeat (first | exact Below.refl _ _ | refine bl_alloc ?_ _ | refine bl_drewN ?_ _ | refine bl_trans (by assumption) ?_ | refine bl_set ?_ (by first | omega | (simp; done) | (simp; omega)) _))⟩
        case round =>
          obtain ⟨j, hj, rfl, hI, hW⟩ := hrel
          by_cases hlt : j < L
          · obtain ⟨b, off, cap, hv, hb, hc⟩ := (Q2.out.keep hW).some_ (by omega)
            obtain ⟨u1, c1, hu⟩ := hc j hlt
            simp only [Value.slice.injEq, true_and] at hv
            obtain ⟨rfl, rfl⟩ := hv
            have HU := Lib.hid hu
            have HV := Lib.hid (Q1.out.keep hW)
            have HI := Lib.hid hI
            have HW := Lib.hid hW
            have HBW := Lib.hid hW.size
            have hlt' : (j : Int) < (L : Int) := by omega
            clear hc hu hI hW
            go_wp2_with fail
            refine (miSees_l _ _ _ _ _ _ _ (by exact HV.out) (by exact HU.out) H1.out (okTo_at HT.out hlt) hr2 hr1).mono ?_
            rintro e w2 ⟨rfl, hb2⟩
            have HI2 := Lib.hid (HI.out.keep hb2)
            have HW2 := Lib.hid (bl_trans hb2 HW.out)
            have hbw : w.heap.size ≤ w2.heap.size := HW2.out.size
            clear hb2 HI HW HV HU HBW
            cases t : sees xs (f j) l h
            · have HQ := Lib.hid (seen_no t)
              clear t
              go_wp2
              go_roundw
              case rel => exact ⟨j + 1, by omega, by go_num, by rw [HQ.out]; exact HI2.out, HW2.out⟩
              case measure => simp only [intOf]; omega
            · have HQ := Lib.hid (seen_yes t)
              have hll := seenTo_len xs f l h j
              have hO := Lib.hid (show w2.ownsRow w.heap.size 3 1 u10 (seenTo xs f l h j).length ((seenTo xs f l h j).map (Value.int .i64)) from HI2.out)
              clear t
              generalize hL : (seenTo xs f l h j).length = K at *
              have HL := Lib.hid hL
              clear hL
              go_wp2_with (at_builtin; refine wpList_append_own _ rfl _ _ 25 rfl w.heap.size 3 i0 (.int .i64 0) 1 8 Try.underlying25 hi hz0 hz1 hz2 rfl (by decide) _ _ _ rfl (hO.out.alloc _) ⟨w2.heap.size, 0, none⟩ 1 1 [.int .i64 (j : Int)] rfl rfl ?c1 ?c2 ?c3 ?c4 ?c5 ?_)
              all_goals (try first | exact cell_one_new _ _ _ | exact cell_one_alloc _ _ _ _ (by simp))
              case c2 => simp [Value.oneCell']
              case c3 => unfold maxLen; omega
              case c4 => omega
              case c5 => first | omega | (simp; omega)
              intro v' w3 hown1 hgrow1 _
              rw [← HL.out] at hown1
              obtain ⟨z1, z2⟩ := IRow.push (x := (j : Int)) (W := w2) hbw HI2.out hown1 hgrow1
              rw [← HQ.out] at z1
              have Z1 := Lib.hid z1
              have Z2 := Lib.hid (HW2.out.trans z2)
              clear z1 z2 hown1 hgrow1
              go_wp2
              go_roundw
              case rel => exact ⟨j + 1, by omega, by go_num, Z1.out, Z2.out⟩
              case measure => simp only [intOf]; omega
          · obtain rfl : j = L := by omega
            have HI := Lib.hid hI
            have HW := Lib.hid hW
            clear hI hW
            go_wp2
            go_ret2
            exact ⟨_, by rw [HO.out]; rfl, by rw [HE.out]; exact HI.out, HW.out⟩

/-- the greatest whole number below all places that are looked at, and the least above -/
def lowTo (xs : List Int) (f : Nat → List Int) : Nat → Int
  | 0 => 500
  | k + 1 => min (lowTo xs f k) (lookX xs (f k) / farX xs (f k))
def highTo (xs : List Int) (f : Nat → List Int) : Nat → Int
  | 0 => 0
  | k + 1 => max (highTo xs f k) ((lookX xs (f k) + farX xs (f k) - 1) / farX xs (f k))
theorem lowTo_succ (xs : List Int) (f : Nat → List Int) (k : Nat) : lowTo xs f (k + 1) = min (lowTo xs f k) (lookX xs (f k) / farX xs (f k)) := rfl
theorem highTo_succ (xs : List Int) (f : Nat → List Int) (k : Nat) : highTo xs f (k + 1) = max (highTo xs f k) ((lookX xs (f k) + farX xs (f k) - 1) / farX xs (f k)) := rfl
def okLM (xs : List Int) (L : Nat) (f : Nat → List Int) : Bool := okPt xs && (okPts L f && decide (0 < L))
def LMv (g : Int) (xs : List Int) (L : Nat) (f : Nat → List Int) : Int := if okLM xs L f then g else 0
/-- in natural numbers -/
theorem look_nat {xs ys : List Int} (h1 : okPt xs = true) (h2 : okPt ys = true) : ∃ N D : Nat, lookX xs ys = (N : Int) ∧ farX xs ys = (D : Int) ∧ 1 ≤ D ∧ D ≤ 1000 ∧ N ≤ 500000 ∧
    lookX xs ys / farX xs ys = ((N / D : Nat) : Int) ∧ (lookX xs ys + farX xs ys - 1) / farX xs ys = (((N + D - 1) / D : Nat) : Int) := by
  obtain ⟨a, b, rfl, ha, hb⟩ := okPt_two h1
  obtain ⟨c, d, rfl, hc, hd⟩ := okPt_two h2
  obtain ⟨m1, m2, m3, m4⟩ := look_bd (a := b) (b := c) (c := d) (d := a) hb hc hd ha
  have hN : lookX [a, b] [c, d] = b * c + d * a := by simp [lookX]
  have hD : farX [a, b] [c, d] = a + c := by simp [farX]
  obtain ⟨N, e1⟩ := Int.eq_ofNat_of_zero_le (show 0 ≤ lookX [a, b] [c, d] by omega)
  obtain ⟨D, e2⟩ := Int.eq_ofNat_of_zero_le (show 0 ≤ farX [a, b] [c, d] by omega)
  refine ⟨N, D, e1, e2, by omega, by omega, by omega, by rw [e1, e2, Int.natCast_ediv], ?_⟩
  have hD1 : 1 ≤ D := by omega
  rw [e1, e2, Int.natCast_ediv, show (N : Int) + (D : Int) - 1 = ((N + D - 1 : Nat) : Int) by omega]
theorem look_red {xs ys : List Int} (h1 : okPt xs = true) (h2 : okPt ys = true) : ∃ N D : Nat, ln (lookX xs ys) (farX xs ys) = (N : Int) ∧ ld (lookX xs ys) (farX xs ys) = (D : Int) ∧ 1 ≤ D ∧ D ≤ 1000 ∧ N ≤ 500000 ∧
    lookX xs ys / farX xs ys = ((N / D : Nat) : Int) ∧ (lookX xs ys + farX xs ys - 1) / farX xs ys = (((N + D - 1) / D : Nat) : Int) := by
  obtain ⟨N, D, e1, e2, b1, b2, b3, e3, e4⟩ := look_nat h1 h2
  obtain ⟨g, n, d, hg, hd, k1, k2, k3, k4⟩ := red (N := lookX xs ys) (D := farX xs ys) (by omega) (by omega)
  have eN : N = g * n := by omega
  have eD : D = g * d := by omega
  subst eN
  subst eD
  have q1 : n ≤ g * n := Nat.le_mul_of_pos_left _ hg
  have q2 : d ≤ g * d := Nat.le_mul_of_pos_left _ hg
  exact ⟨n, d, k1, k2, hd, by omega, by omega, by rw [e3, Nat.mul_div_mul_left _ _ hg], by rw [e4, up_red hg hd]⟩
theorem div_bd (N D : Nat) (hN : N ≤ 600000) : 0 ≤ ((N / D : Nat) : Int) ∧ ((N / D : Nat) : Int) ≤ 600000 := by
  exact ⟨Int.natCast_nonneg _, Int.ofNat_le.2 (Nat.le_trans (Nat.div_le_self N D) hN)⟩
theorem lookTimesFar_l (v u : Value) (xs ys : List Int) (w : World) (q1 : QRow w v xs) (q2 : QRow w u ys) (h1 : okPt xs = true) (h2 : okPt ys = true) :
    Calls Try.prog 104 #[v, u] w fun e w' => e = .returned (.int .i64 (lookX xs ys)) ∧ Below w.heap.size w w' := by
  obtain ⟨a, b, rfl, ha, hb⟩ := okPt_two h1
  obtain ⟨c, d, rfl, hc, hd⟩ := okPt_two h2
  refine (lookTimesFar_any _ _ _ _ _ _ _ q1 q2 ha hb hc hd).mono ?_
  rintro e w' ⟨rfl, n, rfl⟩
  exact ⟨rfl, below_drewN (Below.refl _ _) _⟩
theorem farOfBoth_l (v u : Value) (xs ys : List Int) (w : World) (q1 : QRow w v xs) (q2 : QRow w u ys) (h1 : okPt xs = true) (h2 : okPt ys = true) :
    Calls Try.prog 105 #[v, u] w fun e w' => e = .returned (.int .i64 (farX xs ys)) ∧ Below w.heap.size w w' := by
  obtain ⟨a, b, rfl, ha, hb⟩ := okPt_two h1
  obtain ⟨c, d, rfl, hc, hd⟩ := okPt_two h2
  refine (farOfBoth_any _ _ _ _ _ _ _ q1 q2 ha hb hc hd).mono ?_
  rintro e w' ⟨rfl, n, rfl⟩
  exact ⟨rfl, below_drewN (Below.refl _ _) _⟩
theorem miLook_l (v u : Value) (xs ys : List Int) (w : World) (q1 : QRow w v xs) (q2 : QRow w u ys) (h1 : okPt xs = true) (h2 : okPt ys = true) :
    Calls Try.prog 102 #[v, u] w fun e w' => e = .returned (.tuple #[.int .i64 (ln (lookX xs ys) (farX xs ys)), .int .i64 (ld (lookX xs ys) (farX xs ys))]) ∧ Below w.heap.size w w' := by
  obtain ⟨a, b, rfl, ha, hb⟩ := okPt_two h1
  obtain ⟨c, d, rfl, hc, hd⟩ := okPt_two h2
  exact miLook_any _ _ _ _ _ _ _ q1 q2 ha hb hc hd
set_option maxHeartbeats 1000000 in
theorem impl_LeastMirrorFor (v u : Value) (xs : List Int) (L : Nat) (f : Nat → List Int) (w : World) (q1 : QRow w v xs) (q2 : QQRow w u L f) :
    Calls Try.prog 64 #[v, u] w fun e w' => e = .returned (.tuple #[.int .i64 (LMv (lowTo xs f L) xs L f), .int .i64 (LMv (highTo xs f L) xs L f), .bool (okLM xs L f)]) ∧ Below w.heap.size w w' := by
  have Q1 := Lib.hid q1
  have Q2 := Lib.hid q2
  have hl := q2.len_le
  obtain ⟨s0, c0, rfl⟩ := q2.shape
  clear q1 q2
  cases h1 : okPt xs
  · have HO := Lib.hid (show okLM xs L f = false by simp [okLM, h1])
    have HA := Lib.hid (show LMv (lowTo xs f L) xs L f = 0 by simp [LMv, HO.out])
    have HB := Lib.hid (show LMv (highTo xs f L) xs L f = 0 by simp [LMv, HO.out])
    go_enter Try.func64, Try.ntmps64
    go_wp2_with fail
    refine (isPoint_any _ _ _ (by exact Q1.out)).mono ?_
    rintro e w' ⟨rfl, rfl⟩
    rw [h1]
    go_wp2
    go_ret3
    exact ⟨by rw [HO.out, HA.out, HB.out]; first | done | rfl, (by repeat (first | exact Below.refl _ _ | refine bl_alloc ?_ _ | refine bl_drewN ?_ _ | refine bl_trans (by assumption) ?_ | refine bl_set ?_ (by first | omega | (simp; done) | (simp; omega)) _))⟩
  · cases h2 : okPts L f
    · have HO := Lib.hid (show okLM xs L f = false by simp [okLM, h1, h2])
      have HA := Lib.hid (show LMv (lowTo xs f L) xs L f = 0 by simp [LMv, HO.out])
      have HB := Lib.hid (show LMv (highTo xs f L) xs L f = 0 by simp [LMv, HO.out])
      go_enter Try.func64, Try.ntmps64
      go_wp2_with fail
      refine (isPoint_any _ _ _ (by exact Q1.out)).mono ?_
      rintro e w' ⟨rfl, rfl⟩
      rw [h1]
      go_wp2_with fail
      refine (arePoints_any _ _ _ _ (by exact Q2.out)).mono ?_
      rintro e w' ⟨rfl, n2, rfl⟩
      rw [h2]
      go_wp2
      go_ret3
      exact ⟨by rw [HO.out, HA.out, HB.out]; first | done | rfl, (by repeat (first | exact Below.refl _ _ | refine bl_alloc ?_ _ | refine bl_drewN ?_ _ | refine bl_trans (by assumption) ?_ | refine bl_set ?_ (by first | omega | (simp; done) | (simp; omega)) _))⟩
    · by_cases h3 : 0 < L
      · have HO := Lib.hid (show okLM xs L f = true by simp [okLM, h1, h2, h3])
        have HA := Lib.hid (show LMv (lowTo xs f L) xs L f = lowTo xs f L by simp [LMv, HO.out])
        have HB := Lib.hid (show LMv (highTo xs f L) xs L f = highTo xs f L by simp [LMv, HO.out])
        have hne : ((L : Int) == 0) = false := by simp; omega
        have H1 := Lib.hid h1
        have HT := Lib.hid (okPts_true h2).2
        go_enter Try.func64, Try.ntmps64
        go_wp2_with fail
        refine (isPoint_any _ _ _ (by exact Q1.out)).mono ?_
        rintro e w' ⟨rfl, rfl⟩
        rw [h1]
        go_wp2_with fail
        refine (arePoints_any _ _ _ _ (by exact Q2.out)).mono ?_
        rintro e w' ⟨rfl, n2, rfl⟩
        rw [h2]
        clear h1 h2
        go_wp2
        go_loopw [7, 8, 28] (fun x y i wr => ∃ j : Nat, j ≤ L ∧ i = .int .i64 (j : Int) ∧ x = .int .i64 (lowTo xs f j) ∧ y = .int .i64 (highTo xs f j) ∧ Below w.heap.size w wr) (fun _ _ i _ => L - (intOf i).toNat)
        case atStart => exact ⟨0, Nat.zero_le _, rfl, rfl, rfl, (by repeat (first | exact Below.refl _ _ | refine bl_alloc ?_ _ | refine bl_drewN ?_ _ | refine bl_trans (by assumption) ?_ | refine bl_set ?_ (by first | omega | (simp; done) | (simp; omega)) _))⟩
        case round =>
          obtain ⟨j, hj, rfl, rfl, rfl, hW⟩ := hrel
          by_cases hlt : j < L
          · obtain ⟨b, off, cap, hv, hb, hc⟩ := (Q2.out.keep hW).some_ (by omega)
            obtain ⟨u1, c1, hu⟩ := hc j hlt
            simp only [Value.slice.injEq, true_and] at hv
            obtain ⟨rfl, rfl⟩ := hv
            have HU := Lib.hid hu
            have HV := Lib.hid (Q1.out.keep hW)
            have HW := Lib.hid hW
            have hlt' : (j : Int) < (L : Int) := by omega
            have HLS := Lib.hid (lowTo_succ xs f j)
            have HHS := Lib.hid (highTo_succ xs f j)
            obtain ⟨M, D, e1, e2, b1, b2, b3, e3, e4⟩ := look_nat H1.out (okTo_at HT.out hlt)
            rw [e3] at HLS
            rw [e4] at HHS
            have E1 := Lib.hid e1
            have E2 := Lib.hid e2
            obtain ⟨d1, d2⟩ := div_bd M D (by omega)
            obtain ⟨d3, d4⟩ := div_bd (M + D - 1) D (by omega)
            have w1 := wrap_div M D (by omega)
            have w2' := wrap_div (M + D - 1) D (by omega)
            have hD0 : ((D : Int) == 0) = false := by simp; omega
            have k1 : (M : Int) / (D : Int) = ((M / D : Nat) : Int) := by rw [Int.natCast_ediv]
            have k2 : ((M : Int) + (D : Int) - 1) / (D : Int) = (((M + D - 1) / D : Nat) : Int) := by rw [Int.natCast_ediv, show (M : Int) + (D : Int) - 1 = ((M + D - 1 : Nat) : Int) by omega]
            clear hc hu hW e1 e2 e3 e4
            generalize (M / D : Nat) = q1 at *
            generalize ((M + D - 1) / D : Nat) = q2 at *
            generalize hlo : lowTo xs f j = lo at *
            generalize hhi : highTo xs f j = hi at *
            go_wp2_with fail
            refine (lookTimesFar_l _ _ _ _ _ (by exact HV.out) (by exact HU.out) H1.out (okTo_at HT.out hlt)).mono ?_
            rintro e w2 ⟨rfl, hb2⟩
            replace HV := Lib.hid (HV.out.keep hb2)
            replace HU := Lib.hid (HU.out.keep hb2)
            replace HW := Lib.hid (bl_trans hb2 HW.out)
            clear hb2
            rw [E1.out]
            go_wp2_with fail
            refine (farOfBoth_l _ _ _ _ _ (by exact HV.out) (by exact HU.out) H1.out (okTo_at HT.out hlt)).mono ?_
            rintro e w3 ⟨rfl, hb3⟩
            replace HW := Lib.hid (bl_trans hb3 HW.out)
            clear hb3 HV HU
            rw [E2.out]
            go_wp2
            all_goals
              go_roundw
              case rel => exact ⟨j + 1, by omega, by go_num, by rw [HLS.out]; first | done | exact congrArg _ (by omega), by rw [HHS.out]; first | done | exact congrArg _ (by omega), HW.out⟩
              case measure => simp only [intOf]; omega
          · obtain rfl : j = L := by omega
            have HW := Lib.hid hW
            clear hW
            go_wp2
            go_ret3
            exact ⟨by rw [HO.out, HA.out, HB.out]; first | done | rfl, HW.out⟩
      · obtain rfl : L = 0 := by omega
        have HO := Lib.hid (show okLM xs 0 f = false by simp [okLM])
        have HA := Lib.hid (show LMv (lowTo xs f 0) xs 0 f = 0 by simp [LMv, HO.out])
        have HB := Lib.hid (show LMv (highTo xs f 0) xs 0 f = 0 by simp [LMv, HO.out])
        go_enter Try.func64, Try.ntmps64
        go_wp2_with fail
        refine (isPoint_any _ _ _ (by exact Q1.out)).mono ?_
        rintro e w' ⟨rfl, rfl⟩
        rw [h1]
        go_wp2_with fail
        refine (arePoints_any _ _ _ _ (by exact Q2.out)).mono ?_
        rintro e w' ⟨rfl, n2, rfl⟩
        rw [h2]
        go_wp2
        go_ret3
        exact ⟨by rw [HO.out, HA.out, HB.out]; first | done | rfl, (by repeat (first | exact Below.refl _ _ | refine bl_alloc ?_ _ | refine bl_drewN ?_ _ | refine bl_trans (by assumption) ?_ | refine bl_set ?_ (by first | omega | (simp; done) | (simp; omega)) _))⟩

set_option maxHeartbeats 1000000 in
theorem spec_LeastMirrorFor (v u : Value) (xs : List Int) (L : Nat) (f : Nat → List Int) (w : World) (q1 : QRow w v xs) (q2 : QQRow w u L f) :
    Calls Try.prog 63 #[v, u] w fun e w' => e = .returned (.tuple #[.int .i64 (LMv (lowTo xs f L) xs L f), .int .i64 (LMv (highTo xs f L) xs L f), .bool (okLM xs L f)]) ∧ Below w.heap.size w w' := by
  have Q1 := Lib.hid q1
  have Q2 := Lib.hid q2
  have hl := q2.len_le
  obtain ⟨s0, c0, rfl⟩ := q2.shape
  clear q1 q2
  cases h1 : okPt xs
  · have HO := Lib.hid (show okLM xs L f = false by simp [okLM, h1])
    have HA := Lib.hid (show LMv (lowTo xs f L) xs L f = 0 by simp [LMv, HO.out])
    have HB := Lib.hid (show LMv (highTo xs f L) xs L f = 0 by simp [LMv, HO.out])
    go_enter Try.func63, Try.ntmps63
    go_wp2_with fail
    refine (miPoint_any _ _ _ (by exact Q1.out)).mono ?_
    rintro e w' ⟨rfl, n1, rfl⟩
    rw [h1]
    go_wp2
    go_ret3
    exact ⟨by rw [HO.out, HA.out, HB.out]; first | done | rfl, (by repeat (first | exact Below.refl _ _ | refine bl_alloc ?_ _ | refine bl_drewN ?_ _ | refine bl_trans (by assumption) ?_ | refine bl_set ?_ (by first | omega | (simp; done) | (simp; omega)) _))⟩
  · cases h2 : okPts L f
    · have HO := Lib.hid (show okLM xs L f = false by simp [okLM, h1, h2])
      have HA := Lib.hid (show LMv (lowTo xs f L) xs L f = 0 by simp [LMv, HO.out])
      have HB := Lib.hid (show LMv (highTo xs f L) xs L f = 0 by simp [LMv, HO.out])
      go_enter Try.func63, Try.ntmps63
      go_wp2_with fail
      refine (miPoint_any _ _ _ (by exact Q1.out)).mono ?_
      rintro e w' ⟨rfl, n1, rfl⟩
      rw [h1]
      go_wp2_with fail
      refine (miPoints_any _ _ _ _ (by exact Q2.out)).mono ?_
      rintro e w' ⟨rfl, n2, rfl⟩
      rw [h2]
      go_wp2
      go_ret3
      exact ⟨by rw [HO.out, HA.out, HB.out]; first | done | rfl, (by repeat (first | exact Below.refl _ _ | refine bl_alloc ?_ _ | refine bl_drewN ?_ _ | refine bl_trans (by assumption) ?_ | refine bl_set ?_ (by first | omega | (simp; done) | (simp; omega)) _))⟩
    · by_cases h3 : 0 < L
      · have HO := Lib.hid (show okLM xs L f = true by simp [okLM, h1, h2, h3])
        have HA := Lib.hid (show LMv (lowTo xs f L) xs L f = lowTo xs f L by simp [LMv, HO.out])
        have HB := Lib.hid (show LMv (highTo xs f L) xs L f = highTo xs f L by simp [LMv, HO.out])
        have hne : ((L : Int) == 0) = false := by simp; omega
        have H1 := Lib.hid h1
        have HT := Lib.hid (okPts_true h2).2
        go_enter Try.func63, Try.ntmps63
        go_wp2_with fail
        refine (miPoint_any _ _ _ (by exact Q1.out)).mono ?_
        rintro e w' ⟨rfl, n1, rfl⟩
        rw [h1]
        go_wp2_with fail
        refine (miPoints_any _ _ _ _ (by exact Q2.out)).mono ?_
        rintro e w' ⟨rfl, n2, rfl⟩
        rw [h2]
        clear h1 h2
        go_wp2
        go_loopw [7, 8, 28] (fun x y i wr => ∃ j : Nat, j ≤ L ∧ i = .int .i64 (j : Int) ∧ x = .int .i64 (lowTo xs f j) ∧ y = .int .i64 (highTo xs f j) ∧ Below w.heap.size w wr) (fun _ _ i _ => L - (intOf i).toNat)
        case atStart => exact ⟨0, Nat.zero_le _, rfl, rfl, rfl, (by repeat (first | exact Below.refl _ _ | refine bl_alloc ?_ _ | refine bl_drewN ?_ _ | refine bl_trans (by assumption) ?_ | refine bl_set ?_ (by first | omega | (simp; done) | (simp; omega)) _))⟩
        case round =>
          obtain ⟨j, hj, rfl, rfl, rfl, hW⟩ := hrel
          by_cases hlt : j < L
          · obtain ⟨b, off, cap, hv, hb, hc⟩ := (Q2.out.keep hW).some_ (by omega)
            obtain ⟨u1, c1, hu⟩ := hc j hlt
            simp only [Value.slice.injEq, true_and] at hv
            obtain ⟨rfl, rfl⟩ := hv
            have HU := Lib.hid hu
            have HV := Lib.hid (Q1.out.keep hW)
            have HW := Lib.hid hW
            have hlt' : (j : Int) < (L : Int) := by omega
            have HLS := Lib.hid (lowTo_succ xs f j)
            have HHS := Lib.hid (highTo_succ xs f j)
            obtain ⟨M, D, e1, e2, b1, b2, b3, e3, e4⟩ := look_red H1.out (okTo_at HT.out hlt)
            rw [e3] at HLS
            rw [e4] at HHS
            have E1 := Lib.hid e1
            have E2 := Lib.hid e2
            obtain ⟨d1, d2⟩ := div_bd M D (by omega)
            obtain ⟨d3, d4⟩ := div_bd (M + D - 1) D (by omega)
            have w1 := wrap_div M D (by omega)
            have w2' := wrap_div (M + D - 1) D (by omega)
            have hD0 : ((D : Int) == 0) = false := by simp; omega
            have k1 : (M : Int) / (D : Int) = ((M / D : Nat) : Int) := by rw [Int.natCast_ediv]
            have k2 : ((M : Int) + (D : Int) - 1) / (D : Int) = (((M + D - 1) / D : Nat) : Int) := by rw [Int.natCast_ediv, show (M : Int) + (D : Int) - 1 = ((M + D - 1 : Nat) : Int) by omega]
            clear hc hu hW e1 e2 e3 e4
            generalize (M / D : Nat) = q1 at *
            generalize ((M + D - 1) / D : Nat) = q2 at *
            generalize hlo : lowTo xs f j = lo at *
            generalize hhi : highTo xs f j = hi at *
            go_wp2_with fail
            refine (miLook_l _ _ _ _ _ (by exact HV.out) (by exact HU.out) H1.out (okTo_at HT.out hlt)).mono ?_
            rintro e w3 ⟨rfl, hb3⟩
            replace HW := Lib.hid (bl_trans hb3 HW.out)
            clear hb3 HV HU
            rw [E1.out, E2.out]
            go_wp2_with (first | (go_at_call 99; refine (l1Most_any _ _ _).mono ?_; rintro e w' ⟨rfl, rfl⟩) | (go_at_call 100; refine (l1LeastI_any _ _ _).mono ?_; rintro e w' ⟨rfl, rfl⟩))
            all_goals
              go_roundw
              case rel => exact ⟨j + 1, by omega, by go_num, by rw [HLS.out]; first | done | exact congrArg _ (by omega), by rw [HHS.out]; first | done | exact congrArg _ (by omega), HW.out⟩
              case measure => simp only [intOf]; omega
          · obtain rfl : j = L := by omega
            have HW := Lib.hid hW
            clear hW
            go_wp2
            go_ret3
            exact ⟨by rw [HO.out, HA.out, HB.out]; first | done | rfl, HW.out⟩
      · obtain rfl : L = 0 := by omega
        have HO := Lib.hid (show okLM xs 0 f = false by simp [okLM])
        have HA := Lib.hid (show LMv (lowTo xs f 0) xs 0 f = 0 by simp [LMv, HO.out])
        have HB := Lib.hid (show LMv (highTo xs f 0) xs 0 f = 0 by simp [LMv, HO.out])
        go_enter Try.func63, Try.ntmps63
        go_wp2_with fail
        refine (miPoint_any _ _ _ (by exact Q1.out)).mono ?_
        rintro e w' ⟨rfl, n1, rfl⟩
        rw [h1]
        go_wp2_with fail
        refine (miPoints_any _ _ _ _ (by exact Q2.out)).mono ?_
        rintro e w' ⟨rfl, n2, rfl⟩
        rw [h2]
        go_wp2
        go_ret3
        exact ⟨by rw [HO.out, HA.out, HB.out]; first | done | rfl, (by repeat (first | exact Below.refl _ _ | refine bl_alloc ?_ _ | refine bl_drewN ?_ _ | refine bl_trans (by assumption) ?_ | refine bl_set ?_ (by first | omega | (simp; done) | (simp; omega)) _))⟩

end Go.Proofs.Ytfcllmlecnffdaa
