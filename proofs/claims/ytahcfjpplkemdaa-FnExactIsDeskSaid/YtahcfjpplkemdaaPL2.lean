/- Rows of poles: whether they are poles of a lamp. -/
import Derived.Test.YtahcfjpplkemdaaPL1
import Derived.Deep.RegionHeld3
namespace Go.Proofs.Ytahcfjpplkemdaa
open Go.RowKit

def lastP (f : Nat → Int) : Nat → Int
  | 0 => 0
  | i + 1 => f (i * 2)
def rowTo (f : Nat → Int) : Nat → Bool
  | 0 => true
  | i + 1 => rowTo f i && (okP (f (i * 2)) (f (i * 2 + 1)) && decide (lastP f i < f (i * 2)))
def okRow (n : Nat) (f : Nat → Int) : Bool := within n 1 6 && rowTo f n
def lowTo (l : Int) (f : Nat → Int) : Nat → Bool
  | 0 => true
  | i + 1 => lowTo l f i && decide (f (i * 2 + 1) < l)
def okG (l : Int) (n : Nat) (f : Nat → Int) : Bool := okM l && (okRow n f && lowTo l f n)
theorem hand_take {P : Program} {md : Region.Mode} {ops : Array Oper} {Q : Exit → Act → World → Prop} {S : World → Prop} {oi : Oper} {fuel : Nat} {listed : Array Bool} {a : Act} {w : World} (i : Nat) (d : Tmp) (v : Value) (hi : ops[i]? = some oi) (hd : oi.dst = some d)
    (hs : Region.noSelect ops = true) (hf : Region.free md ops listed i = true) (hr : (Region.ready md ops listed).contains i = true)
    (hQ : ∀ c a w, Q (.panic c) (a.put oi.dst v) w → Q (.panic c) a w) (hy : YieldsIf P ops S oi v a) (hS : S w)
    (h : wpAnyH P md ops Q S fuel (listed.setIfInBounds i true) (a.put (some d) v) w) : wpAnyH P md ops Q S (fuel + 1) listed a w :=
  wpAnyH_take hi hs hf hr hQ hy hS (by rw [hd]; exact h)
theorem SR_after {u v w : World} {b1 b2 o1 o2 o3 : Nat} {x1 x2 x3 : Value} (hb : Below u.heap.size u v)
    (h : u.cell? ⟨b1, o1, none⟩ = some x1 ∧ u.cell? ⟨b1, o2, none⟩ = some x2 ∧ u.cell? ⟨b2, o3, none⟩ = some x3 ∧ b1 < u.heap.size ∧ b2 < u.heap.size ∧ Below w.heap.size w u) :
    v.cell? ⟨b1, o1, none⟩ = some x1 ∧ v.cell? ⟨b1, o2, none⟩ = some x2 ∧ v.cell? ⟨b2, o3, none⟩ = some x3 ∧ b1 < v.heap.size ∧ b2 < v.heap.size ∧ Below w.heap.size w v := by
  obtain ⟨h1, h2, h3, h5, h6, h7⟩ := h
  refine ⟨?_, ?_, ?_, Nat.lt_of_lt_of_le h5 hb.size, Nat.lt_of_lt_of_le h6 hb.size, bl_trans hb h7⟩
  all_goals (first | rw [(bcell hb).1 _ _ h5] | rw [(bcell hb).1 _ _ h6]) <;> assumption
theorem rowTo_false {f : Nat → Int} {i n : Nat} (h : rowTo f (i + 1) = false) (hn : i + 1 ≤ n) : rowTo f n = false := by
  obtain ⟨k, rfl⟩ : ∃ k, n = i + 1 + k := ⟨n - (i + 1), by omega⟩
  clear hn
  induction k with
  | zero => exact h
  | succ k ih =>
    show (rowTo f (i + 1 + k) && _) = false
    rw [ih]; rfl
theorem lowTo_false {l : Int} {f : Nat → Int} {i n : Nat} (h : lowTo l f (i + 1) = false) (hn : i + 1 ≤ n) : lowTo l f n = false := by
  obtain ⟨k, rfl⟩ : ∃ k, n = i + 1 + k := ⟨n - (i + 1), by omega⟩
  clear hn
  induction k with
  | zero => exact h
  | succ k ih =>
    show (lowTo l f (i + 1 + k) && _) = false
    rw [ih]; rfl
theorem rowTo_at {f : Nat → Int} {n i : Nat} (h : rowTo f n = true) (hi : i < n) : okP (f (i * 2)) (f (i * 2 + 1)) = true ∧ lastP f i < f (i * 2) := by
  cases e : rowTo f (i + 1) with
  | false => rw [rowTo_false e hi] at h; cases h
  | true =>
    simp only [rowTo, Bool.and_eq_true, decide_eq_true_eq] at e
    exact e.2
theorem lowTo_at {l : Int} {f : Nat → Int} {n i : Nat} (h : lowTo l f n = true) (hi : i < n) : f (i * 2 + 1) < l := by
  cases e : lowTo l f (i + 1) with
  | false => rw [lowTo_false e hi] at h; cases h
  | true =>
    simp only [lowTo, Bool.and_eq_true, decide_eq_true_eq] at e
    exact e.2
theorem okG_true {l : Int} {n : Nat} {f : Nat → Int} (h : okG l n f = true) : (1 ≤ n ∧ n ≤ 6) ∧ ∀ i, i < n → okB l (f (i * 2)) (f (i * 2 + 1)) = true := by
  simp only [okG, okRow, Bool.and_eq_true] at h
  obtain ⟨h1, ⟨h2, h3⟩, h4⟩ := h
  have h5 := within_true h2
  refine ⟨by omega, fun i hi => ?_⟩
  simp only [okB, Bool.and_eq_true, decide_eq_true_eq]
  exact ⟨h1, (rowTo_at h3 hi).1, lowTo_at h4 hi⟩

set_option maxHeartbeats 800000 in
theorem impl_isRow (v : Value) (n : Nat) (f : Nat → Int) (w : World) (h : PRow w v n f) :
    Calls Try.prog 68 #[v] w fun e w' => e = .returned (.bool (okRow n f)) ∧ Below w.heap.size w w' := by
  have hl := h.len_le
  have HH := Lib.hid h
  cases h1 : within n 1 6
  · obtain ⟨a, c, rfl⟩ := h.shape
    clear h
    go_enter Try.func68, Try.ntmps68
    go_wp2_with (first | (go_at_call 58; refine (isWithin_any _ _ _ _).mono ?_; rintro e w' ⟨rfl, rfl⟩) | fail)
    go_ret
    exact ⟨by simp [okRow, h1], (by repeat (first | exact Below.refl _ _ | refine bl_alloc ?_ _ | refine bl_drewN ?_ _ | refine bl_trans (by assumption) ?_ | refine bl_set ?_ (by first | omega | (simp; done) | (simp; omega)) _))⟩
  · have hn := within_true h1
    obtain ⟨b, off, cap, rfl, _⟩ := h.some_ (by omega)
    clear h
    have EO := Lib.hid (show okRow n f = rowTo f n by simp [okRow, h1])
    go_enter Try.func68, Try.ntmps68
    go_wp2_with (first | (go_at_call 58; refine (isWithin_any _ _ _ _).mono ?_; rintro e w' ⟨rfl, rfl⟩) | fail)
    go_loopw [3, 12] (fun last i wr => ∃ j : Nat, j ≤ n ∧ last = .int .i64 (lastP f j) ∧ i = .int .i64 (j : Int) ∧ rowTo f j = true ∧ Below w.heap.size w wr) (fun _ i _ => n - (intOf i).toNat)
    case atStart => exact ⟨0, Nat.zero_le _, rfl, rfl, rfl, Below.refl _ _⟩
    case round =>
      obtain ⟨j, hj, rfl, rfl, hT, hW⟩ := hrel
      by_cases hlt : j < n
      · obtain ⟨b', off', cap', hv, hb', hc⟩ := (HH.out.keep hW).some_ (by omega)
        simp only [Value.slice.injEq, Option.some.injEq, Addr.mk.injEq, and_true, true_and] at hv
        obtain ⟨⟨rfl, rfl⟩, rfl⟩ := hv
        obtain ⟨p1, p2⟩ := hc j hlt
        have hlt' : (j : Int) < (n : Int) := by omega
        have HW := Lib.hid hW
        cases g : okP (f (j * 2)) (f (j * 2 + 1))
        · have FF := Lib.hid (rowTo_false (n := n) (i := j) (f := f) (by simp [rowTo, g]) hlt)
          go_wp2_with (go_at_call 85; refine (impl_isPole _ _ _).mono ?_; rintro e w1 ⟨rfl, hb⟩; obtain ⟨hc, hf⟩ := bcell hb; have hz := bsize hb; (try simp only [World.size_alloc] at hz); (try have hz0 : wr.heap.size < w1.heap.size := by omega); rw [g])
          go_ret
          exact ⟨by simp [EO.out, FF.out], (by repeat (first | exact Below.refl _ _ | refine bl_alloc ?_ _ | refine bl_drewN ?_ _ | refine bl_trans (by assumption) ?_ | refine bl_set ?_ (by first | omega | (simp; done) | (simp; omega)) _))⟩
        · by_cases m : lastP f j < f (j * 2)
          · have TT := Lib.hid (show rowTo f (j + 1) = true by simp [rowTo, g, hT, m])
            go_wp2_with (go_at_call 85; refine (impl_isPole _ _ _).mono ?_; rintro e w1 ⟨rfl, hb⟩; obtain ⟨hc, hf⟩ := bcell hb; have hz := bsize hb; (try simp only [World.size_alloc] at hz); (try have hz0 : wr.heap.size < w1.heap.size := by omega); rw [g])
            go_roundw
            case rel => exact ⟨j + 1, by omega, rfl, by go_num, TT.out, (by repeat (first | exact Below.refl _ _ | refine bl_alloc ?_ _ | refine bl_drewN ?_ _ | refine bl_trans (by assumption) ?_ | refine bl_set ?_ (by first | omega | (simp; done) | (simp; omega)) _))⟩
            case measure => simp only [intOf]; omega
          · have FF := Lib.hid (rowTo_false (n := n) (i := j) (f := f) (by simp [rowTo, m]) hlt)
            go_wp2_with (go_at_call 85; refine (impl_isPole _ _ _).mono ?_; rintro e w1 ⟨rfl, hb⟩; obtain ⟨hc, hf⟩ := bcell hb; have hz := bsize hb; (try simp only [World.size_alloc] at hz); (try have hz0 : wr.heap.size < w1.heap.size := by omega); rw [g])
            go_ret
            exact ⟨by simp [EO.out, FF.out], (by repeat (first | exact Below.refl _ _ | refine bl_alloc ?_ _ | refine bl_drewN ?_ _ | refine bl_trans (by assumption) ?_ | refine bl_set ?_ (by first | omega | (simp; done) | (simp; omega)) _))⟩
      · obtain rfl : j = n := by omega
        have TT := Lib.hid hT
        go_wp2
        go_ret
        exact ⟨by simp [EO.out, TT.out], hW⟩
set_option maxHeartbeats 800000 in
theorem spec_isRow (v : Value) (n : Nat) (f : Nat → Int) (w : World) (h : PRow w v n f) :
    Calls Try.prog 82 #[v] w fun e w' => e = .returned (.bool (okRow n f)) ∧ Below w.heap.size w w' := by
  have hl := h.len_le
  have HH := Lib.hid h
  cases h1 : within n 1 6
  · obtain ⟨a, c, rfl⟩ := h.shape
    clear h
    go_enter Try.func82, Try.ntmps82
    go_wp2_with (first | (go_at_call 54; refine (l1In_any _ _ _ _).mono ?_; rintro e w' ⟨rfl, rfl⟩) | fail)
    go_ret
    exact ⟨by simp [okRow, h1], (by repeat (first | exact Below.refl _ _ | refine bl_alloc ?_ _ | refine bl_drewN ?_ _ | refine bl_trans (by assumption) ?_ | refine bl_set ?_ (by first | omega | (simp; done) | (simp; omega)) _))⟩
  · have hn := within_true h1
    obtain ⟨b, off, cap, rfl, _⟩ := h.some_ (by omega)
    clear h
    have EO := Lib.hid (show okRow n f = rowTo f n by simp [okRow, h1])
    go_enter Try.func82, Try.ntmps82
    go_wp2_with (first | (go_at_call 54; refine (l1In_any _ _ _ _).mono ?_; rintro e w' ⟨rfl, rfl⟩) | fail)
    go_loopw [11] (fun i wr => ∃ j : Nat, j ≤ n ∧ i = .int .i64 (j : Int) ∧ rowTo f j = true ∧ Below w.heap.size w wr) (fun i _ => n - (intOf i).toNat)
    case atStart => exact ⟨0, Nat.zero_le _, rfl, rfl, Below.refl _ _⟩
    case round =>
      obtain ⟨j, hj, rfl, hT, hW⟩ := hrel
      by_cases hlt : j < n
      · obtain ⟨b', off', cap', hv, hb', hc⟩ := (HH.out.keep hW).some_ (by omega)
        simp only [Value.slice.injEq, Option.some.injEq, Addr.mk.injEq, and_true, true_and] at hv
        obtain ⟨⟨rfl, rfl⟩, rfl⟩ := hv
        obtain ⟨p1, p2⟩ := hc j hlt
        have hlt' : (j : Int) < (n : Int) := by omega
        have HW := Lib.hid hW
        cases g : okP (f (j * 2)) (f (j * 2 + 1))
        · have FF := Lib.hid (rowTo_false (n := n) (i := j) (f := f) (by simp [rowTo, g]) hlt)
          obtain ⟨q1, _⟩ := hc (j - 1) (by omega)
          go_wp2_with fail
          refine wp_region_held_drew (S := (fun w' => w'.cell? ⟨wr.heap.size, 0, none⟩ = some (.int .i64 (f (j * 2))) ∧ w'.cell? ⟨wr.heap.size, 1, none⟩ = some (.int .i64 (f (j * 2 + 1))) ∧ w'.cell? ⟨b, off + (j - 1) * 2, none⟩ = some (.int .i64 (f ((j - 1) * 2))) ∧ wr.heap.size < w'.heap.size ∧ b < w'.heap.size ∧ Below w.heap.size w w')) (by kernel_rfl) ⟨by simp, by simp, by simp only [World.cell?_drew]; rw [World.cell?_alloc_past _ _ _ hb']; exact q1, by simp, by simp; omega, Below.drew (HW.out.alloc HW.out.size _)⟩ (fun hHeld => ?_)
          refine hand_take 0 16 (.agg #[.int .i64 (f (j * 2)), .int .i64 (f (j * 2 + 1))]) rfl rfl (by kernel_rfl) (by kernel_rfl) (by kernel_rfl) (fun _ _ _ h => h) (Or.inl ⟨by rfl, fun w' hSw => by (try dsimp only at hSw); go_simp; first | (intro hno; exfalso; omega) | (with_reducible rfl) | skip⟩) hHeld ?_
          (try simp only [Act.put, List.setIfInBounds_toArray, List.set_cons_zero, List.set_cons_succ])
          refine wpAnyH_ready (rs := [1]) (by kernel_rfl) (by simp) ?_
          refine AllReadyH.cons rfl (fun K hK => ?_) AllReadyH.nil
          go_simp
          (go_at_call 93; refine (spec_swPole _ _ _).mono ?_; rintro e w2 ⟨rfl, hb2⟩; rw [g])
          refine hK.out _ _ (SR_after hb2 hHeld) ?_
          clear hHeld hK K
          intro hHeld
          (try simp only [Act.put, List.setIfInBounds_toArray, List.set_cons_zero, List.set_cons_succ])
          refine hand_take 2 18 (.bool true) rfl rfl (by kernel_rfl) (by kernel_rfl) (by kernel_rfl) (fun _ _ _ h => h) (Or.inl ⟨by rfl, fun w' hSw => by (try dsimp only at hSw); go_simp; first | (intro hno; exfalso; omega) | (with_reducible rfl) | skip⟩) hHeld ?_
          (try simp only [Act.put, List.setIfInBounds_toArray, List.set_cons_zero, List.set_cons_succ])
          refine hand_take 3 19 (.bool true) rfl rfl (by kernel_rfl) (by kernel_rfl) (by kernel_rfl) (fun _ _ _ h => h) (Or.inl ⟨by rfl, fun w' hSw => by (try dsimp only at hSw); go_simp; first | (intro hno; exfalso; omega) | (with_reducible rfl) | skip⟩) hHeld ?_
          (try simp only [Act.put, List.setIfInBounds_toArray, List.set_cons_zero, List.set_cons_succ])
          refine hand_take 4 20 undef rfl rfl (by kernel_rfl) (by kernel_rfl) (by kernel_rfl) (fun _ _ _ h => h) (Or.inr ⟨by rfl, rfl⟩) hHeld ?_
          (try simp only [Act.put, List.setIfInBounds_toArray, List.set_cons_zero, List.set_cons_succ])
          refine hand_take 5 21 undef rfl rfl (by kernel_rfl) (by kernel_rfl) (by kernel_rfl) (fun _ _ _ h => h) (Or.inr ⟨by rfl, rfl⟩) hHeld ?_
          (try simp only [Act.put, List.setIfInBounds_toArray, List.set_cons_zero, List.set_cons_succ])
          refine hand_take 6 22 undef rfl rfl (by kernel_rfl) (by kernel_rfl) (by kernel_rfl) (fun _ _ _ h => h) (Or.inr ⟨by rfl, rfl⟩) hHeld ?_
          (try simp only [Act.put, List.setIfInBounds_toArray, List.set_cons_zero, List.set_cons_succ])
          refine hand_take 7 23 undef rfl rfl (by kernel_rfl) (by kernel_rfl) (by kernel_rfl) (fun _ _ _ h => h) (Or.inr ⟨by rfl, rfl⟩) hHeld ?_
          (try simp only [Act.put, List.setIfInBounds_toArray, List.set_cons_zero, List.set_cons_succ])
          refine hand_take 8 24 undef rfl rfl (by kernel_rfl) (by kernel_rfl) (by kernel_rfl) (fun _ _ _ h => h) (Or.inr ⟨by rfl, rfl⟩) hHeld ?_
          (try simp only [Act.put, List.setIfInBounds_toArray, List.set_cons_zero, List.set_cons_succ])
          refine hand_take 9 25 undef rfl rfl (by kernel_rfl) (by kernel_rfl) (by kernel_rfl) (fun _ _ _ h => h) (Or.inr ⟨by rfl, rfl⟩) hHeld ?_
          (try simp only [Act.put, List.setIfInBounds_toArray, List.set_cons_zero, List.set_cons_succ])
          refine hand_take 10 26 undef rfl rfl (by kernel_rfl) (by kernel_rfl) (by kernel_rfl) (fun _ _ _ h => h) (Or.inr ⟨by rfl, rfl⟩) hHeld ?_
          (try simp only [Act.put, List.setIfInBounds_toArray, List.set_cons_zero, List.set_cons_succ])
          refine hand_take 11 27 undef rfl rfl (by kernel_rfl) (by kernel_rfl) (by kernel_rfl) (fun _ _ _ h => h) (Or.inr ⟨by rfl, rfl⟩) hHeld ?_
          (try simp only [Act.put, List.setIfInBounds_toArray, List.set_cons_zero, List.set_cons_succ])
          refine hand_take 12 28 undef rfl rfl (by kernel_rfl) (by kernel_rfl) (by kernel_rfl) (fun _ _ _ h => h) (Or.inr ⟨by rfl, rfl⟩) hHeld ?_
          (try simp only [Act.put, List.setIfInBounds_toArray, List.set_cons_zero, List.set_cons_succ])
          refine hand_take 13 29 undef rfl rfl (by kernel_rfl) (by kernel_rfl) (by kernel_rfl) (fun _ _ _ h => h) (Or.inr ⟨by rfl, rfl⟩) hHeld ?_
          (try simp only [Act.put, List.setIfInBounds_toArray, List.set_cons_zero, List.set_cons_succ])
          refine hand_take 14 30 undef rfl rfl (by kernel_rfl) (by kernel_rfl) (by kernel_rfl) (fun _ _ _ h => h) (Or.inr ⟨by rfl, rfl⟩) hHeld ?_
          (try simp only [Act.put, List.setIfInBounds_toArray, List.set_cons_zero, List.set_cons_succ])
          refine hand_take 15 31 undef rfl rfl (by kernel_rfl) (by kernel_rfl) (by kernel_rfl) (fun _ _ _ h => h) (Or.inr ⟨by rfl, rfl⟩) hHeld ?_
          (try simp only [Act.put, List.setIfInBounds_toArray, List.set_cons_zero, List.set_cons_succ])
          refine hand_take 16 32 undef rfl rfl (by kernel_rfl) (by kernel_rfl) (by kernel_rfl) (fun _ _ _ h => h) (Or.inr ⟨by rfl, rfl⟩) hHeld ?_
          (try simp only [Act.put, List.setIfInBounds_toArray, List.set_cons_zero, List.set_cons_succ])
          refine hand_take 17 33 (.bool true) rfl rfl (by kernel_rfl) (by kernel_rfl) (by kernel_rfl) (fun _ _ _ h => h) (Or.inl ⟨by rfl, fun w' hSw => by (try dsimp only at hSw); go_simp; first | (intro hno; exfalso; omega) | (with_reducible rfl) | skip⟩) hHeld ?_
          (try simp only [Act.put, List.setIfInBounds_toArray, List.set_cons_zero, List.set_cons_succ])
          refine wpAnyH_done (by kernel_rfl) ?_ _
          go_wp2
          go_ret
          exact ⟨by simp [EO.out, FF.out], hHeld.2.2.2.2.2⟩
        · obtain ⟨q1, _⟩ := hc (j - 1) (by omega)
          by_cases e0 : 0 < j
          · have hd : decide (0 < (j : Int)) = true := by simp; omega
            have hpos : 0 < (j : Int) := by omega
            have hw1 : IntKind.i64.wrap ((j : Int) - 1) = (j : Int) - 1 := IntWalk.i64_in _ (by omega)
            have ht1 : ((j : Int) - 1).toNat = j - 1 := by omega
            have hge : 0 ≤ (j : Int) - 1 := by omega
            have hle : (j : Int) - 1 < (n : Int) := by omega
            have hl0 : lastP f j = f ((j - 1) * 2) := by
              obtain ⟨k, rfl⟩ : ∃ k, j = k + 1 := ⟨j - 1, by omega⟩
              simp [lastP]
            by_cases m : f ((j - 1) * 2) < f (j * 2)
            · have TT := Lib.hid (show rowTo f (j + 1) = true by simp [rowTo, g, hl0, m, hT])
              have m' : ¬ f (j * 2) ≤ f ((j - 1) * 2) := by omega
              have hm' : decide (f (j * 2) ≤ f ((j - 1) * 2)) = false := decide_eq_false m'
              go_wp2_with fail
              refine wp_region_held_drew (S := (fun w' => w'.cell? ⟨wr.heap.size, 0, none⟩ = some (.int .i64 (f (j * 2))) ∧ w'.cell? ⟨wr.heap.size, 1, none⟩ = some (.int .i64 (f (j * 2 + 1))) ∧ w'.cell? ⟨b, off + (j - 1) * 2, none⟩ = some (.int .i64 (f ((j - 1) * 2))) ∧ wr.heap.size < w'.heap.size ∧ b < w'.heap.size ∧ Below w.heap.size w w')) (by kernel_rfl) ⟨by simp, by simp, by simp only [World.cell?_drew]; rw [World.cell?_alloc_past _ _ _ hb']; exact q1, by simp, by simp; omega, Below.drew (HW.out.alloc HW.out.size _)⟩ (fun hHeld => ?_)
              refine hand_take 0 16 (.agg #[.int .i64 (f (j * 2)), .int .i64 (f (j * 2 + 1))]) rfl rfl (by kernel_rfl) (by kernel_rfl) (by kernel_rfl) (fun _ _ _ h => h) (Or.inl ⟨by rfl, fun w' hSw => by (try dsimp only at hSw); go_simp; first | (intro hno; exfalso; omega) | (with_reducible rfl) | skip⟩) hHeld ?_
              (try simp only [Act.put, List.setIfInBounds_toArray, List.set_cons_zero, List.set_cons_succ])
              refine wpAnyH_ready (rs := [1]) (by kernel_rfl) (by simp) ?_
              refine AllReadyH.cons rfl (fun K hK => ?_) AllReadyH.nil
              go_simp
              (go_at_call 93; refine (spec_swPole _ _ _).mono ?_; rintro e w2 ⟨rfl, hb2⟩; rw [g])
              refine hK.out _ _ (SR_after hb2 hHeld) ?_
              clear hHeld hK K
              intro hHeld
              (try simp only [Act.put, List.setIfInBounds_toArray, List.set_cons_zero, List.set_cons_succ])
              refine hand_take 2 18 (.bool false) rfl rfl (by kernel_rfl) (by kernel_rfl) (by kernel_rfl) (fun _ _ _ h => h) (Or.inl ⟨by rfl, fun w' hSw => by (try dsimp only at hSw); go_simp; first | (intro hno; exfalso; omega) | (with_reducible rfl) | skip⟩) hHeld ?_
              (try simp only [Act.put, List.setIfInBounds_toArray, List.set_cons_zero, List.set_cons_succ])
              refine hand_take 3 19 (.bool false) rfl rfl (by kernel_rfl) (by kernel_rfl) (by kernel_rfl) (fun _ _ _ h => h) (Or.inl ⟨by rfl, fun w' hSw => by (try dsimp only at hSw); go_simp; first | (intro hno; exfalso; omega) | (with_reducible rfl) | skip⟩) hHeld ?_
              (try simp only [Act.put, List.setIfInBounds_toArray, List.set_cons_zero, List.set_cons_succ])
              refine hand_take 4 20 (.int .i64 (j : Int)) rfl rfl (by kernel_rfl) (by kernel_rfl) (by kernel_rfl) (fun _ _ _ h => h) (Or.inl ⟨by rfl, fun w' hSw => by (try dsimp only at hSw); go_simp; first | (intro hno; exfalso; omega) | (with_reducible rfl) | skip⟩) hHeld ?_
              (try simp only [Act.put, List.setIfInBounds_toArray, List.set_cons_zero, List.set_cons_succ])
              refine hand_take 5 21 (.bool true) rfl rfl (by kernel_rfl) (by kernel_rfl) (by kernel_rfl) (fun _ _ _ h => h) (Or.inl ⟨by rfl, fun w' hSw => by (try dsimp only at hSw); go_simp; first | (intro hno; exfalso; omega) | (with_reducible rfl) | skip⟩) hHeld ?_
              (try simp only [Act.put, List.setIfInBounds_toArray, List.set_cons_zero, List.set_cons_succ])
              refine hand_take 6 22 (.bool true) rfl rfl (by kernel_rfl) (by kernel_rfl) (by kernel_rfl) (fun _ _ _ h => h) (Or.inl ⟨by rfl, fun w' hSw => by (try dsimp only at hSw); go_simp; first | (intro hno; exfalso; omega) | (with_reducible rfl) | skip⟩) hHeld ?_
              (try simp only [Act.put, List.setIfInBounds_toArray, List.set_cons_zero, List.set_cons_succ])
              refine hand_take 7 23 (.pointer (some ⟨wr.heap.size, 0, none⟩)) rfl rfl (by kernel_rfl) (by kernel_rfl) (by kernel_rfl) (fun _ _ _ h => h) (Or.inl ⟨by rfl, fun w' hSw => by (try dsimp only at hSw); go_simp; first | (intro hno; exfalso; omega) | (with_reducible rfl) | skip⟩) hHeld ?_
              (try simp only [Act.put, List.setIfInBounds_toArray, List.set_cons_zero, List.set_cons_succ])
              refine hand_take 8 24 (.int .i64 (f (j * 2))) rfl rfl (by kernel_rfl) (by kernel_rfl) (by kernel_rfl) (fun _ _ _ h => h) (Or.inl ⟨by rfl, fun w' hSw => by (try dsimp only at hSw); go_simp; first | (intro hno; exfalso; omega) | (with_reducible rfl) | skip⟩) hHeld ?_
              (try simp only [Act.put, List.setIfInBounds_toArray, List.set_cons_zero, List.set_cons_succ])
              refine hand_take 9 25 (.slice (some ⟨b, off, none⟩) n cap) rfl rfl (by kernel_rfl) (by kernel_rfl) (by kernel_rfl) (fun _ _ _ h => h) (Or.inl ⟨by rfl, fun w' hSw => by (try dsimp only at hSw); go_simp; first | (intro hno; exfalso; omega) | (with_reducible rfl) | skip⟩) hHeld ?_
              (try simp only [Act.put, List.setIfInBounds_toArray, List.set_cons_zero, List.set_cons_succ])
              refine hand_take 10 26 (.int .i64 (j : Int)) rfl rfl (by kernel_rfl) (by kernel_rfl) (by kernel_rfl) (fun _ _ _ h => h) (Or.inl ⟨by rfl, fun w' hSw => by (try dsimp only at hSw); go_simp; first | (intro hno; exfalso; omega) | (with_reducible rfl) | skip⟩) hHeld ?_
              (try simp only [Act.put, List.setIfInBounds_toArray, List.set_cons_zero, List.set_cons_succ])
              refine hand_take 11 27 (.int .i64 ((j : Int) - 1)) rfl rfl (by kernel_rfl) (by kernel_rfl) (by kernel_rfl) (fun _ _ _ h => h) (Or.inl ⟨by rfl, fun w' hSw => by (try dsimp only at hSw); go_simp; first | (intro hno; exfalso; omega) | (with_reducible rfl) | skip⟩) hHeld ?_
              (try simp only [Act.put, List.setIfInBounds_toArray, List.set_cons_zero, List.set_cons_succ])
              refine hand_take 12 28 (.pointer (some ⟨b, off + (j - 1) * 2, none⟩)) rfl rfl (by kernel_rfl) (by kernel_rfl) (by kernel_rfl) (fun _ _ _ h => h) (Or.inl ⟨by rfl, fun w' hSw => by (try dsimp only at hSw); go_simp; first | (intro hno; exfalso; omega) | (with_reducible rfl) | skip⟩) hHeld ?_
              (try simp only [Act.put, List.setIfInBounds_toArray, List.set_cons_zero, List.set_cons_succ])
              refine hand_take 13 29 (.pointer (some ⟨b, off + (j - 1) * 2, none⟩)) rfl rfl (by kernel_rfl) (by kernel_rfl) (by kernel_rfl) (fun _ _ _ h => h) (Or.inl ⟨by rfl, fun w' hSw => by (try dsimp only at hSw); go_simp; first | (intro hno; exfalso; omega) | (with_reducible rfl) | skip⟩) hHeld ?_
              (try simp only [Act.put, List.setIfInBounds_toArray, List.set_cons_zero, List.set_cons_succ])
              refine hand_take 14 30 (.int .i64 (f ((j - 1) * 2))) rfl rfl (by kernel_rfl) (by kernel_rfl) (by kernel_rfl) (fun _ _ _ h => h) (Or.inl ⟨by rfl, fun w' hSw => by (try dsimp only at hSw); go_simp; first | (intro hno; exfalso; omega) | (with_reducible rfl) | skip⟩) hHeld ?_
              (try simp only [Act.put, List.setIfInBounds_toArray, List.set_cons_zero, List.set_cons_succ])
              refine hand_take 15 31 (.bool false) rfl rfl (by kernel_rfl) (by kernel_rfl) (by kernel_rfl) (fun _ _ _ h => h) (Or.inl ⟨by rfl, fun w' hSw => by (try dsimp only at hSw); go_simp; first | (intro hno; exfalso; omega) | (with_reducible rfl) | skip⟩) hHeld ?_
              (try simp only [Act.put, List.setIfInBounds_toArray, List.set_cons_zero, List.set_cons_succ])
              refine hand_take 16 32 (.bool false) rfl rfl (by kernel_rfl) (by kernel_rfl) (by kernel_rfl) (fun _ _ _ h => h) (Or.inl ⟨by rfl, fun w' hSw => by (try dsimp only at hSw); go_simp; first | (intro hno; exfalso; omega) | (with_reducible rfl) | skip⟩) hHeld ?_
              (try simp only [Act.put, List.setIfInBounds_toArray, List.set_cons_zero, List.set_cons_succ])
              refine hand_take 17 33 (.bool false) rfl rfl (by kernel_rfl) (by kernel_rfl) (by kernel_rfl) (fun _ _ _ h => h) (Or.inl ⟨by rfl, fun w' hSw => by (try dsimp only at hSw); go_simp; first | (intro hno; exfalso; omega) | (with_reducible rfl) | skip⟩) hHeld ?_
              (try simp only [Act.put, List.setIfInBounds_toArray, List.set_cons_zero, List.set_cons_succ])
              refine wpAnyH_done (by kernel_rfl) ?_ _
              go_wp2
              go_roundw
              case rel => exact ⟨j + 1, by omega, by go_num, TT.out, hHeld.2.2.2.2.2⟩
              case measure => simp only [intOf]; omega
            · have FF := Lib.hid (rowTo_false (n := n) (i := j) (f := f) (by simp [rowTo, hl0, m]) hlt)
              have m' : f (j * 2) ≤ f ((j - 1) * 2) := by omega
              have hm' : decide (f (j * 2) ≤ f ((j - 1) * 2)) = true := decide_eq_true m'
              go_wp2_with fail
              refine wp_region_held_drew (S := (fun w' => w'.cell? ⟨wr.heap.size, 0, none⟩ = some (.int .i64 (f (j * 2))) ∧ w'.cell? ⟨wr.heap.size, 1, none⟩ = some (.int .i64 (f (j * 2 + 1))) ∧ w'.cell? ⟨b, off + (j - 1) * 2, none⟩ = some (.int .i64 (f ((j - 1) * 2))) ∧ wr.heap.size < w'.heap.size ∧ b < w'.heap.size ∧ Below w.heap.size w w')) (by kernel_rfl) ⟨by simp, by simp, by simp only [World.cell?_drew]; rw [World.cell?_alloc_past _ _ _ hb']; exact q1, by simp, by simp; omega, Below.drew (HW.out.alloc HW.out.size _)⟩ (fun hHeld => ?_)
              refine hand_take 0 16 (.agg #[.int .i64 (f (j * 2)), .int .i64 (f (j * 2 + 1))]) rfl rfl (by kernel_rfl) (by kernel_rfl) (by kernel_rfl) (fun _ _ _ h => h) (Or.inl ⟨by rfl, fun w' hSw => by (try dsimp only at hSw); go_simp; first | (intro hno; exfalso; omega) | (with_reducible rfl) | skip⟩) hHeld ?_
              (try simp only [Act.put, List.setIfInBounds_toArray, List.set_cons_zero, List.set_cons_succ])
              refine wpAnyH_ready (rs := [1]) (by kernel_rfl) (by simp) ?_
              refine AllReadyH.cons rfl (fun K hK => ?_) AllReadyH.nil
              go_simp
              (go_at_call 93; refine (spec_swPole _ _ _).mono ?_; rintro e w2 ⟨rfl, hb2⟩; rw [g])
              refine hK.out _ _ (SR_after hb2 hHeld) ?_
              clear hHeld hK K
              intro hHeld
              (try simp only [Act.put, List.setIfInBounds_toArray, List.set_cons_zero, List.set_cons_succ])
              refine hand_take 2 18 (.bool false) rfl rfl (by kernel_rfl) (by kernel_rfl) (by kernel_rfl) (fun _ _ _ h => h) (Or.inl ⟨by rfl, fun w' hSw => by (try dsimp only at hSw); go_simp; first | (intro hno; exfalso; omega) | (with_reducible rfl) | skip⟩) hHeld ?_
              (try simp only [Act.put, List.setIfInBounds_toArray, List.set_cons_zero, List.set_cons_succ])
              refine hand_take 3 19 (.bool false) rfl rfl (by kernel_rfl) (by kernel_rfl) (by kernel_rfl) (fun _ _ _ h => h) (Or.inl ⟨by rfl, fun w' hSw => by (try dsimp only at hSw); go_simp; first | (intro hno; exfalso; omega) | (with_reducible rfl) | skip⟩) hHeld ?_
              (try simp only [Act.put, List.setIfInBounds_toArray, List.set_cons_zero, List.set_cons_succ])
              refine hand_take 4 20 (.int .i64 (j : Int)) rfl rfl (by kernel_rfl) (by kernel_rfl) (by kernel_rfl) (fun _ _ _ h => h) (Or.inl ⟨by rfl, fun w' hSw => by (try dsimp only at hSw); go_simp; first | (intro hno; exfalso; omega) | (with_reducible rfl) | skip⟩) hHeld ?_
              (try simp only [Act.put, List.setIfInBounds_toArray, List.set_cons_zero, List.set_cons_succ])
              refine hand_take 5 21 (.bool true) rfl rfl (by kernel_rfl) (by kernel_rfl) (by kernel_rfl) (fun _ _ _ h => h) (Or.inl ⟨by rfl, fun w' hSw => by (try dsimp only at hSw); go_simp; first | (intro hno; exfalso; omega) | (with_reducible rfl) | skip⟩) hHeld ?_
              (try simp only [Act.put, List.setIfInBounds_toArray, List.set_cons_zero, List.set_cons_succ])
              refine hand_take 6 22 (.bool true) rfl rfl (by kernel_rfl) (by kernel_rfl) (by kernel_rfl) (fun _ _ _ h => h) (Or.inl ⟨by rfl, fun w' hSw => by (try dsimp only at hSw); go_simp; first | (intro hno; exfalso; omega) | (with_reducible rfl) | skip⟩) hHeld ?_
              (try simp only [Act.put, List.setIfInBounds_toArray, List.set_cons_zero, List.set_cons_succ])
              refine hand_take 7 23 (.pointer (some ⟨wr.heap.size, 0, none⟩)) rfl rfl (by kernel_rfl) (by kernel_rfl) (by kernel_rfl) (fun _ _ _ h => h) (Or.inl ⟨by rfl, fun w' hSw => by (try dsimp only at hSw); go_simp; first | (intro hno; exfalso; omega) | (with_reducible rfl) | skip⟩) hHeld ?_
              (try simp only [Act.put, List.setIfInBounds_toArray, List.set_cons_zero, List.set_cons_succ])
              refine hand_take 8 24 (.int .i64 (f (j * 2))) rfl rfl (by kernel_rfl) (by kernel_rfl) (by kernel_rfl) (fun _ _ _ h => h) (Or.inl ⟨by rfl, fun w' hSw => by (try dsimp only at hSw); go_simp; first | (intro hno; exfalso; omega) | (with_reducible rfl) | skip⟩) hHeld ?_
              (try simp only [Act.put, List.setIfInBounds_toArray, List.set_cons_zero, List.set_cons_succ])
              refine hand_take 9 25 (.slice (some ⟨b, off, none⟩) n cap) rfl rfl (by kernel_rfl) (by kernel_rfl) (by kernel_rfl) (fun _ _ _ h => h) (Or.inl ⟨by rfl, fun w' hSw => by (try dsimp only at hSw); go_simp; first | (intro hno; exfalso; omega) | (with_reducible rfl) | skip⟩) hHeld ?_
              (try simp only [Act.put, List.setIfInBounds_toArray, List.set_cons_zero, List.set_cons_succ])
              refine hand_take 10 26 (.int .i64 (j : Int)) rfl rfl (by kernel_rfl) (by kernel_rfl) (by kernel_rfl) (fun _ _ _ h => h) (Or.inl ⟨by rfl, fun w' hSw => by (try dsimp only at hSw); go_simp; first | (intro hno; exfalso; omega) | (with_reducible rfl) | skip⟩) hHeld ?_
              (try simp only [Act.put, List.setIfInBounds_toArray, List.set_cons_zero, List.set_cons_succ])
              refine hand_take 11 27 (.int .i64 ((j : Int) - 1)) rfl rfl (by kernel_rfl) (by kernel_rfl) (by kernel_rfl) (fun _ _ _ h => h) (Or.inl ⟨by rfl, fun w' hSw => by (try dsimp only at hSw); go_simp; first | (intro hno; exfalso; omega) | (with_reducible rfl) | skip⟩) hHeld ?_
              (try simp only [Act.put, List.setIfInBounds_toArray, List.set_cons_zero, List.set_cons_succ])
              refine hand_take 12 28 (.pointer (some ⟨b, off + (j - 1) * 2, none⟩)) rfl rfl (by kernel_rfl) (by kernel_rfl) (by kernel_rfl) (fun _ _ _ h => h) (Or.inl ⟨by rfl, fun w' hSw => by (try dsimp only at hSw); go_simp; first | (intro hno; exfalso; omega) | (with_reducible rfl) | skip⟩) hHeld ?_
              (try simp only [Act.put, List.setIfInBounds_toArray, List.set_cons_zero, List.set_cons_succ])
              refine hand_take 13 29 (.pointer (some ⟨b, off + (j - 1) * 2, none⟩)) rfl rfl (by kernel_rfl) (by kernel_rfl) (by kernel_rfl) (fun _ _ _ h => h) (Or.inl ⟨by rfl, fun w' hSw => by (try dsimp only at hSw); go_simp; first | (intro hno; exfalso; omega) | (with_reducible rfl) | skip⟩) hHeld ?_
              (try simp only [Act.put, List.setIfInBounds_toArray, List.set_cons_zero, List.set_cons_succ])
              refine hand_take 14 30 (.int .i64 (f ((j - 1) * 2))) rfl rfl (by kernel_rfl) (by kernel_rfl) (by kernel_rfl) (fun _ _ _ h => h) (Or.inl ⟨by rfl, fun w' hSw => by (try dsimp only at hSw); go_simp; first | (intro hno; exfalso; omega) | (with_reducible rfl) | skip⟩) hHeld ?_
              (try simp only [Act.put, List.setIfInBounds_toArray, List.set_cons_zero, List.set_cons_succ])
              refine hand_take 15 31 (.bool true) rfl rfl (by kernel_rfl) (by kernel_rfl) (by kernel_rfl) (fun _ _ _ h => h) (Or.inl ⟨by rfl, fun w' hSw => by (try dsimp only at hSw); go_simp; first | (intro hno; exfalso; omega) | (with_reducible rfl) | skip⟩) hHeld ?_
              (try simp only [Act.put, List.setIfInBounds_toArray, List.set_cons_zero, List.set_cons_succ])
              refine hand_take 16 32 (.bool true) rfl rfl (by kernel_rfl) (by kernel_rfl) (by kernel_rfl) (fun _ _ _ h => h) (Or.inl ⟨by rfl, fun w' hSw => by (try dsimp only at hSw); go_simp; first | (intro hno; exfalso; omega) | (with_reducible rfl) | skip⟩) hHeld ?_
              (try simp only [Act.put, List.setIfInBounds_toArray, List.set_cons_zero, List.set_cons_succ])
              refine hand_take 17 33 (.bool true) rfl rfl (by kernel_rfl) (by kernel_rfl) (by kernel_rfl) (fun _ _ _ h => h) (Or.inl ⟨by rfl, fun w' hSw => by (try dsimp only at hSw); go_simp; first | (intro hno; exfalso; omega) | (with_reducible rfl) | skip⟩) hHeld ?_
              (try simp only [Act.put, List.setIfInBounds_toArray, List.set_cons_zero, List.set_cons_succ])
              refine wpAnyH_done (by kernel_rfl) ?_ _
              go_wp2
              go_ret
              exact ⟨by simp [EO.out, FF.out], hHeld.2.2.2.2.2⟩
          · have hd : decide (0 < (j : Int)) = false := by simp; omega
            have hpos : ¬ 0 < (j : Int) := by omega
            have hl0 : lastP f j = 0 := by
              obtain rfl : j = 0 := by omega
              rfl
            have m := (okP_true g).1.1
            have TT := Lib.hid (show rowTo f (j + 1) = true by simp [rowTo, g, hl0, hT]; omega)
            clear m
            go_wp2_with fail
            refine wp_region_held_drew (S := (fun w' => w'.cell? ⟨wr.heap.size, 0, none⟩ = some (.int .i64 (f (j * 2))) ∧ w'.cell? ⟨wr.heap.size, 1, none⟩ = some (.int .i64 (f (j * 2 + 1))) ∧ w'.cell? ⟨b, off + (j - 1) * 2, none⟩ = some (.int .i64 (f ((j - 1) * 2))) ∧ wr.heap.size < w'.heap.size ∧ b < w'.heap.size ∧ Below w.heap.size w w')) (by kernel_rfl) ⟨by simp, by simp, by simp only [World.cell?_drew]; rw [World.cell?_alloc_past _ _ _ hb']; exact q1, by simp, by simp; omega, Below.drew (HW.out.alloc HW.out.size _)⟩ (fun hHeld => ?_)
            refine hand_take 0 16 (.agg #[.int .i64 (f (j * 2)), .int .i64 (f (j * 2 + 1))]) rfl rfl (by kernel_rfl) (by kernel_rfl) (by kernel_rfl) (fun _ _ _ h => h) (Or.inl ⟨by rfl, fun w' hSw => by (try dsimp only at hSw); go_simp; first | (intro hno; exfalso; omega) | (with_reducible rfl) | skip⟩) hHeld ?_
            (try simp only [Act.put, List.setIfInBounds_toArray, List.set_cons_zero, List.set_cons_succ])
            refine wpAnyH_ready (rs := [1]) (by kernel_rfl) (by simp) ?_
            refine AllReadyH.cons rfl (fun K hK => ?_) AllReadyH.nil
            go_simp
            (go_at_call 93; refine (spec_swPole _ _ _).mono ?_; rintro e w2 ⟨rfl, hb2⟩; rw [g])
            refine hK.out _ _ (SR_after hb2 hHeld) ?_
            clear hHeld hK K
            intro hHeld
            (try simp only [Act.put, List.setIfInBounds_toArray, List.set_cons_zero, List.set_cons_succ])
            refine hand_take 2 18 (.bool false) rfl rfl (by kernel_rfl) (by kernel_rfl) (by kernel_rfl) (fun _ _ _ h => h) (Or.inl ⟨by rfl, fun w' hSw => by (try dsimp only at hSw); go_simp; first | (intro hno; exfalso; omega) | (with_reducible rfl) | skip⟩) hHeld ?_
            (try simp only [Act.put, List.setIfInBounds_toArray, List.set_cons_zero, List.set_cons_succ])
            refine hand_take 3 19 (.bool false) rfl rfl (by kernel_rfl) (by kernel_rfl) (by kernel_rfl) (fun _ _ _ h => h) (Or.inl ⟨by rfl, fun w' hSw => by (try dsimp only at hSw); go_simp; first | (intro hno; exfalso; omega) | (with_reducible rfl) | skip⟩) hHeld ?_
            (try simp only [Act.put, List.setIfInBounds_toArray, List.set_cons_zero, List.set_cons_succ])
            refine hand_take 4 20 (.int .i64 (j : Int)) rfl rfl (by kernel_rfl) (by kernel_rfl) (by kernel_rfl) (fun _ _ _ h => h) (Or.inl ⟨by rfl, fun w' hSw => by (try dsimp only at hSw); go_simp; first | (intro hno; exfalso; omega) | (with_reducible rfl) | skip⟩) hHeld ?_
            (try simp only [Act.put, List.setIfInBounds_toArray, List.set_cons_zero, List.set_cons_succ])
            refine hand_take 5 21 (.bool false) rfl rfl (by kernel_rfl) (by kernel_rfl) (by kernel_rfl) (fun _ _ _ h => h) (Or.inl ⟨by rfl, fun w' hSw => by (try dsimp only at hSw); go_simp; first | (intro hno; exfalso; omega) | (with_reducible rfl) | skip⟩) hHeld ?_
            (try simp only [Act.put, List.setIfInBounds_toArray, List.set_cons_zero, List.set_cons_succ])
            refine hand_take 6 22 (.bool false) rfl rfl (by kernel_rfl) (by kernel_rfl) (by kernel_rfl) (fun _ _ _ h => h) (Or.inl ⟨by rfl, fun w' hSw => by (try dsimp only at hSw); go_simp; first | (intro hno; exfalso; omega) | (with_reducible rfl) | skip⟩) hHeld ?_
            (try simp only [Act.put, List.setIfInBounds_toArray, List.set_cons_zero, List.set_cons_succ])
            refine hand_take 7 23 undef rfl rfl (by kernel_rfl) (by kernel_rfl) (by kernel_rfl) (fun _ _ _ h => h) (Or.inr ⟨by rfl, rfl⟩) hHeld ?_
            (try simp only [Act.put, List.setIfInBounds_toArray, List.set_cons_zero, List.set_cons_succ])
            refine hand_take 8 24 undef rfl rfl (by kernel_rfl) (by kernel_rfl) (by kernel_rfl) (fun _ _ _ h => h) (Or.inr ⟨by rfl, rfl⟩) hHeld ?_
            (try simp only [Act.put, List.setIfInBounds_toArray, List.set_cons_zero, List.set_cons_succ])
            refine hand_take 9 25 undef rfl rfl (by kernel_rfl) (by kernel_rfl) (by kernel_rfl) (fun _ _ _ h => h) (Or.inr ⟨by rfl, rfl⟩) hHeld ?_
            (try simp only [Act.put, List.setIfInBounds_toArray, List.set_cons_zero, List.set_cons_succ])
            refine hand_take 10 26 undef rfl rfl (by kernel_rfl) (by kernel_rfl) (by kernel_rfl) (fun _ _ _ h => h) (Or.inr ⟨by rfl, rfl⟩) hHeld ?_
            (try simp only [Act.put, List.setIfInBounds_toArray, List.set_cons_zero, List.set_cons_succ])
            refine hand_take 11 27 undef rfl rfl (by kernel_rfl) (by kernel_rfl) (by kernel_rfl) (fun _ _ _ h => h) (Or.inr ⟨by rfl, rfl⟩) hHeld ?_
            (try simp only [Act.put, List.setIfInBounds_toArray, List.set_cons_zero, List.set_cons_succ])
            refine hand_take 12 28 undef rfl rfl (by kernel_rfl) (by kernel_rfl) (by kernel_rfl) (fun _ _ _ h => h) (Or.inr ⟨by rfl, rfl⟩) hHeld ?_
            (try simp only [Act.put, List.setIfInBounds_toArray, List.set_cons_zero, List.set_cons_succ])
            refine hand_take 13 29 undef rfl rfl (by kernel_rfl) (by kernel_rfl) (by kernel_rfl) (fun _ _ _ h => h) (Or.inr ⟨by rfl, rfl⟩) hHeld ?_
            (try simp only [Act.put, List.setIfInBounds_toArray, List.set_cons_zero, List.set_cons_succ])
            refine hand_take 14 30 undef rfl rfl (by kernel_rfl) (by kernel_rfl) (by kernel_rfl) (fun _ _ _ h => h) (Or.inr ⟨by rfl, rfl⟩) hHeld ?_
            (try simp only [Act.put, List.setIfInBounds_toArray, List.set_cons_zero, List.set_cons_succ])
            refine hand_take 15 31 undef rfl rfl (by kernel_rfl) (by kernel_rfl) (by kernel_rfl) (fun _ _ _ h => h) (Or.inr ⟨by rfl, rfl⟩) hHeld ?_
            (try simp only [Act.put, List.setIfInBounds_toArray, List.set_cons_zero, List.set_cons_succ])
            refine hand_take 16 32 (.bool false) rfl rfl (by kernel_rfl) (by kernel_rfl) (by kernel_rfl) (fun _ _ _ h => h) (Or.inl ⟨by rfl, fun w' hSw => by (try dsimp only at hSw); go_simp; first | (intro hno; exfalso; omega) | (with_reducible rfl) | skip⟩) hHeld ?_
            (try simp only [Act.put, List.setIfInBounds_toArray, List.set_cons_zero, List.set_cons_succ])
            refine hand_take 17 33 (.bool false) rfl rfl (by kernel_rfl) (by kernel_rfl) (by kernel_rfl) (fun _ _ _ h => h) (Or.inl ⟨by rfl, fun w' hSw => by (try dsimp only at hSw); go_simp; first | (intro hno; exfalso; omega) | (with_reducible rfl) | skip⟩) hHeld ?_
            (try simp only [Act.put, List.setIfInBounds_toArray, List.set_cons_zero, List.set_cons_succ])
            refine wpAnyH_done (by kernel_rfl) ?_ _
            go_wp2
            go_roundw
            case rel => exact ⟨j + 1, by omega, by go_num, TT.out, hHeld.2.2.2.2.2⟩
            case measure => simp only [intOf]; omega
      · obtain rfl : j = n := by omega
        have TT := Lib.hid hT
        go_wp2
        go_ret
        exact ⟨by simp [EO.out, TT.out], hW⟩
end Go.Proofs.Ytahcfjpplkemdaa
