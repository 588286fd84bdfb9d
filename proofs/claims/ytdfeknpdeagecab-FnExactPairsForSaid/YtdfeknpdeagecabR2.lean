/- Slices of slices of integers that a call appends to; pairs of heights. -/
import Derived.Test.YtdfeknpdeagecabR1
namespace Go.Proofs.Ytdfeknpdeagecab
open Go.RowKit
theorem infoIS : (Try.prog.info? 57).map (fun i => (i.zero, i.size, i.bytes)) = some (some (.slice none 0 0), 1, 24) := by kernel_rfl
theorem infoI : (Try.prog.info? 3).map (fun i => (i.zero, i.size, i.bytes)) = some (some (.int .i64 0), 1, 8) := by kernel_rfl

theorem RRowF.congr {w : World} {B : Nat} {v : Value} {L : Nat} {f g : Nat → List Int} (h : RRowF w B v L f) (e : ∀ i, i < L → f i = g i) : RRowF w B v L g := by
  obtain ⟨vs, h1, h3, h4⟩ := h
  exact ⟨vs, h1, fun i hi => by rw [← e i hi]; exact h3 i hi, h4⟩
theorem RRow.nil (w : World) (B : Nat) : RRow w B (.slice none 0 0) [] :=
  ⟨[], World.ownsRow_nil w B _ 1, fun i hi => absurd hi (by simp), fun i j _ hj => absurd hj (by simp)⟩
/-- A slice of ints in a block that is made anew. -/
theorem IRow.made (w : World) (B : Nat) (xs : List Int) (hB : B ≤ w.heap.size) (hl : xs.length ≤ maxLen) :
    IRow (w.alloc (.cells (xs.map (Value.int .i64)).toArray 3)) B (.slice (some ⟨w.heap.size, 0, none⟩) xs.length xs.length) xs := by
  have h := World.ownsRow_lit (base := B) (e := 3) (size := 1) w (xs.map (Value.int .i64)).toArray xs.length hB hl (by simp)
  simpa [IRow] using h
theorem own_ne {w : World} {B C : Nat} {v u : Value} {n : Nat} {vs : List Value} {xs : List Int} (h1 : w.ownsRow B 57 1 v n vs) (h2 : IRow w C u xs) : u.ownBlock = none ∨ u.ownBlock ≠ v.ownBlock := by
  rcases h2.open_ with ⟨e, _⟩ | ⟨g, cap, cur, e, _, _, _, _, hc, _⟩
  · rw [e]; simp [Value.ownBlock]
  · rw [e]
    obtain ⟨_, ⟨rfl, _⟩ | ⟨g', cap', cur', rfl, _, hc', _⟩⟩ := h1
    · simp [Value.ownBlock]
    · refine .inr fun e' => ?_
      simp only [Value.ownBlock, Option.some.injEq] at e'
      subst e'
      rw [hc] at hc'
      simp at hc'
/-- One slice more, in a block made anew, appended. -/
theorem RRowF.push {wr w1 : World} {B : Nat} {v v' : Value} {L : Nat} {f : Nat → List Int} {o o2 : Obj} {xs : List Int} {n c : Nat} {vs : List Value} (hB : B ≤ wr.heap.size)
    (h1 : wr.ownsRow B 57 1 v L vs) (h3 : ∀ i, i < L → IRow wr B (vs.getD i (.bool false)) (f i))
    (h4 : ∀ i j, i < j → j < L → (vs.getD i (.bool false)).ownBlock = none ∨ (vs.getD i (.bool false)).ownBlock ≠ (vs.getD j (.bool false)).ownBlock)
    (hn : IRow (wr.alloc o) B (.slice (some ⟨wr.heap.size, 0, none⟩) n c) xs)
    (hO : w1.ownsRow B 57 1 v' (L + 1) (vs ++ [.slice (some ⟨wr.heap.size, 0, none⟩) n c])) (hg : ((wr.alloc o).alloc o2).grownBy w1 v.ownBlock) :
    RRowF w1 B v' (L + 1) (fun i => if i < L then f i else xs) ∧ Below B wr w1 := by
  have hvl : vs.length = L := by simpa using h1.1
  have ea : Below wr.heap.size wr ((wr.alloc o).alloc o2) := ((Below.refl _ _).alloc (Nat.le_refl _) _).alloc (by simp) _
  have eo : Below (wr.alloc o).heap.size (wr.alloc o) ((wr.alloc o).alloc o2) := (Below.refl _ _).alloc (Nat.le_refl _) _
  have h1' : ((wr.alloc o).alloc o2).ownsRow B 57 1 v L vs := (h1.alloc _).alloc _
  have hn' : IRow ((wr.alloc o).alloc o2) B (.slice (some ⟨wr.heap.size, 0, none⟩) n c) xs := hn.keep eo
  refine ⟨⟨_, hO, fun i hi => ?_, fun i j hij hj => ?_⟩, ?_⟩
  · by_cases e : i < L
    · have k := (h3 i e).keep ea
      have e2 : (vs ++ [Value.slice (some ⟨wr.heap.size, 0, none⟩) n c]).getD i (.bool false) = vs.getD i (.bool false) := by
        simp [List.getD, List.getElem?_append_left (show i < vs.length by omega)]
      show IRow w1 B _ (if i < L then f i else xs)
      rw [if_pos e, e2]
      exact World.ownsRow.kept k hg (own_ne h1' k)
    · obtain rfl : i = L := by omega
      have e2 : (vs ++ [Value.slice (some ⟨wr.heap.size, 0, none⟩) n c]).getD i (.bool false) = .slice (some ⟨wr.heap.size, 0, none⟩) n c := by
        simp [List.getD, ← hvl]
      show IRow w1 B _ (if i < i then f i else xs)
      rw [if_neg e, e2]
      exact World.ownsRow.kept hn' hg (own_ne h1' hn')
  · have e1 : (vs ++ [Value.slice (some ⟨wr.heap.size, 0, none⟩) n c]).getD i (.bool false) = vs.getD i (.bool false) := by
      simp [List.getD, List.getElem?_append_left (show i < vs.length by omega)]
    rw [e1]
    by_cases e : j < L
    · have e2 : (vs ++ [Value.slice (some ⟨wr.heap.size, 0, none⟩) n c]).getD j (.bool false) = vs.getD j (.bool false) := by
        simp [List.getD, List.getElem?_append_left (show j < vs.length by omega)]
      rw [e2]
      exact h4 i j hij e
    · obtain rfl : j = L := by omega
      have e2 : (vs ++ [Value.slice (some ⟨wr.heap.size, 0, none⟩) n c]).getD j (.bool false) = .slice (some ⟨wr.heap.size, 0, none⟩) n c := by
        simp [List.getD, ← hvl]
      rw [e2]
      cases hb : (vs.getD i (.bool false)).ownBlock with
      | none => exact .inl rfl
      | some g =>
        refine .inr fun e' => ?_
        have := ((h3 i (by omega)).lt g hb).2
        simp only [Value.ownBlock, Option.some.injEq] at e'
        omega
  · exact (ea.mono hB).grown hg (by simp; omega) fun g e => (h1.lt g e).1
theorem RRow.push {wr w1 : World} {B : Nat} {v v' : Value} {rs : List (List Int)} {o o2 : Obj} {xs : List Int} {n c : Nat} {vs : List Value} (hB : B ≤ wr.heap.size)
    (h1 : wr.ownsRow B 57 1 v rs.length vs) (h3 : ∀ i, i < rs.length → IRow wr B (vs.getD i (.bool false)) (rs.getD i []))
    (h4 : ∀ i j, i < j → j < rs.length → (vs.getD i (.bool false)).ownBlock = none ∨ (vs.getD i (.bool false)).ownBlock ≠ (vs.getD j (.bool false)).ownBlock)
    (hn : IRow (wr.alloc o) B (.slice (some ⟨wr.heap.size, 0, none⟩) n c) xs)
    (hO : w1.ownsRow B 57 1 v' (rs.length + 1) (vs ++ [.slice (some ⟨wr.heap.size, 0, none⟩) n c])) (hg : ((wr.alloc o).alloc o2).grownBy w1 v.ownBlock) :
    RRow w1 B v' (rs ++ [xs]) ∧ Below B wr w1 := by
  obtain ⟨a, b⟩ := RRowF.push hB h1 h3 h4 hn hO hg
  refine ⟨?_, b⟩
  unfold RRow
  rw [List.length_append, List.length_singleton]
  refine a.congr fun i hi => ?_
  by_cases e : i < rs.length
  · simp [e, List.getD, List.getElem?_append_left e]
  · obtain rfl : i = rs.length := by omega
    simp [List.getD]

/-! ### pairs -/
def prs (c : Nat) : Nat → List (List Int)
  | 0 => []
  | m + 1 => prs c m ++ (if c * c % (m + 1) = 0 then [[(c : Int) + (m + 1 : Nat), (c : Int) + ((c * c / (m + 1) : Nat) : Int)]] else [])
theorem prs_len (c m : Nat) : (prs c m).length ≤ m := by
  induction m with
  | zero => simp [prs]
  | succ m ih => simp only [prs]; split <;> simp <;> omega
theorem prs_yes {c m : Nat} (h : c * c % (m + 1) = 0) : prs c (m + 1) = prs c m ++ [[(c : Int) + (m + 1 : Nat), (c : Int) + ((c * c / (m + 1) : Nat) : Int)]] := by simp [prs, h]
theorem prs_no {c m : Nat} (h : ¬ c * c % (m + 1) = 0) : prs c (m + 1) = prs c m := by simp [prs, h]

set_option maxHeartbeats 600000 in
theorem clPairs_any (c : Nat) (hc : c ≤ 1000) (w : World) :
    Calls Try.prog 45 #[.int .i64 c] w fun e w' => ∃ v, e = .returned v ∧ RRow w' w.heap.size v (prs c c) ∧ Below w.heap.size w w' := by
  obtain ⟨i0, hi, hz0, hz1, hz2⟩ := info_parts infoIS
  obtain ⟨B, hB⟩ : ∃ B, w.heap.size = B := ⟨_, rfl⟩
  have hBw : B ≤ w.heap.size := by omega
  rw [hB]
  clear hB
  have hcc : c * c ≤ 1000000 := by have := Nat.mul_le_mul hc hc; omega
  have hcc' : 0 ≤ (c : Int) * (c : Int) ∧ (c : Int) * (c : Int) ≤ 1000000 := ⟨by rw [← Int.natCast_mul]; omega, by rw [← Int.natCast_mul]; omega⟩
  obtain ⟨hcc0, hcc1⟩ := hcc'
  go_enter Try.func45, Try.ntmps45
  go_wp2
  go_loopw [3, 4] (fun v m wr => ∃ k : Nat, k ≤ c ∧ m = .int .i64 ((k : Int) + 1) ∧ RRow wr B v (prs c k) ∧ Below B w wr) (fun _ m _ => (c + 1 - (intOf m)).toNat)
  case atStart => exact ⟨0, Nat.zero_le _, rfl, RRow.nil _ _, Below.refl _ _⟩
  case round =>
    obtain ⟨k, hk, rfl, hR, hW⟩ := hrel
    have hBr : B ≤ wr.heap.size := Nat.le_trans hBw hW.size
    have hpl := prs_len c k
    by_cases hlt : k < c
    · have hlt' : (k : Int) + 1 ≤ (c : Int) := by omega
      have hdm : (c : Int) * (c : Int) % ((k : Int) + 1) = ((c * c % (k + 1) : Nat) : Int) := by simp
      have hdv : (c : Int) * (c : Int) / ((k : Int) + 1) = ((c * c / (k + 1) : Nat) : Int) := by simp
      have hdb : c * c / (k + 1) ≤ c * c := Nat.div_le_self _ _
      have hdb1 : (c : Int) * (c : Int) / ((k : Int) + 1) ≤ 1000000 := by rw [hdv]; generalize c * c / (k + 1) = z at *; omega
      have hdb0 : 0 ≤ (c : Int) * (c : Int) / ((k : Int) + 1) := by rw [hdv]; generalize c * c / (k + 1) = z at *; omega
      by_cases hd : c * c % (k + 1) = 0
      · obtain ⟨vs, h1, h3, h4⟩ := hR
        have hO := Lib.hid h1
        have H3 := Lib.hid h3
        have H4 := Lib.hid h4
        have HW := Lib.hid hW
        have HP := Lib.hid (prs_yes hd)
        have HV := Lib.hid hdv
        have hz : ((c : Int) * (c : Int) % ((k : Int) + 1) == 0) = true := by rw [hdm, hd]; rfl
        clear h1 h3 h4 hW hdm hdv hd
        generalize hL : (prs c k).length = L at *
        have HL := Lib.hid hL
        clear hL
        go_wp2_with (at_builtin; refine wpList_append_own _ rfl _ _ 25 rfl B 57 i0 (.slice none 0 0) 1 24 Try.underlying25 hi hz0 hz1 hz2 rfl (by decide) _ _ _ rfl ((hO.out.alloc _).alloc _) ⟨wr.heap.size + 1, 0, none⟩ 1 1 [.slice (some ⟨wr.heap.size, 0, none⟩) 2 2] rfl rfl ?c1 ?c2 ?c3 ?c4 ?c5 ?_)
        case c2 => simp [Value.oneCell']
        case c3 => unfold maxLen; omega
        case c4 => omega
        case c5 => first | omega | (simp; omega)
        intro v' w1 hown1 hgrow1 _
        have hn := IRow.made wr B [(c : Int) + ((k + 1 : Nat) : Int), (c : Int) + ((c * c / (k + 1) : Nat) : Int)] hBr (by simp [maxLen])
        have hs1 := hgrow1.size
        simp only [World.size_alloc] at hs1
        rw [← HL.out] at hO H3 H4 hown1
        obtain ⟨q1, q2⟩ := RRow.push (xs := [(c : Int) + ((k + 1 : Nat) : Int), (c : Int) + ((c * c / (k + 1) : Nat) : Int)]) hBr hO.out H3.out H4.out (by rw [← HV.out]; exact hn) hown1 hgrow1
        have Q1 := Lib.hid q1
        have Q2 := Lib.hid q2
        clear q1 q2 hn hown1 hgrow1
        go_wp2
        go_roundw
        case rel => exact ⟨k + 1, by omega, by go_num, by rw [HP.out]; exact Q1.out, HW.out.trans Q2.out⟩
        case measure => simp only [intOf]; omega
      · have HP := Lib.hid (prs_no hd)
        have HR := Lib.hid hR
        have HW := Lib.hid hW
        have hz : ((c : Int) * (c : Int) % ((k : Int) + 1) == 0) = false := by rw [hdm]; simp; omega
        clear hR hW hdm hdv hd
        go_wp2
        go_roundw
        case rel => exact ⟨k + 1, by omega, by go_num, by rw [HP.out]; exact HR.out, HW.out⟩
        case measure => simp only [intOf]; omega
    · obtain rfl : k = c := by omega
      have HR := Lib.hid hR
      have HW := Lib.hid hW
      clear hR hW
      go_wp2
      go_ret
      exact ⟨_, rfl, HR.out, HW.out⟩

theorem pr_mod (c k : Nat) (f : Int) (hf : f = (c : Int) + (k : Int) + 1) : (c : Int) * f % (f - c) = ((c * c % (k + 1) : Nat) : Int) ∧ (c : Int) * f / (f - c) = (c : Int) + ((c * c / (k + 1) : Nat) : Int) := by
  have e1 : f - c = ((k + 1 : Nat) : Int) := by omega
  have e2 : (c : Int) * f = ((c * c : Nat) : Int) + (c : Int) * ((k + 1 : Nat) : Int) := by rw [hf, Int.natCast_mul]; push_cast; rw [Int.add_assoc, Int.mul_add]
  have hne : ((k + 1 : Nat) : Int) ≠ 0 := by omega
  rw [e1, e2]
  refine ⟨?_, ?_⟩
  · rw [Int.add_mul_emod_self_right, Int.natCast_emod]
  · rw [Int.add_mul_ediv_right _ _ hne, Int.natCast_ediv, Int.add_comm]
def prsZ (c : Int) : List (List Int) := if within c 1 200 then prs c.toNat c.toNat else []
set_option maxHeartbeats 400000 in
theorem spec_PairsFor (c : Int) (w : World) :
    Calls Try.prog 15 #[.int .i64 c] w fun e w' => ∃ v, e = .returned (.tuple #[v, .bool (within c 1 200)]) ∧ RRow w' w.heap.size v (prsZ c) ∧ Below w.heap.size w w' := by
  cases h : within c 1 200
  · go_enter Try.func15, Try.ntmps15
    go_wp2_with (go_at_call 41; refine (l1In_any _ _ _ _).mono ?_; rintro e w' ⟨rfl, rfl⟩)
    go_ret2
    exact ⟨_, rfl, by simp [prsZ, h]; exact RRow.nil _ _, (by repeat (first | exact Below.refl _ _ | refine bl_alloc ?_ _ | refine bl_drewN ?_ _ | refine bl_trans (by assumption) ?_ | refine bl_set ?_ (by first | omega | (simp; done) | (simp; omega)) _))⟩
  · obtain ⟨h1, h2⟩ := within_true h
    obtain ⟨n, rfl⟩ := Int.eq_ofNat_of_zero_le (show 0 ≤ c by omega)
    have HP := Lib.hid (show prsZ (n : Int) = prs n n by simp [prsZ, h])
    go_enter Try.func15, Try.ntmps15
    go_wp2_with (go_at_call 41; refine (l1In_any _ _ _ _).mono ?_; rintro e w' ⟨rfl, rfl⟩)
    refine (clPairs_any n (by omega) _).mono ?_
    rintro e w1 ⟨v, rfl, hR, hb⟩
    have HR := Lib.hid hR
    clear hR
    go_wp2
    go_ret2
    exact ⟨_, rfl, by rw [HP.out]; exact HR.out, (by repeat (first | exact Below.refl _ _ | refine bl_alloc ?_ _ | refine bl_drewN ?_ _ | refine bl_trans (by assumption) ?_ | refine bl_set ?_ (by first | omega | (simp; done) | (simp; omega)) _))⟩

set_option maxHeartbeats 600000 in
theorem impl_PairsFor (c : Int) (w : World) :
    Calls Try.prog 16 #[.int .i64 c] w fun e w' => ∃ v, e = .returned (.tuple #[v, .bool (within c 1 200)]) ∧ RRow w' w.heap.size v (prsZ c) ∧ Below w.heap.size w w' := by
  cases h : within c 1 200
  · go_enter Try.func16, Try.ntmps16
    go_wp2_with (go_at_call 43; refine (isWithin_any _ _ _ _).mono ?_; rintro e w' ⟨rfl, rfl⟩)
    go_ret2
    exact ⟨_, rfl, by simp [prsZ, h]; exact RRow.nil _ _, (by repeat (first | exact Below.refl _ _ | refine bl_alloc ?_ _ | refine bl_drewN ?_ _ | refine bl_trans (by assumption) ?_ | refine bl_set ?_ (by first | omega | (simp; done) | (simp; omega)) _))⟩
  obtain ⟨h1, h2⟩ := within_true h
  obtain ⟨n, rfl⟩ := Int.eq_ofNat_of_zero_le (show 0 ≤ c by omega)
  have HPZ := Lib.hid (show prsZ (n : Int) = prs n n by simp [prsZ, h])
  obtain ⟨i0, hi, hz0, hz1, hz2⟩ := info_parts infoIS
  obtain ⟨B, hB⟩ : ∃ B, w.heap.size = B := ⟨_, rfl⟩
  have hBw : B ≤ w.heap.size := by omega
  rw [hB]
  clear hB
  go_enter Try.func16, Try.ntmps16
  go_wp2_with (go_at_call 43; refine (isWithin_any _ _ _ _).mono ?_; rintro e w' ⟨rfl, rfl⟩)
  go_loopw [4, 5] (fun v m wr => ∃ (k : Nat) (f : Int), k ≤ n ∧ m = .int .i64 f ∧ f = (n : Int) + (k : Int) + 1 ∧ RRow wr B v (prs n k) ∧ Below B w wr) (fun _ m _ => (2 * n + 1 - (intOf m)).toNat)
  case atStart => exact ⟨0, _, Nat.zero_le _, rfl, by simp, RRow.nil _ _, Below.refl _ _⟩
  case round =>
    obtain ⟨k, f, hk, rfl, hf, hR, hW⟩ := hrel
    have hBr : B ≤ wr.heap.size := Nat.le_trans hBw hW.size
    have hpl := prs_len n k
    obtain ⟨m1, m2⟩ := pr_mod n k f hf
    have HF := Lib.hid hf
    have f1 : (n : Int) + 1 ≤ f := by omega
    have f2 : f ≤ 2 * (n : Int) + 1 := by omega
    by_cases hlt : k < n
    · have hlt' : f ≤ 2 * (n : Int) := by omega
      have hdb : n * n / (k + 1) ≤ n * n := Nat.div_le_self _ _
      have hnn : n * n ≤ 40000 := by have := Nat.mul_le_mul (show n ≤ 200 by omega) (show n ≤ 200 by omega); omega
      have hdb1 : (n : Int) * f / (f - n) ≤ 1000000 := by rw [m2]; generalize n * n / (k + 1) = z at *; omega
      have hdb0 : 0 ≤ (n : Int) * f / (f - n) := by rw [m2]; generalize n * n / (k + 1) = z at *; omega
      obtain ⟨p1, p2⟩ : 0 ≤ (n : Int) * f ∧ (n : Int) * f ≤ 200 * 401 := ⟨Int.mul_nonneg (by omega) (by omega), Int.mul_le_mul (by omega) (by omega) (by omega) (by omega)⟩
      clear hf
      by_cases hd : n * n % (k + 1) = 0
      · obtain ⟨vs, h1, h3, h4⟩ := hR
        have hO := Lib.hid h1
        have H3 := Lib.hid h3
        have H4 := Lib.hid h4
        have HW := Lib.hid hW
        have HP := Lib.hid (prs_yes hd)
        have HV := Lib.hid m2
        have hz : ((n : Int) * f % (f - n) == 0) = true := by rw [m1, hd]; rfl
        clear h1 h3 h4 hW m1 m2 hd
        generalize hL : (prs n k).length = L at *
        have HL := Lib.hid hL
        clear hL
        go_wp2_with (at_builtin; refine wpList_append_own _ rfl _ _ 25 rfl B 57 i0 (.slice none 0 0) 1 24 Try.underlying25 hi hz0 hz1 hz2 rfl (by decide) _ _ _ rfl ((hO.out.alloc _).alloc _) ⟨wr.heap.size + 1, 0, none⟩ 1 1 [.slice (some ⟨wr.heap.size, 0, none⟩) 2 2] rfl rfl ?c1 ?c2 ?c3 ?c4 ?c5 ?_)
        case c2 => simp [Value.oneCell']
        case c3 => unfold maxLen; omega
        case c4 => omega
        case c5 => first | omega | (simp; omega)
        intro v' w1 hown1 hgrow1 _
        have hn := IRow.made wr B [f, (n : Int) * f / (f - n)] hBr (by simp [maxLen])
        have hs1 := hgrow1.size
        simp only [World.size_alloc] at hs1
        rw [← HL.out] at hO H3 H4 hown1
        have HQ : prs n (k + 1) = prs n k ++ [[f, (n : Int) * f / (f - n)]] := by
          rw [HP.out, HV.out, HF.out, show ((k + 1 : Nat) : Int) = (k : Int) + 1 from by omega, Int.add_assoc]
        obtain ⟨q1, q2⟩ := RRow.push (xs := [f, (n : Int) * f / (f - n)]) hBr hO.out H3.out H4.out hn hown1 hgrow1
        rw [← HQ] at q1
        have Q1 := Lib.hid q1
        have Q2 := Lib.hid q2
        clear q1 q2 hn hown1 hgrow1 HQ
        go_wp2
        go_roundw
        case rel => exact ⟨k + 1, _, by omega, rfl, by rw [HF.out]; omega, Q1.out, HW.out.trans Q2.out⟩
        case measure => simp only [intOf]; omega
      · have HP := Lib.hid (prs_no hd)
        have HR := Lib.hid hR
        have HW := Lib.hid hW
        have hz : ((n : Int) * f % (f - n) == 0) = false := beq_eq_false_iff_ne.2 fun e => hd (by rw [m1] at e; exact_mod_cast e)
        clear hR hW m1 m2 hd
        go_wp2
        go_roundw
        case rel => exact ⟨k + 1, _, by omega, rfl, by rw [HF.out]; omega, by rw [HP.out]; exact HR.out, HW.out⟩
        case measure => simp only [intOf]; omega
    · obtain rfl : k = n := by omega
      have hge : 2 * (k : Int) < f := by omega
      have HR := Lib.hid hR
      have HW := Lib.hid hW
      clear hR hW hf m1 m2
      go_wp2
      go_ret2
      exact ⟨_, rfl, by rw [HPZ.out]; exact HR.out, HW.out⟩

def prsN (c : Int) : Int := (prsZ c).length
theorem RRow.shape {w : World} {B : Nat} {v : Value} {rs : List (List Int)} (h : RRow w B v rs) : ∃ a c, v = .slice a rs.length c := by
  by_cases hx : 0 < rs.length
  · obtain ⟨g, cap, rfl, _⟩ := RRowF.open_ h hx
    exact ⟨_, _, rfl⟩
  · obtain rfl : rs = [] := by cases rs <;> simp_all
    exact RRowF.empty h
set_option maxHeartbeats 400000 in
theorem impl_CountPairs (c : Int) (w : World) :
    Calls Try.prog 21 #[.int .i64 c] w fun e w' => e = .returned (.tuple #[.int .i64 (prsN c), .bool (within c 1 200)]) ∧ Below w.heap.size w w' := by
  go_enter Try.func21, Try.ntmps21
  go_wp2_with fail
  refine (impl_PairsFor _ _).mono ?_
  rintro e w1 ⟨v, rfl, hR, hb⟩
  obtain ⟨a, cp, rfl⟩ := hR.shape
  clear hR
  have HN := Lib.hid (show prsN c = (prsZ c).length from rfl)
  generalize (prsZ c).length = L at *
  go_wp2
  go_ret2
  exact ⟨by rw [HN.out]; rfl, (by repeat (first | exact Below.refl _ _ | refine bl_alloc ?_ _ | refine bl_drewN ?_ _ | refine bl_trans (by assumption) ?_ | refine bl_set ?_ (by first | omega | (simp; done) | (simp; omega)) _))⟩
set_option maxHeartbeats 400000 in
theorem spec_CountPairs (c : Int) (w : World) :
    Calls Try.prog 20 #[.int .i64 c] w fun e w' => e = .returned (.tuple #[.int .i64 (prsN c), .bool (within c 1 200)]) ∧ Below w.heap.size w w' := by
  cases h : within c 1 200
  · go_enter Try.func20, Try.ntmps20
    go_wp2_with (go_at_call 41; refine (l1In_any _ _ _ _).mono ?_; rintro e w' ⟨rfl, rfl⟩)
    go_ret2
    exact ⟨by simp [prsN, prsZ, h], (by repeat (first | exact Below.refl _ _ | refine bl_alloc ?_ _ | refine bl_drewN ?_ _ | refine bl_trans (by assumption) ?_ | refine bl_set ?_ (by first | omega | (simp; done) | (simp; omega)) _))⟩
  · obtain ⟨h1, h2⟩ := within_true h
    obtain ⟨n, rfl⟩ := Int.eq_ofNat_of_zero_le (show 0 ≤ c by omega)
    have HN := Lib.hid (show prsN (n : Int) = ((prs n n).length : Nat) by simp [prsN, prsZ, h])
    go_enter Try.func20, Try.ntmps20
    go_wp2_with (go_at_call 41; refine (l1In_any _ _ _ _).mono ?_; rintro e w' ⟨rfl, rfl⟩)
    refine (clPairs_any n (by omega) _).mono ?_
    rintro e w1 ⟨v, rfl, hR, hb⟩
    obtain ⟨a, cp, rfl⟩ := hR.shape
    clear hR
    generalize (prs n n).length = L at *
    go_wp2
    go_ret2
    exact ⟨by rw [HN.out]; rfl, (by repeat (first | exact Below.refl _ _ | refine bl_alloc ?_ _ | refine bl_drewN ?_ _ | refine bl_trans (by assumption) ?_ | refine bl_set ?_ (by first | omega | (simp; done) | (simp; omega)) _))⟩

theorem tot_le (f : Nat → List Int) (M : Nat) : ∀ L, (∀ i, i < L → (f i).length ≤ M) → tot f L ≤ L * M
  | 0, _ => by simp [tot]
  | L + 1, h => by
    have h1 := tot_le f M L fun i hi => h i (by omega)
    have h2 := h L (by omega)
    simp only [tot]
    rw [Nat.add_mul, Nat.one_mul]
    omega
theorem rows_le (rs : List (List Int)) (M K : Nat) (h : ∀ r ∈ rs, r.length ≤ M) (hl : rs.length ≤ K) : tot (fun i => rs.getD i []) rs.length ≤ K * M := by
  refine Nat.le_trans (tot_le _ M _ fun i hi => ?_) (Nat.mul_le_mul_right _ hl)
  have e : rs.getD i [] = rs[i] := by simp [List.getD, hi]
  rw [e]
  exact h _ (List.getElem_mem hi)
theorem prs_two (c m : Nat) : ∀ r ∈ prs c m, r.length ≤ 2 := by
  induction m with
  | zero => simp [prs]
  | succ m ih =>
    intro r hr
    simp only [prs, List.mem_append] at hr
    rcases hr with hr | hr
    · exact ih r hr
    · split at hr <;> simp at hr
      subst hr; simp
theorem prsZ_tot (c : Int) : tot (fun i => (prsZ c).getD i []) (prsZ c).length ≤ 4000000 := by
  unfold prsZ
  cases h : within c 1 200
  · simp [tot]
  · obtain ⟨h1, h2⟩ := within_true h
    have := rows_le (prs c.toNat c.toNat) 2 200 (prs_two _ _) (by have := prs_len c.toNat c.toNat; omega)
    simp only [if_true]
    omega
end Go.Proofs.Ytdfeknpdeagecab
