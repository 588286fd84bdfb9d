/- Texts of poles, by the program and by the model. -/
import Derived.Test.YtophkahaefbkiaaDoorPL2
import Derived.Test.YtophkahaefbkiaaDoorT2
import Derived.OwnWalk
import Derived.Deep.AppendLies
import Derived.Deep.RegionLaw
import Derived.Deep.RegionHeldLaw
import Derived.Deep.QuietTactic
namespace Go.Proofs.YtophkahaefbkiaaDoor
open Go.RowKit
set_option linter.unusedVariables false
set_option linter.unusedSimpArgs false
/-- a slice of strings that a call made -/
def SRow (w : World) (B : Nat) (v : Value) (xs : List ByteArray) : Prop := w.ownsRow B 9 1 v xs.length (xs.map Value.string)
theorem SRow.keep {w w' : World} {B : Nat} {v : Value} {xs : List ByteArray} (h : SRow w B v xs) (k : Below w.heap.size w w') : SRow w' B v xs :=
  World.ownsRow.kept h (only_of_below k none) (by cases hv : v.ownBlock <;> simp)
theorem SRow.nil (w : World) (B : Nat) : SRow w B (.slice none 0 0) [] := World.ownsRow_nil w B _ 1
theorem infoS : (Tryd.prog.info? 9).map (fun i => (i.zero, i.size, i.bytes)) = some (some (.string ⟨#[]⟩), 1, 16) := by kernel_rfl
def PX (wr : World) (A B : Int) (W : World) : Prop := W.cell? ⟨wr.heap.size, 0, none⟩ = some (.int .i64 A) ∧ W.cell? ⟨wr.heap.size, 1, none⟩ = some (.int .i64 B) ∧ wr.heap.size < W.heap.size ∧ Below wr.heap.size wr W
theorem PX.drew {wr W : World} {A B : Int} (h : PX wr A B W) : PX wr A B W.drew := ⟨h.1, h.2.1, h.2.2.1, h.2.2.2.drew⟩
theorem PX.after {wr W W' : World} {A B : Int} (k : Below W.heap.size W W') (h : PX wr A B W) : PX wr A B W' := by
  obtain ⟨h1, h2, h3, h4⟩ := h
  obtain ⟨hc, _⟩ := bcell k
  exact ⟨by rw [hc _ _ h3]; exact h1, by rw [hc _ _ h3]; exact h2, Nat.lt_of_lt_of_le h3 k.size, bl_trans k h4⟩
theorem PX_after {w u v : World} {x y : Value} (k : Below u.heap.size u v) (h : u.cell? ⟨w.heap.size, 0, none⟩ = some x ∧ u.cell? ⟨w.heap.size, 1, none⟩ = some y ∧ w.heap.size < u.heap.size ∧ Below w.heap.size w u) :
    v.cell? ⟨w.heap.size, 0, none⟩ = some x ∧ v.cell? ⟨w.heap.size, 1, none⟩ = some y ∧ w.heap.size < v.heap.size ∧ Below w.heap.size w v := by
  obtain ⟨h1, h2, h3, h4⟩ := h
  obtain ⟨hc, _⟩ := bcell k
  exact ⟨by rw [hc _ _ h3]; exact h1, by rw [hc _ _ h3]; exact h2, Nat.lt_of_lt_of_le h3 k.size, bl_trans k h4⟩
theorem cell_one_s (w : World) (x : Value) (t : TypeId) (n : Nat) (hn : n = w.heap.size) : ∀ j u, [x][j]? = some u → (w.alloc (.cells #[x] t)).cell? ((⟨n, 0, none⟩ : Addr).add j) = some u := by
  intro j u hj
  subst hn
  match j, hj with
  | 0, hj =>
    simp at hj
    subst hj
    simp [Addr.add]
def part (a b : Int) : ByteArray := dec a ++ ⟨#[124]⟩ ++ dec b
def parts (f : Nat → Int) : Nat → List ByteArray
  | 0 => []
  | k + 1 => parts f k ++ [part (f (k * 2)) (f (k * 2 + 1))]
theorem parts_len (f : Nat → Int) (k : Nat) : (parts f k).length = k := by
  induction k with
  | zero => rfl
  | succ k ih => simp [parts, ih]
/-- the text of the first k -/
def ptx (f : Nat → Int) : Nat → ByteArray
  | 0 => ⟨#[]⟩
  | k + 1 => (if k = 0 then ptx f k else ptx f k ++ ⟨#[44]⟩) ++ part (f (k * 2)) (f (k * 2 + 1))
theorem join_snoc (xs : List (List UInt8)) (y sep : List UInt8) (h : xs ≠ []) : Lib.join (xs ++ [y]) sep = Lib.join xs sep ++ sep ++ y := by
  cases xs with
  | nil => exact absurd rfl h
  | cons x r => rw [List.cons_append, Lib.join_cons, Lib.join_cons]; simp [Lib.joinTail]
theorem ptx_join (f : Nat → Int) : ∀ k, (ptx f k).data.toList = Lib.join ((parts f k).map (·.data.toList)) [44]
  | 0 => rfl
  | k + 1 => by
    by_cases hk : k = 0
    · subst hk
      simp [ptx, parts, Lib.join_one]
    · have hne : (parts f k).map (·.data.toList) ≠ [] := fun e => by
        have := congrArg List.length e
        simp [parts_len] at this
        exact hk this
      simp only [ptx, if_neg hk, parts, List.map_append, List.map_cons, List.map_nil]
      rw [join_snoc _ _ _ hne, ← ptx_join f k]
      simp
theorem part_size {a b : Int} (h : okP a b = true) : (part a b).size ≤ 43 := by
  obtain ⟨⟨a0, a1⟩, ⟨b0, b1⟩⟩ := okP_true h
  have s1 := dec_size a (by omega) (by omega)
  have s2 := dec_size b (by omega) (by omega)
  have : (part a b).size = (dec a).size + 1 + (dec b).size := by
    simp only [part, ByteArray.size_append]
    rfl
  omega
theorem ptx_size (f : Nat → Int) : ∀ k, (∀ i, i < k → okP (f (i * 2)) (f (i * 2 + 1)) = true) → (ptx f k).size ≤ 44 * k
  | 0, _ => by simp [ptx, ByteArray.size]
  | k + 1, h => by
    have h1 := ptx_size f k fun i hi => h i (by omega)
    have h2 := part_size (h k (by omega))
    have h3 : (ByteArray.mk #[44]).size = 1 := rfl
    simp only [ptx]
    split <;> simp only [ByteArray.size_append] <;> omega
def PTX (n : Nat) (f : Nat → Int) : ByteArray := if okRow n f then ptx f n else ⟨#[]⟩
set_option maxRecDepth 100000 in
set_option maxHeartbeats 2000000 in
theorem impl_PolesText (v : Value) (n : Nat) (f : Nat → Int) (w : World) (h : PRow w v n f) (T : Tab w) :
    Calls Tryd.prog 8 #[v] w fun e w' => e = .returned (.tuple #[.string (PTX n f), .bool (okRow n f)]) ∧ Below w.heap.size w w' := by
  have hl := h.len_le
  have HH := Lib.hid h
  have HT := Lib.hid T
  clear T
  cases h1 : okRow n f
  · obtain ⟨a, c, rfl⟩ := h.shape
    clear h
    go_enter Tryd.func8, Tryd.ntmps8
    go_wp2_with (go_at_call 17; refine (impl_isRow _ _ _ _ HH.out).mono ?_; rintro e w1 ⟨rfl, hb⟩; have hz := bsize hb; rw [h1])
    go_ret2
    exact ⟨by simp [PTX, h1], (by repeat (first | exact Below.refl _ _ | refine bl_alloc ?_ _ | refine bl_drewN ?_ _ | refine bl_trans (by assumption) ?_ | refine bl_set ?_ (by first | omega | (simp; done) | (simp; omega)) _))⟩
  · have hn : 1 ≤ n ∧ n ≤ 6 := by
      have := within_true (show within (n : Int) 1 6 = true by simp only [okRow, Bool.and_eq_true] at h1; exact h1.1)
      omega
    have hok : rowTo f n = true := by simp only [okRow, Bool.and_eq_true] at h1; exact h1.2
    obtain ⟨b, off, cap, rfl, _⟩ := h.some_ (by omega)
    have OK := Lib.hid (fun i (hi : i < n) => (rowTo_at hok hi).1)
    have H1 := Lib.hid h1
    clear h hok h1
    go_enter Tryd.func8, Tryd.ntmps8
    go_wp2_with fail
    refine (impl_isRow _ _ _ _ HH.out).mono ?_
    rintro e w1 ⟨rfl, hb⟩
    have HB := Lib.hid hb
    clear hb
    rw [H1.out]
    obtain ⟨i0, hi, hz0, hz1, hz2⟩ := info_parts infoS
    go_wp2_with fail
    go_loopw [4, 12] (fun u i wr => ∃ j : Nat, j ≤ n ∧ i = .int .i64 (j : Int) ∧ SRow wr w.heap.size u (parts f j) ∧ Below w.heap.size w wr) (fun _ i _ => n - (intOf i).toNat)
    case atStart => exact ⟨0, Nat.zero_le _, rfl, SRow.nil _ _, HB.out⟩
    case round =>
      obtain ⟨j, hj, rfl, hR, hW⟩ := hrel
      by_cases hlt : j < n
      · obtain ⟨b', off', cap', hv, hb', hc⟩ := (HH.out.keep hW).some_ (by omega)
        simp only [Value.slice.injEq, Option.some.injEq, Addr.mk.injEq, and_true, true_and] at hv
        obtain ⟨⟨rfl, rfl⟩, rfl⟩ := hv
        obtain ⟨p1, p2⟩ := hc j hlt
        have hlt' : (j : Int) < (n : Int) := by omega
        have HR := Lib.hid hR
        have HW := Lib.hid hW
        obtain ⟨⟨a0, a1⟩, ⟨b0, b1⟩⟩ := okP_true (OK.out j hlt)
        have hpl := parts_len f j
        clear hc hR hW
        have HN := Lib.hid (show parts f (j + 1) = parts f j ++ [part (f (j * 2)) (f (j * 2 + 1))] from rfl)
        generalize f (j * 2) = A at *
        generalize f (j * 2 + 1) = B at *
        have s1 := dec_size A (by omega) (by omega)
        have s2 := dec_size B (by omega) (by omega)
        have n1 : ¬ 9223372036854775807 < (dec A).size + 1 := by omega
        have n2 : ¬ 9223372036854775807 < (dec A).size + 1 + (dec B).size := by omega
        go_wp2_with fail
        have hX : PX wr A B (wr.alloc (.cells #[.int .i64 A, .int .i64 B] 37)) := ⟨by simp, by simp, by simp, bl_alloc (Below.refl _ _) _⟩
        generalize wr.alloc (.cells #[.int .i64 A, .int .i64 B] 37) = wp at *
        have hX := PX.drew hX
        have hX2 := hX
        obtain ⟨k0, k1, k2, kb⟩ := hX2
        go_region_law (first
          | (refine step_append_lies _ rfl _ _ 40 rfl w.heap.size 9 i0 (.string ⟨#[]⟩) 1 16 Tryd.underlying40 hi hz0 hz1 hz2 rfl (by decide) _ _ _ rfl (World.ownsRow.alloc (SRow.keep HR.out (by assumption)) _) ⟨_, 0, none⟩ 1 1 [.string (part A B)] rfl rfl (cell_one_s _ _ _ _ rfl) (by simp [Value.oneCell']) (by decide) (by rw [hpl]; unfold maxLen; omega) (by rw [hpl]; omega) (by have h1 := HW.out.size; have h2 := hX.2.2.2.size; simp only [World.size_alloc]; omega) _ rfl ?_; intro g cp wn hown hgrow hat hlt2)
          | (go_simp; go_at_call 18; refine (itoa_any _ (by omega) (by omega) HT.out (bl_trans (by assumption) HW.out)).mono ?_; rintro e wc ⟨rfl, hbc⟩; have hX := PX.after hbc hX; have hX2 := hX; obtain ⟨k0, k1, k2, kb⟩ := hX2))
        all_goals
          have r1 : SRow wn w.heap.size (.slice (some ⟨g, 0, none⟩) ((parts f j).length + 1) cp) (parts f (j + 1)) := by
            unfold SRow
            rw [HN.out, List.length_append, List.length_singleton, List.map_append]
            exact hown
          have r2 : Below w.heap.size w wn := ((bl_trans kb HW.out).alloc (bl_trans kb HW.out).size _).grown hgrow (by have := (bl_trans kb HW.out).size; simp only [World.size_alloc]; omega) fun q e => (World.ownsRow.lt HR.out q e).1
          have R1 := Lib.hid r1
          have R2 := Lib.hid r2
          rw [hpl] at R1
          clear r1 r2 hown hgrow hat hlt2 hX kb k0 k1 k2 HR HW
          go_wp2
          go_roundw
          case rel => exact ⟨j + 1, by omega, by go_num, R1.out, R2.out⟩
          case measure => simp only [intOf]; omega
      · obtain rfl : j = n := by omega
        have hpl := parts_len f j
        obtain ⟨g, cp, rfl, hg1, hg2⟩ := World.ownsRow.form hR (by omega)
        have hcells : ∀ (i : Nat) x, (parts f j)[i]? = some x → wr.cell? ⟨g, 0 + i, none⟩ = some (.string x) := fun i x hx => by
          have hi : i < (parts f j).length := (List.getElem?_eq_some_iff.1 hx).1
          rw [Nat.zero_add, World.ownsRow.cellAt hR i (by omega)]
          simp [hx]
        have hcap : (parts f j).length ≤ cp := by
          obtain ⟨_, ⟨h0, _⟩ | ⟨g', cap', cur, h0, _, _, h1, _⟩⟩ := hR
          · cases h0
          · simp only [Value.slice.injEq, Option.some.injEq, Addr.mk.injEq, and_true, true_and] at h0
            omega
        have hpt := ptx_join f j
        have hps := ptx_size f j fun i hi => OK.out i hi
        have HJ := Lib.hid hpt
        have HW := Lib.hid hW
        have HC := Lib.hid hcells
        have hlen : (Lib.join ((parts f j).map (·.data.toList)) ((⟨#[44]⟩ : ByteArray).data.toList)).length ≤ 140737488355328 := by
          show (Lib.join ((parts f j).map (·.data.toList)) [44]).length ≤ _
          rw [← hpt]
          simp only [ByteArray.size] at hps
          simp only [Array.length_toList]
          omega
        have hJN := Tryd.strings_Join g 0 cp (parts f j) ⟨#[44]⟩ wr hcells hg2 (by omega) hcap hlen
        rw [hpl] at hJN
        have HJN := Lib.hid hJN
        clear hpt hW hcells hlen hR hJN
        go_wp2_with fail
        refine HJN.out.mono ?_
        rintro e w2 ⟨rfl, hb2⟩
        go_wp2
        go_ret2
        refine ⟨?_, bl_trans hb2 HW.out⟩
        have e1 : (⟨(Lib.join ((parts f j).map (·.data.toList)) ((⟨#[44]⟩ : ByteArray).data.toList)).toArray⟩ : ByteArray) = ptx f j := by
          show (⟨(Lib.join ((parts f j).map (·.data.toList)) [44]).toArray⟩ : ByteArray) = _
          rw [← HJ.out]
        rw [e1]
        simp [PTX, H1.out]
set_option maxRecDepth 100000 in
set_option maxHeartbeats 2000000 in
theorem swText_any (v : Value) (n : Nat) (f : Nat → Int) (w : World) (h : PRow w v n f) (hk : okRow n f = true) :
    Calls Tryd.prog 15 #[v] w fun e w' => e = .returned (.string (ptx f n)) ∧ Below w.heap.size w w' := by
  have hl := h.len_le
  have HH := Lib.hid h
  have hn : 1 ≤ n ∧ n ≤ 6 := by
    have := within_true (show within (n : Int) 1 6 = true by simp only [okRow, Bool.and_eq_true] at hk; exact hk.1)
    omega
  have hok : rowTo f n = true := by simp only [okRow, Bool.and_eq_true] at hk; exact hk.2
  obtain ⟨b, off, cap, rfl, _⟩ := h.some_ (by omega)
  have OK := Lib.hid (fun i (hi : i < n) => (rowTo_at hok hi).1)
  clear h hok hk
  go_enter Tryd.func15, Tryd.ntmps15
  go_wp2_with fail
  go_loopw [3, 8] (fun u i wr => ∃ j : Nat, j ≤ n ∧ i = .int .i64 (j : Int) ∧ u = .string (ptx f j) ∧ Below w.heap.size w wr) (fun _ i _ => n - (intOf i).toNat)
  case atStart => exact ⟨0, Nat.zero_le _, rfl, rfl, Below.refl _ _⟩
  case round =>
    obtain ⟨j, hj, rfl, rfl, hW⟩ := hrel
    by_cases hlt : j < n
    · obtain ⟨b', off', cap', hv, hb', hc⟩ := (HH.out.keep hW).some_ (by omega)
      simp only [Value.slice.injEq, Option.some.injEq, Addr.mk.injEq, and_true, true_and] at hv
      obtain ⟨⟨rfl, rfl⟩, rfl⟩ := hv
      obtain ⟨p1, p2⟩ := hc j hlt
      have hlt' : (j : Int) < (n : Int) := by omega
      have HW := Lib.hid hW
      obtain ⟨⟨a0, a1⟩, ⟨b0, b1⟩⟩ := okP_true (OK.out j hlt)
      clear hc hW
      have hps := ptx_size f j fun i hi => OK.out i (by omega)
      have hp44 : (ByteArray.mk #[44]).size = 1 := rfl
      by_cases h0 : j = 0
      · subst h0
        have HN := Lib.hid (show ptx f (0 + 1) = ptx f 0 ++ part (f 0) (f 1) from rfl)
        simp only [Nat.zero_mul, Nat.add_zero, Nat.zero_add] at p1 p2 a0 a1 b0 b1
        generalize f 0 = A at *
        generalize f 1 = B at *
        generalize ptx f 0 = P at *
        have s1 := dec_size A (by omega) (by omega)
        have s2 := dec_size B (by omega) (by omega)
        have n1 : ¬ 9223372036854775807 < (dec A).size + 1 := by omega
        have n2 : ¬ 9223372036854775807 < (dec A).size + 1 + (dec B).size := by omega
        have hpart : (part A B).size = (dec A).size + 1 + (dec B).size := by
          simp only [part, ByteArray.size_append]
          rfl
        have hX : (wr.alloc (.cells #[.int .i64 A, .int .i64 B] 37)).cell? ⟨wr.heap.size, 0, none⟩ = some (.int .i64 A) ∧ (wr.alloc (.cells #[.int .i64 A, .int .i64 B] 37)).cell? ⟨wr.heap.size, 1, none⟩ = some (.int .i64 B) ∧ wr.heap.size < (wr.alloc (.cells #[.int .i64 A, .int .i64 B] 37)).heap.size ∧ Below wr.heap.size wr (wr.alloc (.cells #[.int .i64 A, .int .i64 B] 37)) := ⟨by simp, by simp, by simp, bl_alloc (Below.refl _ _) _⟩
        have n3 : ¬ 9223372036854775807 < P.size + ((dec A).size + 1 + (dec B).size) := by omega
        go_wp2_with fail
        go_region_held3 (fun w' => w'.cell? ⟨wr.heap.size, 0, none⟩ = some (.int .i64 A) ∧ w'.cell? ⟨wr.heap.size, 1, none⟩ = some (.int .i64 B) ∧ wr.heap.size < w'.heap.size ∧ Below wr.heap.size wr w') (first | exact PX_after hb2 (by assumption) | exact PX_after (below_drewN (Below.refl _ _) _) (by assumption) | exact PX_after (Below.drew (Below.refl _ _)) (by assumption) | exact hX | assumption) (first | (go_at_call 27; refine (l1Num_any _ (by omega) (by omega) _).mono ?_; rintro e w2 ⟨rfl, hb2⟩) | fail)
        go_wp2
        go_roundw
        case rel => rename_i hh; exact ⟨0 + 1, by omega, by go_num, by rw [HN.out]; rfl, bl_trans hh.2.2.2 HW.out⟩
        case measure => simp only [intOf]; omega
      · have h0' : 0 < (j : Int) := by omega
        have HN := Lib.hid (show ptx f (j + 1) = ptx f j ++ ⟨#[44]⟩ ++ part (f (j * 2)) (f (j * 2 + 1)) by simp only [ptx, if_neg h0])
        clear h0
        generalize f (j * 2) = A at *
        generalize f (j * 2 + 1) = B at *
        generalize ptx f j = P at *
        have s1 := dec_size A (by omega) (by omega)
        have s2 := dec_size B (by omega) (by omega)
        have n1 : ¬ 9223372036854775807 < (dec A).size + 1 := by omega
        have n2 : ¬ 9223372036854775807 < (dec A).size + 1 + (dec B).size := by omega
        have hpart : (part A B).size = (dec A).size + 1 + (dec B).size := by
          simp only [part, ByteArray.size_append]
          rfl
        have hX : (wr.alloc (.cells #[.int .i64 A, .int .i64 B] 37)).cell? ⟨wr.heap.size, 0, none⟩ = some (.int .i64 A) ∧ (wr.alloc (.cells #[.int .i64 A, .int .i64 B] 37)).cell? ⟨wr.heap.size, 1, none⟩ = some (.int .i64 B) ∧ wr.heap.size < (wr.alloc (.cells #[.int .i64 A, .int .i64 B] 37)).heap.size ∧ Below wr.heap.size wr (wr.alloc (.cells #[.int .i64 A, .int .i64 B] 37)) := ⟨by simp, by simp, by simp, bl_alloc (Below.refl _ _) _⟩
        have n3 : ¬ 9223372036854775807 < P.size + 1 := by omega
        have n4 : ¬ 9223372036854775807 < P.size + 1 + ((dec A).size + 1 + (dec B).size) := by omega
        go_wp2_with fail
        go_region_held3 (fun w' => w'.cell? ⟨wr.heap.size, 0, none⟩ = some (.int .i64 A) ∧ w'.cell? ⟨wr.heap.size, 1, none⟩ = some (.int .i64 B) ∧ wr.heap.size < w'.heap.size ∧ Below wr.heap.size wr w') (first | exact PX_after hb2 (by assumption) | exact PX_after (below_drewN (Below.refl _ _) _) (by assumption) | exact PX_after (Below.drew (Below.refl _ _)) (by assumption) | exact hX | assumption) (first | (go_at_call 27; refine (l1Num_any _ (by omega) (by omega) _).mono ?_; rintro e w2 ⟨rfl, hb2⟩) | fail)
        go_wp2
        go_roundw
        case rel => rename_i hh; exact ⟨j + 1, by omega, by go_num, by rw [HN.out]; rfl, bl_trans hh.2.2.2 HW.out⟩
        case measure => simp only [intOf]; omega
    · obtain rfl : j = n := by omega
      have HW := Lib.hid hW
      clear hW
      go_wp2
      go_ret
      exact ⟨rfl, HW.out⟩
set_option maxHeartbeats 400000 in
theorem spec_PolesText (v : Value) (n : Nat) (f : Nat → Int) (w : World) (h : PRow w v n f) :
    Calls Tryd.prog 6 #[v] w fun e w' => e = .returned (.tuple #[.string (PTX n f), .bool (okRow n f)]) ∧ Below w.heap.size w w' := by
  have HH := Lib.hid h
  obtain ⟨a, c, rfl⟩ := h.shape
  cases h1 : okRow n f
  · clear h
    go_enter Tryd.func6, Tryd.ntmps6
    go_wp2_with fail
    refine (spec_isRow _ _ _ _ HH.out).mono ?_
    rintro e w1 ⟨rfl, hb⟩
    rw [h1]
    go_wp2
    go_ret2
    exact ⟨by simp [PTX, h1], (by repeat (first | exact Below.refl _ _ | refine bl_alloc ?_ _ | refine bl_drewN ?_ _ | refine bl_trans (by assumption) ?_ | refine bl_set ?_ (by first | omega | (simp; done) | (simp; omega)) _))⟩
  · have H1 := Lib.hid h1
    clear h
    go_enter Tryd.func6, Tryd.ntmps6
    go_wp2_with fail
    refine (spec_isRow _ _ _ _ HH.out).mono ?_
    rintro e w1 ⟨rfl, hb⟩
    have HB := Lib.hid hb
    rw [h1]
    clear hb
    go_wp2_with fail
    refine (swText_any _ _ _ _ (HH.out.keep HB.out) H1.out).mono ?_
    rintro e w2 ⟨rfl, hb2⟩
    go_wp2
    go_ret2
    exact ⟨by simp [PTX, H1.out], bl_trans hb2 HB.out⟩
end Go.Proofs.YtophkahaefbkiaaDoor
