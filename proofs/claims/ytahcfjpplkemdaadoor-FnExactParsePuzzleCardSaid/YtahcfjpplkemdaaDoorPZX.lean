/- Texts of puzzles, by the program and by the model. -/
import Derived.Test.YtahcfjpplkemdaaDoorPZ5
import Derived.Test.YtahcfjpplkemdaaDoorT2
import Derived.OwnWalk
import Derived.Deep.AppendLies
import Derived.Deep.RegionLaw
import Derived.Deep.RegionHeldLaw
import Derived.Deep.QuietTactic
namespace Go.Proofs.YtahcfjpplkemdaaDoor
open Go.RowKit
set_option linter.unusedVariables false
set_option linter.unusedSimpArgs false
/-- a slice of strings that a call made -/
def SRowB (w : World) (B : Nat) (v : Value) (xs : List ByteArray) : Prop := w.ownsRow B 9 1 v xs.length (xs.map Value.string)
theorem SRowB.keep {w w' : World} {B : Nat} {v : Value} {xs : List ByteArray} (h : SRowB w B v xs) (k : Below w.heap.size w w') : SRowB w' B v xs :=
  World.ownsRow.kept h (only_of_below k none) (by cases hv : v.ownBlock <;> simp)
theorem SRowB.nil (w : World) (B : Nat) : SRowB w B (.slice none 0 0) [] := World.ownsRow_nil w B _ 1
theorem infoSB : (Tryd.prog.info? 9).map (fun i => (i.zero, i.size, i.bytes)) = some (some (.string ⟨#[]⟩), 1, 16) := by kernel_rfl
def CXX (wr : World) (A B C : Int) (W : World) : Prop := W.cell? ⟨wr.heap.size, 0, none⟩ = some (.int .i64 A) ∧ W.cell? ⟨wr.heap.size, 1, none⟩ = some (.int .i64 B) ∧ W.cell? ⟨wr.heap.size, 2, none⟩ = some (.int .i64 C) ∧ wr.heap.size < W.heap.size ∧ Below wr.heap.size wr W
theorem CXX.drew {wr W : World} {A B C : Int} (h : CXX wr A B C W) : CXX wr A B C W.drew := ⟨h.1, h.2.1, h.2.2.1, h.2.2.2.1, h.2.2.2.2.drew⟩
theorem CXX.after {wr W W' : World} {A B C : Int} (k : Below W.heap.size W W') (h : CXX wr A B C W) : CXX wr A B C W' := by
  obtain ⟨h1, h2, h3, h4, h5⟩ := h
  obtain ⟨hc, _⟩ := bcell k
  exact ⟨by rw [hc _ _ h4]; exact h1, by rw [hc _ _ h4]; exact h2, by rw [hc _ _ h4]; exact h3, Nat.lt_of_lt_of_le h4 k.size, bl_trans k h5⟩
theorem CXX_after {w u v : World} {x y z : Value} (k : Below u.heap.size u v) (h : u.cell? ⟨w.heap.size, 0, none⟩ = some x ∧ u.cell? ⟨w.heap.size, 1, none⟩ = some y ∧ u.cell? ⟨w.heap.size, 2, none⟩ = some z ∧ w.heap.size < u.heap.size ∧ Below w.heap.size w u) :
    v.cell? ⟨w.heap.size, 0, none⟩ = some x ∧ v.cell? ⟨w.heap.size, 1, none⟩ = some y ∧ v.cell? ⟨w.heap.size, 2, none⟩ = some z ∧ w.heap.size < v.heap.size ∧ Below w.heap.size w v := by
  obtain ⟨h1, h2, h3, h4, h5⟩ := h
  obtain ⟨hc, _⟩ := bcell k
  exact ⟨by rw [hc _ _ h4]; exact h1, by rw [hc _ _ h4]; exact h2, by rw [hc _ _ h4]; exact h3, Nat.lt_of_lt_of_le h4 k.size, bl_trans k h5⟩
theorem cell_one_s (w : World) (x : Value) (t : TypeId) (n : Nat) (hn : n = w.heap.size) : ∀ j u, [x][j]? = some u → (w.alloc (.cells #[x] t)).cell? ((⟨n, 0, none⟩ : Addr).add j) = some u := by
  intro j u hj
  subst hn
  match j, hj with
  | 0, hj =>
    simp at hj
    subst hj
    simp [Addr.add]
def part (a b c : Int) : ByteArray := dec a ++ ⟨#[46]⟩ ++ dec b ++ ⟨#[46]⟩ ++ dec c
def parts (f : Nat → Int) : Nat → List ByteArray
  | 0 => []
  | k + 1 => parts f k ++ [part (f (k * 3)) (f (k * 3 + 1)) (f (k * 3 + 2))]
theorem parts_len (f : Nat → Int) (k : Nat) : (parts f k).length = k := by
  induction k with
  | zero => rfl
  | succ k ih => simp [parts, ih]
/-- the text of the first k, behind P -/
def ptx (P : ByteArray) (f : Nat → Int) : Nat → ByteArray
  | 0 => P
  | k + 1 => (if k = 0 then ptx P f k else ptx P f k ++ ⟨#[44]⟩) ++ part (f (k * 3)) (f (k * 3 + 1)) (f (k * 3 + 2))
theorem join_snoc (xs : List (List UInt8)) (y sep : List UInt8) (h : xs ≠ []) : Lib.join (xs ++ [y]) sep = Lib.join xs sep ++ sep ++ y := by
  cases xs with
  | nil => exact absurd rfl h
  | cons x r => rw [List.cons_append, Lib.join_cons, Lib.join_cons]; simp [Lib.joinTail]
theorem ptx_join (P : ByteArray) (f : Nat → Int) : ∀ k, (ptx P f k).data.toList = P.data.toList ++ Lib.join ((parts f k).map (·.data.toList)) [44]
  | 0 => by simp [ptx, parts, Lib.join]
  | k + 1 => by
    by_cases hk : k = 0
    · subst hk
      simp [ptx, parts, Lib.join_one]
    · have hne : (parts f k).map (·.data.toList) ≠ [] := fun e => by
        have := congrArg List.length e
        simp [parts_len] at this
        exact hk this
      simp only [ptx, if_neg hk, parts, List.map_append, List.map_cons, List.map_nil]
      rw [join_snoc _ _ _ hne]
      have := ptx_join P f k
      simp [this]
theorem part_len (a b c : Int) : (part a b c).size = (dec a).size + 1 + (dec b).size + 1 + (dec c).size := by
  simp only [part, ByteArray.size_append]
  rfl
theorem part_size {a b c : Int} (h : okK a b c = true) : (part a b c).size ≤ 65 := by
  have hk := okK_kind h
  obtain ⟨a0, a1, b0, b1, _⟩ := okK_bd h
  have s1 := dec_size a (by omega) (by omega)
  have s2 := dec_size b (by omega) (by omega)
  have s3 := dec_size c (by omega) (by omega)
  rw [part_len]
  omega
theorem ptx_size (P : ByteArray) (f : Nat → Int) : ∀ k, (∀ i, i < k → okK (f (i * 3)) (f (i * 3 + 1)) (f (i * 3 + 2)) = true) → (ptx P f k).size ≤ P.size + 66 * k
  | 0, _ => by simp [ptx]
  | k + 1, h => by
    have h1 := ptx_size P f k fun i hi => h i (by omega)
    have h2 := part_size (h k (by omega))
    have h3 : (ByteArray.mk #[44]).size = 1 := rfl
    simp only [ptx]
    split <;> simp only [ByteArray.size_append] <;> omega
theorem join_row {wr : World} {B : Nat} {u : Value} {xs : List ByteArray} (h : SRowB wr B u xs) (hN : xs.length ≤ 1000) (hl : (Lib.join (xs.map (·.data.toList)) [44]).length ≤ 1000000) :
    ∃ a c, u = .slice a xs.length c ∧ ∀ W : World, Below wr.heap.size wr W → Calls Tryd.prog 20 #[.slice a xs.length c, .string ⟨#[44]⟩] W fun e w' => e = .returned (.string ⟨(Lib.join (xs.map (·.data.toList)) [44]).toArray⟩) ∧ Below W.heap.size W w' := by
  by_cases h0 : xs.length = 0
  · have hx : xs = [] := List.length_eq_zero_iff.1 h0
    subst hx
    have : ∃ a c, u = .slice a 0 c := by
      rcases h.2 with ⟨rfl, _⟩ | ⟨g, cap, cur, rfl, _⟩
      · exact ⟨_, _, rfl⟩
      · exact ⟨_, _, rfl⟩
    obtain ⟨a, c, rfl⟩ := this
    refine ⟨a, c, rfl, fun W _ => (Tryd.strings_Join_none a c ⟨#[44]⟩ W).mono ?_⟩
    rintro e w' ⟨rfl, rfl⟩
    exact ⟨rfl, Below.refl _ _⟩
  · obtain ⟨g, cp, rfl, hg1, hg2⟩ := World.ownsRow.form h (by omega)
    have hcells : ∀ (i : Nat) x, xs[i]? = some x → wr.cell? ⟨g, 0 + i, none⟩ = some (.string x) := fun i x hx => by
      have hi : i < xs.length := (List.getElem?_eq_some_iff.1 hx).1
      rw [Nat.zero_add, World.ownsRow.cellAt h i (by omega)]
      simp [hx]
    have hcap : xs.length ≤ cp := by
      obtain ⟨_, ⟨h0, _⟩ | ⟨g', cap', cur, h0, _, _, h1, _⟩⟩ := h
      · cases h0
      · simp only [Value.slice.injEq, Option.some.injEq, Addr.mk.injEq, and_true, true_and] at h0
        omega
    refine ⟨_, cp, rfl, fun W hb => (Tryd.strings_Join g 0 cp xs ⟨#[44]⟩ W (fun i x hx => by rw [(bcell hb).1 _ _ hg2]; exact hcells i x hx) (Nat.lt_of_lt_of_le hg2 hb.size) (by omega) hcap (Nat.le_trans hl (by omega))).mono ?_⟩
    rintro e w' ⟨rfl, hb2⟩
    exact ⟨rfl, hb2⟩
def pre (wd : Int) : ByteArray := dec wd ++ ⟨#[119]⟩
def PZT (wd : Int) (n : Nat) (f : Nat → Int) : ByteArray := if okP wd n f then ptx (pre wd) f n else ⟨#[]⟩
theorem parts_size (f : Nat → Int) (k : Nat) (h : ∀ i, i < k → okK (f (i * 3)) (f (i * 3 + 1)) (f (i * 3 + 2)) = true) : (Lib.join ((parts f k).map (·.data.toList)) [44]).length ≤ 66 * k := by
  have h1 := ptx_size ⟨#[]⟩ f k h
  have h2 := ptx_join ⟨#[]⟩ f k
  have h3 := congrArg List.length h2
  simp only [List.length_append, Array.length_toList, ByteArray.size] at h3 h1
  simp at h3 h1
  omega
set_option maxRecDepth 100000 in
set_option maxHeartbeats 4000000 in
theorem impl_PuzzleText (wd : Int) (v : Value) (n : Nat) (f : Nat → Int) (w : World) (h : PClu w v n f) (T : Tab w) :
    Calls Tryd.prog 8 #[.agg #[.int .i64 wd, v]] w fun e w' => e = .returned (.tuple #[.string (PZT wd n f), .bool (okP wd n f)]) ∧ Below w.heap.size w w' := by
  have hl := h.len_le
  have HH := Lib.hid h
  have HT := Lib.hid T
  clear T
  obtain ⟨a, c, rfl⟩ := h.shape
  cases h1 : okP wd n f
  · clear h
    go_enter Tryd.func8, Tryd.ntmps8
    go_wp2_with fail
    refine (impl_IsPuzzle wd _ n f _ (HH.out.keep (by repeat (first | exact Below.refl _ _ | refine bl_alloc ?_ _ | refine bl_drewN ?_ _ | refine bl_trans (by assumption) ?_)))).mono ?_
    rintro e w1 ⟨rfl, hbw1⟩
    obtain ⟨hcw1, hfw1⟩ := bcell hbw1
    have hzw1 := bsize hbw1
    (try simp only [World.size_alloc, World.size_setCell] at hzw1)
    have kw1_0_0 : w1.cell? ⟨w.heap.size, 0, none⟩ = some (.int .i64 wd) := by rw [hcw1 _ _ (by first | (simp; done) | omega | (simp; omega))]; first | assumption | (simp [go_sem]; done) | (simp [go_sem]; done) | (simp [go_sem, *]; done)
    have kw1_0_1 : w1.cell? ⟨w.heap.size, 1, none⟩ = some (.slice a n c) := by rw [hcw1 _ _ (by first | (simp; done) | omega | (simp; omega))]; first | assumption | (simp [go_sem]; done) | (simp [go_sem]; done) | (simp [go_sem, *]; done)
    have sw1_0 : w.heap.size < w1.heap.size := by first | omega | (simp at *; omega)
    have hBw1 : Below w.heap.size w w1 := (by repeat (first | exact Below.refl _ _ | refine bl_alloc ?_ _ | refine bl_drewN ?_ _ | refine bl_trans (by assumption) ?_ | refine bl_set ?_ (by first | omega | (simp; done) | (simp; omega)) _))
    have HBw1 := Lib.hid hBw1
    clear hBw1 hcw1 hfw1 hbw1
    rw [h1]
    go_wp2
    go_ret2
    exact ⟨by simp [PZT, h1], (by repeat (first | exact HBw1.out | exact Below.refl _ _ | refine bl_alloc ?_ _ | refine bl_drewN ?_ _ | refine bl_trans (by assumption) ?_ | refine bl_set ?_ (by first | omega | (simp; done) | (simp; omega)) _))⟩
  · obtain ⟨⟨wd0, wd1⟩, hn6, hok⟩ := okP_true h1
    have OK := Lib.hid (fun i (hi : i < n) => okCs_get hok hi)
    have H1 := Lib.hid h1
    have sw := dec_size wd (by omega) (by omega)
    have nw : ¬ 9223372036854775807 < (dec wd).size + 1 := by omega
    clear h hok
    go_enter Tryd.func8, Tryd.ntmps8
    go_wp2_with fail
    refine (impl_IsPuzzle wd _ n f _ (HH.out.keep (by repeat (first | exact Below.refl _ _ | refine bl_alloc ?_ _ | refine bl_drewN ?_ _ | refine bl_trans (by assumption) ?_)))).mono ?_
    rintro e w1 ⟨rfl, hbw1⟩
    obtain ⟨hcw1, hfw1⟩ := bcell hbw1
    have hzw1 := bsize hbw1
    (try simp only [World.size_alloc, World.size_setCell] at hzw1)
    have kw1_0_0 : w1.cell? ⟨w.heap.size, 0, none⟩ = some (.int .i64 wd) := by rw [hcw1 _ _ (by first | (simp; done) | omega | (simp; omega))]; first | assumption | (simp [go_sem]; done) | (simp [go_sem]; done) | (simp [go_sem, *]; done)
    have kw1_0_1 : w1.cell? ⟨w.heap.size, 1, none⟩ = some (.slice a n c) := by rw [hcw1 _ _ (by first | (simp; done) | omega | (simp; omega))]; first | assumption | (simp [go_sem]; done) | (simp [go_sem]; done) | (simp [go_sem, *]; done)
    have sw1_0 : w.heap.size < w1.heap.size := by first | omega | (simp at *; omega)
    have hBw1 : Below w.heap.size w w1 := (by repeat (first | exact Below.refl _ _ | refine bl_alloc ?_ _ | refine bl_drewN ?_ _ | refine bl_trans (by assumption) ?_ | refine bl_set ?_ (by first | omega | (simp; done) | (simp; omega)) _))
    have HBw1 := Lib.hid hBw1
    clear hBw1 hcw1 hfw1 hbw1
    rw [h1]
    clear h1
    obtain ⟨i0, hi, hz0, hz1, hz2⟩ := info_parts infoSB
    go_wp2_with fail
    go_loopw [4, 13] (fun u i wr => ∃ j : Nat, j ≤ n ∧ i = .int .i64 (j : Int) ∧ SRowB wr (w.heap.size + 1) u (parts f j) ∧ wr.cell? ⟨w.heap.size, 0, none⟩ = some (.int .i64 wd) ∧ wr.cell? ⟨w.heap.size, 1, none⟩ = some (.slice a n c) ∧ w.heap.size < wr.heap.size ∧ Below w.heap.size w wr) (fun _ i _ => n - (intOf i).toNat)
    case atStart => exact ⟨0, Nat.zero_le _, rfl, SRowB.nil _ _, kw1_0_0, kw1_0_1, sw1_0, HBw1.out⟩
    case round =>
      obtain ⟨j, hj, rfl, hR, q0, q1, hsz, hW⟩ := hrel
      by_cases hlt : j < n
      · obtain ⟨b', off', cap', hv, hb', hc⟩ := (HH.out.keep hW).some_ (by omega)
        simp only [Value.slice.injEq, true_and] at hv
        obtain ⟨rfl, rfl⟩ := hv
        obtain ⟨p1, p2, p3⟩ := hc j hlt
        have hlt' : (j : Int) < (n : Int) := by omega
        have HR := Lib.hid hR
        have HW := Lib.hid hW
        have hkk := okK_kind (OK.out j hlt)
        obtain ⟨a0, a1, b0, b1, _⟩ := okK_bd (OK.out j hlt)
        have hpl := parts_len f j
        clear hc hR hW
        have HN := Lib.hid (show parts f (j + 1) = parts f j ++ [part (f (j * 3)) (f (j * 3 + 1)) (f (j * 3 + 2))] from rfl)
        have HPL := fun A B C => Lib.hid (part_len A B C)
        generalize f (j * 3) = A at *
        generalize f (j * 3 + 1) = B at *
        generalize f (j * 3 + 2) = C at *
        have s1 := dec_size A (by omega) (by omega)
        have s2 := dec_size B (by omega) (by omega)
        have s3 := dec_size C (by omega) (by omega)
        have n1 : ¬ 9223372036854775807 < (dec A).size + 1 := by omega
        have n2 : ¬ 9223372036854775807 < (dec A).size + 1 + (dec B).size := by omega
        have n3 : ¬ 9223372036854775807 < (dec A).size + 1 + (dec B).size + 1 := by omega
        have n4 : ¬ 9223372036854775807 < (dec A).size + 1 + (dec B).size + 1 + (dec C).size := by omega
        have hA0 : -9223372036854775808 ≤ A ∧ A ≤ 9223372036854775807 := by omega
        have hB0 : -9223372036854775808 ≤ B ∧ B ≤ 9223372036854775807 := by omega
        have hC0 : -9223372036854775808 ≤ C ∧ C ≤ 9223372036854775807 := by omega
        clear hkk HPL
        go_wp2_with fail
        have hX : CXX wr A B C (wr.alloc (.cells #[.int .i64 A, .int .i64 B, .int .i64 C] 44)) := ⟨by simp, by simp, by simp, by simp, bl_alloc (Below.refl _ _) _⟩
        have y0 := cell_after (bl_alloc (Below.refl wr.heap.size wr) (.cells #[.int .i64 A, .int .i64 B, .int .i64 C] 44)) hsz q0
        have y1 := cell_after (bl_alloc (Below.refl wr.heap.size wr) (.cells #[.int .i64 A, .int .i64 B, .int .i64 C] 44)) hsz q1
        have Q01 := Lib.hid (And.intro q0 (And.intro q1 hsz))
        clear q0 q1 y0 y1
        generalize wr.alloc (.cells #[.int .i64 A, .int .i64 B, .int .i64 C] 44) = wp at *
        have hX := CXX.drew hX
        have hX2 := hX
        obtain ⟨k0, k1, k2, ks, kb⟩ := hX2
        go_region_law (first
          | (refine step_append_lies _ rfl _ _ 42 rfl (w.heap.size + 1) 9 i0 (.string ⟨#[]⟩) 1 16 Tryd.underlying42 hi hz0 hz1 hz2 rfl (by decide) _ _ _ rfl (World.ownsRow.alloc (SRowB.keep HR.out (by assumption)) _) ⟨_, 0, none⟩ 1 1 [.string (part A B C)] rfl rfl (cell_one_s _ _ _ _ rfl) (by simp [Value.oneCell']) (by decide) (by rw [hpl]; unfold maxLen; omega) (by rw [hpl]; omega) (by have h2 := hX.2.2.2.2.size; simp only [World.size_alloc]; omega) _ rfl ?_; intro g cp wn hown hgrow hat hlt2)
          | (go_simp; go_at_call 19; refine (itoa_any _ (by omega) (by omega) HT.out (bl_trans (by assumption) HW.out)).mono ?_; rintro e wc ⟨rfl, hbc⟩; have hX := CXX.after hbc hX; have hX2 := hX; obtain ⟨k0, k1, k2, ks, kb⟩ := hX2) | fail)
        all_goals
          have r1 : SRowB wn (w.heap.size + 1) (.slice (some ⟨g, 0, none⟩) ((parts f j).length + 1) cp) (parts f (j + 1)) := by
            unfold SRowB
            rw [HN.out, List.length_append, List.length_singleton, List.map_append]
            exact hown
          have hge : w.heap.size + 1 ≤ wr.heap.size := Q01.out.2.2
          have r2 : Below (w.heap.size + 1) wr wn := ((kb.alloc kb.size _).mono hge).grown hgrow (by have := kb.size; simp only [World.size_alloc]; omega) fun q e => (World.ownsRow.lt HR.out q e).1
          have e0 := (r2.cell (p := ⟨w.heap.size, 0, none⟩) (Nat.lt_succ_self _)).trans Q01.out.1
          have e1 := (r2.cell (p := ⟨w.heap.size, 1, none⟩) (Nat.lt_succ_self _)).trans Q01.out.2.1
          have e2 : w.heap.size < wn.heap.size := Nat.lt_of_lt_of_le hge r2.size
          have R1 := Lib.hid r1
          have R2 := Lib.hid (HW.out.trans (r2.mono (Nat.le_succ _)))
          rw [hpl] at R1
          clear r1 r2 hown hgrow hat hlt2 hX kb k0 k1 k2 ks HR HW
          go_wp2
          go_roundw
          case rel => exact ⟨j + 1, by omega, by go_num, R1.out, e0, e1, e2, R2.out⟩
          case measure => simp only [intOf]; omega
      · obtain rfl : j = n := by omega
        have hpl := parts_len f j
        have hps := parts_size f j fun i hi => OK.out i hi
        have HW := Lib.hid hW
        obtain ⟨ua, uc, rfl, hjoin⟩ := join_row hR (by omega) (by omega)
        rw [hpl] at hjoin ⊢
        obtain ⟨J, hJ1, hJ2⟩ : ∃ J : ByteArray, J = ⟨(Lib.join ((parts f j).map (·.data.toList)) [44]).toArray⟩ ∧ J.size ≤ 66 * j := ⟨_, rfl, by simpa [ByteArray.size] using hps⟩
        rw [← hJ1] at hjoin
        have hfin : dec wd ++ ⟨#[119]⟩ ++ J = PZT wd j f := by
          rw [PZT, H1.out, if_pos rfl, hJ1]
          apply ByteArray.ext
          apply Array.toList_inj.1
          rw [ptx_join]
          simp [pre]
        have HF := Lib.hid hfin
        have HJN := Lib.hid hjoin
        have nz : ¬ 9223372036854775807 < (dec wd).size + 1 + J.size := by omega
        clear hpl hps hfin hjoin hJ1 hR hW
        go_wp2_with fail
        refine (itoa_any wd (by omega) (by omega) HT.out HW.out).mono ?_
        rintro e w3 ⟨rfl, hb3⟩
        have HB3 := Lib.hid hb3
        clear hb3
        go_wp2_with fail
        refine (HJN.out _ HB3.out).mono ?_
        rintro e w4 ⟨rfl, hb4⟩
        go_wp2
        go_ret2
        exact ⟨by rw [← HF.out]; simp, bl_trans hb4 (bl_trans HB3.out HW.out)⟩
set_option maxRecDepth 100000 in
set_option maxHeartbeats 4000000 in
theorem pzText_any (wd : Int) (v : Value) (n : Nat) (f : Nat → Int) (w : World) (h : PClu w v n f) (hk : okP wd n f = true) :
    Calls Tryd.prog 16 #[.agg #[.int .i64 wd, v]] w fun e w' => e = .returned (.string (ptx (pre wd) f n)) ∧ Below w.heap.size w w' := by
  have hl := h.len_le
  have HH := Lib.hid h
  obtain ⟨a, c, rfl⟩ := h.shape
  obtain ⟨⟨wd0, wd1⟩, hn6, hok⟩ := okP_true hk
  have OK := Lib.hid (fun i (hi : i < n) => okCs_get hok hi)
  have sw := dec_size wd (by omega) (by omega)
  have nw : ¬ 9223372036854775807 < (dec wd).size + 1 := by omega
  have hpre : (pre wd).size = (dec wd).size + 1 := by
    simp only [pre, ByteArray.size_append]
    rfl
  clear h hok hk
  go_enter Tryd.func16, Tryd.ntmps16
  go_wp2_with fail
  refine (l1Num_any wd (by omega) (by omega) _).mono ?_
  rintro e w1 ⟨rfl, hbw1⟩
  obtain ⟨hcw1, hfw1⟩ := bcell hbw1
  have hzw1 := bsize hbw1
  (try simp only [World.size_alloc, World.size_setCell] at hzw1)
  have kw1_0_0 : w1.cell? ⟨w.heap.size, 0, none⟩ = some (.int .i64 wd) := by rw [hcw1 _ _ (by first | (simp; done) | omega | (simp; omega))]; first | assumption | (simp [go_sem]; done) | (simp [go_sem]; done) | (simp [go_sem, *]; done)
  have kw1_0_1 : w1.cell? ⟨w.heap.size, 1, none⟩ = some (.slice a n c) := by rw [hcw1 _ _ (by first | (simp; done) | omega | (simp; omega))]; first | assumption | (simp [go_sem]; done) | (simp [go_sem]; done) | (simp [go_sem, *]; done)
  have sw1_0 : w.heap.size < w1.heap.size := by first | omega | (simp at *; omega)
  have hBw1 : Below w.heap.size w w1 := (by repeat (first | exact Below.refl _ _ | refine bl_alloc ?_ _ | refine bl_drewN ?_ _ | refine bl_trans (by assumption) ?_ | refine bl_set ?_ (by first | omega | (simp; done) | (simp; omega)) _))
  have HBw1 := Lib.hid hBw1
  clear hBw1 hcw1 hfw1 hbw1
  have HB0 := HBw1
  go_wp2_with fail
  go_loopw [3, 13] (fun u i wr => ∃ j : Nat, j ≤ n ∧ i = .int .i64 (j : Int) ∧ u = .string (ptx (pre wd) f j) ∧ Below w.heap.size w wr) (fun _ i _ => n - (intOf i).toNat)
  case atStart => exact ⟨0, Nat.zero_le _, rfl, rfl, HB0.out⟩
  case round =>
    obtain ⟨j, hj, rfl, rfl, hW⟩ := hrel
    by_cases hlt : j < n
    · obtain ⟨b', off', cap', hv, hb', hc⟩ := (HH.out.keep hW).some_ (by omega)
      simp only [Value.slice.injEq, true_and] at hv
      obtain ⟨rfl, rfl⟩ := hv
      obtain ⟨p1, p2, p3⟩ := hc j hlt
      have hlt' : (j : Int) < (n : Int) := by omega
      have HW := Lib.hid hW
      have hkk := okK_kind (OK.out j hlt)
      obtain ⟨a0, a1, b0, b1, _⟩ := okK_bd (OK.out j hlt)
      clear hc hW
      have hps := ptx_size (pre wd) f j fun i hi => OK.out i (by omega)
      by_cases h0 : j = 0
      · subst h0
        have HN := Lib.hid (show ptx (pre wd) f (0 + 1) = ptx (pre wd) f 0 ++ part (f 0) (f 1) (f 2) from rfl)
        simp only [Nat.zero_mul, Nat.add_zero, Nat.zero_add] at p1 p2 p3 a0 a1 b0 b1 hkk
        have HPL := fun A B C => Lib.hid (part_len A B C)
        generalize f 0 = A at *
        generalize f 1 = B at *
        generalize f 2 = C at *
        generalize ptx (pre wd) f 0 = P at *
        have s1 := dec_size A (by omega) (by omega)
        have s2 := dec_size B (by omega) (by omega)
        have s3 := dec_size C (by omega) (by omega)
        have n1 : ¬ 9223372036854775807 < (dec A).size + 1 := by omega
        have n2 : ¬ 9223372036854775807 < (dec A).size + 1 + (dec B).size := by omega
        have n3 : ¬ 9223372036854775807 < (dec A).size + 1 + (dec B).size + 1 := by omega
        have n4 : ¬ 9223372036854775807 < (dec A).size + 1 + (dec B).size + 1 + (dec C).size := by omega
        have n5 : ¬ 9223372036854775807 < P.size + 1 := by omega
        have n6 : ¬ 9223372036854775807 < P.size + 1 + ((dec A).size + 1 + (dec B).size + 1 + (dec C).size) := by omega
        have n7 : ¬ 9223372036854775807 < P.size + ((dec A).size + 1 + (dec B).size + 1 + (dec C).size) := by omega
        have hX : ((wr.alloc (.cells #[.int .i64 A, .int .i64 B, .int .i64 C] 44)).cell? ⟨wr.heap.size, 0, none⟩ = some (.int .i64 A) ∧ (wr.alloc (.cells #[.int .i64 A, .int .i64 B, .int .i64 C] 44)).cell? ⟨wr.heap.size, 1, none⟩ = some (.int .i64 B) ∧ (wr.alloc (.cells #[.int .i64 A, .int .i64 B, .int .i64 C] 44)).cell? ⟨wr.heap.size, 2, none⟩ = some (.int .i64 C) ∧ wr.heap.size < (wr.alloc (.cells #[.int .i64 A, .int .i64 B, .int .i64 C] 44)).heap.size ∧ Below wr.heap.size wr (wr.alloc (.cells #[.int .i64 A, .int .i64 B, .int .i64 C] 44))) := ⟨by simp, by simp, by simp, by simp, bl_alloc (Below.refl _ _) _⟩
        go_wp2_with fail
        go_region_held3 (fun w' => w'.cell? ⟨wr.heap.size, 0, none⟩ = some (.int .i64 A) ∧ w'.cell? ⟨wr.heap.size, 1, none⟩ = some (.int .i64 B) ∧ w'.cell? ⟨wr.heap.size, 2, none⟩ = some (.int .i64 C) ∧ wr.heap.size < w'.heap.size ∧ Below wr.heap.size wr w') (first | exact CXX_after hb2 (by assumption) | exact CXX_after (below_drewN (Below.refl _ _) _) (by assumption) | exact CXX_after (Below.drew (Below.refl _ _)) (by assumption) | exact hX | assumption) (first | (go_at_call 30; refine (l1Num_any _ (by omega) (by omega) _).mono ?_; rintro e w2 ⟨rfl, hb2⟩) | fail)
        go_wp2
        go_roundw
        case rel => rename_i hh; exact ⟨0 + 1, by omega, by go_num, by rw [HN.out]; rfl, bl_trans hh.2.2.2.2 HW.out⟩
        case measure => simp only [intOf]; omega
      · have h0' : 0 < (j : Int) := by omega
        have HN := Lib.hid (show ptx (pre wd) f (j + 1) = ptx (pre wd) f j ++ ⟨#[44]⟩ ++ part (f (j * 3)) (f (j * 3 + 1)) (f (j * 3 + 2)) by simp only [ptx, if_neg h0])
        clear h0
        have HPL := fun A B C => Lib.hid (part_len A B C)
        generalize f (j * 3) = A at *
        generalize f (j * 3 + 1) = B at *
        generalize f (j * 3 + 2) = C at *
        generalize ptx (pre wd) f j = P at *
        have s1 := dec_size A (by omega) (by omega)
        have s2 := dec_size B (by omega) (by omega)
        have s3 := dec_size C (by omega) (by omega)
        have n1 : ¬ 9223372036854775807 < (dec A).size + 1 := by omega
        have n2 : ¬ 9223372036854775807 < (dec A).size + 1 + (dec B).size := by omega
        have n3 : ¬ 9223372036854775807 < (dec A).size + 1 + (dec B).size + 1 := by omega
        have n4 : ¬ 9223372036854775807 < (dec A).size + 1 + (dec B).size + 1 + (dec C).size := by omega
        have n5 : ¬ 9223372036854775807 < P.size + 1 := by omega
        have n6 : ¬ 9223372036854775807 < P.size + 1 + ((dec A).size + 1 + (dec B).size + 1 + (dec C).size) := by omega
        have n7 : ¬ 9223372036854775807 < P.size + ((dec A).size + 1 + (dec B).size + 1 + (dec C).size) := by omega
        have hX : ((wr.alloc (.cells #[.int .i64 A, .int .i64 B, .int .i64 C] 44)).cell? ⟨wr.heap.size, 0, none⟩ = some (.int .i64 A) ∧ (wr.alloc (.cells #[.int .i64 A, .int .i64 B, .int .i64 C] 44)).cell? ⟨wr.heap.size, 1, none⟩ = some (.int .i64 B) ∧ (wr.alloc (.cells #[.int .i64 A, .int .i64 B, .int .i64 C] 44)).cell? ⟨wr.heap.size, 2, none⟩ = some (.int .i64 C) ∧ wr.heap.size < (wr.alloc (.cells #[.int .i64 A, .int .i64 B, .int .i64 C] 44)).heap.size ∧ Below wr.heap.size wr (wr.alloc (.cells #[.int .i64 A, .int .i64 B, .int .i64 C] 44))) := ⟨by simp, by simp, by simp, by simp, bl_alloc (Below.refl _ _) _⟩
        go_wp2_with fail
        go_region_held3 (fun w' => w'.cell? ⟨wr.heap.size, 0, none⟩ = some (.int .i64 A) ∧ w'.cell? ⟨wr.heap.size, 1, none⟩ = some (.int .i64 B) ∧ w'.cell? ⟨wr.heap.size, 2, none⟩ = some (.int .i64 C) ∧ wr.heap.size < w'.heap.size ∧ Below wr.heap.size wr w') (first | exact CXX_after hb2 (by assumption) | exact CXX_after (below_drewN (Below.refl _ _) _) (by assumption) | exact CXX_after (Below.drew (Below.refl _ _)) (by assumption) | exact hX | assumption) (first | (go_at_call 30; refine (l1Num_any _ (by omega) (by omega) _).mono ?_; rintro e w2 ⟨rfl, hb2⟩) | fail)
        go_wp2
        go_roundw
        case rel => rename_i hh; exact ⟨j + 1, by omega, by go_num, by rw [HN.out]; rfl, bl_trans hh.2.2.2.2 HW.out⟩
        case measure => simp only [intOf]; omega
    · obtain rfl : j = n := by omega
      have HW := Lib.hid hW
      clear hW
      go_wp2
      go_ret
      exact ⟨rfl, HW.out⟩
set_option maxHeartbeats 400000 in
theorem spec_PuzzleText (wd : Int) (v : Value) (n : Nat) (f : Nat → Int) (w : World) (h : PClu w v n f) :
    Calls Tryd.prog 6 #[.agg #[.int .i64 wd, v]] w fun e w' => e = .returned (.tuple #[.string (PZT wd n f), .bool (okP wd n f)]) ∧ Below w.heap.size w w' := by
  have HH := Lib.hid h
  obtain ⟨a, c, rfl⟩ := h.shape
  cases h1 : okP wd n f
  · clear h
    go_enter Tryd.func6, Tryd.ntmps6
    go_wp2_with fail
    refine (pzGood_any wd _ n f _ (HH.out.keep (by repeat (first | exact Below.refl _ _ | refine bl_alloc ?_ _ | refine bl_drewN ?_ _ | refine bl_trans (by assumption) ?_)))).mono ?_
    rintro e w1 ⟨rfl, hbw1⟩
    obtain ⟨hcw1, hfw1⟩ := bcell hbw1
    have hzw1 := bsize hbw1
    (try simp only [World.size_alloc, World.size_setCell] at hzw1)
    have kw1_0_0 : w1.cell? ⟨w.heap.size, 0, none⟩ = some (.int .i64 wd) := by rw [hcw1 _ _ (by first | (simp; done) | omega | (simp; omega))]; first | assumption | (simp [go_sem]; done) | (simp [go_sem]; done) | (simp [go_sem, *]; done)
    have kw1_0_1 : w1.cell? ⟨w.heap.size, 1, none⟩ = some (.slice a n c) := by rw [hcw1 _ _ (by first | (simp; done) | omega | (simp; omega))]; first | assumption | (simp [go_sem]; done) | (simp [go_sem]; done) | (simp [go_sem, *]; done)
    have sw1_0 : w.heap.size < w1.heap.size := by first | omega | (simp at *; omega)
    have hBw1 : Below w.heap.size w w1 := (by repeat (first | exact Below.refl _ _ | refine bl_alloc ?_ _ | refine bl_drewN ?_ _ | refine bl_trans (by assumption) ?_ | refine bl_set ?_ (by first | omega | (simp; done) | (simp; omega)) _))
    have HBw1 := Lib.hid hBw1
    clear hBw1 hcw1 hfw1 hbw1
    rw [h1]
    go_wp2
    go_ret2
    exact ⟨by simp [PZT, h1], (by repeat (first | exact HBw1.out | exact Below.refl _ _ | refine bl_alloc ?_ _ | refine bl_drewN ?_ _ | refine bl_trans (by assumption) ?_ | refine bl_set ?_ (by first | omega | (simp; done) | (simp; omega)) _))⟩
  · have H1 := Lib.hid h1
    clear h
    go_enter Tryd.func6, Tryd.ntmps6
    go_wp2_with fail
    refine (pzGood_any wd _ n f _ (HH.out.keep (by repeat (first | exact Below.refl _ _ | refine bl_alloc ?_ _ | refine bl_drewN ?_ _ | refine bl_trans (by assumption) ?_)))).mono ?_
    rintro e w1 ⟨rfl, hbw1⟩
    obtain ⟨hcw1, hfw1⟩ := bcell hbw1
    have hzw1 := bsize hbw1
    (try simp only [World.size_alloc, World.size_setCell] at hzw1)
    have kw1_0_0 : w1.cell? ⟨w.heap.size, 0, none⟩ = some (.int .i64 wd) := by rw [hcw1 _ _ (by first | (simp; done) | omega | (simp; omega))]; first | assumption | (simp [go_sem]; done) | (simp [go_sem]; done) | (simp [go_sem, *]; done)
    have kw1_0_1 : w1.cell? ⟨w.heap.size, 1, none⟩ = some (.slice a n c) := by rw [hcw1 _ _ (by first | (simp; done) | omega | (simp; omega))]; first | assumption | (simp [go_sem]; done) | (simp [go_sem]; done) | (simp [go_sem, *]; done)
    have sw1_0 : w.heap.size < w1.heap.size := by first | omega | (simp at *; omega)
    have hBw1 : Below w.heap.size w w1 := (by repeat (first | exact Below.refl _ _ | refine bl_alloc ?_ _ | refine bl_drewN ?_ _ | refine bl_trans (by assumption) ?_ | refine bl_set ?_ (by first | omega | (simp; done) | (simp; omega)) _))
    have HBw1 := Lib.hid hBw1
    clear hBw1 hcw1 hfw1 hbw1
    rw [h1]
    clear h1
    go_wp2_with fail
    refine (pzText_any wd _ n f _ (HH.out.keep (by repeat (first | exact HBw1.out | exact Below.refl _ _ | refine bl_alloc ?_ _ | refine bl_drewN ?_ _ | refine bl_trans (by assumption) ?_ | refine bl_set ?_ (by first | omega | (simp; done) | (simp; omega)) _))) H1.out).mono ?_
    rintro e w2 ⟨rfl, hbw2⟩
    obtain ⟨hcw2, hfw2⟩ := bcell hbw2
    have hzw2 := bsize hbw2
    (try simp only [World.size_alloc, World.size_setCell] at hzw2)
    have hkw2 : Below w1.heap.size w1 w2 := (by repeat (first | exact Below.refl _ _ | refine bl_alloc ?_ _ | refine bl_drewN ?_ _ | refine bl_trans (by assumption) ?_ | refine bl_set ?_ (by first | omega | (simp; done) | (simp; omega)) _))
    have kw2_0_0 : w2.cell? ⟨w.heap.size, 0, none⟩ = some (.int .i64 wd) := cell_after hkw2 sw1_0 kw1_0_0
    have kw2_0_1 : w2.cell? ⟨w.heap.size, 1, none⟩ = some (.slice a n c) := cell_after hkw2 sw1_0 kw1_0_1
    have sw2_0 : w.heap.size < w2.heap.size := size_after hkw2 sw1_0
    have hBw2 : Below w.heap.size w w2 := (by repeat (first | exact HBw1.out | exact Below.refl _ _ | refine bl_alloc ?_ _ | refine bl_drewN ?_ _ | refine bl_trans (by assumption) ?_ | refine bl_set ?_ (by first | omega | (simp; done) | (simp; omega)) _))
    have HBw2 := Lib.hid hBw2
    clear hBw2 hcw2 hfw2 hbw2 hkw2 kw1_0_0 kw1_0_1 sw1_0
    go_wp2
    go_ret2
    exact ⟨by simp [PZT, H1.out], (by repeat (first | exact HBw2.out | exact Below.refl _ _ | refine bl_alloc ?_ _ | refine bl_drewN ?_ _ | refine bl_trans (by assumption) ?_ | refine bl_set ?_ (by first | omega | (simp; done) | (simp; omega)) _))⟩
end Go.Proofs.YtahcfjpplkemdaaDoor
