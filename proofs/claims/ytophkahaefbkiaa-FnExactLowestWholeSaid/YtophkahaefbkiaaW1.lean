/- Whole crossings: the list of all, and the map of whole heights by the program. -/
import Derived.Test.YtophkahaefbkiaaC3
import Derived.Test.YtophkahaefbkiaaL3
import Derived.Test.YtophkahaefbkiaaV1
import Derived.WideKeyEntry
import Derived.WideKeyPair
import Derived.DeepKeys4
import Derived.WalkMore
namespace Go.Proofs.Ytophkahaefbkiaa
open Go.RowKit Go.Maps Go.WideMaps Go.WideElems
set_option linter.unusedVariables false
set_option linter.unusedSimpArgs false
theorem laidOutQ : laidOutB Try.prog = true := by kernel_rfl
theorem arrQ : ArrKey Try.prog 54 3 2 := ⟨Try.underlying54, by kernel_rfl, by kernel_rfl, by kernel_rfl⟩
theorem lawQ : KeyLaw Try.prog 54 := deep_law_laid laidOutQ (m := 2) (by omega) (of_decide_eq_true (by kernel_rfl)) (by kernel_rfl) (by rw [Try.underlying54])
theorem keyedQ : Keyed Try.prog 54 := Keyed.of_law lawQ
theorem sizeQ : ∃ m, Try.prog.types.size = m + 1 := ⟨Try.prog.types.size - 1, by
  have : 0 < Try.prog.types.size := of_decide_eq_true (by kernel_rfl)
  omega⟩
def qk (p : Nat × Nat) : Value := .agg #[.int .i64 (p.1 : Nat), .int .i64 (p.2 : Nat)]
def ql (p : Nat × Nat) : Lit := .string (keyBytes [.int .i64 (p.1 : Nat), .int .i64 (p.2 : Nat)])
def sm (p : Nat × Nat) : Prop := p.1 ≤ 1000 ∧ p.2 ≤ 1000
theorem wf_sm {n : Nat} (h : n ≤ 1000000) : (Lit.int .i64 (n : Nat)).wf = true := by
  have e1 : IntKind.i64.min = -9223372036854775808 := by decide
  have e2 : IntKind.i64.max = 9223372036854775807 := by decide
  simp only [Lit.wf, e1, e2, Bool.and_eq_true, decide_eq_true_eq]
  omega
theorem keyOf_ql {p : Nat × Nat} (h : sm p) : keyOf Try.prog 54 (qk p) = some (ql p) :=
  keyOf_pair arrQ Try.underlying3 sizeQ (wf_sm (by have := h.1; omega)) (wf_sm (by have := h.2; omega))
theorem ql_inj (p q : Nat × Nat) (hp : sm p) (hq : sm q) (h : ql p = ql q) : p = q := by
  have e := keyedQ.inj (keyOf_ql hp) (h ▸ keyOf_ql hq)
  simp only [qk, Value.agg.injEq, Array.mk.injEq, List.cons.injEq, Value.int.injEq, true_and, and_true] at e
  obtain ⟨p1, p2⟩ := p
  obtain ⟨q1, q2⟩ := q
  simp only [Prod.mk.injEq]
  simp only [Int.natCast_inj] at e
  exact e
theorem ql_key (p : Nat × Nat) (h : sm p) : WideAt.IsKeyLit (ql p) := keyedQ.key (keyOf_ql h)
abbrev QSet (w : World) (m n : Nat) (V : Nat × Nat → Bool) : Prop := BSet 54 4 ql sm w m n V
theorem QSet.at_ {w : World} {m n : Nat} {V : Nat × Nat → Bool} (h : QSet w m n V) (x y : Nat) (hx : x ≤ 1000) (hy : y ≤ 1000) : (Instr.lookup 51 (.map (some m)) (.agg #[.int .i64 (x : Int), .int .i64 (y : Int)]) false).run Try.prog w = .ok (.bool (V (x, y))) w :=
  h.lookup keyedQ Try.underlying51 Try.underlying4 (by kernel_rfl) ql_inj (q := (x, y)) ⟨hx, hy⟩ (keyOf_ql (p := (x, y)) ⟨hx, hy⟩)
/-- x wide and h high: a whole ladder of at most m -/
def wh (m x h : Nat) : Bool := decide (sq (x : Int) (h : Int) ≤ (m : Int) * (m : Int)) && whole (sq (x : Int) (h : Int))
theorem sq_cast (x h : Nat) : sq (x : Int) (h : Int) = ((x * x + h * h : Nat) : Int) := by simp [sq]
theorem sq_le_iff (m x h : Nat) : sq (x : Int) (h : Int) ≤ (m : Int) * (m : Int) ↔ x * x + h * h ≤ m * m := by
  rw [sq_cast, show (m : Int) * (m : Int) = ((m * m : Nat) : Int) by simp]
  exact Int.ofNat_le
theorem sq_far {m x h : Nat} (hx : 1 ≤ x) (hh : 1 ≤ h) (hs : sq (x : Int) (h : Int) ≤ (m : Int) * (m : Int)) : x < m ∧ h < m := by
  have h1 := (sq_le_iff m x h).1 hs
  have h2 : 1 ≤ x * x := Nat.mul_le_mul hx hx
  have h3 : 1 ≤ h * h := Nat.mul_le_mul hh hh
  constructor
  · exact Nat.lt_of_not_le fun c => by have := Nat.mul_le_mul c c; omega
  · exact Nat.lt_of_not_le fun c => by have := Nat.mul_le_mul c c; omega
theorem sq_more {m x h k : Nat} (hk : h ≤ k) (hs : ¬ sq (x : Int) (h : Int) ≤ (m : Int) * (m : Int)) : ¬ sq (x : Int) (k : Int) ≤ (m : Int) * (m : Int) := by
  rw [sq_le_iff] at *
  have := Nat.mul_le_mul hk hk
  omega
theorem sq_at1 {m x : Nat} (hx : x ≤ m) (hs : ¬ sq (x : Int) ((1 : Nat) : Int) ≤ (m : Int) * (m : Int)) : x = m := by
  rw [sq_le_iff] at hs
  rcases Nat.lt_or_ge x m with c | c
  · exfalso
    apply hs
    obtain ⟨d, rfl⟩ : ∃ d, m = x + 1 + d := ⟨m - x - 1, by omega⟩
    have h1 : (x + 1) * (x + 1) ≤ (x + 1 + d) * (x + 1 + d) := Nat.mul_le_mul (by omega) (by omega)
    have h2 : (x + 1) * (x + 1) = x * x + 2 * x + 1 := by rw [Nat.add_mul, Nat.mul_add]; omega
    omega
  · omega
theorem wh_no {m x h : Nat} (hs : ¬ sq (x : Int) (h : Int) ≤ (m : Int) * (m : Int)) : wh m x h = false := by simp [wh, hs]
theorem wh_is {m x h : Nat} (hs : sq (x : Int) (h : Int) ≤ (m : Int) * (m : Int)) : wh m x h = whole (sq (x : Int) (h : Int)) := by simp [wh, hs]
theorem wh_far {m x h : Nat} (hx : 1 ≤ x) (hh : 1 ≤ h) (hw : wh m x h = true) : x < m ∧ h < m := by
  simp only [wh, Bool.and_eq_true, decide_eq_true_eq] at hw
  exact sq_far hx hh hw.1
/-- the keys behind all widths less than X, and of the width X all heights less than H -/
def VX (m X H : Nat) (p : Nat × Nat) : Bool := decide (1 ≤ p.1) && decide (1 ≤ p.2) && wh m p.1 p.2 && (decide (p.1 < X) || (decide (p.1 = X) && decide (p.2 < H)))
theorem VX_start (m X : Nat) (p : Nat × Nat) : VX m X 1 p = VX m X 0 p := by
  unfold VX
  by_cases h : 1 ≤ p.2
  · have : ¬ p.2 < 1 := by omega
    simp [this]
  · simp [h]
theorem VX_none (m : Nat) (p : Nat × Nat) : VX m 1 0 p = false := by
  unfold VX
  by_cases h : 1 ≤ p.1
  · have : ¬ p.1 < 1 := by omega
    simp [this]
  · simp [h]
theorem VX_yes {m X H : Nat} (hx : 1 ≤ X) (hh : 1 ≤ H) (hw : wh m X H = true) (p : Nat × Nat) : (VX m X H p || decide (p = (X, H))) = VX m X (H + 1) p := by
  obtain ⟨a, b⟩ := p
  unfold VX
  rw [Bool.eq_iff_iff]
  simp only [Bool.or_eq_true, Bool.and_eq_true, decide_eq_true_eq, Prod.mk.injEq]
  constructor
  · rintro (⟨h1, h2⟩ | ⟨rfl, rfl⟩)
    · exact ⟨h1, h2.imp id fun h => ⟨h.1, by omega⟩⟩
    · exact ⟨⟨⟨hx, hh⟩, hw⟩, .inr ⟨rfl, by omega⟩⟩
  · rintro ⟨h1, h2 | ⟨rfl, h2⟩⟩
    · exact .inl ⟨h1, .inl h2⟩
    · by_cases e : b = H
      · exact .inr ⟨rfl, e⟩
      · exact .inl ⟨h1, .inr ⟨rfl, by omega⟩⟩
theorem VX_no {m X H : Nat} (hw : wh m X H = false) (p : Nat × Nat) : VX m X H p = VX m X (H + 1) p := by
  obtain ⟨a, b⟩ := p
  unfold VX
  rw [Bool.eq_iff_iff]
  simp only [Bool.or_eq_true, Bool.and_eq_true, decide_eq_true_eq]
  constructor
  · rintro ⟨h1, h2⟩
    exact ⟨h1, h2.imp id fun h => ⟨h.1, by omega⟩⟩
  · rintro ⟨h1, h2 | ⟨rfl, h2⟩⟩
    · exact ⟨h1, .inl h2⟩
    · by_cases e : b = H
      · subst e
        rw [hw] at h1
        cases h1.2
      · exact ⟨h1, .inr ⟨rfl, by omega⟩⟩
theorem VX_end {m X H : Nat} (hs : ¬ sq (X : Int) (H : Int) ≤ (m : Int) * (m : Int)) (p : Nat × Nat) : VX m X H p = VX m (X + 1) 0 p := by
  obtain ⟨a, b⟩ := p
  unfold VX
  rw [Bool.eq_iff_iff]
  simp only [Bool.or_eq_true, Bool.and_eq_true, decide_eq_true_eq]
  constructor
  · rintro ⟨h1, h2⟩
    exact ⟨h1, .inl (by omega)⟩
  · rintro ⟨h1, h2 | ⟨_, h2⟩⟩
    · refine ⟨h1, ?_⟩
      by_cases e : a < X
      · exact .inl e
      · obtain rfl : a = X := by omega
        refine .inr ⟨rfl, Nat.lt_of_not_le fun c => ?_⟩
        have := wh_no (sq_more c hs)
        rw [this] at h1
        cases h1.2
    · omega
/-- what the map holds at the end -/
def VW (m : Nat) (p : Nat × Nat) : Bool := decide (1 ≤ p.1) && decide (1 ≤ p.2) && wh m p.1 p.2
theorem VX_all (m : Nat) (p : Nat × Nat) : VX m m 0 p = VW m p := by
  obtain ⟨a, b⟩ := p
  unfold VX VW
  rw [Bool.eq_iff_iff]
  simp only [Bool.or_eq_true, Bool.and_eq_true, decide_eq_true_eq]
  constructor
  · rintro ⟨h1, _⟩; exact h1
  · rintro h1
    exact ⟨h1, .inl (wh_far h1.1.1 h1.1.2 h1.2).1⟩
theorem VW_is {m x h : Nat} (hx : 1 ≤ x) (hh : 1 ≤ h) : VW m (x, h) = wh m x h := by simp [VW, hx, hh]
set_option maxRecDepth 100000 in
set_option maxHeartbeats 2000000 in
theorem wholeHeights_any (m : Nat) (m1 : 1 ≤ m) (hm : m ≤ 150) (w : World) :
    Calls Try.prog 32 #[.int .i64 (m : Int)] w fun e w' => ∃ mb k, e = .returned (.map (some mb)) ∧ QSet w' mb k (VW m) ∧ Below w.heap.size w w' := by
  have hmm := @run_makeMap Try.prog
  obtain ⟨q0, q1⟩ := mul_bd (a := (m : Int)) (b := (m : Int)) (m := 150) (by omega) (by omega) (by omega) (by omega)
  go_enter Try.func32, Try.ntmps32
  go_wp2
  go_loopw [4] (fun i wr => ∃ X k : Nat, 1 ≤ X ∧ X ≤ m ∧ i = .int .i64 (X : Int) ∧ k ≤ 151 * X ∧ QSet wr w.heap.size k (VX m X 0) ∧ Below w.heap.size w wr) (fun i _ => m - (intOf i).toNat)
  case atStart => exact ⟨1, 0, Nat.le_refl _, m1, rfl, by omega, (BSet.made _ _ _ _ _).congr fun q => (VX_none m q).symm, bl_alloc (Below.refl _ _) _⟩
  case round =>
    obtain ⟨X, k, x1, hX, rfl, hk, hS, hW⟩ := hrel
    have HS := Lib.hid hS
    have HW := Lib.hid hW
    clear hS hW
    by_cases hlt : X < m
    · have hlt' : (X : Int) < (m : Int) := by omega
      go_wp2
      rename World => wo
      go_loopw [5] (fun i wq => ∃ H k2 : Nat, 1 ≤ H ∧ H ≤ m ∧ i = .int .i64 (H : Int) ∧ k2 ≤ 151 * X + H ∧ QSet wq w.heap.size k2 (VX m X H) ∧ Below w.heap.size w wq) (fun i _ => m + 1 - (intOf i).toNat)
      case atStart => exact ⟨1, k, Nat.le_refl _, m1, rfl, by omega, HS.out.congr fun q => (VX_start m X q).symm, HW.out⟩
      case round =>
        clear HS HW
        obtain ⟨H, k2, h1, hH, rfl, hk2, hS, hW⟩ := hrel
        have HS := Lib.hid hS
        have HW := Lib.hid hW
        clear hS hW
        obtain ⟨-, -, s0, s1⟩ := sq_bd (a := (X : Int)) (b := (H : Int)) (by omega) (by omega) (by omega) (by omega)
        by_cases hle : sq (X : Int) (H : Int) ≤ (m : Int) * (m : Int)
        · have hfar := sq_far x1 h1 hle
          have HWH := Lib.hid (wh_is hle)
          cases hwh : whole (sq (X : Int) (H : Int))
          · have HN := Lib.hid (VX_no (m := m) (X := X) (H := H) (by rw [HWH.out, hwh]))
            have HQ := Lib.hid hwh
            clear hwh HWH
            go_wp2_with (first | (go_at_call 33; refine (squareOfLength_any _ _ (by omega) (by omega) (by omega) (by omega) _).mono ?_; rintro e w' ⟨rfl, rfl⟩) | (go_at_call 48; refine (wholeRoot_any _ (by omega) (by omega) _).mono ?_; rintro e w' ⟨rfl, rfl⟩; rw [HQ.out]))
            go_roundw
            case rel => exact ⟨H + 1, k2, by omega, by omega, by go_num, by omega, HS.out.congr HN.out, HW.out⟩
            case measure => simp only [intOf]; omega
          · have HN := Lib.hid (VX_yes (m := m) (X := X) (H := H) x1 h1 (by rw [HWH.out, hwh]))
            have hkm : k2 < maxLen := by unfold maxLen; omega
            have hsm : sm (X, H) := ⟨by show X ≤ 1000; omega, by show H ≤ 1000; omega⟩
            have HQ := Lib.hid hwh
            clear hwh HWH
            go_wp2_with (first | (go_at_call 33; refine (squareOfLength_any _ _ (by omega) (by omega) (by omega) (by omega) _).mono ?_; rintro e w' ⟨rfl, rfl⟩) | (go_at_call 48; refine (wholeRoot_any _ (by omega) (by omega) _).mono ?_; rintro e w' ⟨rfl, rfl⟩; rw [HQ.out]) | (at_mapUpdate; refine wpList_set_put _ HS.out rfl _ _ _ 51 rfl keyedQ Try.underlying51 Try.underlying4 ql_inj ql_key rfl hkm (q := (X, H)) hsm rfl rfl (keyOf_ql hsm) ?_; intro w3 hS3 hg3; have HS3 := Lib.hid hS3; have HG3 := Lib.hid hg3; clear hS3 hg3))
            go_roundw
            case rel => exact ⟨H + 1, k2 + 1, by omega, by omega, by go_num, by omega, HS3.out.congr HN.out, HW.out.grown HG3.out HW.out.size (fun q e => by simp only [Option.some.injEq] at e; omega)⟩
            case measure => simp only [intOf]; omega
        · have HE := Lib.hid (VX_end hle)
          go_wp2_with (go_at_call 33; refine (squareOfLength_any _ _ (by omega) (by omega) (by omega) (by omega) _).mono ?_; rintro e w' ⟨rfl, rfl⟩)
          go_roundw
          case rel => exact ⟨X + 1, k2, by omega, by omega, by go_num, by omega, HS.out.congr HE.out, HW.out⟩
          case measure => simp only [intOf]; omega
    · obtain rfl : X = m := by omega
      go_wp2
      go_ret
      exact ⟨_, k, rfl, HS.out.congr fun q => VX_all X q, HW.out⟩
end Go.Proofs.Ytophkahaefbkiaa
