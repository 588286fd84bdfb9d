/- Whole crossings by the program. -/
import Derived.Test.YtophkahaefbkiaaW1
import Derived.ScopeJumps
namespace Go.Proofs.Ytophkahaefbkiaa
open Go.RowKit Go.Maps Go.WideMaps Go.WideElems
set_option linter.unusedVariables false
set_option linter.unusedSimpArgs false
/-- a scope of whose labels no jump goes to -/
theorem wp_scope_plain {P : Program} {a : Act} {w : World} {Q : Exit → Act → World → Prop} {c rest : Code} (l : Nat) (hf : findLabel c l = some rest) (hQ : ∀ l a w, ¬ Q (.goto l) a w) (h : c.wp P Q a w) : (Code.scope c).wp P Q a w :=
  wp_scope_jumps l (fun _ _ => False) (fun _ _ => 0) hf (Code.wp_mono (fun e a' w' h => by
    cases e <;> simp only [Exit.jump]
    case goto l' => exact (hQ _ _ _ h).elim
    all_goals exact h) h) fun _ _ h => h.elim
def cwI (b c : Int) : Bool := b * c % (b + c) == 0
def cr (m x l r : Nat) : Bool := (decide (1 ≤ x) && decide (1 ≤ l) && decide (1 ≤ r)) && (wh m x l && (wh m x r && cwI l r))
/-- with the width x and the left height l, all with a right height less than the number -/
def wcR (m x l : Nat) : Nat → List Int
  | 0 => []
  | r + 1 => if cr m x l r then wcR m x l r ++ [(x : Int), (l : Int), (r : Int)] else wcR m x l r
/-- with the width x, all with a left height less than the number -/
def wcL (m x : Nat) : Nat → List Int
  | 0 => []
  | l + 1 => wcL m x l ++ wcR m x l (l + 1)
/-- all with a width less than the number -/
def wcX (m : Nat) : Nat → List Int
  | 0 => []
  | x + 1 => wcX m x ++ wcL m x m
theorem wcR_yes {m x l r : Nat} (h : cr m x l r = true) : wcR m x l (r + 1) = wcR m x l r ++ [(x : Int), (l : Int), (r : Int)] := by simp [wcR, h]
theorem wcR_no {m x l r : Nat} (h : cr m x l r = false) : wcR m x l (r + 1) = wcR m x l r := by simp [wcR, h]
theorem wcR_nil {m x l : Nat} (h : wh m x l = false) : ∀ r, wcR m x l r = []
  | 0 => rfl
  | r + 1 => by rw [wcR_no (by simp [cr, h]), wcR_nil h r]
theorem wcR_low {m x l : Nat} (h : x = 0 ∨ l = 0) : ∀ r, wcR m x l r = []
  | 0 => rfl
  | r + 1 => by rw [wcR_no (by rcases h with rfl | rfl <;> simp [cr]), wcR_low h r]
theorem wcR_one (m x l : Nat) : wcR m x l 1 = [] := by rw [wcR_no (by simp [cr])]; rfl
theorem wcL_one (m x : Nat) : wcL m x 1 = [] := by simp [wcL, wcR_low]
theorem wcL_low (m : Nat) : ∀ l, wcL m 0 l = []
  | 0 => rfl
  | l + 1 => by rw [wcL, wcL_low m l, wcR_low (.inl rfl)]; rfl
theorem wcX_one (m : Nat) : wcX m 1 = [] := by simp [wcX, wcL_low]
theorem wcL_same {m x b : Nat} (hs : ¬ sq (x : Int) (b : Int) ≤ (m : Int) * (m : Int)) : ∀ c, b ≤ c → wcL m x c = wcL m x b
  | 0, h => by rw [show b = 0 by omega]
  | c + 1, h => by
    by_cases e : b = c + 1
    · rw [e]
    · rw [wcL, wcR_nil (wh_no (sq_more (show b ≤ c by omega) hs)), List.append_nil]
      exact wcL_same hs c (by omega)
theorem wcR_len (m x l r : Nat) : (wcR m x l r).length ≤ 3 * r := by
  induction r with
  | zero => simp [wcR]
  | succ r ih => simp only [wcR]; split <;> first | omega | (simp; omega)
theorem wcL_len (m x : Nat) (B : Nat) : ∀ l, l ≤ B → (wcL m x l).length ≤ 3 * B * l
  | 0, _ => by simp [wcL]
  | l + 1, h => by
    have := wcL_len m x B l (by omega)
    have h2 := wcR_len m x l (l + 1)
    rw [wcL, List.length_append, Nat.mul_add]
    omega
theorem wcX_len (m x : Nat) (hm : m ≤ 150) : (wcX m x).length ≤ 67500 * x := by
  induction x with
  | zero => simp [wcX]
  | succ x ih =>
    have := wcL_len m x 150 m hm
    rw [wcX, List.length_append]
    omega
def WCL (most : Int) : List Int := if within most 1 150 then wcX most.toNat most.toNat else []
theorem WCL_len (most : Int) : (WCL most).length ≤ 20000000 := by
  unfold WCL
  cases h : within most 1 150
  · simp
  · obtain ⟨h1, h2⟩ := within_true h
    have := wcX_len most.toNat most.toNat (by omega)
    simp only [if_true]
    omega
theorem infoLad : (Try.prog.info? 29).map (fun i => (i.zero, i.size, i.bytes)) = some (some (.agg #[.int .i64 0, .int .i64 0, .int .i64 0]), 3, 24) := by kernel_rfl
theorem cells3 (w : World) (x y z : Value) (T n : Nat) (hn : n = w.heap.size) : ∀ j q, [x, y, z][j]? = some q → (w.alloc (.cells #[x, y, z] T)).cell? ((⟨n, 0, none⟩ : Addr).add j) = some q := by
  intro j q hj
  subst hn
  match j, hj with
  | 0, hj => simp at hj; subst hj; simp [Addr.add]
  | 1, hj => simp at hj; subst hj; simp [Addr.add]
  | 2, hj => simp at hj; subst hj; simp [Addr.add]
theorem LLad.lower {w : World} {B B' n : Nat} {v : Value} {xs : List Int} (h : LLad w B v n xs) (hb : B' ≤ B) : LLad w B' v n xs := by
  obtain ⟨h0, h1, h2⟩ := h
  refine ⟨h0, h1, ?_⟩
  rcases h2 with h2 | ⟨g, cap, cur, e, hB, rest⟩
  · exact .inl h2
  · exact .inr ⟨g, cap, cur, e, Nat.le_trans hb hB, rest⟩
set_option maxHeartbeats 400000 in
theorem crossWhole_i (b c : Int) (hb : 0 ≤ b) (hb' : b ≤ 1000000) (hc : 1 ≤ c) (hc' : c ≤ 1000000) (w : World) :
    Calls Try.prog 34 #[.int .i64 b, .int .i64 c] w fun e w' => e = .returned (.bool (cwI b c)) ∧ w = w' := by
  obtain ⟨f1, f2⟩ := mul_bd (a := b) (b := c) (by omega) (by omega) hb' hc'
  go_enter Try.func34, Try.ntmps34
  go_wp2
  go_ret
  exact ⟨rfl, rfl⟩
set_option maxRecDepth 100000 in
set_option maxHeartbeats 4000000 in
theorem impl_WholeCrossings (most : Int) (w : World) :
    Calls Try.prog 9 #[.int .i64 most] w fun e w' => ∃ v n, e = .returned (.tuple #[v, .bool (within most 1 150)]) ∧ LLad w' w.heap.size v n (WCL most) ∧ Below w.heap.size w w' := by
  cases h : within most 1 150
  · go_enter Try.func9, Try.ntmps9
    go_wp2
    refine wp_scope_plain 0 rfl (fun _ _ _ h => h) ?_
    go_wp2_with (go_at_call 31; refine (isWithin_any _ _ _ _).mono ?_; rintro e w' ⟨rfl, rfl⟩)
    go_ret2
    exact ⟨_, 0, rfl, by simp only [WCL, h]; exact LLad.nil _ _, Below.refl _ _⟩
  obtain ⟨h1, h2⟩ := within_true h
  obtain ⟨m, rfl⟩ := Int.eq_ofNat_of_zero_le (show 0 ≤ most by omega)
  have m1 : 1 ≤ m := by omega
  have m2 : m ≤ 150 := by omega
  have GW := Lib.hid h
  have HP := Lib.hid (show WCL (m : Int) = wcX m m by simp [WCL, h])
  obtain ⟨q0, q1⟩ := mul_bd (a := (m : Int)) (b := (m : Int)) (m := 150) (by omega) (by omega) (by omega) (by omega)
  obtain ⟨i0, hi, hz0, hz1, hz2⟩ := info_parts infoLad
  go_enter Try.func9, Try.ntmps9
  go_wp2
  refine wp_scope_plain 0 rfl (fun _ _ _ h => h) ?_
  go_wp2_with (go_at_call 31; refine (isWithin_any _ _ _ _).mono ?_; rintro e w' ⟨rfl, rfl⟩)
  refine (wholeHeights_any m m1 m2 _).mono ?_
  rintro e w1 ⟨mb, km, rfl, hS, hW⟩
  have HS := Lib.hid hS
  have HW := Lib.hid hW
  clear hS hW
  go_wp2_with fail
  refine wp_label ?_
  go_wp2
  go_loopw [5, 6] (fun u i wr => ∃ X n : Nat, 1 ≤ X ∧ X ≤ m ∧ i = .int .i64 (X : Int) ∧ LLad wr w1.heap.size u n (wcX m X) ∧ Below w1.heap.size w1 wr) (fun _ i _ => m - (intOf i).toNat)
  case atStart => exact ⟨1, 0, Nat.le_refl _, m1, rfl, by rw [wcX_one]; exact LLad.nil _ _, Below.refl _ _⟩
  case round =>
    obtain ⟨X, n, x1, hX, rfl, hR, hV⟩ := hrel
    have HR := Lib.hid hR
    have HV := Lib.hid hV
    clear hR hV
    go_wp2
    rename World => wo
    go_loopw [5, 7] (fun u i wq => ∃ L n : Nat, 1 ≤ L ∧ L ≤ m ∧ (L = 1 ∨ X < m) ∧ i = .int .i64 (L : Int) ∧ LLad wq w1.heap.size u n (wcX m X ++ wcL m X L) ∧ Below w1.heap.size w1 wq) (fun _ i _ => m - (intOf i).toNat)
    case atStart => exact ⟨1, n, Nat.le_refl _, m1, .inl rfl, rfl, by rw [wcL_one, List.append_nil]; exact HR.out, HV.out⟩
    case round =>
      clear HR HV
      obtain ⟨L, n, l1, hL, hLX, rfl, hR, hV⟩ := hrel
      have HR := Lib.hid hR
      have HV := Lib.hid hV
      clear hR hV
      obtain ⟨-, -, s0, s1⟩ := sq_bd (a := (X : Int)) (b := (L : Int)) (by omega) (by omega) (by omega) (by omega)
      by_cases hle : sq (X : Int) (L : Int) ≤ (m : Int) * (m : Int)
      · obtain ⟨hxm, hlm⟩ := sq_far x1 l1 hle
        have hlook := QSet.at_ (BSet.keep HS.out HV.out) X L (by omega) (by omega)
        rw [VW_is x1 l1] at hlook
        cases hw : wh m X L
        · rw [hw] at hlook
          have HN := Lib.hid (wcR_nil hw (L + 1))
          clear hw
          go_wp2_with (go_at_call 33; refine (squareOfLength_any _ _ (by omega) (by omega) (by omega) (by omega) _).mono ?_; rintro e w' ⟨rfl, rfl⟩)
          go_roundw
          case rel => exact ⟨L + 1, n, by omega, by omega, .inr hxm, by go_num, by rw [wcL, HN.out, List.append_nil]; exact HR.out, HV.out⟩
          case measure => simp only [intOf]; omega
        · rw [hw] at hlook
          have HWT := Lib.hid hw
          clear hw
          go_wp2_with (go_at_call 33; refine (squareOfLength_any _ _ (by omega) (by omega) (by omega) (by omega) _).mono ?_; rintro e w' ⟨rfl, rfl⟩)
          rename World => wp
          go_loopw [5, 8] (fun u i wq => ∃ R n : Nat, 1 ≤ R ∧ R ≤ L + 1 ∧ i = .int .i64 (R : Int) ∧ LLad wq w1.heap.size u n (wcX m X ++ wcL m X L ++ wcR m X L R) ∧ Below w1.heap.size w1 wq) (fun _ i _ => L + 1 - (intOf i).toNat)
          case atStart => exact ⟨1, n, Nat.le_refl _, by omega, rfl, by rw [wcR_one, List.append_nil]; exact HR.out, HV.out⟩
          case round =>
            clear HR HV hlook
            obtain ⟨R, n, r1, hR1, rfl, hR, hV⟩ := hrel
            have HR := Lib.hid hR
            have HV := Lib.hid hV
            clear hR hV
            by_cases hrl : R ≤ L
            · have hlook := QSet.at_ (BSet.keep HS.out HV.out) X R (by omega) (by omega)
              rw [VW_is x1 r1] at hlook
              have hrl' : (R : Int) ≤ (L : Int) := by omega
              cases hw : wh m X R
              · rw [hw] at hlook
                have HN := Lib.hid (wcR_no (m := m) (x := X) (l := L) (r := R) (by simp [cr, hw]))
                clear hw
                go_wp2
                go_roundw
                case rel => exact ⟨R + 1, n, by omega, by omega, by go_num, by rw [HN.out]; exact HR.out, HV.out⟩
                case measure => simp only [intOf]; omega
              · rw [hw] at hlook
                have HWR := Lib.hid hw
                cases hc : cwI (L : Int) (R : Int)
                · have HN := Lib.hid (wcR_no (m := m) (x := X) (l := L) (r := R) (by simp [cr, hc]))
                  have HC := Lib.hid hc
                  clear hw hc
                  go_wp2_with (go_at_call 34; refine (crossWhole_i _ _ (by omega) (by omega) (by omega) (by omega) _).mono ?_; rintro e w' ⟨rfl, rfl⟩; rw [HC.out])
                  go_roundw
                  case rel => exact ⟨R + 1, n, by omega, by omega, by go_num, by rw [HN.out]; exact HR.out, HV.out⟩
                  case measure => simp only [intOf]; omega
                · have HN := Lib.hid (wcR_yes (m := m) (x := X) (l := L) (r := R) (by simp [cr, hc, hw, HWT.out, x1, l1, r1]))
                  have HC := Lib.hid hc
                  clear hw hc
                  have hxl := HR.out.1
                  have hlen1 := wcX_len m X m2
                  have hlen2 := wcL_len m X 150 L (by omega)
                  have hlen3 := wcR_len m X L R
                  simp only [List.length_append] at hxl
                  have hnn : n ≤ 20000000 := by omega
                  have hB1 := HV.out.size
                  have hO := Lib.hid HR.out.owns
                  clear hxl hlen1 hlen2 hlen3
                  go_wp2_with (first | (go_at_call 34; refine (crossWhole_i _ _ (by omega) (by omega) (by omega) (by omega) _).mono ?_; rintro e w' ⟨rfl, rfl⟩; rw [HC.out]) | (at_builtin; refine wpList_append_own _ rfl _ _ 22 rfl w1.heap.size 29 i0 (.agg #[.int .i64 0, .int .i64 0, .int .i64 0]) 3 24 Try.underlying22 hi hz0 hz1 hz2 rfl (by decide) _ _ _ rfl (hO.out.alloc _) ⟨wr.heap.size, 0, none⟩ 1 1 [.int .i64 (X : Int), .int .i64 (L : Int), .int .i64 (R : Int)] rfl rfl (cells3 _ _ _ _ _ _ (by simp)) (by simp [Value.oneCell']) (by unfold maxLen; omega) (by omega) (by first | omega | (simp; omega)) ?_; intro v' wn hown hgrow _))
                  obtain ⟨r1, r2⟩ := LLad.push hB1 HR.out hown hgrow
                  rw [List.append_assoc, ← HN.out] at r1
                  have Q1 := Lib.hid r1
                  have Q2 := Lib.hid (HV.out.trans r2)
                  clear r1 r2 hown hgrow
                  go_wp2
                  go_roundw
                  case rel => exact ⟨R + 1, n + 1, by omega, by omega, by go_num, Q1.out, Q2.out⟩
                  case measure => simp only [intOf]; omega
            · obtain rfl : R = L + 1 := by omega
              go_wp2
              go_roundw
              case rel => exact ⟨L + 1, n, by omega, by omega, .inr hxm, by go_num, by rw [wcL, ← List.append_assoc]; exact HR.out, HV.out⟩
              case measure => simp only [intOf]; omega
      · by_cases hone : L = 1
        · have hone' : (L : Int) = 1 := by omega
          have HX := Lib.hid (sq_at1 hX (show ¬ sq (X : Int) ((1 : Nat) : Int) ≤ (m : Int) * (m : Int) by rw [← hone]; exact hle))
          have hle1 : (m : Int) * (m : Int) < sq (X : Int) 1 := by
            have := hle
            rw [hone'] at this
            omega
          have H1 := Lib.hid hone
          clear hone
          go_wp2_with (go_at_call 33; refine (squareOfLength_any _ _ (by omega) (by omega) (by omega) (by omega) _).mono ?_; rintro e w' ⟨rfl, rfl⟩)
          go_ret2
          refine ⟨_, n, rfl, ?_, HW.out.trans (HV.out.mono HW.out.size)⟩
          rw [HP.out]
          have hF : LLad wr w1.heap.size u5 n (wcX m X) := by
            have := HR.out
            rwa [H1.out, wcL_one, List.append_nil] at this
          rw [HX.out] at hF
          exact hF.lower HW.out.size
        · have hone' : ¬ (L : Int) = 1 := by omega
          have hxm : X < m := by omega
          have HN := Lib.hid (wcL_same hle m hL)
          go_wp2_with (go_at_call 33; refine (squareOfLength_any _ _ (by omega) (by omega) (by omega) (by omega) _).mono ?_; rintro e w' ⟨rfl, rfl⟩)
          go_roundw
          case rel => exact ⟨X + 1, n, by omega, by omega, by go_num, by rw [wcX, HN.out]; exact HR.out, HV.out⟩
          case measure => simp only [intOf]; omega
end Go.Proofs.Ytophkahaefbkiaa
