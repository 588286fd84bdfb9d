/- The places of a set in their order, by the program. -/
import Derived.Test.YtophkahaefbkiaaV1
import Derived.Test.YtophkahaefbkiaaR1
import Derived.Test.YtophkahaefbkiaaPL5
import Derived.OwnWalk
import Derived.ScopeJumps
import Derived.WalkMore
namespace Go.Proofs.Ytophkahaefbkiaa
open Go.RowKit Go.Maps Go.WideMaps
set_option linter.unusedVariables false
set_option linter.unusedSimpArgs false
/-- a scope with one label: the way to it, and the passes from it -/
theorem wp_jumps_from {P : Program} {a : Act} {w : World} {Q : Exit → Act → World → Prop} {c X : Code} (l : Nat) (J : Act → World → Prop) (μ : Act → World → Nat) (hf : findLabel c l = some (.seq .skip X))
    (pass : ∀ a w, J a w → X.wp P (Exit.jump l (fun a' w' => J a' w' ∧ μ a' w' < μ a w) Q) a w)
    (a0 : Act) (w0 : World) (hJ : J a0 w0) (first : ∀ R : Exit → Act → World → Prop, X.wp P R a0 w0 → c.wp P R a w) : (Code.scope c).wp P Q a w :=
  wp_scope_jumps l J μ hf (first _ (Code.wp_mono (fun e a' w' h => by
    cases e <;> simp only [Exit.jump] at h ⊢
    case goto l' => exact ⟨h.1, h.2.1⟩
    all_goals exact h) (pass a0 w0 hJ))) fun a w h => wp_seq (wp_skip (pass a w h))
/-- the numbers below k that stand in V, increasing -/
def upTo (V : Int → Bool) : Nat → List Int
  | 0 => []
  | k + 1 => if V (k : Int) then upTo V k ++ [(k : Int)] else upTo V k
theorem upTo_yes {V : Int → Bool} {k : Nat} (h : V (k : Int) = true) : upTo V (k + 1) = upTo V k ++ [(k : Int)] := by simp [upTo, h]
theorem upTo_no {V : Int → Bool} {k : Nat} (h : V (k : Int) = false) : upTo V (k + 1) = upTo V k := by simp [upTo, h]
theorem upTo_len (V : Int → Bool) (k : Nat) : (upTo V k).length ≤ k := by
  induction k with
  | zero => simp [upTo]
  | succ k ih =>
    simp only [upTo]
    split
    · simp; omega
    · omega
theorem upTo_same {V : Int → Bool} {b : Nat} : ∀ c : Nat, b ≤ c → (∀ q : Nat, b ≤ q → q < c → V (q : Int) = false) → upTo V c = upTo V b
  | 0, hb, _ => by rw [show b = 0 by omega]
  | c + 1, hb, h => by
    by_cases e : b = c + 1
    · rw [e]
    · rw [upTo_no (h c (by omega) (by omega))]
      exact upTo_same c (by omega) fun q h1 h2 => h q h1 (by omega)
theorem upTo_len_mono (V : Int → Bool) {b : Nat} : ∀ c : Nat, b ≤ c → (upTo V b).length ≤ (upTo V c).length
  | 0, h => by rw [show b = 0 by omega]; exact Nat.le_refl _
  | c + 1, h => by
    by_cases e : b = c + 1
    · rw [e]; exact Nat.le_refl _
    · refine Nat.le_trans (upTo_len_mono V c (by omega)) ?_
      simp only [upTo]
      split <;> simp
theorem upTo_more {V : Int → Bool} {b c : Nat} (h : b < c) (hv : V (b : Int) = true) : (upTo V b).length < (upTo V c).length := by
  have := upTo_len_mono V c (show b + 1 ≤ c by omega)
  rw [upTo_yes hv, List.length_append] at this
  exact Nat.lt_of_lt_of_le (by simp) this
theorem upTo_congr {V V' : Int → Bool} : ∀ c : Nat, (∀ q : Nat, q < c → V (q : Int) = V' (q : Int)) → upTo V c = upTo V' c
  | 0, _ => rfl
  | c + 1, h => by
    simp only [upTo]
    rw [upTo_congr c fun q hq => h q (by omega), h c (by omega)]
def lenOf : Value → Nat
  | .slice _ n _ => n
  | _ => 0
def kI (q : Int) : Lit := .int .i64 q
def okI6 (q : Int) : Prop := (Lit.int .i64 q).wf = true
theorem kI_inj (p q : Int) (_ : okI6 p) (_ : okI6 q) (h : kI p = kI q) : p = q := by simpa [kI] using h
theorem wf_mid {q : Int} (h0 : -1000000 ≤ q) (h1 : q ≤ 1000000) : okI6 q := by
  have e1 : IntKind.i64.min = -9223372036854775808 := by decide
  have e2 : IntKind.i64.max = 9223372036854775807 := by decide
  simp only [okI6, Lit.wf, e1, e2, Bool.and_eq_true, decide_eq_true_eq]
  omega
theorem keyedI : Keyed Try.prog 3 := int_keyed Try.underlying3
theorem key_I {q : Int} (h : okI6 q) : keyOf Try.prog 3 (.int .i64 q) = some (kI q) := keyOf_int_mk Try.underlying3 h
theorem kI_key (q : Int) (h : okI6 q) : WideAt.IsKeyLit (kI q) := keyedI.key (key_I h)
abbrev ISet (w : World) (m n : Nat) (V : Int → Bool) : Prop := BSet 3 4 kI okI6 w m n V
theorem ISet.at_ {w : World} {m n : Nat} {V : Int → Bool} (h : ISet w m n V) {q : Int} (hq : okI6 q) : (Instr.lookup 62 (.map (some m)) (.int .i64 q) false).run Try.prog w = .ok (.bool (V q)) w :=
  h.lookup keyedI Try.underlying62 Try.underlying4 (by kernel_rfl) kI_inj hq (key_I hq)
theorem IRow.lenOf_ {W : World} {B : Nat} {v : Value} {xs : List Int} (h : IRow W B v xs) : lenOf v = xs.length := by
  obtain ⟨_, ⟨rfl, hn⟩ | ⟨g, cap, cur, rfl, _⟩⟩ := h
  · simp [lenOf, hn]
  · rfl
theorem own_far {W : World} {B m : Nat} {v : Value} {xs : List Int} (h : IRow W B v xs) (hm : m < B) : some m ≠ v.ownBlock := fun e => by
  have := (World.ownsRow.lt h m e.symm).1
  omega
theorem own_near {W : World} {B m : Nat} {v : Value} {xs : List Int} (h : IRow W B v xs) (hm : W.heap.size ≤ m) : v.ownBlock ≠ some m := fun e => by
  have := (World.ownsRow.lt h m e).2
  omega
theorem row_kept {W W' : World} {B m : Nat} {v : Value} {xs : List Int} (h : IRow W B v xs) (hg : W.grownBy W' (some m)) (hm : v.ownBlock ≠ some m) : IRow W' B v xs :=
  World.ownsRow.kept h hg (.inr hm)
theorem row_kept0 {W W' : World} {B : Nat} {v : Value} {xs : List Int} (h : IRow W B v xs) (hg : W.grownBy W' none) : IRow W' B v xs :=
  World.ownsRow.kept h hg (by cases v.ownBlock <;> simp)
theorem IRow.push_g {w W w1 : World} {m : Nat} {v v' : Value} {xs : List Int} {x : Int} {o : Obj} (hm : m < w.heap.size) (h : IRow W w.heap.size v xs) (hG : w.grownBy W (some m))
    (hO : w1.ownsRow w.heap.size 3 1 v' (xs.length + 1) (xs.map (Value.int .i64) ++ [.int .i64 x])) (hg : (W.alloc o).grownBy w1 v.ownBlock) :
    IRow w1 w.heap.size v' (xs ++ [x]) ∧ w.grownBy w1 (some m) ∧ ∀ n V, ISet W m n V → ISet w1 m n V := by
  refine ⟨?_, (hG.andThen (World.grownBy_alloc W o none) (by simp)).andThen hg (fun j e => .inl (World.ownsRow.lt h j e).1), fun n V hS => (hS.alloc o).kept hg (own_far h hm)⟩
  unfold IRow
  simpa using hO
def takeJ (m n : Nat) (V : Int → Bool) (w : World) (a' : Act) (w' : World) : Prop := ∃ (b : Nat) (v : Value) (u1 u2 u4 u5 u6 u7 u8 u9 u10 u11 u12 u13 u14 u15 u16 u17 u18 u19 u20 u21 u22 u23 u24 u25 u26 u27 u28 u29 u30 u31 : Value), a' = { tmps := #[.map (some m), u1, u2, v, u4, u5, u6, u7, u8, u9, u10, u11, u12, u13, u14, u15, u16, u17, u18, u19, u20, u21, u22, u23, u24, u25, u26, u27, u28, u29, u30, u31], defers := [] } ∧ b ≤ 501 ∧ ISet w' m n (fun q => V q && decide ((b : Int) ≤ q)) ∧ IRow w' w.heap.size v (upTo V b) ∧ w.grownBy w' (some m)
set_option maxRecDepth 100000 in
set_option maxHeartbeats 2000000 in
theorem takeInOrder_any (m n : Nat) (V : Int → Bool) (hV : ∀ q, V q = true → 0 ≤ q ∧ q ≤ 500) (w : World) (hS : ISet w m n V) :
    Calls Try.prog 40 #[.map (some m)] w fun e w' => ∃ r, e = .returned r ∧ IRow w' w.heap.size r (upTo V 501) ∧ w.grownBy w' (some m) := by
  obtain ⟨i0, hi, hz0, hz1, hz2⟩ := info_parts infoI
  have HV := Lib.hid hV
  have hmB := hS.lt
  have hS0 : ISet w m n (fun q => V q && decide (((0 : Nat) : Int) ≤ q)) := hS.congr fun q => by
    cases hq : V q
    · rfl
    · have := (HV.out q hq).1
      simp [this]
  have HS := Lib.hid hS0
  clear hV hS hS0
  go_enter Try.func40, Try.ntmps40
  go_wp2
  refine wp_jumps_from 0 (takeJ m n V w) (fun a' _ => 501 - lenOf (a'.tmps.getD 3 undef)) rfl ?_ { tmps := #[.map (some m), undef, .slice none 0 0, .slice none 0 0, undef, undef, undef, undef, undef, undef, undef, undef, undef, undef, undef, undef, undef, undef, undef, undef, undef, undef, undef, undef, undef, undef, undef, undef, undef, undef, undef, undef], defers := [] } w ⟨0, _, _, _, _, _, _, _, _, _, _, _, _, _, _, _, _, _, _, _, _, _, _, _, _, _, _, _, _, _, _, _, rfl, by omega, HS.out, IRow.nil _ _, World.grownBy.refl w _⟩ ?_
  case refine_2 =>
    intro R hR0
    go_wp2_with fail
    go_step3
    rename_i hK
    exact hK _ _ hR0
  · rintro a' wr ⟨b, v, u1, u2, u4, u5, u6, u7, u8, u9, u10, u11, u12, u13, u14, u15, u16, u17, u18, u19, u20, u21, u22, u23, u24, u25, u26, u27, u28, u29, u30, u31, rfl, hb, hS, hR, hG⟩
    clear HS
    have HS1 := Lib.hid hS
    have HR1 := Lib.hid hR
    have HG1 := Lib.hid hG
    clear hS hR hG
    have hob : v.ownBlock ≠ some wr.heap.size := own_near HR1.out (Nat.le_refl _)
    have HOB := Lib.hid hob
    clear hob
    have hsz1 := HG1.out.size
    go_wp2_with (first | (at_len; refine wpList_set_len _ HS1.out rfl _ 62 rfl keyedI Try.underlying62 rfl ?_; intro s hs0 hs1 hsn; have HZ0 := Lib.hid hs0; have HZ1 := Lib.hid hs1; clear hs0 hs1; by_cases hz : s = 0; all_goals (first | subst hz | (have hz' : ¬ (s : Int) = 0 := by omega))) | (at_range; refine wpList_set_range _ HS1.out rfl _ 62 rfl keyedI Try.underlying62 kI_inj rfl ?_; intro w3 cnt0 hrg0 hg0 hs0))
    case _ =>
      have HF := Lib.hid (upTo_same (V := V) (b := b) 501 hb fun q h1 h2 => by
        have := HZ0.out (by first | rfl | trivial) (q : Int)
        cases hq : V (q : Int)
        · rfl
        · simp [hq] at this
          omega)
      clear HZ0 HZ1 hsn
      simp only [Exit.jump]
      refine bodyPost_ret (v := v) (by simp [results, Try.results40, go_sem, *]) rfl ⟨_, rfl, ?_, HG1.out⟩
      rw [HF.out]
      exact HR1.out
    case _ =>
      have hZ2 := Lib.hid (HZ1.out (by omega))
      clear HZ0 HZ1
      have HRG := Lib.hid hrg0
      have HR2 := Lib.hid (row_kept0 HR1.out hg0)
      have HG2 := Lib.hid (HG1.out.andThen hg0 (by simp))
      have hrs : wr.heap.size < w3.heap.size := by omega
      clear hrg0 hg0 hs0
      generalize hrb : wr.heap.size = rb at *
      go_frame
      go_loopw [4] (fun le wq => ∃ (L : Int → Bool) (cnt c : Nat), BRange 3 4 kI okI6 wq m rb n (fun q => V q && decide ((b : Int) ≤ q)) L cnt ∧ le = .int .i64 (c : Int) ∧ c ≤ 500 ∧ (c = 500 ∨ (V (c : Int) && decide ((b : Int) ≤ (c : Int))) = true) ∧
        (∀ q, (V q && decide ((b : Int) ≤ q)) = true → (c : Int) ≤ q ∨ L q = true) ∧ IRow wq w.heap.size v (upTo V b) ∧ w.grownBy wq (some m)) (fun _ wq => wq.rangeLeft m rb)
      case atStart => exact ⟨_, _, 500, HRG.out, rfl, Nat.le_refl _, .inl rfl, fun q h => .inr h, HR2.out, HG2.out⟩
      case round =>
        clear HRG HR2 HG2
        obtain ⟨L, cnt, c, hrg, rfl, hc, hc2, hl, hR, hG⟩ := hrel
        have HRG := Lib.hid hrg
        have HR3 := Lib.hid hR
        have HG3 := Lib.hid hG
        have HC2 := Lib.hid hc2
        have HL := Lib.hid hl
        clear hrg hR hG hc2 hl
        go_wp2_with (at_next; refine wpList_set_next _ HRG.out rfl _ rfl keyedI Try.underlying4 kI_inj kI_key (fun q : Int => .int .i64 q) (fun q h => key_I h) rfl ?_ ?_)
        · intro h0
          have HLC := Lib.hid (show V (c : Int) = true ∧ b ≤ c by
            rcases HC2.out with h | h
            · obtain ⟨q, hq⟩ := hZ2.out
              have h1 := HL.out q hq
              rw [h0 q] at h1
              rcases h1 with h1 | h1
              · simp only [Bool.and_eq_true, decide_eq_true_eq] at hq
                have h2 := (HV.out q hq.1).2
                obtain rfl : q = (c : Int) := by omega
                exact ⟨hq.1, by omega⟩
              · cases h1
            · simp only [Bool.and_eq_true, decide_eq_true_eq] at h
              exact ⟨h.1, by omega⟩)
          have HMIN := Lib.hid (show ∀ q, (V q && decide ((b : Int) ≤ q)) = true → (c : Int) ≤ q from fun q hq => by
            rcases HL.out q hq with h1 | h1
            · exact h1
            · rw [h0 q] at h1
              cases h1)
          have HSB := Lib.hid HRG.out.owns
          clear h0 HC2 HL HRG
          go_wp2
          go_loopw [3, 6] (fun pl pc wq => ∃ c' : Nat, c ≤ c' ∧ c' ≤ 501 ∧ pc = .int .i64 (c' : Int) ∧ ISet wq m n (fun q => V q && decide ((c' : Int) ≤ q)) ∧ IRow wq w.heap.size pl (upTo V c') ∧ w.grownBy wq (some m)) (fun _ pc _ => 501 - (intOf pc).toNat)
          case atStart =>
            refine ⟨c, Nat.le_refl _, by omega, rfl, HSB.out.congr fun q => ?_, ?_, HG3.out⟩
            · cases hq : V q
              · rfl
              · have h1 := HMIN.out q
                rw [hq] at h1
                simp only [Bool.true_and, decide_eq_true_eq] at h1
                have := HLC.out.2
                simp only [Bool.true_and, decide_eq_decide]
                exact ⟨fun h => h1 h, fun h => by omega⟩
            · rw [upTo_same (V := V) (b := b) c HLC.out.2 fun q h1 h2 => by
                cases hq : V (q : Int)
                · rfl
                · have h3 := HMIN.out (q : Int) (by rw [hq]; simpa using h1)
                  omega]
              exact HR3.out
          case round =>
            clear HMIN HSB HR3 HG3
            obtain ⟨c', hcc, hc5, rfl, hS, hR, hG⟩ := hrel
            have HS5 := Lib.hid hS
            have HR5 := Lib.hid hR
            have HG5 := Lib.hid hG
            clear hS hR hG
            have hLK := HS5.out.at_ (q := (c' : Int)) (wf_mid (by omega) (by omega))
            simp only [Int.le_refl, decide_true, Bool.and_true] at hLK
            have hlen := upTo_len V c'
            cases hv : V (c' : Int)
            · rw [hv] at hLK
              have HCL := Lib.hid (upTo_more (V := V) (b := c) (c := c') (by
                rcases Nat.lt_or_ge c c' with h | h
                · exact h
                · obtain rfl : c = c' := by omega
                  rw [HLC.out.1] at hv
                  cases hv) HLC.out.1)
              have HBC := Lib.hid (upTo_len_mono V c HLC.out.2)
              have hl1 := HR1.out.lenOf_
              have hl2 := HR5.out.lenOf_
              clear hv
              go_wp2
              go_step3
              refine ⟨rfl, ⟨c', _, _, _, _, _, _, _, _, _, _, _, _, _, _, _, _, _, _, _, _, _, _, _, _, _, _, _, _, _, _, _, rfl, hc5, HS5.out, HR5.out, HG5.out⟩, ?_⟩
              show 501 - lenOf u3 < 501 - lenOf v
              have h3 := HCL.out
              have h4 := HBC.out
              omega
            · rw [hv] at hLK
              have hc6 : c' ≤ 500 := by
                have := (HV.out (c' : Int) hv).2
                omega
              have HQ := Lib.hid (upTo_yes hv)
              generalize hL : (upTo V c').length = L0 at *
              have HL0 := Lib.hid hL
              have hO := Lib.hid (show wr.ownsRow w.heap.size 3 1 u3 L0 ((upTo V c').map (Value.int .i64)) from by rw [← hL]; exact HR5.out)
              clear hL hv
              have hWF : okI6 (c' : Int) := wf_mid (by omega) (by omega)
              have hsz5 : w.heap.size ≤ wr.heap.size := HG5.out.size
              go_wp2_with (at_builtin; refine wpList_append_own _ rfl _ _ 35 rfl w.heap.size 3 i0 (.int .i64 0) 1 8 Try.underlying35 hi hz0 hz1 hz2 rfl (by decide) _ _ _ rfl (hO.out.alloc _) ⟨wr.heap.size, 0, none⟩ 1 1 [.int .i64 (c' : Int)] rfl rfl ?c1 ?c2 ?c3 ?c4 ?c5 ?_)
              all_goals (try exact cell_one_alloc _ _ _ _ (by simp))
              case c2 => simp [Value.oneCell']
              case c3 => unfold maxLen; omega
              case c4 => omega
              case c5 => first | omega | (simp; omega)
              intro v' w5 hown1 hgrow1 _
              rw [← HL0.out] at hown1
              obtain ⟨r1, r2, r3⟩ := IRow.push_g (x := (c' : Int)) hmB HR5.out HG5.out hown1 hgrow1
              rw [← HQ.out] at r1
              have R5 := Lib.hid r1
              have G5 := Lib.hid r2
              have S5 := Lib.hid (r3 _ _ HS5.out)
              clear r1 r2 r3 hown1 hgrow1 HS5 HR5 HG5 hO hLK
              go_wp2_with (at_delete; refine wpList_set_del _ S5.out rfl _ _ 62 rfl keyedI Try.underlying62 kI_inj rfl hWF rfl (key_I hWF) ?_; intro w6 hS6 hg6; have HS6 := Lib.hid hS6; have HR6 := Lib.hid (row_kept R5.out hg6 (own_far R5.out hmB).symm); have HG6 := Lib.hid (World.grownBy.trans G5.out hg6); clear hS6 hg6)
              go_roundw
              case rel =>
                refine ⟨c' + 1, by omega, by omega, by go_num, HS6.out.congr fun q => ?_, HR6.out, HG6.out⟩
                cases V q
                · rfl
                · simp only [Bool.true_and, ← decide_not, ← Bool.decide_and, decide_eq_decide]
                  omega
              case measure => simp only [intOf]; omega
        · intro q w4 cnt' hgood hVq hbq hLq hrg1 hlt hg1 hs1 hen
          obtain ⟨hq0, hq5⟩ := HV.out q hVq
          obtain ⟨k, rfl⟩ := Int.eq_ofNat_of_zero_le hq0
          have HRG4 := Lib.hid hrg1
          have HR4 := Lib.hid (row_kept HR3.out hg1 HOB.out)
          have HG4 := Lib.hid (HG3.out.andThen hg1 (fun j e => by simp only [Option.some.injEq] at e; have := HG1.out.size; omega))
          have HVK := Lib.hid (And.intro hVq hbq)
          have HLE := Lib.hid (show w4.rangeLeft m rb = cnt' from hrg1.left)
          have HLO := Lib.hid (HRG.out.left)
          have HLT := Lib.hid hlt
          have hk5 : k ≤ 500 := by omega
          clear hgood hVq hbq hLq hrg1 hlt hg1 hs1 hq0 hq5
          go_wp2
          case inl =>
            have hkc : k < c := by assumption
            refine ⟨⟨_, ⟨_, HRG4.out⟩, k, rfl, hk5, .inr ⟨HVK.out.1, by have := HVK.out.2; omega⟩, fun q h1 h2 => ?_, HR4.out, HG4.out⟩, by rw [HLE.out, HLO.out]; exact HLT.out⟩
            by_cases e : q = (k : Int)
            · exact .inl (by omega)
            · rcases HL.out q (by rw [h1]; simpa using h2) with h | h
              · exact .inl (by omega)
              · exact .inr (by rw [h]; simp [e])
          case inr =>
            have hkc : ¬ k < c := by assumption
            refine ⟨⟨_, ⟨_, HRG4.out⟩, c, rfl, hc, ?_, fun q h1 h2 => ?_, HR4.out, HG4.out⟩, by rw [HLE.out, HLO.out]; exact HLT.out⟩
            · rcases HC2.out with h | h
              · exact .inl h
              · simp only [Bool.and_eq_true, decide_eq_true_eq] at h
                exact .inr ⟨h.1, by omega⟩
            · by_cases e : q = (k : Int)
              · exact .inl (by omega)
              · rcases HL.out q (by rw [h1]; simpa using h2) with h | h
                · exact .inl h
                · exact .inr (by rw [h]; simp [e])
end Go.Proofs.Ytophkahaefbkiaa
