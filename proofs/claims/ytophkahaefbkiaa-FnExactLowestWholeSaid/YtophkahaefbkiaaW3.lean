/- Whole crossings by the model. -/
import Derived.Test.YtophkahaefbkiaaW2
import Derived.Maps.AppendAt
namespace Go.Proofs.Ytophkahaefbkiaa
open Go.RowKit
set_option linter.unusedVariables false
set_option linter.unusedSimpArgs false
def hok (m x k : Nat) : Bool := decide (1 ≤ k) && wh m x k
/-- the heights of whole ladders, less than k -/
def hs (m x : Nat) : Nat → List Int
  | 0 => []
  | k + 1 => if hok m x k then hs m x k ++ [(k : Int)] else hs m x k
theorem hs_yes {m x k : Nat} (h : hok m x k = true) : hs m x (k + 1) = hs m x k ++ [(k : Int)] := by simp [hs, h]
theorem hs_no {m x k : Nat} (h : hok m x k = false) : hs m x (k + 1) = hs m x k := by simp [hs, h]
theorem hs_one (m x : Nat) : hs m x 1 = [] := by rw [hs_no (by simp [hok])]; rfl
theorem hs_len (m x k : Nat) : (hs m x k).length ≤ k := by
  induction k with
  | zero => simp [hs]
  | succ k ih => simp only [hs]; split <;> first | omega | (simp; omega)
theorem hs_mono (m x : Nat) {a : Nat} : ∀ b, a ≤ b → (hs m x a).length ≤ (hs m x b).length
  | 0, h => by rw [show a = 0 by omega]; exact Nat.le_refl _
  | b + 1, h => by
    by_cases e : a = b + 1
    · rw [e]; exact Nat.le_refl _
    · refine Nat.le_trans (hs_mono m x b (by omega)) ?_
      simp only [hs]
      split <;> simp
theorem fold_same {m x : Nat} {F g : Nat → List Int} (hF : ∀ k, F (k + 1) = F k ++ g k) (hg : ∀ k, hok m x k = false → g k = []) {a : Nat} : ∀ b, a ≤ b → (hs m x a).length = (hs m x b).length → F a = F b
  | 0, h, _ => by rw [show a = 0 by omega]
  | b + 1, h, hl => by
    by_cases e : a = b + 1
    · rw [e]
    · have h1 := hs_mono m x (a := a) b (by omega)
      have h2 := hs_mono m x (a := b) (b + 1) (by omega)
      cases hk : hok m x b
      · rw [hF, hg b hk, List.append_nil]
        exact fold_same hF hg b (by omega) (by omega)
      · rw [hs_yes hk] at hl
        simp only [List.length_append, List.length_singleton] at hl
        omega
theorem fold_eq {m x : Nat} {F g : Nat → List Int} (hF : ∀ k, F (k + 1) = F k ++ g k) (hg : ∀ k, hok m x k = false → g k = []) {a b : Nat} (hl : (hs m x a).length = (hs m x b).length) : F a = F b := by
  rcases Nat.le_total a b with h | h
  · exact fold_same hF hg b h hl
  · exact (fold_same hF hg a h hl.symm).symm
theorem hs_idx {m x i : Nat} : ∀ M, i < (hs m x M).length → ∃ l, l < M ∧ (hs m x M).getD i 0 = (l : Int) ∧ hok m x l = true ∧ (hs m x l).length = i
  | 0, h => by simp [hs] at h
  | M + 1, h => by
    cases hk : hok m x M
    · rw [hs_no hk] at h ⊢
      obtain ⟨l, h1, h2⟩ := hs_idx M h
      exact ⟨l, by omega, h2⟩
    · rw [hs_yes hk] at h ⊢
      by_cases e : i < (hs m x M).length
      · obtain ⟨l, h1, h2, h3⟩ := hs_idx M e
        refine ⟨l, by omega, ?_, h3⟩
        rw [← h2]
        simp [List.getD, List.getElem?_append_left e]
      · simp only [List.length_append, List.length_singleton] at h
        have e2 : i = (hs m x M).length := by omega
        refine ⟨M, by omega, ?_, hk, e2.symm⟩
        rw [e2]
        simp [List.getD]
def gR (m x l k : Nat) : List Int := if cr m x l k then [(x : Int), (l : Int), (k : Int)] else []
theorem wcR_step (m x l k : Nat) : wcR m x l (k + 1) = wcR m x l k ++ gR m x l k := by
  unfold gR
  cases h : cr m x l k
  · rw [wcR_no h]; simp
  · rw [wcR_yes h]; simp
theorem gR_no {m x l k : Nat} (h : hok m x k = false) : gR m x l k = [] := by
  unfold gR cr
  unfold hok at h
  by_cases c : 1 ≤ k
  · simp only [c, decide_true, Bool.true_and] at h
    simp [h]
  · simp [c]
theorem gL_no {m x k : Nat} (h : hok m x k = false) : wcR m x k (k + 1) = [] := by
  unfold hok at h
  by_cases c : 1 ≤ k
  · simp only [c, decide_true, Bool.true_and] at h
    exact wcR_nil h _
  · exact wcR_low (.inr (by omega)) _
theorem wcR_same {m x l a b : Nat} (h : (hs m x a).length = (hs m x b).length) : wcR m x l a = wcR m x l b := fold_eq (wcR_step m x l) (fun k hk => gR_no hk) h
theorem wcL_eq {m x a b : Nat} (h : (hs m x a).length = (hs m x b).length) : wcL m x a = wcL m x b := fold_eq (g := fun k => wcR m x k (k + 1)) (fun k => rfl) (fun k hk => gL_no hk) h
theorem hok_true {m x k : Nat} (h : hok m x k = true) : 1 ≤ k ∧ wh m x k = true := by simpa [hok] using h
theorem rt_le {m : Nat} {n : Int} (h0 : 0 ≤ n) (hw : whole n = true) : decide (rt n ≤ (m : Int)) = decide (n ≤ (m : Int) * (m : Int)) := by
  obtain ⟨r0, _, _⟩ := rt_facts h0
  simp only [whole, beq_iff_eq] at hw
  rw [decide_eq_decide]
  constructor
  · intro h
    have := Int.mul_le_mul h h r0 (by omega)
    omega
  · intro h
    refine Int.not_lt.1 fun c => ?_
    have : ((m : Int) + 1) * ((m : Int) + 1) ≤ rt n * rt n := Int.mul_le_mul (by omega) (by omega) (by omega) r0
    have e : ((m : Int) + 1) * ((m : Int) + 1) = (m : Int) * (m : Int) + 2 * (m : Int) + 1 := by
      rw [Int.add_mul, Int.mul_add]; omega
    omega
theorem IRow.push_l {W w1 : World} {B : Nat} {v v' : Value} {xs : List Int} {x : Int} {o : Obj} (hB : B ≤ W.heap.size) (h : IRow W B v xs)
    (hO : w1.ownsRow B 3 1 v' (xs.length + 1) (xs.map (Value.int .i64) ++ [.int .i64 x])) (hg : (W.alloc o).grownBy w1 v.ownBlock) : IRow w1 B v' (xs ++ [x]) ∧ Below B W w1 := by
  refine ⟨?_, ((Below.refl B W).alloc hB o).grown hg (by simp; omega) fun g e => (World.ownsRow.lt h g e).1⟩
  unfold IRow
  simpa using hO
theorem IRow.nil_l (w : World) (B : Nat) : IRow w B (.slice none 0 0) [] := World.ownsRow_nil w B _ 1
theorem cell_one_l (w : World) (x : Value) (t : TypeId) (n : Nat) (hn : n = w.heap.size) : ∀ j u, [x][j]? = some u → (w.alloc (.cells #[x] t)).cell? ((⟨n, 0, none⟩ : Addr).add j) = some u := by
  intro j u hj
  subst hn
  match j, hj with
  | 0, hj =>
    simp at hj
    subst hj
    simp [Addr.add]
theorem infoJ : (Try.prog.info? 3).map (fun i => (i.zero, i.size, i.bytes)) = some (some (.int .i64 0), 1, 8) := by kernel_rfl
set_option maxRecDepth 100000 in
set_option maxHeartbeats 8000000 in
theorem clAll_any (m : Nat) (m1 : 1 ≤ m) (m2 : m ≤ 150) (w : World) :
    Calls Try.prog 30 #[.int .i64 (m : Int)] w fun e w' => ∃ v n, e = .returned v ∧ LLad w' w.heap.size v n (wcX m m) ∧ Below w.heap.size w w' := by
  obtain ⟨i0, hi, hz0, hz1, hz2⟩ := info_parts infoLad
  obtain ⟨i1, ji, jz0, jz1, jz2⟩ := info_parts infoJ
  go_enter Try.func30, Try.ntmps30
  go_wp2
  go_loopw [3, 4] (fun u i wr => ∃ X n : Nat, 1 ≤ X ∧ X ≤ m ∧ i = .int .i64 (X : Int) ∧ LLad wr w.heap.size u n (wcX m X) ∧ Below w.heap.size w wr) (fun _ i _ => m - (intOf i).toNat)
  case atStart => exact ⟨1, 0, Nat.le_refl _, m1, rfl, by rw [wcX_one]; exact LLad.nil _ _, Below.refl _ _⟩
  case round =>
    obtain ⟨X, n, x1, hX, rfl, hR, hV⟩ := hrel
    have HR := Lib.hid hR
    have HV := Lib.hid hV
    clear hR hV
    by_cases hlt : X < m
    · have hlt' : (X : Int) < (m : Int) := by omega
      go_wp2
      rename World => wo
      go_loopw [5, 6] (fun vh i wq => ∃ H : Nat, 1 ≤ H ∧ H ≤ m ∧ i = .int .i64 (H : Int) ∧ IRow wq wo.heap.size vh (hs m X H) ∧ Below wo.heap.size wo wq) (fun _ i _ => m - (intOf i).toNat)
      case atStart => exact ⟨1, Nat.le_refl _, m1, rfl, by rw [hs_one]; exact IRow.nil_l _ _, Below.refl _ _⟩
      case round =>
        obtain ⟨H, h1, hH, rfl, hI, hVo⟩ := hrel
        have HI := Lib.hid hI
        have HVo := Lib.hid hVo
        clear hI hVo
        by_cases hlh : H < m
        · have hlh' : (H : Int) < (m : Int) := by omega
          obtain ⟨⟨s2, s3⟩, ⟨s4, s5⟩, s0, s1⟩ := sq_bd (a := (X : Int)) (b := (H : Int)) (by omega) (by omega) (by omega) (by omega)
          obtain ⟨r0, r1, -⟩ := rt_facts s0
          have r2 : 0 ≤ rt (sq (X : Int) (H : Int)) * rt (sq (X : Int) (H : Int)) := Int.mul_nonneg r0 r0
          obtain ⟨S, hS⟩ : ∃ S, (X : Int) * (X : Int) + (H : Int) * (H : Int) = S := ⟨_, rfl⟩
          have hsq : sq (X : Int) (H : Int) = S := hS
          obtain ⟨RR, hRR⟩ : ∃ RR, rt S = RR := ⟨_, rfl⟩
          rw [hsq] at s0 s1 r0 r1 r2
          rw [hRR] at r0 r1 r2
          have HC : ∀ W, Hid (Calls Try.prog 47 #[.int .i64 S] W fun e w' => e = .returned (.int .i64 RR) ∧ W = w') := fun W => Lib.hid (by rw [← hRR]; exact clRoot_any S s0 (by omega) W)
          have HW := Lib.hid (show hok m X H = (decide (S ≤ (m : Int) * (m : Int)) && whole S) by simp [hok, wh, h1, hsq])
          have HLE := Lib.hid (show whole S = true → decide (RR ≤ (m : Int)) = decide (S ≤ (m : Int) * (m : Int)) from fun hw => by rw [← hRR]; exact rt_le s0 hw)
          have HWD := Lib.hid (show whole S = (RR * RR == S) by simp [whole, hRR])
          have HS := Lib.hid hS
          have hbb : RR * RR ≤ 2000000000000 := by omega
          clear hsq hRR
          cases hq : (RR * RR == S)
          · have hq' : RR * RR < S := by
              have : ¬ RR * RR = S := by simpa using hq
              omega
            clear r1
            have HN := Lib.hid (hs_no (m := m) (x := X) (k := H) (by rw [HW.out, HWD.out, hq, Bool.and_false]))
            clear hq
            go_wp2_with (first | (go_at_call 47; refine ((HC _).out).mono ?_; rintro e w' ⟨rfl, rfl⟩))
            go_roundw
            case rel => exact ⟨H + 1, by omega, by omega, by go_num, by rw [HN.out]; exact HI.out, HVo.out⟩
            case measure => simp only [intOf]; omega
          · have hq' : RR * RR = S := by simpa using hq
            have hwt : whole S = true := by rw [HWD.out, hq]
            have hle := HLE.out hwt
            by_cases hrm : RR ≤ (m : Int)
            · have HN := Lib.hid (hs_yes (m := m) (x := X) (k := H) (by rw [HW.out, ← hle, hwt]; simpa using hrm))
              clear hq hwt hle
              have hll := hs_len m X H
              have hO := Lib.hid (show wr.ownsRow wo.heap.size 3 1 u5 (hs m X H).length ((hs m X H).map (Value.int .i64)) from HI.out)
              have hbw := HVo.out.size
              generalize hL : (hs m X H).length = L at *
              have HL := Lib.hid hL
              clear hL
              go_wp2_with (first | (go_at_call 47; refine ((HC _).out).mono ?_; rintro e w' ⟨rfl, rfl⟩) | (at_builtin; refine wpList_append_own _ rfl _ _ 35 rfl wo.heap.size 3 i1 (.int .i64 0) 1 8 Try.underlying35 ji jz0 jz1 jz2 rfl (by decide) _ _ _ rfl (hO.out.alloc _) ⟨wr.heap.size, 0, none⟩ 1 1 [.int .i64 (H : Int)] rfl rfl (cell_one_l _ _ _ _ (by simp)) (by simp [Value.oneCell']) (by unfold maxLen; omega) (by omega) (by first | omega | (simp; omega)) ?_; intro v' wn hown hgrow _))
              rw [← HL.out] at hown
              obtain ⟨r1, r2⟩ := IRow.push_l (x := (H : Int)) (W := wr) hbw HI.out hown hgrow
              rw [← HN.out] at r1
              have Q1 := Lib.hid r1
              have Q2 := Lib.hid (HVo.out.trans r2)
              clear r1 r2 hown hgrow
              go_wp2
              go_roundw
              case rel => exact ⟨H + 1, by omega, by omega, by go_num, Q1.out, Q2.out⟩
              case measure => simp only [intOf]; omega
            · have HN := Lib.hid (hs_no (m := m) (x := X) (k := H) (by rw [HW.out, ← hle, hwt]; simpa using hrm))
              clear hq hwt hle
              go_wp2_with (first | (go_at_call 47; refine ((HC _).out).mono ?_; rintro e w' ⟨rfl, rfl⟩))
              go_roundw
              case rel => exact ⟨H + 1, by omega, by omega, by go_num, by rw [HN.out]; exact HI.out, HVo.out⟩
              case measure => simp only [intOf]; omega
        · obtain rfl : H = m := by omega
          have HVw := Lib.hid (bl_trans HVo.out HV.out)
          have HRo := Lib.hid (HR.out.keep HVo.out)
          have hob : ∀ q, u3.ownBlock = some q → q < wo.heap.size := fun q e => (World.ownsRow.lt HR.out.2 q e).2
          have HOB := Lib.hid hob
          clear hob
          rcases HI.out.open_ with ⟨rfl, he⟩ | ⟨g, cap, cur, rfl, hBg, hg, hcap, hcm, -⟩
          · have HN := Lib.hid (show wcL H X H = [] by
              have := wcL_eq (m := H) (x := X) (a := H) (b := 0) (by rw [he]; rfl)
              rw [this]; rfl)
            clear he
            go_wp2
            go_loopw [3, 48] (fun u i wq => u = u3 ∧ i = .int .i64 0 ∧ wq = wr) (fun _ i _ => 0)
            case atStart => exact ⟨rfl, rfl, rfl⟩
            case round =>
              obtain ⟨rfl, rfl, rfl⟩ := hrel
              go_wp2
              go_roundw
              case rel => exact ⟨X + 1, n, by omega, by omega, by go_num, by rw [wcX, HN.out, List.append_nil]; exact HRo.out, HVw.out⟩
              case measure => simp only [intOf]; omega
          · have hll := hs_len H X H
            obtain ⟨LN, hLN⟩ : ∃ LN, (hs H X H).length = LN := ⟨_, rfl⟩
            rw [hLN] at hll hcap
            have HLN := Lib.hid hLN
            have HI2 := Lib.hid (show IRow wr wo.heap.size (.slice (some ⟨g, 0, none⟩) LN cap) (hs H X H) by rw [← hLN]; exact HI.out)
            rw [hLN]
            clear hLN HI
            go_wp2
            go_loopw [3, 48] (fun u i wq => ∃ j k n : Nat, j ≤ LN ∧ i = .int .i64 (j : Int) ∧ (hs H X k).length = j ∧ LLad wq w.heap.size u n (wcX H X ++ wcL H X k) ∧ IRow wq wo.heap.size (.slice (some ⟨g, 0, none⟩) LN cap) (hs H X H) ∧ (∀ q, u.ownBlock = some q → q ≠ g) ∧ g < wq.heap.size ∧ Below w.heap.size w wq) (fun _ i _ => LN - (intOf i).toNat)
            case atStart => exact ⟨0, 0, n, Nat.zero_le _, rfl, rfl, by rw [wcL, List.append_nil]; exact HRo.out, HI2.out, fun q e => by have := HOB.out q e; omega, hg, HVw.out⟩
            case round =>
              clear HI2 HRo HOB HVw
              obtain ⟨j, k, n, hj, rfl, hk, hR, hI, hF, hg2, hV⟩ := hrel
              have HK := Lib.hid hk
              have HR := Lib.hid hR
              have HI := Lib.hid hI
              have HF := Lib.hid hF
              have HV := Lib.hid hV
              clear hk hR hI hF hV
              by_cases hlj : j < LN
              · obtain ⟨l, hl1, hl2, hl3, hl4⟩ := hs_idx (m := H) (x := X) (i := j) H (by rw [HLN.out]; exact hlj)
                have hlj' : (j : Int) < (LN : Int) := by omega
                have hcell : wr.cell? ⟨g, j, none⟩ = some (.int .i64 (l : Int)) := by
                  rcases HI.out.open_ with ⟨he, _⟩ | ⟨g', cap', cur', he, _, _, _, _, _, _, hcc, _⟩
                  · cases he
                  · simp only [Value.slice.injEq, Option.some.injEq, Addr.mk.injEq, and_true, true_and] at he
                    obtain ⟨rfl, -⟩ := he
                    rw [hcc j (by rw [HLN.out]; exact hlj), hl2]
                obtain ⟨l1, lw⟩ := hok_true hl3
                have HFL := Lib.hid (wcL_eq (m := H) (x := X) (a := k) (b := l) (by rw [HK.out, hl4]))
                have HL4 := Lib.hid hl4
                have HL5 := Lib.hid (show (hs H X (l + 1)).length = j + 1 by rw [hs_yes hl3]; simp [hl4])
                have HLW := Lib.hid lw
                clear hl2 hl3 hl4 lw
                have hjc : (j : Int) + 1 ≤ (cap : Int) := by omega
                go_wp2
                rename World => wi
                go_loopw [3, 58] (fun u i wq => ∃ p k2 n : Nat, p ≤ j + 1 ∧ i = .int .i64 (p : Int) ∧ (hs H X k2).length = p ∧ LLad wq w.heap.size u n (wcX H X ++ wcL H X l ++ wcR H X l k2) ∧ IRow wq wo.heap.size (.slice (some ⟨g, 0, none⟩) LN cap) (hs H X H) ∧ (∀ q, u.ownBlock = some q → q ≠ g) ∧ g < wq.heap.size ∧ Below w.heap.size w wq) (fun _ i _ => j + 1 - (intOf i).toNat)
                case atStart => exact ⟨0, 0, n, Nat.zero_le _, rfl, rfl, by rw [wcR, List.append_nil, ← HFL.out]; exact HR.out, HI.out, HF.out, hg2, HV.out⟩
                case round =>
                  clear HR HI HF HV hcell hg2
                  obtain ⟨p, k2, n, hp, rfl, hk2, hR, hI, hF, hg2, hV⟩ := hrel
                  have HK2 := Lib.hid hk2
                  have HR := Lib.hid hR
                  have HI := Lib.hid hI
                  have HF := Lib.hid hF
                  have HV := Lib.hid hV
                  clear hk2 hR hI hF hV
                  by_cases hlp : p < j + 1
                  · obtain ⟨r, hr1, hr2, hr3, hr4⟩ := hs_idx (m := H) (x := X) (i := p) H (by rw [HLN.out]; omega)
                    have hlp' : (p : Int) < (j : Int) + 1 := by omega
                    have hcell : wr.cell? ⟨g, p, none⟩ = some (.int .i64 (r : Int)) := by
                      rcases HI.out.open_ with ⟨he, _⟩ | ⟨g', cap', cur', he, _, _, _, _, _, _, hcc, _⟩
                      · cases he
                      · simp only [Value.slice.injEq, Option.some.injEq, Addr.mk.injEq, and_true, true_and] at he
                        obtain ⟨rfl, -⟩ := he
                        rw [hcc p (by rw [HLN.out]; omega), hr2]
                    obtain ⟨r1, rw_⟩ := hok_true hr3
                    have HFR := Lib.hid (wcR_same (m := H) (x := X) (l := l) (a := k2) (b := r) (by rw [HK2.out, hr4]))
                    have HR5 := Lib.hid (show (hs H X (r + 1)).length = p + 1 by rw [hs_yes hr3]; simp [hr4])
                    have HRW := Lib.hid rw_
                    clear hr2 hr3 hr4 rw_
                    obtain ⟨f1, f2⟩ := mul_bd (a := (l : Int)) (b := (r : Int)) (m := 150) (by omega) (by omega) (by omega) (by omega)
                    have hlr0 : ¬ (l : Int) + (r : Int) = 0 := by omega
                    have hlr1 : 0 < (l : Int) + (r : Int) := by omega
                    have hm0 := Int.emod_nonneg ((l : Int) * (r : Int)) hlr0
                    have hm1 := Int.emod_lt_of_pos ((l : Int) * (r : Int)) hlr1
                    cases hc : cwI (l : Int) (r : Int)
                    · have HN := Lib.hid (show wcR H X l (r + 1) = wcR H X l k2 by rw [HFR.out]; exact wcR_no (by simp [cr, hc]))
                      have hc' : 0 < (l : Int) * (r : Int) % ((l : Int) + (r : Int)) := by
                        have : ¬ (l : Int) * (r : Int) % ((l : Int) + (r : Int)) = 0 := by simpa [cwI] using hc
                        omega
                      clear hc
                      go_wp2
                      go_roundw
                      case rel => exact ⟨p + 1, r + 1, n, by omega, by go_num, HR5.out, by rw [HN.out]; exact HR.out, HI.out, HF.out, hg2, HV.out⟩
                      case measure => simp only [intOf]; omega
                    · have HN := Lib.hid (show wcR H X l (r + 1) = wcR H X l k2 ++ [(X : Int), (l : Int), (r : Int)] by rw [HFR.out]; exact wcR_yes (by simp [cr, hc, x1, l1, r1, HLW.out, HRW.out]))
                      have hc' : (l : Int) * (r : Int) % ((l : Int) + (r : Int)) = 0 := by simpa [cwI] using hc
                      clear hc
                      have hxl := HR.out.1
                      have hlen1 := wcX_len H X m2
                      have hlen2 := wcL_len H X 150 l (by omega)
                      have hlen3 := wcR_len H X l k2
                      have hk2b : (wcR H X l k2).length ≤ 3 * 151 := by
                        rw [HFR.out]
                        have := wcR_len H X l r
                        omega
                      simp only [List.length_append] at hxl
                      have hnn : n ≤ 20000000 := by omega
                      have hB1 := HV.out.size
                      have hO := Lib.hid HR.out.owns
                      clear hxl hlen1 hlen2 hlen3 hk2b
                      go_wp2_with (at_builtin; refine wpList_append_own_at _ rfl _ _ 22 rfl w.heap.size 29 i0 (.agg #[.int .i64 0, .int .i64 0, .int .i64 0]) 3 24 Try.underlying22 hi hz0 hz1 hz2 rfl (by decide) _ _ _ rfl (hO.out.alloc _) ⟨wr.heap.size, 0, none⟩ 1 1 [.int .i64 (X : Int), .int .i64 (l : Int), .int .i64 (r : Int)] rfl rfl (cells3 _ _ _ _ _ _ (by simp)) (by simp [Value.oneCell']) (by unfold maxLen; omega) (by omega) (by first | omega | (simp; omega)) ?_; intro v' wn hown hgrow _ hat)
                      obtain ⟨s1, s2⟩ := LLad.push hB1 HR.out hown hgrow
                      rw [List.append_assoc, ← HN.out] at s1
                      have Q1 := Lib.hid s1
                      have Q2 := Lib.hid (HV.out.trans s2)
                      have QI := Lib.hid (show IRow wn wo.heap.size (.slice (some ⟨g, 0, none⟩) LN cap) (hs H X H) from World.ownsRow.kept (World.ownsRow.alloc HI.out _) hgrow (.inr (fun e => HF.out g e.symm rfl)))
                      have QF := Lib.hid (show ∀ q, v'.ownBlock = some q → q ≠ g from fun q e => by
                        rcases hat with h | h
                        · rw [h] at e; exact HF.out q e
                        · rw [h] at e
                          simp only [Option.some.injEq, World.size_alloc] at e
                          omega)
                      have QG : g < wn.heap.size := Nat.lt_of_lt_of_le hg2 s2.size
                      clear s1 s2 hown hgrow hat
                      go_wp2
                      go_roundw
                      case rel => exact ⟨p + 1, r + 1, n + 1, by omega, by go_num, HR5.out, Q1.out, QI.out, QF.out, QG, Q2.out⟩
                      case measure => simp only [intOf]; omega
                  · obtain rfl : p = j + 1 := by omega
                    have HN := Lib.hid (wcR_same (m := H) (x := X) (l := l) (a := k2) (b := l + 1) (by rw [HK2.out, HL5.out]))
                    go_wp2
                    go_roundw
                    case rel => exact ⟨j + 1, l + 1, n, by omega, by go_num, HL5.out, by rw [wcL, ← HN.out, ← List.append_assoc]; exact HR.out, HI.out, HF.out, hg2, HV.out⟩
                    case measure => simp only [intOf]; omega
              · obtain rfl : j = LN := by omega
                have HN := Lib.hid (wcL_eq (m := H) (x := X) (a := k) (b := H) (by rw [HK.out, HLN.out]))
                go_wp2
                go_roundw
                case rel => exact ⟨X + 1, n, by omega, by omega, by go_num, by rw [wcX, ← HN.out]; exact HR.out, HV.out⟩
                case measure => simp only [intOf]; omega
    · obtain rfl : X = m := by omega
      go_wp2
      go_ret
      exact ⟨_, n, rfl, HR.out, HV.out⟩
set_option maxHeartbeats 400000 in
theorem spec_WholeCrossings (most : Int) (w : World) :
    Calls Try.prog 8 #[.int .i64 most] w fun e w' => ∃ v n, e = .returned (.tuple #[v, .bool (within most 1 150)]) ∧ LLad w' w.heap.size v n (WCL most) ∧ Below w.heap.size w w' := by
  cases h : within most 1 150
  · go_enter Try.func8, Try.ntmps8
    go_wp2_with (go_at_call 29; refine (l1In_any _ _ _ _).mono ?_; rintro e w' ⟨rfl, rfl⟩)
    go_ret2
    exact ⟨_, 0, rfl, by simp only [WCL, h]; exact LLad.nil _ _, Below.refl _ _⟩
  obtain ⟨h1, h2⟩ := within_true h
  obtain ⟨m, rfl⟩ := Int.eq_ofNat_of_zero_le (show 0 ≤ most by omega)
  have m1 : 1 ≤ m := by omega
  have m2 : m ≤ 150 := by omega
  have HP := Lib.hid (show WCL (m : Int) = wcX m m by simp [WCL, h])
  go_enter Try.func8, Try.ntmps8
  go_wp2_with (go_at_call 29; refine (l1In_any _ _ _ _).mono ?_; rintro e w' ⟨rfl, rfl⟩)
  refine (clAll_any m m1 m2 _).mono ?_
  rintro e w1 ⟨v, n, rfl, hR, hW⟩
  have HR := Lib.hid hR
  have HW := Lib.hid hW
  clear hR hW
  go_wp2
  go_ret2
  exact ⟨_, n, rfl, by rw [HP.out]; exact HR.out, HW.out⟩
end Go.Proofs.Ytophkahaefbkiaa
