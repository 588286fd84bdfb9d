/- All whole islands. -/
import Derived.Test.YtdlknbdgbmjkpaaHT5
import Derived.Test.YtdlknbdgbmjkpaaR2
namespace Go.Proofs.Ytdlknbdgbmjkpaa
open Go.RowKit
set_option linter.unusedVariables false
set_option linter.unusedSimpArgs false
def wiR (s a f : Int) : Nat → List (List Int)
  | 0 => []
  | k + 1 => wiR s a f k ++ (if iHd s a f (f + 1 + (k : Int)) = 1 ∧ iAd a f (f + 1 + (k : Int)) = 1 then [[f, f + 1 + (k : Int), iH s a f (f + 1 + (k : Int)), iA a f (f + 1 + (k : Int))]] else [])
def wi (s a : Int) : Nat → List (List Int)
  | 0 => []
  | q + 1 => wi s a q ++ wiR s a ((q : Int) + 1) (29 - q)
theorem wiR_len (s a f : Int) (k : Nat) : (wiR s a f k).length ≤ k := by
  induction k with
  | zero => simp [wiR]
  | succ m ih => simp only [wiR]; split <;> simp <;> omega
theorem wi_len (s a : Int) (q : Nat) : (wi s a q).length ≤ q * 29 := by
  induction q with
  | zero => simp [wi]
  | succ q ih =>
    have := wiR_len s a ((q : Int) + 1) (29 - q)
    simp only [wi, List.length_append]
    omega
theorem wiR_yes {s a f g : Int} {k : Nat} (rs : List (List Int)) (hh : g = f + 1 + (k : Int)) (z : iHd s a f g = 1) (y : iAd a f g = 1) : rs ++ wiR s a f (k + 1) = (rs ++ wiR s a f k) ++ [[f, g, iH s a f g, iA a f g]] := by
  subst hh
  simp only [wiR, if_pos (And.intro z y), List.append_assoc]
theorem wiR_no {s a f g : Int} {k : Nat} (rs : List (List Int)) (hh : g = f + 1 + (k : Int)) (z : ¬ (iHd s a f g = 1 ∧ iAd a f g = 1)) : rs ++ wiR s a f (k + 1) = rs ++ wiR s a f k := by
  subst hh
  simp only [wiR, if_neg z, List.append_nil]
def okWi (s a : Int) : Bool := okSt s && okS a
def WIS (s a : Int) : List (List Int) := if okWi s a then wi s a 29 else []
theorem wiR_four (s a f : Int) (k : Nat) : ∀ r ∈ wiR s a f k, r.length ≤ 4 := by
  induction k with
  | zero => simp [wiR]
  | succ m ih =>
    intro r hr
    simp only [wiR, List.mem_append] at hr
    rcases hr with hr | hr
    · exact ih r hr
    · split at hr <;> simp at hr
      subst hr; simp
theorem wi_four (s a : Int) (q : Nat) : ∀ r ∈ wi s a q, r.length ≤ 4 := by
  induction q with
  | zero => simp [wi]
  | succ q ih =>
    intro r hr
    simp only [wi, List.mem_append] at hr
    rcases hr with hr | hr
    · exact ih r hr
    · exact wiR_four _ _ _ _ r hr
theorem WIS_tot (s a : Int) : tot (fun i => (WIS s a).getD i []) (WIS s a).length ≤ 4000000 := by
  unfold WIS
  cases h : okWi s a
  · simp [tot]
  · have hl := wi_len s a 29
    have := rows_le (wi s a 29) 4 841 (wi_four _ _ _) (by omega)
    simp only [if_true]
    omega
theorem cell_one_alloc (w : World) (x : Value) (t : TypeId) (n : Nat) (hn : n = w.heap.size) : ∀ j u, [x][j]? = some u → (w.alloc (.cells #[x] t)).cell? ((⟨n, 0, none⟩ : Addr).add j) = some u := by
  intro j u hj
  subst hn
  match j, hj with
  | 0, hj =>
    simp at hj
    subst hj
    simp [Addr.add]
set_option maxRecDepth 100000 in
set_option maxHeartbeats 4000000 in
theorem impl_WholeIslands (s a : Int) (w : World) :
    Calls Try.prog 43 #[.int .i64 s, .int .i64 a] w fun e w' => ∃ v, e = .returned (.tuple #[v, .bool (okWi s a)]) ∧ RRow w' w.heap.size v (WIS s a) ∧ Below w.heap.size w w' := by
  cases h1 : okSt s
  · have HE := Lib.hid (show WIS s a = [] by simp [WIS, okWi, h1])
    have HO := Lib.hid (show okWi s a = false by simp [okWi, h1])
    go_enter Try.func43, Try.ntmps43
    go_wp2_with fail
    refine (isStaff_any _ _).mono ?_
    rintro e w' ⟨rfl, rfl⟩
    rw [h1]
    go_wp2
    go_ret2
    exact ⟨_, by rw [HO.out]; rfl, by rw [HE.out]; exact RRow.nil _ _, (by repeat (first | exact Below.refl _ _ | refine bl_alloc ?_ _ | refine bl_drewN ?_ _ | refine bl_trans (by assumption) ?_ | refine bl_set ?_ (by first | omega | (simp; done) | (simp; omega)) _))⟩
  cases h2 : okS a
  · have HE := Lib.hid (show WIS s a = [] by simp [WIS, okWi, h1, h2])
    have HO := Lib.hid (show okWi s a = false by simp [okWi, h1, h2])
    go_enter Try.func43, Try.ntmps43
    go_wp2_with fail
    refine (isStaff_any _ _).mono ?_
    rintro e w' ⟨rfl, rfl⟩
    rw [h1]
    go_wp2_with fail
    refine (areSteps1 _ _ _ _ rfl).mono ?_
    rintro e w' ⟨rfl, rfl⟩
    rw [allS1, h2]
    go_wp2
    go_ret2
    exact ⟨_, by rw [HO.out]; rfl, by rw [HE.out]; exact RRow.nil _ _, (by repeat (first | exact Below.refl _ _ | refine bl_alloc ?_ _ | refine bl_drewN ?_ _ | refine bl_trans (by assumption) ?_ | refine bl_set ?_ (by first | omega | (simp; done) | (simp; omega)) _))⟩
  have HE := Lib.hid (show WIS s a = wi s a 29 by simp [WIS, okWi, h1, h2])
  have HO := Lib.hid (show okWi s a = true by simp [okWi, h1, h2])
  obtain ⟨s0, s1⟩ := okSt_true h1
  obtain ⟨a0, a1⟩ := okS_true h2
  obtain ⟨i0, hi, hz0, hz1, hz2⟩ := info_parts infoIS
  obtain ⟨B, hB⟩ : ∃ B, w.heap.size = B := ⟨_, rfl⟩
  have hBw : B ≤ w.heap.size := by omega
  rw [HO.out, hB]
  have HOK := Lib.hid (fun p h (p0 : 1 ≤ p) (p1 : p < h) (p2 : h ≤ 30) => (show okIs s a p h = true by
    simp only [okIs, allS, List.all_cons, List.all_nil, Bool.and_true, Bool.and_eq_true, decide_eq_true_eq]
    refine ⟨h1, ⟨h2, ?_, ?_⟩, p1⟩ <;> (unfold okS within; simp; omega)))
  clear hB
  go_enter Try.func43, Try.ntmps43
  go_wp2_with fail
  refine (isStaff_any _ _).mono ?_
  rintro e w' ⟨rfl, rfl⟩
  rw [h1]
  go_wp2_with fail
  refine (areSteps1 _ _ _ _ rfl).mono ?_
  rintro e w' ⟨rfl, rfl⟩
  rw [allS1, h2]
  go_wp2_with fail
  go_loopw [6, 7] (fun v pl wr => ∃ (q : Nat) (p : Int), q ≤ 29 ∧ pl = .int .i64 p ∧ p = (q : Int) + 1 ∧ RRow wr B v (wi s a q) ∧ Below B w wr) (fun _ pl _ => (31 - (intOf pl)).toNat)
  case atStart => exact ⟨0, _, Nat.zero_le _, rfl, by simp, RRow.nil _ _, (by repeat (first | exact Below.refl _ _ | refine Below.alloc ?_ (by omega) _))⟩
  case round =>
    obtain ⟨q, p, hq, rfl, hp, hR, hW⟩ := hrel
    have HP := Lib.hid hp
    have p1 : 1 ≤ p := by omega
    have p2 : p ≤ 30 := by omega
    clear hp
    by_cases hlt : q < 29
    · have hlt' : p < 30 := by rw [HP.out]; omega
      have hql := wi_len s a q
      have HR0 := Lib.hid hR
      have HW0 := Lib.hid hW
      clear hR hW
      go_wp2
      go_loopw [6, 8] (fun v hv wr => ∃ (k : Nat) (h : Int), k ≤ 29 - q ∧ hv = .int .i64 h ∧ h = p + 1 + (k : Int) ∧ RRow wr B v (wi s a q ++ wiR s a p k) ∧ Below B w wr) (fun _ hv _ => (31 - (intOf hv)).toNat)
      case atStart => exact ⟨0, _, Nat.zero_le _, rfl, by simp, by simpa [wiR] using HR0.out, HW0.out⟩
      case round =>
        clear HR0 HW0
        obtain ⟨k, h, hk, rfl, hh, hR, hW⟩ := hrel
        have hBr : B ≤ wr.heap.size := Nat.le_trans hBw hW.size
        have hkl := wiR_len s a p k
        have HF := Lib.hid hh
        have g1 : 1 ≤ h := by omega
        have g2 : h ≤ 31 := by have := HP.out; omega
        have g3 : p < h := by omega
        have HR := Lib.hid hR
        have HW := Lib.hid hW
        clear hR hW
        by_cases hlk : k < 29 - q
        · have hlt2 : h ≤ 30 := by have := HP.out; omega
          have hll : (wi s a q ++ wiR s a p k).length ≤ 900 := by rw [List.length_append]; omega
          clear hkl
          clear hh
          have hok := HOK.out p h p1 g3 hlt2
          have HT := fun W => Lib.hid (topOf_i s a p h hok W)
          clear hok
          by_cases z : iHd s a p h = 1
          case neg =>
            have HQ := Lib.hid (wiR_no (s := s) (a := a) (wi s a q) HF.out (fun c => z c.1))
            have e1 : decide (iHd s a p h = 1) = false := decide_eq_false z
            clear z
            generalize iH s a p h = X at *
            generalize iHd s a p h = Y at *
            generalize iA a p h = U at *
            generalize iAd a p h = V at *
            go_wp2_with fail
            refine ((HT _).out).mono ?_
            rintro e w2 ⟨rfl, hb2⟩
            have HKw2 := Lib.hid hb2
            clear hb2
            go_wp2_with fail
            refine (isWhole_any _ _ _).mono ?_
            rintro e w3 ⟨rfl, hb3⟩
            obtain ⟨hc3, hf3⟩ := bcell hb3
            have hz3 := bsize hb3
            simp only [World.size_alloc] at hz3
            have k0 : w3.cell? ⟨w2.heap.size, 0, none⟩ = some (.int .i64 X) := by rw [hc3 _ _ (by first | (simp; done) | omega | (simp; omega))]; simp [go_sem]
            have k1 : w3.cell? ⟨w2.heap.size, 1, none⟩ = some (.int .i64 Y) := by rw [hc3 _ _ (by first | (simp; done) | omega | (simp; omega))]; simp [go_sem]
            have k2 : w3.cell? ⟨w2.heap.size + 1, 0, none⟩ = some (.int .i64 U) := by rw [hc3 _ _ (by first | (simp; done) | omega | (simp; omega))]; simp [go_sem]
            have k3 : w3.cell? ⟨w2.heap.size + 1, 1, none⟩ = some (.int .i64 V) := by rw [hc3 _ _ (by first | (simp; done) | omega | (simp; omega))]; simp [go_sem]
            have HKw3 := Lib.hid (show Below wr.heap.size wr w3 from bl_trans hb3 (bl_alloc (bl_alloc HKw2.out _) _))
            clear hc3 hf3 hb3
            rw [e1]
            have HRK : RRow w3 B u6 (wi s a q ++ wiR s a p k) := RRowF.keep HR.out HKw3.out
            have HWK := Lib.hid (show Below B w w3 from HW.out.trans (HKw3.out.mono hBr))
            have hBk : B ≤ w3.heap.size := Nat.le_trans hBr HKw3.out.size
            have HRK' := Lib.hid HRK
            clear HRK
            go_wp2
            go_roundw
            case rel => exact ⟨k + 1, _, by omega, rfl, by rw [HF.out]; omega, by rw [HQ.out]; exact HRK'.out, HWK.out⟩
            case measure => simp only [intOf]; omega
          by_cases y : iAd a p h = 1
          case neg =>
            have HQ := Lib.hid (wiR_no (s := s) (a := a) (wi s a q) HF.out (fun c => y c.2))
            have e1 : decide (iHd s a p h = 1) = true := decide_eq_true z
            have e2 : decide (iAd a p h = 1) = false := decide_eq_false y
            clear z y
            generalize iH s a p h = X at *
            generalize iHd s a p h = Y at *
            generalize iA a p h = U at *
            generalize iAd a p h = V at *
            go_wp2_with fail
            refine ((HT _).out).mono ?_
            rintro e w2 ⟨rfl, hb2⟩
            have HKw2 := Lib.hid hb2
            clear hb2
            go_wp2_with fail
            refine (isWhole_any _ _ _).mono ?_
            rintro e w3 ⟨rfl, hb3⟩
            obtain ⟨hc3, hf3⟩ := bcell hb3
            have hz3 := bsize hb3
            simp only [World.size_alloc] at hz3
            have k0 : w3.cell? ⟨w2.heap.size, 0, none⟩ = some (.int .i64 X) := by rw [hc3 _ _ (by first | (simp; done) | omega | (simp; omega))]; simp [go_sem]
            have k1 : w3.cell? ⟨w2.heap.size, 1, none⟩ = some (.int .i64 Y) := by rw [hc3 _ _ (by first | (simp; done) | omega | (simp; omega))]; simp [go_sem]
            have k2 : w3.cell? ⟨w2.heap.size + 1, 0, none⟩ = some (.int .i64 U) := by rw [hc3 _ _ (by first | (simp; done) | omega | (simp; omega))]; simp [go_sem]
            have k3 : w3.cell? ⟨w2.heap.size + 1, 1, none⟩ = some (.int .i64 V) := by rw [hc3 _ _ (by first | (simp; done) | omega | (simp; omega))]; simp [go_sem]
            have HKw3 := Lib.hid (show Below wr.heap.size wr w3 from bl_trans hb3 (bl_alloc (bl_alloc HKw2.out _) _))
            clear hc3 hf3 hb3
            rw [e1]
            go_wp2_with fail
            refine (isWhole_any _ _ _).mono ?_
            rintro e w4 ⟨rfl, hb4⟩
            have k0 := cell_after hb4 (by omega) k0
            have k1 := cell_after hb4 (by omega) k1
            have k2 := cell_after hb4 (by omega) k2
            have k3 := cell_after hb4 (by omega) k3
            have HKw4 := Lib.hid (bl_trans hb4 HKw3.out)
            clear hb4
            rw [e2]
            have HRK : RRow w4 B u6 (wi s a q ++ wiR s a p k) := RRowF.keep HR.out HKw4.out
            have HWK := Lib.hid (show Below B w w4 from HW.out.trans (HKw4.out.mono hBr))
            have hBk : B ≤ w4.heap.size := Nat.le_trans hBr HKw4.out.size
            have HRK' := Lib.hid HRK
            clear HRK
            go_wp2
            go_roundw
            case rel => exact ⟨k + 1, _, by omega, rfl, by rw [HF.out]; omega, by rw [HQ.out]; exact HRK'.out, HWK.out⟩
            case measure => simp only [intOf]; omega
          have HQ := Lib.hid (wiR_yes (s := s) (a := a) (wi s a q) HF.out z y)
          have e1 : decide (iHd s a p h = 1) = true := decide_eq_true z
          have e2 : decide (iAd a p h = 1) = true := decide_eq_true y
          clear z y
          generalize iH s a p h = X at *
          generalize iHd s a p h = Y at *
          generalize iA a p h = U at *
          generalize iAd a p h = V at *
          go_wp2_with fail
          refine ((HT _).out).mono ?_
          rintro e w2 ⟨rfl, hb2⟩
          have HKw2 := Lib.hid hb2
          clear hb2
          go_wp2_with fail
          refine (isWhole_any _ _ _).mono ?_
          rintro e w3 ⟨rfl, hb3⟩
          obtain ⟨hc3, hf3⟩ := bcell hb3
          have hz3 := bsize hb3
          simp only [World.size_alloc] at hz3
          have k0 : w3.cell? ⟨w2.heap.size, 0, none⟩ = some (.int .i64 X) := by rw [hc3 _ _ (by first | (simp; done) | omega | (simp; omega))]; simp [go_sem]
          have k1 : w3.cell? ⟨w2.heap.size, 1, none⟩ = some (.int .i64 Y) := by rw [hc3 _ _ (by first | (simp; done) | omega | (simp; omega))]; simp [go_sem]
          have k2 : w3.cell? ⟨w2.heap.size + 1, 0, none⟩ = some (.int .i64 U) := by rw [hc3 _ _ (by first | (simp; done) | omega | (simp; omega))]; simp [go_sem]
          have k3 : w3.cell? ⟨w2.heap.size + 1, 1, none⟩ = some (.int .i64 V) := by rw [hc3 _ _ (by first | (simp; done) | omega | (simp; omega))]; simp [go_sem]
          have HKw3 := Lib.hid (show Below wr.heap.size wr w3 from bl_trans hb3 (bl_alloc (bl_alloc HKw2.out _) _))
          clear hc3 hf3 hb3
          rw [e1]
          go_wp2_with fail
          refine (isWhole_any _ _ _).mono ?_
          rintro e w4 ⟨rfl, hb4⟩
          have k0 := cell_after hb4 (by omega) k0
          have k1 := cell_after hb4 (by omega) k1
          have k2 := cell_after hb4 (by omega) k2
          have k3 := cell_after hb4 (by omega) k3
          have HKw4 := Lib.hid (bl_trans hb4 HKw3.out)
          clear hb4
          rw [e2]
          have HRK : RRow w4 B u6 (wi s a q ++ wiR s a p k) := RRowF.keep HR.out HKw4.out
          have HWK := Lib.hid (show Below B w w4 from HW.out.trans (HKw4.out.mono hBr))
          have hBk : B ≤ w4.heap.size := Nat.le_trans hBr HKw4.out.size
          obtain ⟨vs, h1, h3, h4⟩ := HRK
          have hO := Lib.hid h1
          have H3 := Lib.hid h3
          have H4 := Lib.hid h4
          clear h1 h3 h4
          generalize hL : (wi s a q ++ wiR s a p k).length = L at *
          have HL := Lib.hid hL
          clear hL
          go_wp2_with (at_builtin; refine wpList_append_own _ rfl _ _ 36 rfl B 59 i0 (.slice none 0 0) 1 24 Try.underlying36 hi hz0 hz1 hz2 rfl (by decide) _ _ _ rfl ((hO.out.alloc _).alloc _) ⟨w4.heap.size + 1, 0, none⟩ 1 1 [.slice (some ⟨w4.heap.size, 0, none⟩) 4 4] rfl rfl ?c1 ?c2 ?c3 ?c4 ?c5 ?_)
          all_goals (try exact cell_one_alloc _ _ _ _ (by simp))
          case c2 => simp [Value.oneCell']
          case c3 => unfold maxLen; omega
          case c4 => omega
          case c5 => first | omega | (simp; omega)
          intro v' wn hown1 hgrow1 _
          have hn := IRow.made w4 B [p, h, X, U] hBk (by simp [maxLen])
          rw [← HL.out] at hO H3 H4 hown1
          obtain ⟨r1, r2⟩ := RRow.push (xs := [p, h, X, U]) hBk hO.out H3.out H4.out hn hown1 hgrow1
          rw [← HQ.out] at r1
          have Q1 := Lib.hid r1
          have Q2 := Lib.hid r2
          clear r1 r2 hn hown1 hgrow1
          go_wp2
          go_roundw
          case rel => exact ⟨k + 1, _, by omega, rfl, by rw [HF.out]; omega, Q1.out, HWK.out.trans Q2.out⟩
          case measure => simp only [intOf]; omega
        · obtain rfl : k = 29 - q := by omega
          have hge : 30 < h := by have := HP.out; omega
          have HR1 := Lib.hid (show RRow wr B u6 (wi s a (q + 1)) by simp only [wi]; rw [← HP.out]; exact HR.out)
          clear hh
          go_wp2
          go_roundw
          case rel => exact ⟨q + 1, _, by omega, rfl, by rw [HP.out]; omega, HR1.out, HW.out⟩
          case measure => simp only [intOf]; omega
    · obtain rfl : q = 29 := by omega
      have hge : 30 ≤ p := by rw [HP.out]; omega
      have HR := Lib.hid hR
      have HW := Lib.hid hW
      clear hR hW
      go_wp2
      go_ret2
      exact ⟨_, rfl, by rw [HE.out]; exact HR.out, HW.out⟩
set_option maxRecDepth 100000 in
set_option maxHeartbeats 4000000 in
theorem spec_WholeIslands (s a : Int) (w : World) :
    Calls Try.prog 42 #[.int .i64 s, .int .i64 a] w fun e w' => ∃ v, e = .returned (.tuple #[v, .bool (okWi s a)]) ∧ RRow w' w.heap.size v (WIS s a) ∧ Below w.heap.size w w' := by
  cases h1 : okSt s
  · have HE := Lib.hid (show WIS s a = [] by simp [WIS, okWi, h1])
    have HO := Lib.hid (show okWi s a = false by simp [okWi, h1])
    go_enter Try.func42, Try.ntmps42
    go_wp2_with fail
    refine (htStaff_any _ _).mono ?_
    rintro e w' ⟨rfl, rfl⟩
    rw [h1]
    go_wp2
    go_ret2
    exact ⟨_, by rw [HO.out]; rfl, by rw [HE.out]; exact RRow.nil _ _, (by repeat (first | exact Below.refl _ _ | refine bl_alloc ?_ _ | refine bl_drewN ?_ _ | refine bl_trans (by assumption) ?_ | refine bl_set ?_ (by first | omega | (simp; done) | (simp; omega)) _))⟩
  cases h2 : okS a
  · have HE := Lib.hid (show WIS s a = [] by simp [WIS, okWi, h1, h2])
    have HO := Lib.hid (show okWi s a = false by simp [okWi, h1, h2])
    go_enter Try.func42, Try.ntmps42
    go_wp2_with fail
    refine (htStaff_any _ _).mono ?_
    rintro e w' ⟨rfl, rfl⟩
    rw [h1]
    go_wp2_with fail
    refine (htLong1 _ _ _ _ rfl).mono ?_
    rintro e w' ⟨rfl, rfl⟩
    rw [allS1, h2]
    go_wp2
    go_ret2
    exact ⟨_, by rw [HO.out]; rfl, by rw [HE.out]; exact RRow.nil _ _, (by repeat (first | exact Below.refl _ _ | refine bl_alloc ?_ _ | refine bl_drewN ?_ _ | refine bl_trans (by assumption) ?_ | refine bl_set ?_ (by first | omega | (simp; done) | (simp; omega)) _))⟩
  have HE := Lib.hid (show WIS s a = wi s a 29 by simp [WIS, okWi, h1, h2])
  have HO := Lib.hid (show okWi s a = true by simp [okWi, h1, h2])
  obtain ⟨s0, s1⟩ := okSt_true h1
  obtain ⟨a0, a1⟩ := okS_true h2
  obtain ⟨i0, hi, hz0, hz1, hz2⟩ := info_parts infoIS
  obtain ⟨B, hB⟩ : ∃ B, w.heap.size = B := ⟨_, rfl⟩
  have hBw : B ≤ w.heap.size := by omega
  rw [HO.out, hB]
  have HOK := Lib.hid (fun p h (p0 : 1 ≤ p) (p1 : p < h) (p2 : h ≤ 30) => (show okIs s a p h = true by
    simp only [okIs, allS, List.all_cons, List.all_nil, Bool.and_true, Bool.and_eq_true, decide_eq_true_eq]
    refine ⟨h1, ⟨h2, ?_, ?_⟩, p1⟩ <;> (unfold okS within; simp; omega)))
  clear hB
  go_enter Try.func42, Try.ntmps42
  go_wp2_with fail
  refine (htStaff_any _ _).mono ?_
  rintro e w' ⟨rfl, rfl⟩
  rw [h1]
  go_wp2_with fail
  refine (htLong1 _ _ _ _ rfl).mono ?_
  rintro e w' ⟨rfl, rfl⟩
  rw [allS1, h2]
  go_wp2_with fail
  go_loopw [6, 7] (fun v pl wr => ∃ (q : Nat) (p : Int), q ≤ 29 ∧ pl = .int .i64 p ∧ p = (q : Int) + 1 ∧ RRow wr B v (wi s a q) ∧ Below B w wr) (fun _ pl _ => (31 - (intOf pl)).toNat)
  case atStart => exact ⟨0, _, Nat.zero_le _, rfl, by simp, RRow.nil _ _, (by repeat (first | exact Below.refl _ _ | refine Below.alloc ?_ (by omega) _))⟩
  case round =>
    obtain ⟨q, p, hq, rfl, hp, hR, hW⟩ := hrel
    have HP := Lib.hid hp
    have p1 : 1 ≤ p := by omega
    have p2 : p ≤ 30 := by omega
    clear hp
    by_cases hlt : q < 29
    · have hlt' : p < 30 := by rw [HP.out]; omega
      have hql := wi_len s a q
      have HR0 := Lib.hid hR
      have HW0 := Lib.hid hW
      clear hR hW
      go_wp2
      go_loopw [6, 8] (fun v hv wr => ∃ (k : Nat) (h : Int), k ≤ 29 - q ∧ hv = .int .i64 h ∧ h = p + 1 + (k : Int) ∧ RRow wr B v (wi s a q ++ wiR s a p k) ∧ Below B w wr) (fun _ hv _ => (31 - (intOf hv)).toNat)
      case atStart => exact ⟨0, _, Nat.zero_le _, rfl, by simp, by simpa [wiR] using HR0.out, HW0.out⟩
      case round =>
        clear HR0 HW0
        obtain ⟨k, h, hk, rfl, hh, hR, hW⟩ := hrel
        have hBr : B ≤ wr.heap.size := Nat.le_trans hBw hW.size
        have hkl := wiR_len s a p k
        have HF := Lib.hid hh
        have g1 : 1 ≤ h := by omega
        have g2 : h ≤ 31 := by have := HP.out; omega
        have g3 : p < h := by omega
        have HR := Lib.hid hR
        have HW := Lib.hid hW
        clear hR hW
        by_cases hlk : k < 29 - q
        · have hlt2 : h ≤ 30 := by have := HP.out; omega
          have hll : (wi s a q ++ wiR s a p k).length ≤ 900 := by rw [List.length_append]; omega
          clear hkl
          clear hh
          have hok := HOK.out p h p1 g3 hlt2
          have HT := fun W => Lib.hid (htHeight_any s a p h hok W)
          have HU := fun W => Lib.hid (htAway_any s a p h hok W)
          clear hok
          by_cases z : iHd s a p h = 1
          case neg =>
            have HQ := Lib.hid (wiR_no (s := s) (a := a) (wi s a q) HF.out (fun c => z c.1))
            have e1 : (iHd s a p h == 1) = false := beq_eq_false_iff_ne.2 z
            clear z
            generalize iH s a p h = X at *
            generalize iHd s a p h = Y at *
            generalize iA a p h = U at *
            generalize iAd a p h = V at *
            go_wp2_with fail
            refine ((HT _).out).mono ?_
            rintro e w2 ⟨rfl, hb2⟩
            have HKw2 := Lib.hid (show Below wr.heap.size wr w2 from bl_trans hb2 (bl_alloc (Below.refl _ _) _))
            have hy2 := bsize hb2
            simp only [World.size_alloc] at hy2
            have k0 : w2.cell? ⟨wr.heap.size, 0, none⟩ = some (.int .i64 s) := by rw [(bcell hb2).1 _ _ (by first | (simp; done) | omega | (simp; omega))]; simp [go_sem]
            have k1 : w2.cell? ⟨wr.heap.size, 1, none⟩ = some (.int .i64 a) := by rw [(bcell hb2).1 _ _ (by first | (simp; done) | omega | (simp; omega))]; simp [go_sem]
            have k2 : w2.cell? ⟨wr.heap.size, 2, none⟩ = some (.int .i64 p) := by rw [(bcell hb2).1 _ _ (by first | (simp; done) | omega | (simp; omega))]; simp [go_sem]
            have k3 : w2.cell? ⟨wr.heap.size, 3, none⟩ = some (.int .i64 h) := by rw [(bcell hb2).1 _ _ (by first | (simp; done) | omega | (simp; omega))]; simp [go_sem]
            clear hb2
            go_wp2_with fail
            refine ((HU _).out).mono ?_
            rintro e w4 ⟨rfl, hb4⟩
            have HKw4 := Lib.hid (bl_trans hb4 HKw2.out)
            clear hb4
            have HRK : RRow w4 B u6 (wi s a q ++ wiR s a p k) := RRowF.keep HR.out HKw4.out
            have HWK := Lib.hid (show Below B w w4 from HW.out.trans (HKw4.out.mono hBr))
            have hBk : B ≤ w4.heap.size := Nat.le_trans hBr HKw4.out.size
            have HRK' := Lib.hid HRK
            clear HRK
            go_wp2
            go_roundw
            case rel => exact ⟨k + 1, _, by omega, rfl, by rw [HF.out]; omega, by rw [HQ.out]; exact HRK'.out, HWK.out⟩
            case measure => simp only [intOf]; omega
          by_cases y : iAd a p h = 1
          case neg =>
            have HQ := Lib.hid (wiR_no (s := s) (a := a) (wi s a q) HF.out (fun c => y c.2))
            have e1 : (iHd s a p h == 1) = true := by rw [z]; rfl
            have e2 : (iAd a p h == 1) = false := beq_eq_false_iff_ne.2 y
            clear z y
            generalize iH s a p h = X at *
            generalize iHd s a p h = Y at *
            generalize iA a p h = U at *
            generalize iAd a p h = V at *
            go_wp2_with fail
            refine ((HT _).out).mono ?_
            rintro e w2 ⟨rfl, hb2⟩
            have HKw2 := Lib.hid (show Below wr.heap.size wr w2 from bl_trans hb2 (bl_alloc (Below.refl _ _) _))
            have hy2 := bsize hb2
            simp only [World.size_alloc] at hy2
            have k0 : w2.cell? ⟨wr.heap.size, 0, none⟩ = some (.int .i64 s) := by rw [(bcell hb2).1 _ _ (by first | (simp; done) | omega | (simp; omega))]; simp [go_sem]
            have k1 : w2.cell? ⟨wr.heap.size, 1, none⟩ = some (.int .i64 a) := by rw [(bcell hb2).1 _ _ (by first | (simp; done) | omega | (simp; omega))]; simp [go_sem]
            have k2 : w2.cell? ⟨wr.heap.size, 2, none⟩ = some (.int .i64 p) := by rw [(bcell hb2).1 _ _ (by first | (simp; done) | omega | (simp; omega))]; simp [go_sem]
            have k3 : w2.cell? ⟨wr.heap.size, 3, none⟩ = some (.int .i64 h) := by rw [(bcell hb2).1 _ _ (by first | (simp; done) | omega | (simp; omega))]; simp [go_sem]
            clear hb2
            go_wp2_with fail
            refine ((HU _).out).mono ?_
            rintro e w4 ⟨rfl, hb4⟩
            have HKw4 := Lib.hid (bl_trans hb4 HKw2.out)
            clear hb4
            have HRK : RRow w4 B u6 (wi s a q ++ wiR s a p k) := RRowF.keep HR.out HKw4.out
            have HWK := Lib.hid (show Below B w w4 from HW.out.trans (HKw4.out.mono hBr))
            have hBk : B ≤ w4.heap.size := Nat.le_trans hBr HKw4.out.size
            have HRK' := Lib.hid HRK
            clear HRK
            go_wp2
            go_roundw
            case rel => exact ⟨k + 1, _, by omega, rfl, by rw [HF.out]; omega, by rw [HQ.out]; exact HRK'.out, HWK.out⟩
            case measure => simp only [intOf]; omega
          have HQ := Lib.hid (wiR_yes (s := s) (a := a) (wi s a q) HF.out z y)
          have e1 : (iHd s a p h == 1) = true := by rw [z]; rfl
          have e2 : (iAd a p h == 1) = true := by rw [y]; rfl
          clear z y
          generalize iH s a p h = X at *
          generalize iHd s a p h = Y at *
          generalize iA a p h = U at *
          generalize iAd a p h = V at *
          obtain rfl : Y = 1 := by simpa using e1
          obtain rfl : V = 1 := by simpa using e2
          clear e1 e2
          go_wp2_with fail
          refine ((HT _).out).mono ?_
          rintro e w2 ⟨rfl, hb2⟩
          have HKw2 := Lib.hid (show Below wr.heap.size wr w2 from bl_trans hb2 (bl_alloc (Below.refl _ _) _))
          have hy2 := bsize hb2
          simp only [World.size_alloc] at hy2
          have k0 : w2.cell? ⟨wr.heap.size, 0, none⟩ = some (.int .i64 s) := by rw [(bcell hb2).1 _ _ (by first | (simp; done) | omega | (simp; omega))]; simp [go_sem]
          have k1 : w2.cell? ⟨wr.heap.size, 1, none⟩ = some (.int .i64 a) := by rw [(bcell hb2).1 _ _ (by first | (simp; done) | omega | (simp; omega))]; simp [go_sem]
          have k2 : w2.cell? ⟨wr.heap.size, 2, none⟩ = some (.int .i64 p) := by rw [(bcell hb2).1 _ _ (by first | (simp; done) | omega | (simp; omega))]; simp [go_sem]
          have k3 : w2.cell? ⟨wr.heap.size, 3, none⟩ = some (.int .i64 h) := by rw [(bcell hb2).1 _ _ (by first | (simp; done) | omega | (simp; omega))]; simp [go_sem]
          clear hb2
          go_wp2_with fail
          refine ((HU _).out).mono ?_
          rintro e w4 ⟨rfl, hb4⟩
          have HKw4 := Lib.hid (bl_trans hb4 HKw2.out)
          clear hb4
          have HRK : RRow w4 B u6 (wi s a q ++ wiR s a p k) := RRowF.keep HR.out HKw4.out
          have HWK := Lib.hid (show Below B w w4 from HW.out.trans (HKw4.out.mono hBr))
          have hBk : B ≤ w4.heap.size := Nat.le_trans hBr HKw4.out.size
          obtain ⟨vs, h1, h3, h4⟩ := HRK
          have hO := Lib.hid h1
          have H3 := Lib.hid h3
          have H4 := Lib.hid h4
          clear h1 h3 h4
          generalize hL : (wi s a q ++ wiR s a p k).length = L at *
          have HL := Lib.hid hL
          clear hL
          go_wp2_with (at_builtin; refine wpList_append_own _ rfl _ _ 36 rfl B 59 i0 (.slice none 0 0) 1 24 Try.underlying36 hi hz0 hz1 hz2 rfl (by decide) _ _ _ rfl ((hO.out.alloc _).alloc _) ⟨w4.heap.size + 1, 0, none⟩ 1 1 [.slice (some ⟨w4.heap.size, 0, none⟩) 4 4] rfl rfl ?c1 ?c2 ?c3 ?c4 ?c5 ?_)
          all_goals (try exact cell_one_alloc _ _ _ _ (by simp))
          case c2 => simp [Value.oneCell']
          case c3 => unfold maxLen; omega
          case c4 => omega
          case c5 => first | omega | (simp; omega)
          intro v' wn hown1 hgrow1 _
          have hn := IRow.made w4 B [p, h, X, U] hBk (by simp [maxLen])
          rw [← HL.out] at hO H3 H4 hown1
          obtain ⟨r1, r2⟩ := RRow.push (xs := [p, h, X, U]) hBk hO.out H3.out H4.out hn hown1 hgrow1
          rw [← HQ.out] at r1
          have Q1 := Lib.hid r1
          have Q2 := Lib.hid r2
          clear r1 r2 hn hown1 hgrow1
          go_wp2
          go_roundw
          case rel => exact ⟨k + 1, _, by omega, rfl, by rw [HF.out]; omega, Q1.out, HWK.out.trans Q2.out⟩
          case measure => simp only [intOf]; omega
        · obtain rfl : k = 29 - q := by omega
          have hge : 30 < h := by have := HP.out; omega
          have HR1 := Lib.hid (show RRow wr B u6 (wi s a (q + 1)) by simp only [wi]; rw [← HP.out]; exact HR.out)
          clear hh
          go_wp2
          go_roundw
          case rel => exact ⟨q + 1, _, by omega, rfl, by rw [HP.out]; omega, HR1.out, HW.out⟩
          case measure => simp only [intOf]; omega
    · obtain rfl : q = 29 := by omega
      have hge : 30 ≤ p := by rw [HP.out]; omega
      have HR := Lib.hid hR
      have HW := Lib.hid hW
      clear hR hW
      go_wp2
      go_ret2
      exact ⟨_, rfl, by rw [HE.out]; exact HR.out, HW.out⟩
end Go.Proofs.Ytdlknbdgbmjkpaa
