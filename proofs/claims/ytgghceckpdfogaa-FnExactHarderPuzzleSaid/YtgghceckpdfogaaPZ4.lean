/- All ladders of a Wide that fit some clues, in order. -/
import Derived.Test.YtgghceckpdfogaaPZ3
import Derived.Test.YtgghceckpdfogaaL3
namespace Go.Proofs.Ytgghceckpdfogaa
open Go.RowKit
set_option linter.unusedVariables false
set_option linter.unusedSimpArgs false
theorem cells3 (w : World) (x y z : Value) (T n : Nat) (hn : n = w.heap.size) : ∀ j q, [x, y, z][j]? = some q → (w.alloc (.cells #[x, y, z] T)).cell? ((⟨n, 0, none⟩ : Addr).add j) = some q := by
  intro j q hj
  subst hn
  match j, hj with
  | 0, hj => simp at hj; subst hj; simp [Addr.add]
  | 1, hj => simp at hj; subst hj; simp [Addr.add]
  | 2, hj => simp at hj; subst hj; simp [Addr.add]
theorem infoLad : (Try.prog.info? 43).map (fun i => (i.zero, i.size, i.bytes)) = some (some (.agg #[.int .i64 0, .int .i64 0, .int .i64 0]), 3, 24) := by kernel_rfl
theorem cnt_def (n : Nat) (f : Nat → Int) (wd : Int) : cnt n f wd = (sol n f wd 144).length := rfl
theorem sol_zero (n : Nat) (f : Nat → Int) (wd : Int) : sol n f wd 0 = [] := rfl
theorem flat_nil (wd : Int) : flat wd [] = [] := rfl
theorem LLad.congr {w : World} {C n m : Nat} {v : Value} {xs ys : List Int} (h : LLad w C v n xs) (e1 : n = m) (e2 : xs = ys) : LLad w C v m ys := by subst e1; subst e2; exact h
attribute [local irreducible] sol flat cnt
set_option maxRecDepth 8000 in
set_option maxHeartbeats 1600000 in
theorem allThatFit_any (wd : Int) (v : Value) (n : Nat) (f : Nat → Int) (w : World) (hp : PClu w v n f) (hk : okCs n f = true) (h1 : 1 ≤ wd) (h2 : wd ≤ 12) :
    Calls Try.prog 75 #[.int .i64 wd, v] w fun e w' => ∃ u, e = .returned u ∧ LLad w' w.heap.size u (cnt n f wd) (flat wd (sol n f wd 144)) ∧ Below w.heap.size w w' := by
  obtain ⟨i0, hi, hz0, hz1, hz2⟩ := info_parts infoLad
  obtain ⟨B, hB⟩ : ∃ B, w.heap.size = B := ⟨_, rfl⟩
  obtain ⟨a0, c0, rfl⟩ := hp.shape
  have HH := Lib.hid hp
  have HK := Lib.hid hk
  clear hp hk
  rw [hB]
  have hBw : B ≤ w.heap.size := by omega
  go_enter Try.func75, Try.ntmps75
  go_wp2
  go_loopw [5, 6] (fun s lv wr => ∃ (a : Nat) (X : Int), a ≤ 12 ∧ lv = .int .i64 X ∧ X = (a : Int) + 1 ∧ LLad wr B s (sol n f wd (a * 12)).length (flat wd (sol n f wd (a * 12))) ∧ Below B w wr) (fun _ lv _ => (13 - (intOf lv)).toNat)
  case atStart => exact ⟨0, _, Nat.zero_le _, rfl, by simp, by rw [Nat.zero_mul, sol_zero, flat_nil]; exact LLad.nil _ _, by rw [← hB]; exact Below.refl _ _⟩
  case round =>
    obtain ⟨a, X, ha, rfl, hX, hR, hW⟩ := hrel
    have HX := Lib.hid hX
    have x1 : 1 ≤ X := by omega
    have x2 : X ≤ 13 := by omega
    clear hX
    by_cases hlt : a < 12
    · have hlt' : X ≤ 12 := by rw [HX.out]; omega
      have HR0 := Lib.hid hR
      have HW0 := Lib.hid hW
      clear hR hW
      go_wp2
      go_loopw [5, 7] (fun s rv wr => ∃ (b : Nat) (Y : Int), b ≤ 12 ∧ rv = .int .i64 Y ∧ Y = (b : Int) + 1 ∧ LLad wr B s (sol n f wd (a * 12 + b)).length (flat wd (sol n f wd (a * 12 + b))) ∧ Below B w wr) (fun _ rv _ => (13 - (intOf rv)).toNat)
      case atStart => exact ⟨0, _, Nat.zero_le _, rfl, by simp, HR0.out, HW0.out⟩
      case round =>
        clear HR0 HW0
        obtain ⟨b, Y, hb, rfl, hY, hR, hW⟩ := hrel
        have hBr : B ≤ wr.heap.size := Nat.le_trans hBw hW.size
        have HY := Lib.hid hY
        have y1 : 1 ≤ Y := by omega
        have y2 : Y ≤ 13 := by omega
        clear hY
        have HR := Lib.hid hR
        have HW := Lib.hid hW
        clear hR hW
        by_cases hltb : b < 12
        · have hltb' : Y ≤ 12 := by rw [HY.out]; omega
          have hH : okH wd X Y = true := okH_of h1 h2 x1 hlt' y1 hltb'
          have eL : pL (a * 12 + b) = X := by rw [pL_at _ _ hltb, HX.out]; omega
          have eR : pR (a * 12 + b) = Y := by rw [pR_at _ _ hltb, HY.out]; omega
          have SY := Lib.hid (@sol_yes n f wd (a * 12 + b))
          have SN := Lib.hid (@sol_no n f wd (a * 12 + b))
          rw [eL, eR] at SY SN
          have hPw : PClu wr (.slice a0 n c0) n f := HH.out.keep (by rw [hB]; exact HW.out)
          have HP := Lib.hid (fun o => (hPw.keep (bl_alloc (Below.refl _ wr) o)))
          clear hPw
          have Hf := fun o => Lib.hid (fitsAll_any (.slice a0 n c0) n f wd X Y (wr.alloc o) (HP.out o) HK.out hH)
          have Flat := Lib.hid (flat_snoc wd (sol n f wd (a * 12 + b)) (a * 12 + b))
          rw [eL, eR] at Flat
          have S1 : a * 12 + b + 1 = a * 12 + (b + 1) := by omega
          rw [S1] at SY SN
          clear hH
          generalize fits n f wd X Y = z at *
          cases z
          · have SN2 := Lib.hid (SN.out rfl)
            clear SN SY
            go_wp2_with fail
            refine (Hf _).out.mono ?_
            rintro e w2 ⟨rfl, hb2⟩
            have HW2 := Lib.hid (HW.out.trans ((bl_trans hb2 (bl_alloc (Below.refl _ wr) _)).mono hBr))
            have HR2 := Lib.hid (HR.out.keep (bl_trans hb2 (bl_alloc (Below.refl _ wr) _)))
            clear hb2
            go_wp2
            go_roundw
            case rel => exact ⟨b + 1, _, by omega, rfl, by rw [HY.out]; push_cast; omega, by rw [SN2.out]; exact HR2.out, HW2.out⟩
            case measure => simp only [intOf]; omega
          · have SY2 := Lib.hid (SY.out rfl)
            clear SN SY
            go_wp2_with fail
            refine (Hf _).out.mono ?_
            rintro e w2 ⟨rfl, hb2⟩
            have HW2 := Lib.hid (HW.out.trans ((bl_trans hb2 (bl_alloc (Below.refl _ wr) _)).mono hBr))
            have HO2 := Lib.hid (HR.out.keep (bl_trans hb2 (bl_alloc (Below.refl _ wr) _)))
            have hB2 : B ≤ w2.heap.size := Nat.le_trans hBw HW2.out.size
            obtain ⟨hc2, hf2⟩ := bcell hb2
            have hz2' := bsize hb2
            simp only [World.size_alloc] at hz2'
            have q0 : w2.cell? ⟨wr.heap.size, 0, none⟩ = some (.int .i64 wd) := by rw [hc2 _ _ (by simp)]; simp [go_sem]
            have q1 : w2.cell? ⟨wr.heap.size, 1, none⟩ = some (.int .i64 X) := by rw [hc2 _ _ (by simp)]; simp [go_sem]
            have q2 : w2.cell? ⟨wr.heap.size, 2, none⟩ = some (.int .i64 Y) := by rw [hc2 _ _ (by simp)]; simp [go_sem]
            clear hc2 hf2 hb2
            have hO2 := Lib.hid HO2.out.owns
            have SL := Lib.hid (sol_length_le n f wd (a * 12 + b))
            have SL' := SL.out
            go_wp2_with (at_builtin; (refine wpList_append_own _ rfl _ _ 46 rfl B 43 i0 (.agg #[.int .i64 0, .int .i64 0, .int .i64 0]) 3 24 Try.underlying46 hi hz0 hz1 hz2 rfl (by decide) _ (sol n f wd (a * 12 + b)).length _ rfl (hO2.out.alloc _) ⟨w2.heap.size, 0, none⟩ 1 1 [.int .i64 wd, .int .i64 X, .int .i64 Y] rfl rfl (cells3 _ _ _ _ _ _ rfl) (by simp [Value.oneCell']) (by unfold maxLen; omega) (by omega) (by first | omega | (simp; omega)) ?_); intro v' wn hown hgrow _)
            obtain ⟨r1, r2⟩ := LLad.push hB2 HO2.out hown hgrow
            have Q1 := Lib.hid r1
            have Q2 := Lib.hid (HW2.out.trans r2)
            clear r1 r2 hown hgrow
            go_wp2
            go_roundw
            case rel => exact ⟨b + 1, _, by omega, rfl, by rw [HY.out]; push_cast; omega, Q1.out.congr (by rw [SY2.out, List.length_append]; rfl) (by rw [SY2.out, Flat.out]), Q2.out⟩
            case measure => simp only [intOf]; omega
        · obtain rfl : b = 12 := by omega
          have hge : 12 < Y := by rw [HY.out]; omega
          have e12 : a * 12 + 12 = (a + 1) * 12 := by omega
          rw [e12] at HR
          have HR2 := HR
          clear HR
          go_wp2
          go_roundw
          case rel => exact ⟨a + 1, _, by omega, rfl, by rw [HX.out]; push_cast; omega, HR2.out, HW.out⟩
          case measure => simp only [intOf]; omega
    · obtain rfl : a = 12 := by omega
      have hge : 12 < X := by rw [HX.out]; omega
      have HR := Lib.hid hR
      have HW := Lib.hid hW
      clear hR hW
      go_wp2
      go_ret
      exact ⟨_, rfl, by rw [cnt_def]; exact HR.out, HW.out⟩
set_option maxRecDepth 8000 in
set_option maxHeartbeats 1600000 in
theorem pzAll_any (wd : Int) (v : Value) (n : Nat) (f : Nat → Int) (w : World) (hp : PClu w v n f) (hk : okCs n f = true) (h1 : 1 ≤ wd) (h2 : wd ≤ 12) :
    Calls Try.prog 74 #[.int .i64 wd, v] w fun e w' => ∃ u, e = .returned u ∧ LLad w' w.heap.size u (cnt n f wd) (flat wd (sol n f wd 144)) ∧ Below w.heap.size w w' := by
  obtain ⟨i0, hi, hz0, hz1, hz2⟩ := info_parts infoLad
  obtain ⟨B, hB⟩ : ∃ B, w.heap.size = B := ⟨_, rfl⟩
  have hl := hp.len_le
  obtain ⟨a0, c0, rfl⟩ := hp.shape
  have HH := Lib.hid hp
  have HK := Lib.hid hk
  clear hp hk
  rw [hB]
  have hBw : B ≤ w.heap.size := by omega
  go_enter Try.func74, Try.ntmps74
  go_wp2
  go_loopw [5, 6] (fun s lv wr => ∃ (a : Nat) (X : Int), a ≤ 12 ∧ lv = .int .i64 X ∧ X = (a : Int) + 1 ∧ LLad wr B s (sol n f wd (a * 12)).length (flat wd (sol n f wd (a * 12))) ∧ Below B w wr) (fun _ lv _ => (13 - (intOf lv)).toNat)
  case atStart => exact ⟨0, _, Nat.zero_le _, rfl, by simp, by rw [Nat.zero_mul, sol_zero, flat_nil]; exact LLad.nil _ _, by rw [← hB]; exact Below.refl _ _⟩
  case round =>
    obtain ⟨a, X, ha, rfl, hX, hR, hW⟩ := hrel
    have HX := Lib.hid hX
    have x1 : 1 ≤ X := by omega
    have x2 : X ≤ 13 := by omega
    clear hX
    by_cases hlt : a < 12
    · have hlt' : X ≤ 12 := by rw [HX.out]; omega
      have HR0 := Lib.hid hR
      have HW0 := Lib.hid hW
      clear hR hW
      go_wp2
      go_loopw [5, 7] (fun s rv wr => ∃ (b : Nat) (Y : Int), b ≤ 12 ∧ rv = .int .i64 Y ∧ Y = (b : Int) + 1 ∧ LLad wr B s (sol n f wd (a * 12 + b)).length (flat wd (sol n f wd (a * 12 + b))) ∧ Below B w wr) (fun _ rv _ => (13 - (intOf rv)).toNat)
      case atStart => exact ⟨0, _, Nat.zero_le _, rfl, by simp, HR0.out, HW0.out⟩
      case round =>
        clear HR0 HW0
        obtain ⟨b, Y, hb, rfl, hY, hR, hW⟩ := hrel
        have hBr : B ≤ wr.heap.size := Nat.le_trans hBw hW.size
        have HY := Lib.hid hY
        have y1 : 1 ≤ Y := by omega
        have y2 : Y ≤ 13 := by omega
        clear hY
        have HR := Lib.hid hR
        have HW := Lib.hid hW
        clear hR hW
        by_cases hltb : b < 12
        · have hltb' : Y ≤ 12 := by rw [HY.out]; omega
          have HHI := Lib.hid (okH_of h1 h2 x1 hlt' y1 hltb')
          have eL : pL (a * 12 + b) = X := by rw [pL_at _ _ hltb, HX.out]; omega
          have eR : pR (a * 12 + b) = Y := by rw [pR_at _ _ hltb, HY.out]; omega
          have SY := Lib.hid (@sol_yes n f wd (a * 12 + b))
          have SN := Lib.hid (@sol_no n f wd (a * 12 + b))
          rw [eL, eR] at SY SN
          have hPw : PClu wr (.slice a0 n c0) n f := HH.out.keep (by rw [hB]; exact HW.out)
          have HP := Lib.hid hPw
          clear hPw
          have Flat := Lib.hid (flat_snoc wd (sol n f wd (a * 12 + b)) (a * 12 + b))
          rw [eL, eR] at Flat
          have S1 : a * 12 + b + 1 = a * 12 + (b + 1) := by omega
          rw [S1] at SY SN
          clear S1 eL eR
          have HB0 := Lib.hid (show Below wr.heap.size wr (wr.alloc (.cells #[.int .i64 wd, .int .i64 X, .int .i64 Y] 43)) from (by repeat (first | exact Below.refl _ _ | refine bl_alloc ?_ _ | refine bl_drewN ?_ _ | refine bl_trans (by assumption) ?_ | refine bl_set ?_ (by first | omega | (simp; done) | (simp; omega)) _)))
          go_wp2_with fail
          rename World => wo
          go_loopw [9, 26] (fun fv iv wq => ∃ j : Nat, j ≤ n ∧ iv = .int .i64 (j : Int) ∧ fv = .bool (fits j f wd X Y) ∧ wq.cell? ⟨wo.heap.size, 0, none⟩ = some (.int .i64 wd) ∧ wq.cell? ⟨wo.heap.size, 1, none⟩ = some (.int .i64 X) ∧ wq.cell? ⟨wo.heap.size, 2, none⟩ = some (.int .i64 Y) ∧ wo.heap.size < wq.heap.size ∧ Below wo.heap.size wo wq) (fun _ iv _ => n - (intOf iv).toNat)
          case atStart => exact ⟨0, Nat.zero_le _, rfl, rfl, by simp [go_sem], by simp [go_sem], by simp [go_sem], by simp, HB0.out⟩
          case round =>
            obtain ⟨j, hj, rfl, rfl, l0, l1, l2, hsz, hq⟩ := hrel
            have HQ := Lib.hid hq
            clear hq
            have FS := Lib.hid (fits_succ j f wd X Y)
            by_cases hltj : j < n
            · obtain ⟨bb, off, cap, hv, hbb, g1⟩ := (HP.out.keep HQ.out).some_ (by omega)
              simp only [Value.slice.injEq, true_and] at hv
              obtain ⟨rfl, rfl⟩ := hv
              obtain ⟨p0, p1, p2⟩ := g1 j hltj
              have hltj' : (j : Int) < (n : Int) := by omega
              clear g1
              have Hf := fun W => Lib.hid (pzFits_any (f (j * 3)) (f (j * 3 + 1)) (f (j * 3 + 2)) wd X Y (okCs_get HK.out hltj) HHI.out W)
              have HA := Lib.hid (bl_alloc HQ.out (.cells #[.int .i64 (f (j * 3)), .int .i64 (f (j * 3 + 1)), .int .i64 (f (j * 3 + 2))] 25))
              cases hz : fits j f wd X Y
              · have HZ := Lib.hid hz
                rw [hz] at FS
                clear hz
                go_wp2
                go_roundw
                case rel => exact ⟨j + 1, by omega, by go_num, by rw [FS.out]; rfl, by rw [(bcell (bl_alloc (Below.refl _ wr) _)).1 _ _ hsz]; exact l0, by rw [(bcell (bl_alloc (Below.refl _ wr) _)).1 _ _ hsz]; exact l1, by rw [(bcell (bl_alloc (Below.refl _ wr) _)).1 _ _ hsz]; exact l2, by simp; omega, HA.out⟩
                case measure => simp only [intOf]; omega
              · have HZ := Lib.hid hz
                rw [hz] at FS
                clear hz
                go_wp2_with fail
                refine (Hf _).out.mono ?_
                rintro e w2 ⟨rfl, hb2⟩
                obtain ⟨hc2, hf2⟩ := bcell hb2
                have hz2' := bsize hb2
                simp only [World.size_alloc] at hz2'
                have k0 : w2.cell? ⟨wo.heap.size, 0, none⟩ = some (.int .i64 wd) := by rw [hc2 _ _ (by simp; omega), (bcell (bl_alloc (Below.refl _ wr) _)).1 _ _ hsz]; exact l0
                have k1 : w2.cell? ⟨wo.heap.size, 1, none⟩ = some (.int .i64 X) := by rw [hc2 _ _ (by simp; omega), (bcell (bl_alloc (Below.refl _ wr) _)).1 _ _ hsz]; exact l1
                have k2 : w2.cell? ⟨wo.heap.size, 2, none⟩ = some (.int .i64 Y) := by rw [hc2 _ _ (by simp; omega), (bcell (bl_alloc (Below.refl _ wr) _)).1 _ _ hsz]; exact l2
                have HB2 := Lib.hid (bl_trans hb2 HA.out)
                clear hc2 hf2 hb2
                go_wp2
                go_roundw
                case rel => exact ⟨j + 1, by omega, by go_num, by rw [FS.out]; rfl, k0, k1, k2, by omega, HB2.out⟩
                case measure => simp only [intOf]; omega
            · obtain rfl : j = n := by omega
              have HWq := Lib.hid (HW.out.trans (HQ.out.mono hBr))
              have HRq := Lib.hid (HR.out.keep HQ.out)
              have hBq : B ≤ wr.heap.size := Nat.le_trans hBr HQ.out.size
              clear HB0 HP
              generalize fits j f wd X Y = z at *
              cases z
              · have SN2 := Lib.hid (SN.out rfl)
                clear SN SY
                go_wp2
                go_roundw
                case rel => exact ⟨b + 1, _, by omega, rfl, by rw [HY.out]; push_cast; omega, by rw [SN2.out]; exact HRq.out, HWq.out⟩
                case measure => simp only [intOf]; omega
              · have SY2 := Lib.hid (SY.out rfl)
                clear SN SY
                have hO2 := Lib.hid HRq.out.owns
                have SL' := sol_length_le j f wd (a * 12 + b)
                go_wp2_with (at_builtin; (refine wpList_append_own _ rfl _ _ 46 rfl B 43 i0 (.agg #[.int .i64 0, .int .i64 0, .int .i64 0]) 3 24 Try.underlying46 hi hz0 hz1 hz2 rfl (by decide) _ (sol j f wd (a * 12 + b)).length _ rfl (hO2.out.alloc _) ⟨wr.heap.size, 0, none⟩ 1 1 [.int .i64 wd, .int .i64 X, .int .i64 Y] rfl rfl (cells3 _ _ _ _ _ _ rfl) (by simp [Value.oneCell']) (by unfold maxLen; omega) (by omega) (by first | omega | (simp; omega)) ?_); intro v' wn hown hgrow _)
                obtain ⟨r1, r2⟩ := LLad.push hBq HRq.out hown hgrow
                have Q1 := Lib.hid r1
                have Q2 := Lib.hid (HWq.out.trans r2)
                clear r1 r2 hown hgrow
                go_wp2
                go_roundw
                case rel => exact ⟨b + 1, _, by omega, rfl, by rw [HY.out]; push_cast; omega, Q1.out.congr (by rw [SY2.out, List.length_append]; rfl) (by rw [SY2.out, Flat.out]), Q2.out⟩
                case measure => simp only [intOf]; omega
        · obtain rfl : b = 12 := by omega
          have hge : 12 < Y := by rw [HY.out]; omega
          have e12 : a * 12 + 12 = (a + 1) * 12 := by omega
          rw [e12] at HR
          clear e12
          go_wp2
          go_roundw
          case rel => exact ⟨a + 1, _, by omega, rfl, by rw [HX.out]; push_cast; omega, HR.out, HW.out⟩
          case measure => simp only [intOf]; omega
    · obtain rfl : a = 12 := by omega
      have hge : 12 < X := by rw [HX.out]; omega
      have HR := Lib.hid hR
      have HW := Lib.hid hW
      clear hR hW
      go_wp2
      go_ret
      exact ⟨_, rfl, by rw [cnt_def]; exact HR.out, HW.out⟩
end Go.Proofs.Ytgghceckpdfogaa
