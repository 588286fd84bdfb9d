/- All whole shadows of a lamp. -/
import Derived.Test.YtcmoilacjpldbaaS1
import Derived.Test.YtcmoilacjpldbaaR2
namespace Go.Proofs.Ytcmoilacjpldbaa
open Go.RowKit
def wsR (l p : Int) : Nat → List (List Int)
  | 0 => []
  | k + 1 => wsR l p k ++ (if p * ((k : Int) + 1) % (l - ((k : Int) + 1)) = 0 ∧ p * ((k : Int) + 1) / (l - ((k : Int) + 1)) ≤ 12 then [[p, (k : Int) + 1, p * ((k : Int) + 1) / (l - ((k : Int) + 1))]] else [])
def ws (l : Int) (m : Nat) : Nat → List (List Int)
  | 0 => []
  | q + 1 => ws l m q ++ wsR l ((q : Int) + 1) m
theorem wsR_len (l p : Int) (k : Nat) : (wsR l p k).length ≤ k := by
  induction k with
  | zero => simp [wsR]
  | succ m ih => simp only [wsR]; split <;> simp <;> omega
theorem ws_len (l : Int) (m q : Nat) (hm : m ≤ 39) : (ws l m q).length ≤ q * 39 := by
  induction q with
  | zero => simp [ws]
  | succ q ih =>
    have := wsR_len l ((q : Int) + 1) m
    simp only [ws, List.length_append]
    omega
theorem wsR_yes {l p h : Int} {k : Nat} (rs : List (List Int)) (hh : h = (k : Int) + 1) (z : p * h % (l - h) = 0) (y : p * h / (l - h) ≤ 12) : rs ++ wsR l p (k + 1) = (rs ++ wsR l p k) ++ [[p, h, p * h / (l - h)]] := by
  subst hh
  simp only [wsR, if_pos (And.intro z y), List.append_assoc]
theorem wsR_no {l p h : Int} {k : Nat} (rs : List (List Int)) (hh : h = (k : Int) + 1) (z : ¬ (p * h % (l - h) = 0 ∧ p * h / (l - h) ≤ 12)) : rs ++ wsR l p (k + 1) = rs ++ wsR l p k := by
  subst hh
  simp only [wsR, if_neg z, List.append_nil]
def wsZ (l : Int) : List (List Int) := if within l 2 40 then ws l (l - 1).toNat 12 else []
theorem wsR_three (l p : Int) (k : Nat) : ∀ r ∈ wsR l p k, r.length ≤ 3 := by
  induction k with
  | zero => simp [wsR]
  | succ m ih =>
    intro r hr
    simp only [wsR, List.mem_append] at hr
    rcases hr with hr | hr
    · exact ih r hr
    · split at hr <;> simp at hr
      subst hr; simp
theorem ws_three (l : Int) (m q : Nat) : ∀ r ∈ ws l m q, r.length ≤ 3 := by
  induction q with
  | zero => simp [ws]
  | succ q ih =>
    intro r hr
    simp only [ws, List.mem_append] at hr
    rcases hr with hr | hr
    · exact ih r hr
    · exact wsR_three _ _ _ r hr
theorem wsZ_tot (l : Int) : tot (fun i => (wsZ l).getD i []) (wsZ l).length ≤ 4000000 := by
  unfold wsZ
  cases h : within l 2 40
  · simp [tot]
  · obtain ⟨h1, h2⟩ := within_true h
    have hl := ws_len l (l - 1).toNat 12 (by omega)
    have := rows_le (ws l (l - 1).toNat 12) 3 468 (ws_three _ _ _) (by omega)
    simp only [if_true]
    omega
theorem cell_one_alloc (w : World) (x : Value) (t : TypeId) (n : Nat) (hn : n = w.heap.size) : ∀ j u, [x][j]? = some u → (w.alloc (.cells #[x] t)).cell? ((⟨n, 0, none⟩ : Addr).add j) = some u := by
  intro j u hj
  subst hn
  match j, hj with
  | 0, hj =>
    simp at hj
    subst hj
    simp [Addr.add]
theorem bl_drewN_any {B : Nat} {w u : World} (h : Below B w u) (n : Nat) : Below B w (u.drewN n) := below_drewN h n
theorem low_one {a b : Int} (ha : 0 ≤ a) (hb : 1 ≤ b) : (a % b = 0 → ld a b = 1 ∧ ln a b = a / b) ∧ (¬ a % b = 0 → ¬ ld a b = 1) := by
  obtain ⟨x, rfl⟩ := Int.eq_ofNat_of_zero_le ha
  obtain ⟨y, rfl⟩ := Int.eq_ofNat_of_zero_le (show 0 ≤ b by omega)
  have hy : 0 < y := by omega
  have e : ((x : Int) % (y : Int) = 0) ↔ y ∣ x := by
    constructor
    · intro h; exact Nat.dvd_of_mod_eq_zero (by exact_mod_cast h)
    · intro h; exact_mod_cast Nat.mod_eq_zero_of_dvd h
  rw [e, ln_nat, ld_nat]
  refine ⟨fun h => ?_, fun h h1 => h ?_⟩
  · rw [Nat.gcd_eq_right h]
    exact ⟨by rw [Nat.div_self hy]; rfl, by simp⟩
  · have h2 : y / Nat.gcd x y = 1 := by exact_mod_cast h1
    have h3 : Nat.gcd x y ∣ y := Nat.gcd_dvd_right x y
    have h4 : y = Nat.gcd x y := by
      have := Nat.div_mul_cancel h3
      rw [h2, Nat.one_mul] at this
      exact this.symm
    rw [h4]
    exact Nat.gcd_dvd_left x y

set_option maxHeartbeats 800000 in
theorem spec_WholeShadows (l : Int) (w : World) :
    Calls Try.prog 57 #[.int .i64 l] w fun e w' => ∃ v, e = .returned (.tuple #[v, .bool (within l 2 40)]) ∧ RRow w' w.heap.size v (wsZ l) ∧ Below w.heap.size w w' := by
  cases h : within l 2 40
  · go_enter Try.func57, Try.ntmps57
    go_wp2_with (go_at_call 66; refine (l1In_any _ _ _ _).mono ?_; rintro e w' ⟨rfl, rfl⟩)
    go_ret2
    exact ⟨_, rfl, by simp [wsZ, h]; exact RRow.nil _ _, (by repeat (first | exact Below.refl _ _ | refine bl_alloc ?_ _ | refine bl_drewN ?_ _ | refine bl_trans (by assumption) ?_ | refine bl_set ?_ (by first | omega | (simp; done) | (simp; omega)) _))⟩
  obtain ⟨h1, h2⟩ := within_true h
  obtain ⟨m, hm⟩ : ∃ m : Nat, m = (l - 1).toNat := ⟨_, rfl⟩
  have hlm : l = (m : Int) + 1 := by omega
  have HLM := Lib.hid hlm
  have HPZ := Lib.hid (show wsZ l = ws l m 12 by simp [wsZ, h, hm])
  have hm39 : m ≤ 39 := by omega
  clear hm hlm
  obtain ⟨i0, hi, hz0, hz1, hz2⟩ := info_parts infoIS
  obtain ⟨B, hB⟩ : ∃ B, w.heap.size = B := ⟨_, rfl⟩
  have hBw : B ≤ w.heap.size := by omega
  rw [hB]
  clear hB
  go_enter Try.func57, Try.ntmps57
  go_wp2_with (go_at_call 66; refine (l1In_any _ _ _ _).mono ?_; rintro e w' ⟨rfl, rfl⟩)
  go_loopw [4, 5] (fun v pl wr => ∃ (q : Nat) (p : Int), q ≤ 12 ∧ pl = .int .i64 p ∧ p = (q : Int) + 1 ∧ RRow wr B v (ws l m q) ∧ Below B w wr) (fun _ pl _ => (13 - (intOf pl)).toNat)
  case atStart => exact ⟨0, _, Nat.zero_le _, rfl, by simp, RRow.nil _ _, Below.refl _ _⟩
  case round =>
    obtain ⟨q, p, hq, rfl, hp, hR, hW⟩ := hrel
    have HP := Lib.hid hp
    have p1 : 1 ≤ p := by omega
    have p2 : p ≤ 13 := by omega
    clear hp
    by_cases hlt : q < 12
    · have hlt' : p ≤ 12 := by rw [HP.out]; omega
      have hql := ws_len l m q hm39
      have HR0 := Lib.hid hR
      have HW0 := Lib.hid hW
      clear hR hW
      go_wp2
      go_loopw [4, 6] (fun v hv wr => ∃ (k : Nat) (h : Int), k ≤ m ∧ hv = .int .i64 h ∧ h = (k : Int) + 1 ∧ RRow wr B v (ws l m q ++ wsR l p k) ∧ Below B w wr) (fun _ hv _ => (l - (intOf hv)).toNat)
      case atStart => exact ⟨0, _, Nat.zero_le _, rfl, by simp, by simpa [wsR] using HR0.out, HW0.out⟩
      case round =>
        clear HR0 HW0
        obtain ⟨k, h, hk, rfl, hh, hR, hW⟩ := hrel
        have hBr : B ≤ wr.heap.size := Nat.le_trans hBw hW.size
        have hkl := wsR_len l p k
        have HF := Lib.hid hh
        have g1 : 1 ≤ h := by omega
        have g2 : h ≤ l := by rw [HLM.out]; omega
        by_cases hlk : k < m
        · have hlt2 : h < l := by rw [HLM.out]; omega
          have hll : (ws l m q ++ wsR l p k).length ≤ 600 := by rw [List.length_append]; omega
          clear hkl
          clear hh
          have hpos : ((l - h) == 0) = false := by simp; omega
          obtain ⟨f1, f2⟩ := mul_bd2 (a := p) (b := h) (m := 12) (k := 40) (by omega) (by omega) (by omega) (by omega)
          have d0 : 0 ≤ p * h / (l - h) := Int.ediv_nonneg f1 (by omega)
          have d1 : p * h / (l - h) ≤ p * h := Int.ediv_le_self _ f1
          have LO := Lib.hid (low_one (a := p * h) (b := l - h) f1 (by omega))
          go_wp2_with fail
          refine (clLow_any _ _ (by omega) (by omega) (by omega) (by omega) _).mono ?_
          rintro e w' ⟨rfl, nn, rfl⟩
          replace hR := RRowF.drewN hR nn
          replace hW := bl_drewN_any hW nn
          replace hBr : B ≤ (wr.drewN nn).heap.size := hBr
          clear hpos
          generalize wr.drewN nn = wr at *
          obtain ⟨LY, LN⟩ := LO.out
          have HW := Lib.hid hW
          clear hW
          by_cases z : p * h % (l - h) = 0
          · by_cases y : p * h / (l - h) ≤ 12
            · have HQ := Lib.hid (wsR_yes (ws l m q) HF.out z y)
              obtain ⟨e1, e2⟩ := LY z
              rw [e1, e2]
              clear LY LN z
              obtain ⟨vs, h1, h3, h4⟩ := hR
              have hO := Lib.hid h1
              have H3 := Lib.hid h3
              have H4 := Lib.hid h4
              clear h1 h3 h4
              generalize hL : (ws l m q ++ wsR l p k).length = L at *
              have HL := Lib.hid hL
              clear hL
              go_wp2_with (at_builtin; refine wpList_append_own _ rfl _ _ 58 rfl B 47 i0 (.slice none 0 0) 1 24 Try.underlying58 hi hz0 hz1 hz2 rfl (by decide) _ _ _ rfl ((hO.out.alloc _).alloc _) ⟨wr.heap.size + 1, 0, none⟩ 1 1 [.slice (some ⟨wr.heap.size, 0, none⟩) 3 3] rfl rfl ?c1 ?c2 ?c3 ?c4 ?c5 ?_)
              all_goals (try exact cell_one_alloc _ _ _ _ (by simp))
              case c2 => simp [Value.oneCell']
              case c3 => unfold maxLen; omega
              case c4 => omega
              case c5 => first | omega | (simp; omega)
              intro v' w1 hown1 hgrow1 _
              have hn := IRow.made wr B [p, h, p * h / (l - h)] hBr (by simp [maxLen])
              have hs1 := hgrow1.size
              simp only [World.size_alloc] at hs1
              rw [← HL.out] at hO H3 H4 hown1
              obtain ⟨r1, r2⟩ := RRow.push (xs := [p, h, p * h / (l - h)]) hBr hO.out H3.out H4.out hn hown1 hgrow1
              rw [← HQ.out] at r1
              have Q1 := Lib.hid r1
              have Q2 := Lib.hid r2
              clear r1 r2 hn hown1 hgrow1
              go_wp2
              go_roundw
              case rel => exact ⟨k + 1, _, by omega, rfl, by rw [HF.out]; omega, Q1.out, HW.out.trans Q2.out⟩
              case measure => simp only [intOf]; omega
            · have HQ := Lib.hid (wsR_no (ws l m q) HF.out (fun c => y c.2))
              obtain ⟨e1, e2⟩ := LY z
              rw [e1, e2]
              clear LY LN z
              have HR := Lib.hid hR
              clear hR
              go_wp2
              go_roundw
              case rel => exact ⟨k + 1, _, by omega, rfl, by rw [HF.out]; omega, by rw [HQ.out]; exact HR.out, HW.out⟩
              case measure => simp only [intOf]; omega
          · have HQ := Lib.hid (wsR_no (ws l m q) HF.out (fun c => z c.1))
            have e1 := LN z
            have e3 : (ld (p * h) (l - h) == 1) = false := by simp [e1]
            clear LY LN z e1
            have HR := Lib.hid hR
            clear hR
            go_wp2
            go_roundw
            case rel => exact ⟨k + 1, _, by omega, rfl, by rw [HF.out]; omega, by rw [HQ.out]; exact HR.out, HW.out⟩
            case measure => simp only [intOf]; omega
        · obtain rfl : k = m := by omega
          have hge : l ≤ h := by rw [HLM.out]; omega
          have HR := Lib.hid (show RRow wr B u4 (ws l k (q + 1)) by simp only [ws]; rw [← HP.out]; exact hR)
          have HW := Lib.hid hW
          clear hR hW hh
          go_wp2
          go_roundw
          case rel => exact ⟨q + 1, _, by omega, rfl, by rw [HP.out]; omega, HR.out, HW.out⟩
          case measure => simp only [intOf]; omega
    · obtain rfl : q = 12 := by omega
      have hge : 12 < p := by rw [HP.out]; omega
      have HR := Lib.hid hR
      have HW := Lib.hid hW
      clear hR hW
      go_wp2
      go_ret2
      exact ⟨_, rfl, by rw [HPZ.out]; exact HR.out, HW.out⟩

set_option maxHeartbeats 800000 in
theorem impl_WholeShadows (l : Int) (w : World) :
    Calls Try.prog 58 #[.int .i64 l] w fun e w' => ∃ v, e = .returned (.tuple #[v, .bool (within l 2 40)]) ∧ RRow w' w.heap.size v (wsZ l) ∧ Below w.heap.size w w' := by
  cases h : within l 2 40
  · go_enter Try.func58, Try.ntmps58
    go_wp2_with (go_at_call 68; refine (isWithin_any _ _ _ _).mono ?_; rintro e w' ⟨rfl, rfl⟩)
    go_ret2
    exact ⟨_, rfl, by simp [wsZ, h]; exact RRow.nil _ _, (by repeat (first | exact Below.refl _ _ | refine bl_alloc ?_ _ | refine bl_drewN ?_ _ | refine bl_trans (by assumption) ?_ | refine bl_set ?_ (by first | omega | (simp; done) | (simp; omega)) _))⟩
  obtain ⟨h1, h2⟩ := within_true h
  obtain ⟨m, hm⟩ : ∃ m : Nat, m = (l - 1).toNat := ⟨_, rfl⟩
  have hlm : l = (m : Int) + 1 := by omega
  have HLM := Lib.hid hlm
  have HPZ := Lib.hid (show wsZ l = ws l m 12 by simp [wsZ, h, hm])
  have hm39 : m ≤ 39 := by omega
  clear hm hlm
  obtain ⟨i0, hi, hz0, hz1, hz2⟩ := info_parts infoIS
  obtain ⟨B, hB⟩ : ∃ B, w.heap.size = B := ⟨_, rfl⟩
  have hBw : B ≤ w.heap.size := by omega
  rw [hB]
  clear hB
  go_enter Try.func58, Try.ntmps58
  go_wp2_with (go_at_call 68; refine (isWithin_any _ _ _ _).mono ?_; rintro e w' ⟨rfl, rfl⟩)
  go_loopw [4, 5] (fun v pl wr => ∃ (q : Nat) (p : Int), q ≤ 12 ∧ pl = .int .i64 p ∧ p = (q : Int) + 1 ∧ RRow wr B v (ws l m q) ∧ Below B w wr) (fun _ pl _ => (13 - (intOf pl)).toNat)
  case atStart => exact ⟨0, _, Nat.zero_le _, rfl, by simp, RRow.nil _ _, Below.refl _ _⟩
  case round =>
    obtain ⟨q, p, hq, rfl, hp, hR, hW⟩ := hrel
    have HP := Lib.hid hp
    have p1 : 1 ≤ p := by omega
    have p2 : p ≤ 13 := by omega
    clear hp
    by_cases hlt : q < 12
    · have hlt' : p ≤ 12 := by rw [HP.out]; omega
      have hql := ws_len l m q hm39
      have HR0 := Lib.hid hR
      have HW0 := Lib.hid hW
      clear hR hW
      go_wp2
      go_loopw [4, 6] (fun v hv wr => ∃ (k : Nat) (h : Int), k ≤ m ∧ hv = .int .i64 h ∧ h = (k : Int) + 1 ∧ RRow wr B v (ws l m q ++ wsR l p k) ∧ Below B w wr) (fun _ hv _ => (l - (intOf hv)).toNat)
      case atStart => exact ⟨0, _, Nat.zero_le _, rfl, by simp, by simpa [wsR] using HR0.out, HW0.out⟩
      case round =>
        clear HR0 HW0
        obtain ⟨k, h, hk, rfl, hh, hR, hW⟩ := hrel
        have hBr : B ≤ wr.heap.size := Nat.le_trans hBw hW.size
        have hkl := wsR_len l p k
        have HF := Lib.hid hh
        have g1 : 1 ≤ h := by omega
        have g2 : h ≤ l := by rw [HLM.out]; omega
        by_cases hlk : k < m
        · have hlt2 : h < l := by rw [HLM.out]; omega
          have hll : (ws l m q ++ wsR l p k).length ≤ 600 := by rw [List.length_append]; omega
          clear hkl
          clear hh
          have hpos : ((l - h) == 0) = false := by simp; omega
          obtain ⟨f1, f2⟩ := mul_bd2 (a := p) (b := h) (m := 12) (k := 40) (by omega) (by omega) (by omega) (by omega)
          have d0 : 0 ≤ p * h / (l - h) := Int.ediv_nonneg f1 (by omega)
          have d1 : p * h / (l - h) ≤ p * h := Int.ediv_le_self _ f1
          have LO := Lib.hid (low_one (a := p * h) (b := l - h) f1 (by omega))
          go_wp2_with fail
          go_quiet (fail)
          replace hR := RRowF.drewN hR nq
          replace hW := bl_drewN_any hW nq
          replace hBr : B ≤ (wr.drewN nq).heap.size := hBr
          clear hpos
          generalize wr.drewN nq = wr at *
          have HW := Lib.hid hW
          clear hW
          by_cases z : p * h % (l - h) = 0
          · by_cases y : p * h / (l - h) ≤ 12
            · have HQ := Lib.hid (wsR_yes (ws l m q) HF.out z y)
              have e3 : (p * h % (l - h) == 0) = true := by rw [z]; rfl
              clear z
              obtain ⟨vs, h1, h3, h4⟩ := hR
              have hO := Lib.hid h1
              have H3 := Lib.hid h3
              have H4 := Lib.hid h4
              clear h1 h3 h4
              generalize hL : (ws l m q ++ wsR l p k).length = L at *
              have HL := Lib.hid hL
              clear hL
              go_wp2_with (at_builtin; refine wpList_append_own _ rfl _ _ 58 rfl B 47 i0 (.slice none 0 0) 1 24 Try.underlying58 hi hz0 hz1 hz2 rfl (by decide) _ _ _ rfl ((hO.out.alloc _).alloc _) ⟨wr.heap.size + 1, 0, none⟩ 1 1 [.slice (some ⟨wr.heap.size, 0, none⟩) 3 3] rfl rfl ?c1 ?c2 ?c3 ?c4 ?c5 ?_)
              all_goals (try exact cell_one_alloc _ _ _ _ (by simp))
              case c2 => simp [Value.oneCell']
              case c3 => unfold maxLen; omega
              case c4 => omega
              case c5 => first | omega | (simp; omega)
              intro v' w1 hown1 hgrow1 _
              have hn := IRow.made wr B [p, h, p * h / (l - h)] hBr (by simp [maxLen])
              have hs1 := hgrow1.size
              simp only [World.size_alloc] at hs1
              rw [← HL.out] at hO H3 H4 hown1
              obtain ⟨r1, r2⟩ := RRow.push (xs := [p, h, p * h / (l - h)]) hBr hO.out H3.out H4.out hn hown1 hgrow1
              rw [← HQ.out] at r1
              have Q1 := Lib.hid r1
              have Q2 := Lib.hid r2
              clear r1 r2 hn hown1 hgrow1
              go_wp2
              go_roundw
              case rel => exact ⟨k + 1, _, by omega, rfl, by rw [HF.out]; omega, Q1.out, HW.out.trans Q2.out⟩
              case measure => simp only [intOf]; omega
            · have HQ := Lib.hid (wsR_no (ws l m q) HF.out (fun c => y c.2))
              have e3 : (p * h % (l - h) == 0) = true := by rw [z]; rfl
              clear z
              have HR := Lib.hid hR
              clear hR
              go_wp2
              go_roundw
              case rel => exact ⟨k + 1, _, by omega, rfl, by rw [HF.out]; omega, by rw [HQ.out]; exact HR.out, HW.out⟩
              case measure => simp only [intOf]; omega
          · have HQ := Lib.hid (wsR_no (ws l m q) HF.out (fun c => z c.1))
            have e3 : (p * h % (l - h) == 0) = false := beq_eq_false_iff_ne.2 z
            clear z
            have HR := Lib.hid hR
            clear hR
            go_wp2
            go_roundw
            case rel => exact ⟨k + 1, _, by omega, rfl, by rw [HF.out]; omega, by rw [HQ.out]; exact HR.out, HW.out⟩
            case measure => simp only [intOf]; omega
        · obtain rfl : k = m := by omega
          have hge : l ≤ h := by rw [HLM.out]; omega
          have HR := Lib.hid (show RRow wr B u4 (ws l k (q + 1)) by simp only [ws]; rw [← HP.out]; exact hR)
          have HW := Lib.hid hW
          clear hR hW hh
          go_wp2
          go_roundw
          case rel => exact ⟨q + 1, _, by omega, rfl, by rw [HP.out]; omega, HR.out, HW.out⟩
          case measure => simp only [intOf]; omega
    · obtain rfl : q = 12 := by omega
      have hge : 12 < p := by rw [HP.out]; omega
      have HR := Lib.hid hR
      have HW := Lib.hid hW
      clear hR hW
      go_wp2
      go_ret2
      exact ⟨_, rfl, by rw [HPZ.out]; exact HR.out, HW.out⟩
end Go.Proofs.Ytcmoilacjpldbaa
