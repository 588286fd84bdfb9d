/- Whole leans, whole ladders, whole leans over square boxes. -/
import Derived.Test.YtjboffbhkffhkaaLN4
namespace Go.Proofs.Ytjboffbhkffhkaa
open Go.RowKit
set_option linter.unusedVariables false
set_option linter.unusedSimpArgs false

theorem own_keep {w w' : World} {B T size : Nat} {v : Value} {n : Nat} {vs : List Value} (h : w.ownsRow B T size v n vs) (k : Below w.heap.size w w') : w'.ownsRow B T size v n vs :=
  World.ownsRow.kept h (only_of_below k none) (by cases hv : v.ownBlock <;> simp)
def gA (p : Int × Int) : List (List Int) := [[p.1, p.2]]
def gW (p : Int × Int) : List (List Int) := if whole (sq p.1 p.2) then [[p.1, p.2, rt (sq p.1 p.2)]] else []
def gS (p : Int × Int) : List (List Int) := if p.1 ≤ p.2 then [[p.1, p.2]] else []
/-- what the first k of the leans give -/
def fmp (g : Int × Int → List (List Int)) (ps : List (Int × Int)) : Nat → List (List Int)
  | 0 => []
  | k + 1 => fmp g ps k ++ g (ps.getD k (0, 0))
theorem fmp_len {g : Int × Int → List (List Int)} (h : ∀ p, (g p).length ≤ 1) (ps : List (Int × Int)) (k : Nat) : (fmp g ps k).length ≤ k := by
  induction k with
  | zero => simp [fmp]
  | succ m ih =>
    have := h (ps.getD m (0, 0))
    simp only [fmp, List.length_append]
    omega
theorem gA_len (p : Int × Int) : (gA p).length ≤ 1 := by simp [gA]
theorem gW_len (p : Int × Int) : (gW p).length ≤ 1 := by unfold gW; split <;> simp
theorem gS_len (p : Int × Int) : (gS p).length ≤ 1 := by unfold gS; split <;> simp
theorem fmp_rows {g : Int × Int → List (List Int)} (h : ∀ p, ∀ r ∈ g p, r.length ≤ 3) (ps : List (Int × Int)) (k : Nat) : ∀ r ∈ fmp g ps k, r.length ≤ 3 := by
  induction k with
  | zero => intro r hr; simp [fmp] at hr
  | succ m ih =>
    intro r hr
    simp only [fmp, List.mem_append] at hr
    rcases hr with hr | hr
    · exact ih r hr
    · exact h _ r hr
theorem gA_rows (p : Int × Int) : ∀ r ∈ gA p, r.length ≤ 3 := by intro r hr; simp [gA] at hr; subst hr; simp
theorem gW_rows (p : Int × Int) : ∀ r ∈ gW p, r.length ≤ 3 := by
  intro r hr
  unfold gW at hr
  split at hr
  · simp at hr; subst hr; simp
  · simp at hr
theorem gS_rows (p : Int × Int) : ∀ r ∈ gS p, r.length ≤ 3 := by
  intro r hr
  unfold gS at hr
  split at hr
  · simp at hr; subst hr; simp
  · simp at hr
theorem fmp_gA (ps : List (Int × Int)) : fmp gA ps ps.length = ps.map pr2 := by
  have h : ∀ k, k ≤ ps.length → fmp gA ps k = (ps.map pr2).take k := by
    intro k
    induction k with
    | zero => intro _; simp [fmp]
    | succ m ih =>
      intro hm
      rw [fmp, ih (by omega), List.take_add_one]
      congr 1
      have e : ps.getD m (0, 0) = ps[m] := by simp [List.getD, show m < ps.length by omega]
      rw [e]
      simp [gA, pr2, show m < ps.length by omega]
  rw [h _ (Nat.le_refl _), List.take_of_length_le (by simp)]
theorem lps_pos (a b : Int) (k : Nat) : 1 ≤ (lps a b (k + 1)).length := by
  induction k with
  | zero =>
    rw [lps_yes (by simp)]
    simp
  | succ m ih =>
    rw [lps]
    simp only [List.length_append]
    omega
theorem LPS_pos {a b : Int} (a1 : 1 ≤ a) (b1 : 1 ≤ b) : 1 ≤ (LPS a b).length := by
  have : 0 < a * b := Int.mul_pos (by omega) (by omega)
  have e : nAB a b = (nAB a b - 1) + 1 := by unfold nAB; omega
  unfold LPS
  rw [e]
  exact lps_pos _ _ _
theorem flat0 (ps : List (Int × Int)) (j : Nat) : flatP ps (j * 2) = (ps.getD j (0, 0)).1 := by
  unfold flatP
  rw [if_pos (by omega), show j * 2 / 2 = j by omega]
theorem flat1 (ps : List (Int × Int)) (j : Nat) : flatP ps (j * 2 + 1) = (ps.getD j (0, 0)).2 := by
  unfold flatP
  rw [if_neg (by omega), show (j * 2 + 1) / 2 = j by omega]
theorem TRow.cells {w : World} {B : Nat} {v : Value} {ps : List (Int × Int)} (h : TRow w B v ps) (h0 : 1 ≤ ps.length) : ∃ g cap, v = .slice (some ⟨g, 0, none⟩) ps.length cap ∧ g < w.heap.size ∧
    ∀ j, j < ps.length → w.cell? ⟨g, j * 2, none⟩ = some (.int .i64 (ps.getD j (0, 0)).1) ∧ w.cell? ⟨g, j * 2 + 1, none⟩ = some (.int .i64 (ps.getD j (0, 0)).2) := by
  rcases ORow.open_ h with ⟨_, hn⟩ | ⟨g, cap, hv, _, hg, _, _, hc, _⟩
  · omega
  · exact ⟨g, cap, hv, hg, fun j hj => ⟨by rw [hc _ (by omega), flat0], by rw [hc _ (by omega), flat1]⟩⟩
def WLN (a b : Int) : List (List Int) := if okBx a b then (LPS a b).map pr2 else []
def WLD (a b : Int) : List (List Int) := if okBx a b then fmp gW (LPS a b) (LPS a b).length else []
def WSQ (s : Int) : List (List Int) := if okSd s then fmp gS (LPS s s) (LPS s s).length else []
theorem fmp_tot {g : Int × Int → List (List Int)} (h1 : ∀ p, (g p).length ≤ 1) (h2 : ∀ p, ∀ r ∈ g p, r.length ≤ 3) {a b : Int} (a1 : 1 ≤ a) (a2 : a ≤ 60) (b1 : 1 ≤ b) (b2 : b ≤ 60) :
    tot (fun i => (fmp g (LPS a b) (LPS a b).length).getD i []) (fmp g (LPS a b) (LPS a b).length).length ≤ 4000000 := by
  have l1 := LPS_len a1 a2 b1 b2
  have l2 := fmp_len h1 (LPS a b) (LPS a b).length
  have := rows_le (fmp g (LPS a b) (LPS a b).length) 3 3600 (fmp_rows h2 _ _) (by omega)
  omega
theorem WLN_tot (a b : Int) : tot (fun i => (WLN a b).getD i []) (WLN a b).length ≤ 4000000 := by
  unfold WLN
  cases h : okBx a b
  · simp [tot]
  · obtain ⟨⟨a1, a2⟩, b1, b2⟩ := okBx_true h
    simp only [if_true]
    rw [← fmp_gA]
    exact fmp_tot gA_len gA_rows a1 a2 b1 b2
theorem WLD_tot (a b : Int) : tot (fun i => (WLD a b).getD i []) (WLD a b).length ≤ 4000000 := by
  unfold WLD
  cases h : okBx a b
  · simp [tot]
  · obtain ⟨⟨a1, a2⟩, b1, b2⟩ := okBx_true h
    simp only [if_true]
    exact fmp_tot gW_len gW_rows a1 a2 b1 b2
theorem WSQ_tot (s : Int) : tot (fun i => (WSQ s).getD i []) (WSQ s).length ≤ 4000000 := by
  unfold WSQ
  cases h : okSd s
  · simp [tot]
  · obtain ⟨a1, a2⟩ := okSd_true h
    simp only [if_true]
    exact fmp_tot gS_len gS_rows a1 a2 a1 a2
set_option maxRecDepth 100000 in
set_option maxHeartbeats 4000000 in
theorem impl_WholeLeans (a b : Int) (w : World) :
    Calls Try.prog 32 #[.agg #[.int .i64 a, .int .i64 b]] w fun e w' => ∃ v, e = .returned (.tuple #[v, .bool (okBx a b)]) ∧ RRow w' w.heap.size v (WLN a b) ∧ Below w.heap.size w w' := by
  cases h1 : okBx a b
  · have HE := Lib.hid (show WLN a b = [] by simp [WLN, h1])
    go_enter Try.func32, Try.ntmps32
    go_wp2_with fail
    refine (impl_IsBox _ _ _).mono ?_
    rintro e w1 ⟨rfl, hbw1⟩
    obtain ⟨hcw1, hfw1⟩ := bcell hbw1
    have hzw1 := bsize hbw1
    (try simp only [World.size_alloc, World.size_setCell] at hzw1)
    have kw1_0_0 : w1.cell? ⟨w.heap.size, 0, none⟩ = some (.int .i64 a) := by rw [hcw1 _ _ (by first | (simp; done) | omega | (simp; omega))]; first | assumption | (simp [go_sem]; done) | (simp [go_sem]; done) | (simp [go_sem, *]; done)
    have kw1_0_1 : w1.cell? ⟨w.heap.size, 1, none⟩ = some (.int .i64 b) := by rw [hcw1 _ _ (by first | (simp; done) | omega | (simp; omega))]; first | assumption | (simp [go_sem]; done) | (simp [go_sem]; done) | (simp [go_sem, *]; done)
    have sw1_0 : w.heap.size < w1.heap.size := by first | omega | (simp at *; omega)
    have hBw1 : Below w.heap.size w w1 := (by repeat (first | exact Below.refl _ _ | refine bl_alloc ?_ _ | refine bl_drewN ?_ _ | refine bl_trans (by assumption) ?_ | refine bl_set ?_ (by first | omega | (simp; done) | (simp; omega)) _))
    have HBw1 := Lib.hid hBw1
    clear hBw1 hcw1 hfw1 hbw1
    rw [h1]
    go_wp2
    go_ret2
    exact ⟨_, rfl, by rw [HE.out]; exact RRow.nil _ _, (by repeat (first | exact HBw1.out | exact Below.refl _ _ | refine bl_alloc ?_ _ | refine bl_drewN ?_ _ | refine bl_trans (by assumption) ?_ | refine bl_set ?_ (by first | omega | (simp; done) | (simp; omega)) _))⟩
  have HE := Lib.hid (show WLN a b = (LPS a b).map pr2 by simp only [WLN, h1]; rfl)
  obtain ⟨⟨a1, a2⟩, b1, b2⟩ := okBx_true h1
  have HC := fun W => Lib.hid (leansOver_any a b a1 a2 b1 b2 W)
  have hln := LPS_len a1 a2 b1 b2
  have hpos := LPS_pos a1 b1
  have HM := Lib.hid (fun j hj => LPS_mem a1 a2 b1 b2 j hj)
  rw [← fmp_gA] at HE
  generalize LPS a b = ps at *
  obtain ⟨i0, ji, iz0, iz1, iz2⟩ := info_parts infoIS
  go_enter Try.func32, Try.ntmps32
  go_wp2_with fail
  refine (impl_IsBox _ _ _).mono ?_
  rintro e w1 ⟨rfl, hbw1⟩
  obtain ⟨hcw1, hfw1⟩ := bcell hbw1
  have hzw1 := bsize hbw1
  (try simp only [World.size_alloc, World.size_setCell] at hzw1)
  have kw1_0_0 : w1.cell? ⟨w.heap.size, 0, none⟩ = some (.int .i64 a) := by rw [hcw1 _ _ (by first | (simp; done) | omega | (simp; omega))]; first | assumption | (simp [go_sem]; done) | (simp [go_sem]; done) | (simp [go_sem, *]; done)
  have kw1_0_1 : w1.cell? ⟨w.heap.size, 1, none⟩ = some (.int .i64 b) := by rw [hcw1 _ _ (by first | (simp; done) | omega | (simp; omega))]; first | assumption | (simp [go_sem]; done) | (simp [go_sem]; done) | (simp [go_sem, *]; done)
  have sw1_0 : w.heap.size < w1.heap.size := by first | omega | (simp at *; omega)
  have hBw1 : Below w.heap.size w w1 := (by repeat (first | exact Below.refl _ _ | refine bl_alloc ?_ _ | refine bl_drewN ?_ _ | refine bl_trans (by assumption) ?_ | refine bl_set ?_ (by first | omega | (simp; done) | (simp; omega)) _))
  have HBw1 := Lib.hid hBw1
  clear hBw1 hcw1 hfw1 hbw1
  rw [h1]
  go_wp2_with fail
  refine ((HC _).out).mono ?_
  rintro e w1 ⟨v, rfl, hR, hb⟩
  obtain ⟨g, cap, rfl, hg, hc⟩ := TRow.cells hR hpos
  have HCL := Lib.hid hc
  have HBW := Lib.hid (show Below w.heap.size w w1 from (by repeat (first | exact HBw1.out | exact Below.refl _ _ | refine bl_alloc ?_ _ | refine bl_drewN ?_ _ | refine bl_trans (by assumption) ?_ | refine bl_set ?_ (by first | omega | (simp; done) | (simp; omega)) _)))
  have hz1 : w.heap.size ≤ w1.heap.size := HBW.out.size
  generalize hN : ps.length = N at *
  have HN := Lib.hid hN
  clear hc hR hN hb
  go_wp2_with fail
  go_loopw [4, 13] (fun r t wr => ∃ k : Nat, k ≤ N ∧ t = .int .i64 (k : Int) ∧ RRow wr w1.heap.size r (fmp gA ps k) ∧ Below w1.heap.size w1 wr) (fun _ t _ => (N + 1 - (intOf t).toNat))
  case atStart => exact ⟨0, by omega, by simp, RRow.nil _ _, Below.refl _ _⟩
  case round =>
    obtain ⟨k, hk, rfl, hI, hB⟩ := hrel
    have HB := Lib.hid hB
    have hzz := hB.size
    by_cases hlt : k < N
    · have hlt' : (k : Int) < (N : Int) := by omega
      obtain ⟨c0, c1⟩ := HCL.out k hlt
      have c0 := cell_after hB hg c0
      have c1 := cell_after hB hg c1
      have bds := HM.out k hlt
      clear hB
      generalize hx : (ps.getD k (0, 0)).1 = x at *
      generalize hy : (ps.getD k (0, 0)).2 = y at *
      have HQ := Lib.hid (show fmp gA ps (k + 1) = fmp gA ps k ++ [[x, y]] by rw [fmp, gA, hx, hy])
      clear hx hy
      obtain ⟨vs, g1, g3, g4⟩ := hI
      have hlen := fmp_len gA_len ps k
      have H1 := Lib.hid g1
      have H3 := Lib.hid g3
      have H4 := Lib.hid g4
      have hO := Lib.hid g1
      clear g1 g3 g4
      generalize hL : (fmp gA ps k).length = L at *
      have HL := Lib.hid hL
      clear hL
      go_wp2_with (at_builtin; refine wpList_append_own _ rfl _ _ 34 rfl w1.heap.size 39 i0 (.slice none 0 0) 1 24 Try.underlying34 ji iz0 iz1 iz2 rfl (by decide) _ _ _ rfl (((hO.out.alloc _).alloc _).alloc _) ⟨wr.heap.size + 1 + 1, 0, none⟩ 1 1 [.slice (some ⟨wr.heap.size + 1, 0, none⟩) 2 2] rfl rfl ?c1 ?c2 ?c3 ?c4 ?c5 ?_)
      all_goals (try exact cell_one_alloc _ _ _ _ (by simp))
      case c2 => simp [Value.oneCell']
      case c3 => unfold maxLen; omega
      case c4 => omega
      case c5 => first | omega | (simp; omega)
      intro v' wn hown1 hgrow1 _
      have hnw := IRow.made (wr.alloc (.cells #[.int .i64 x, .int .i64 y] 65)) w1.heap.size [x, y] (by simp; omega) (by simp [maxLen])
      rw [← HL.out, show wr.heap.size + 1 = (wr.alloc (.cells #[.int .i64 x, .int .i64 y] 65)).heap.size from (World.size_alloc _ _).symm] at hown1
      rw [← HL.out] at H3 H4
      obtain ⟨r1, r2⟩ := RRow.push (rs := fmp gA ps k) (xs := [x, y]) (wr := (wr.alloc (.cells #[.int .i64 x, .int .i64 y] 65))) (by simp; omega) (by rw [HL.out]; exact (own_keep H1.out (bl_alloc (Below.refl _ _) _))) (fun i hi => (H3.out i hi).keep (bl_alloc (Below.refl _ _) _)) H4.out hnw hown1 hgrow1
      rw [← HQ.out] at r1
      have Q1 := Lib.hid r1
      have Q2 := Lib.hid (HB.out.trans (((Below.refl w1.heap.size wr).alloc (by omega) _).trans r2))
      clear r1 r2 hown1 hgrow1 hnw
      go_wp2
      go_roundw
      case rel => exact ⟨k + 1, by omega, by go_num, Q1.out, Q2.out⟩
      case measure => simp only [intOf]; omega
    · obtain rfl : k = N := by omega
      have HI := Lib.hid hI
      clear hB hI
      go_wp2
      go_ret2
      exact ⟨_, rfl, by rw [HE.out]; exact HI.out.mono (by omega), bl_trans HB.out HBW.out⟩
set_option maxRecDepth 100000 in
set_option maxHeartbeats 4000000 in
theorem impl_WholeLadders (a b : Int) (w : World) :
    Calls Try.prog 37 #[.agg #[.int .i64 a, .int .i64 b]] w fun e w' => ∃ v, e = .returned (.tuple #[v, .bool (okBx a b)]) ∧ RRow w' w.heap.size v (WLD a b) ∧ Below w.heap.size w w' := by
  cases h1 : okBx a b
  · have HE := Lib.hid (show WLD a b = [] by simp [WLD, h1])
    go_enter Try.func37, Try.ntmps37
    go_wp2_with fail
    refine (impl_IsBox _ _ _).mono ?_
    rintro e w1 ⟨rfl, hbw1⟩
    obtain ⟨hcw1, hfw1⟩ := bcell hbw1
    have hzw1 := bsize hbw1
    (try simp only [World.size_alloc, World.size_setCell] at hzw1)
    have kw1_0_0 : w1.cell? ⟨w.heap.size, 0, none⟩ = some (.int .i64 a) := by rw [hcw1 _ _ (by first | (simp; done) | omega | (simp; omega))]; first | assumption | (simp [go_sem]; done) | (simp [go_sem]; done) | (simp [go_sem, *]; done)
    have kw1_0_1 : w1.cell? ⟨w.heap.size, 1, none⟩ = some (.int .i64 b) := by rw [hcw1 _ _ (by first | (simp; done) | omega | (simp; omega))]; first | assumption | (simp [go_sem]; done) | (simp [go_sem]; done) | (simp [go_sem, *]; done)
    have sw1_0 : w.heap.size < w1.heap.size := by first | omega | (simp at *; omega)
    have hBw1 : Below w.heap.size w w1 := (by repeat (first | exact Below.refl _ _ | refine bl_alloc ?_ _ | refine bl_drewN ?_ _ | refine bl_trans (by assumption) ?_ | refine bl_set ?_ (by first | omega | (simp; done) | (simp; omega)) _))
    have HBw1 := Lib.hid hBw1
    clear hBw1 hcw1 hfw1 hbw1
    rw [h1]
    go_wp2
    go_ret2
    exact ⟨_, rfl, by rw [HE.out]; exact RRow.nil _ _, (by repeat (first | exact HBw1.out | exact Below.refl _ _ | refine bl_alloc ?_ _ | refine bl_drewN ?_ _ | refine bl_trans (by assumption) ?_ | refine bl_set ?_ (by first | omega | (simp; done) | (simp; omega)) _))⟩
  have HE := Lib.hid (show WLD a b = fmp gW (LPS a b) (LPS a b).length by simp only [WLD, h1]; rfl)
  obtain ⟨⟨a1, a2⟩, b1, b2⟩ := okBx_true h1
  have HC := fun W => Lib.hid (leansOver_any a b a1 a2 b1 b2 W)
  have hln := LPS_len a1 a2 b1 b2
  have hpos := LPS_pos a1 b1
  have HM := Lib.hid (fun j hj => LPS_mem a1 a2 b1 b2 j hj)
  generalize LPS a b = ps at *
  obtain ⟨i0, ji, iz0, iz1, iz2⟩ := info_parts infoIS
  go_enter Try.func37, Try.ntmps37
  go_wp2_with fail
  refine (impl_IsBox _ _ _).mono ?_
  rintro e w1 ⟨rfl, hbw1⟩
  obtain ⟨hcw1, hfw1⟩ := bcell hbw1
  have hzw1 := bsize hbw1
  (try simp only [World.size_alloc, World.size_setCell] at hzw1)
  have kw1_0_0 : w1.cell? ⟨w.heap.size, 0, none⟩ = some (.int .i64 a) := by rw [hcw1 _ _ (by first | (simp; done) | omega | (simp; omega))]; first | assumption | (simp [go_sem]; done) | (simp [go_sem]; done) | (simp [go_sem, *]; done)
  have kw1_0_1 : w1.cell? ⟨w.heap.size, 1, none⟩ = some (.int .i64 b) := by rw [hcw1 _ _ (by first | (simp; done) | omega | (simp; omega))]; first | assumption | (simp [go_sem]; done) | (simp [go_sem]; done) | (simp [go_sem, *]; done)
  have sw1_0 : w.heap.size < w1.heap.size := by first | omega | (simp at *; omega)
  have hBw1 : Below w.heap.size w w1 := (by repeat (first | exact Below.refl _ _ | refine bl_alloc ?_ _ | refine bl_drewN ?_ _ | refine bl_trans (by assumption) ?_ | refine bl_set ?_ (by first | omega | (simp; done) | (simp; omega)) _))
  have HBw1 := Lib.hid hBw1
  clear hBw1 hcw1 hfw1 hbw1
  rw [h1]
  go_wp2_with fail
  refine ((HC _).out).mono ?_
  rintro e w1 ⟨v, rfl, hR, hb⟩
  obtain ⟨g, cap, rfl, hg, hc⟩ := TRow.cells hR hpos
  have HCL := Lib.hid hc
  have HBW := Lib.hid (show Below w.heap.size w w1 from (by repeat (first | exact HBw1.out | exact Below.refl _ _ | refine bl_alloc ?_ _ | refine bl_drewN ?_ _ | refine bl_trans (by assumption) ?_ | refine bl_set ?_ (by first | omega | (simp; done) | (simp; omega)) _)))
  have hz1 : w.heap.size ≤ w1.heap.size := HBW.out.size
  generalize hN : ps.length = N at *
  have HN := Lib.hid hN
  clear hc hR hN hb
  go_wp2_with fail
  go_loopw [4, 15] (fun r t wr => ∃ k : Nat, k ≤ N ∧ t = .int .i64 (k : Int) ∧ RRow wr w1.heap.size r (fmp gW ps k) ∧ Below w1.heap.size w1 wr) (fun _ t _ => (N + 1 - (intOf t).toNat))
  case atStart => exact ⟨0, by omega, by simp, RRow.nil _ _, Below.refl _ _⟩
  case round =>
    obtain ⟨k, hk, rfl, hI, hB⟩ := hrel
    have HB := Lib.hid hB
    have hzz := hB.size
    by_cases hlt : k < N
    · have hlt' : (k : Int) < (N : Int) := by omega
      obtain ⟨c0, c1⟩ := HCL.out k hlt
      have c0 := cell_after hB hg c0
      have c1 := cell_after hB hg c1
      have bds := HM.out k hlt
      clear hB
      generalize hx : (ps.getD k (0, 0)).1 = x at *
      generalize hy : (ps.getD k (0, 0)).2 = y at *
      obtain ⟨⟨x1, x2⟩, y1, y2⟩ := bds
      obtain ⟨_, _, t1, t2⟩ := sq_bd (a := x) (b := y) (by omega) (by omega) (by omega) (by omega)
      have HS := fun W => Lib.hid (squareOfLength_any x y (by omega) (by omega) (by omega) (by omega) W)
      have HW := fun W => Lib.hid (wholeRoot_any (sq x y) t1 (by omega) W)
      cases hw : whole (sq x y)
      · have HQ := Lib.hid (show fmp gW ps (k + 1) = fmp gW ps k by rw [fmp, gW, hx, hy, hw]; simp)
        clear hx hy
        generalize sq x y = S at *
        generalize rt S = R at *
        have HR := Lib.hid (show RRow (wr.alloc (.cells #[.int .i64 x, .int .i64 y] 65)) w1.heap.size u4 (fmp gW ps k) from hI.keep (bl_alloc (Below.refl _ _) _))
        have Q2 := Lib.hid (show Below w1.heap.size w1 (wr.alloc (.cells #[.int .i64 x, .int .i64 y] 65)) from HB.out.trans ((Below.refl w1.heap.size wr).alloc (by omega) _))
        clear hI
        go_wp2_with fail
        refine ((HS _).out).mono ?_
        rintro e w' ⟨rfl, rfl⟩
        go_wp2_with fail
        refine ((HW _).out).mono ?_
        rintro e w' ⟨rfl, rfl⟩
        rw [hw]
        go_wp2
        go_roundw
        case rel => exact ⟨k + 1, by omega, by go_num, by rw [HQ.out]; exact HR.out, Q2.out⟩
        case measure => simp only [intOf]; omega
      · have HQ := Lib.hid (show fmp gW ps (k + 1) = fmp gW ps k ++ [[x, y, rt (sq x y)]] by rw [fmp, gW, hx, hy, hw]; rfl)
        clear hx hy
        generalize sq x y = S at *
        generalize rt S = R at *
        obtain ⟨vs, g1, g3, g4⟩ := hI
        have hlen := fmp_len gW_len ps k
        have H1 := Lib.hid g1
        have H3 := Lib.hid g3
        have H4 := Lib.hid g4
        have hO := Lib.hid g1
        clear g1 g3 g4
        generalize hL : (fmp gW ps k).length = L at *
        have HL := Lib.hid hL
        clear hL
        go_wp2_with fail
        refine ((HS _).out).mono ?_
        rintro e w' ⟨rfl, rfl⟩
        go_wp2_with fail
        refine ((HW _).out).mono ?_
        rintro e w' ⟨rfl, rfl⟩
        rw [hw]
        go_wp2_with (at_builtin; refine wpList_append_own _ rfl _ _ 34 rfl w1.heap.size 39 i0 (.slice none 0 0) 1 24 Try.underlying34 ji iz0 iz1 iz2 rfl (by decide) _ _ _ rfl (((hO.out.alloc _).alloc _).alloc _) ⟨wr.heap.size + 1 + 1, 0, none⟩ 1 1 [.slice (some ⟨wr.heap.size + 1, 0, none⟩) 3 3] rfl rfl ?c1 ?c2 ?c3 ?c4 ?c5 ?_)
        all_goals (try exact cell_one_alloc _ _ _ _ (by simp))
        case c2 => simp [Value.oneCell']
        case c3 => unfold maxLen; omega
        case c4 => omega
        case c5 => first | omega | (simp; omega)
        intro v' wn hown1 hgrow1 _
        have hnw := IRow.made (wr.alloc (.cells #[.int .i64 x, .int .i64 y] 65)) w1.heap.size [x, y, R] (by simp; omega) (by simp [maxLen])
        rw [← HL.out, show wr.heap.size + 1 = (wr.alloc (.cells #[.int .i64 x, .int .i64 y] 65)).heap.size from (World.size_alloc _ _).symm] at hown1
        rw [← HL.out] at H3 H4
        obtain ⟨r1, r2⟩ := RRow.push (rs := fmp gW ps k) (xs := [x, y, R]) (wr := (wr.alloc (.cells #[.int .i64 x, .int .i64 y] 65))) (by simp; omega) (by rw [HL.out]; exact (own_keep H1.out (bl_alloc (Below.refl _ _) _))) (fun i hi => (H3.out i hi).keep (bl_alloc (Below.refl _ _) _)) H4.out hnw hown1 hgrow1
        rw [← HQ.out] at r1
        have Q1 := Lib.hid r1
        have Q2 := Lib.hid (HB.out.trans (((Below.refl w1.heap.size wr).alloc (by omega) _).trans r2))
        clear r1 r2 hown1 hgrow1 hnw
        go_wp2
        go_roundw
        case rel => exact ⟨k + 1, by omega, by go_num, Q1.out, Q2.out⟩
        case measure => simp only [intOf]; omega
    · obtain rfl : k = N := by omega
      have HI := Lib.hid hI
      clear hB hI
      go_wp2
      go_ret2
      exact ⟨_, rfl, by rw [HE.out]; exact HI.out.mono (by omega), bl_trans HB.out HBW.out⟩
set_option maxRecDepth 100000 in
set_option maxHeartbeats 4000000 in
theorem impl_WholeSquareLeans (s : Int) (w : World) :
    Calls Try.prog 54 #[.int .i64 s] w fun e w' => ∃ v, e = .returned (.tuple #[v, .bool (okSd s)]) ∧ RRow w' w.heap.size v (WSQ s) ∧ Below w.heap.size w w' := by
  cases h1 : okSd s
  · have HE := Lib.hid (show WSQ s = [] by simp [WSQ, h1])
    go_enter Try.func54, Try.ntmps54
    go_wp2_with fail
    refine (isSideOfBox_any _ _).mono ?_
    rintro e w' ⟨rfl, rfl⟩
    rw [h1]
    go_wp2
    go_ret2
    exact ⟨_, rfl, by rw [HE.out]; exact RRow.nil _ _, (by repeat (first | exact Below.refl _ _ | refine bl_alloc ?_ _ | refine bl_drewN ?_ _ | refine bl_trans (by assumption) ?_ | refine bl_set ?_ (by first | omega | (simp; done) | (simp; omega)) _))⟩
  have HE := Lib.hid (show WSQ s = fmp gS (LPS s s) (LPS s s).length by simp only [WSQ, h1]; rfl)
  obtain ⟨a1, a2⟩ := okSd_true h1
  have b1 := a1
  have b2 := a2
  have HC := fun W => Lib.hid (leansOver_any s s a1 a2 b1 b2 W)
  have hln := LPS_len a1 a2 b1 b2
  have hpos := LPS_pos a1 b1
  have HM := Lib.hid (fun j hj => LPS_mem a1 a2 b1 b2 j hj)
  generalize LPS s s = ps at *
  obtain ⟨i0, ji, iz0, iz1, iz2⟩ := info_parts infoIS
  go_enter Try.func54, Try.ntmps54
  go_wp2_with fail
  refine (isSideOfBox_any _ _).mono ?_
  rintro e w' ⟨rfl, rfl⟩
  rw [h1]
  go_wp2_with fail
  refine ((HC _).out).mono ?_
  rintro e w1 ⟨v, rfl, hR, hb⟩
  obtain ⟨g, cap, rfl, hg, hc⟩ := TRow.cells hR hpos
  have HCL := Lib.hid hc
  have HBW := Lib.hid (show Below w.heap.size w w1 from (by repeat (first | exact Below.refl _ _ | refine bl_alloc ?_ _ | refine bl_drewN ?_ _ | refine bl_trans (by assumption) ?_ | refine bl_set ?_ (by first | omega | (simp; done) | (simp; omega)) _)))
  have hz1 : w.heap.size ≤ w1.heap.size := HBW.out.size
  generalize hN : ps.length = N at *
  have HN := Lib.hid hN
  clear hc hR hN hb
  go_wp2_with fail
  go_loopw [4, 15] (fun r t wr => ∃ k : Nat, k ≤ N ∧ t = .int .i64 (k : Int) ∧ RRow wr w1.heap.size r (fmp gS ps k) ∧ Below w1.heap.size w1 wr) (fun _ t _ => (N + 1 - (intOf t).toNat))
  case atStart => exact ⟨0, by omega, by simp, RRow.nil _ _, Below.refl _ _⟩
  case round =>
    obtain ⟨k, hk, rfl, hI, hB⟩ := hrel
    have HB := Lib.hid hB
    have hzz := hB.size
    by_cases hlt : k < N
    · have hlt' : (k : Int) < (N : Int) := by omega
      obtain ⟨c0, c1⟩ := HCL.out k hlt
      have c0 := cell_after hB hg c0
      have c1 := cell_after hB hg c1
      have bds := HM.out k hlt
      clear hB
      generalize hx : (ps.getD k (0, 0)).1 = x at *
      generalize hy : (ps.getD k (0, 0)).2 = y at *
      by_cases hw : x ≤ y
      · have HQ := Lib.hid (show fmp gS ps (k + 1) = fmp gS ps k ++ [[x, y]] by rw [fmp, gS, hx, hy, if_pos hw])
        clear hx hy
        obtain ⟨vs, g1, g3, g4⟩ := hI
        have hlen := fmp_len gS_len ps k
        have H1 := Lib.hid g1
        have H3 := Lib.hid g3
        have H4 := Lib.hid g4
        have hO := Lib.hid g1
        clear g1 g3 g4
        generalize hL : (fmp gS ps k).length = L at *
        have HL := Lib.hid hL
        clear hL
        go_wp2_with (at_builtin; refine wpList_append_own _ rfl _ _ 34 rfl w1.heap.size 39 i0 (.slice none 0 0) 1 24 Try.underlying34 ji iz0 iz1 iz2 rfl (by decide) _ _ _ rfl (((hO.out.alloc _).alloc _).alloc _) ⟨wr.heap.size + 1 + 1, 0, none⟩ 1 1 [.slice (some ⟨wr.heap.size + 1, 0, none⟩) 2 2] rfl rfl ?c1 ?c2 ?c3 ?c4 ?c5 ?_)
        all_goals (try exact cell_one_alloc _ _ _ _ (by simp))
        case c2 => simp [Value.oneCell']
        case c3 => unfold maxLen; omega
        case c4 => omega
        case c5 => first | omega | (simp; omega)
        intro v' wn hown1 hgrow1 _
        have hnw := IRow.made (wr.alloc (.cells #[.int .i64 x, .int .i64 y] 65)) w1.heap.size [x, y] (by simp; omega) (by simp [maxLen])
        rw [← HL.out, show wr.heap.size + 1 = (wr.alloc (.cells #[.int .i64 x, .int .i64 y] 65)).heap.size from (World.size_alloc _ _).symm] at hown1
        rw [← HL.out] at H3 H4
        obtain ⟨r1, r2⟩ := RRow.push (rs := fmp gS ps k) (xs := [x, y]) (wr := (wr.alloc (.cells #[.int .i64 x, .int .i64 y] 65))) (by simp; omega) (by rw [HL.out]; exact (own_keep H1.out (bl_alloc (Below.refl _ _) _))) (fun i hi => (H3.out i hi).keep (bl_alloc (Below.refl _ _) _)) H4.out hnw hown1 hgrow1
        rw [← HQ.out] at r1
        have Q1 := Lib.hid r1
        have Q2 := Lib.hid (HB.out.trans (((Below.refl w1.heap.size wr).alloc (by omega) _).trans r2))
        clear r1 r2 hown1 hgrow1 hnw
        go_wp2
        go_roundw
        case rel => exact ⟨k + 1, by omega, by go_num, Q1.out, Q2.out⟩
        case measure => simp only [intOf]; omega
      · have HQ := Lib.hid (show fmp gS ps (k + 1) = fmp gS ps k by rw [fmp, gS, hx, hy, if_neg hw, List.append_nil])
        clear hx hy
        have HR := Lib.hid (show RRow (wr.alloc (.cells #[.int .i64 x, .int .i64 y] 65)) w1.heap.size u4 (fmp gS ps k) from hI.keep (bl_alloc (Below.refl _ _) _))
        have Q2 := Lib.hid (show Below w1.heap.size w1 (wr.alloc (.cells #[.int .i64 x, .int .i64 y] 65)) from HB.out.trans ((Below.refl w1.heap.size wr).alloc (by omega) _))
        clear hI
        go_wp2
        go_roundw
        case rel => exact ⟨k + 1, by omega, by go_num, by rw [HQ.out]; exact HR.out, Q2.out⟩
        case measure => simp only [intOf]; omega
    · obtain rfl : k = N := by omega
      have HI := Lib.hid hI
      clear hB hI
      go_wp2
      go_ret2
      exact ⟨_, rfl, by rw [HE.out]; exact HI.out.mono (by omega), bl_trans HB.out HBW.out⟩
set_option maxRecDepth 100000 in
set_option maxHeartbeats 1000000 in
theorem spec_WholeLeans (a b : Int) (w : World) :
    Calls Try.prog 31 #[.agg #[.int .i64 a, .int .i64 b]] w fun e w' => ∃ v, e = .returned (.tuple #[v, .bool (okBx a b)]) ∧ RRow w' w.heap.size v (WLN a b) ∧ Below w.heap.size w w' := by
  cases h1 : okBx a b
  · have HE := Lib.hid (show WLN a b = [] by simp [WLN, h1])
    go_enter Try.func31, Try.ntmps31
    go_wp2_with fail
    refine (spec_lnBox _ _ _).mono ?_
    rintro e w1 ⟨rfl, hbw1⟩
    obtain ⟨hcw1, hfw1⟩ := bcell hbw1
    have hzw1 := bsize hbw1
    (try simp only [World.size_alloc, World.size_setCell] at hzw1)
    have kw1_0_0 : w1.cell? ⟨w.heap.size, 0, none⟩ = some (.int .i64 a) := by rw [hcw1 _ _ (by first | (simp; done) | omega | (simp; omega))]; first | assumption | (simp [go_sem]; done) | (simp [go_sem]; done) | (simp [go_sem, *]; done)
    have kw1_0_1 : w1.cell? ⟨w.heap.size, 1, none⟩ = some (.int .i64 b) := by rw [hcw1 _ _ (by first | (simp; done) | omega | (simp; omega))]; first | assumption | (simp [go_sem]; done) | (simp [go_sem]; done) | (simp [go_sem, *]; done)
    have sw1_0 : w.heap.size < w1.heap.size := by first | omega | (simp at *; omega)
    have hBw1 : Below w.heap.size w w1 := (by repeat (first | exact Below.refl _ _ | refine bl_alloc ?_ _ | refine bl_drewN ?_ _ | refine bl_trans (by assumption) ?_ | refine bl_set ?_ (by first | omega | (simp; done) | (simp; omega)) _))
    have HBw1 := Lib.hid hBw1
    clear hBw1 hcw1 hfw1 hbw1
    rw [h1]
    go_wp2
    go_ret2
    exact ⟨_, rfl, by rw [HE.out]; exact RRow.nil _ _, (by repeat (first | exact HBw1.out | exact Below.refl _ _ | refine bl_alloc ?_ _ | refine bl_drewN ?_ _ | refine bl_trans (by assumption) ?_ | refine bl_set ?_ (by first | omega | (simp; done) | (simp; omega)) _))⟩
  have HE := Lib.hid (show WLN a b = (LPS a b).map pr2 by simp only [WLN, h1]; rfl)
  obtain ⟨⟨a1, a2⟩, b1, b2⟩ := okBx_true h1
  have HC := fun W => Lib.hid (lnLeans_any a b a1 a2 b1 b2 W)
  go_enter Try.func31, Try.ntmps31
  go_wp2_with fail
  refine (spec_lnBox _ _ _).mono ?_
  rintro e w1 ⟨rfl, hbw1⟩
  obtain ⟨hcw1, hfw1⟩ := bcell hbw1
  have hzw1 := bsize hbw1
  (try simp only [World.size_alloc, World.size_setCell] at hzw1)
  have kw1_0_0 : w1.cell? ⟨w.heap.size, 0, none⟩ = some (.int .i64 a) := by rw [hcw1 _ _ (by first | (simp; done) | omega | (simp; omega))]; first | assumption | (simp [go_sem]; done) | (simp [go_sem]; done) | (simp [go_sem, *]; done)
  have kw1_0_1 : w1.cell? ⟨w.heap.size, 1, none⟩ = some (.int .i64 b) := by rw [hcw1 _ _ (by first | (simp; done) | omega | (simp; omega))]; first | assumption | (simp [go_sem]; done) | (simp [go_sem]; done) | (simp [go_sem, *]; done)
  have sw1_0 : w.heap.size < w1.heap.size := by first | omega | (simp at *; omega)
  have hBw1 : Below w.heap.size w w1 := (by repeat (first | exact Below.refl _ _ | refine bl_alloc ?_ _ | refine bl_drewN ?_ _ | refine bl_trans (by assumption) ?_ | refine bl_set ?_ (by first | omega | (simp; done) | (simp; omega)) _))
  have HBw1 := Lib.hid hBw1
  clear hBw1 hcw1 hfw1 hbw1
  rw [h1]
  go_wp2_with fail
  refine ((HC _).out).mono ?_
  rintro e w2 ⟨v, rfl, hR, hb⟩
  have HR := Lib.hid hR
  clear hR
  go_wp2
  go_ret2
  exact ⟨_, rfl, by rw [HE.out]; exact HR.out.mono (by first | omega | (simp; omega)), (by repeat (first | exact HBw1.out | exact Below.refl _ _ | refine bl_alloc ?_ _ | refine bl_drewN ?_ _ | refine bl_trans (by assumption) ?_ | refine bl_set ?_ (by first | omega | (simp; done) | (simp; omega)) _))⟩
theorem RRow.cells {w : World} {B : Nat} {v : Value} {ps : List (Int × Int)} (h : RRow w B v (ps.map pr2)) (h0 : 1 ≤ ps.length) : ∃ (g cap : Nat) (vs : List Value), v = .slice (some ⟨g, 0, none⟩) ps.length cap ∧ g < w.heap.size ∧ vs.length = ps.length ∧
    (∀ i j, i < j → j < ps.length → (vs.getD i (.bool false)).ownBlock = none ∨ (vs.getD i (.bool false)).ownBlock ≠ (vs.getD j (.bool false)).ownBlock) ∧
    ∀ j, j < ps.length → w.cell? ⟨g, j, none⟩ = some (vs.getD j (.bool false)) ∧ ∃ q c, vs.getD j (.bool false) = .slice (some ⟨q, 0, none⟩) 2 c ∧ q < w.heap.size ∧ IRow w B (vs.getD j (.bool false)) [(ps.getD j (0, 0)).1, (ps.getD j (0, 0)).2] ∧
      w.cell? ⟨q, 0, none⟩ = some (.int .i64 (ps.getD j (0, 0)).1) ∧ w.cell? ⟨q, 1, none⟩ = some (.int .i64 (ps.getD j (0, 0)).2) := by
  obtain ⟨vs, h1, h3, h4⟩ := h
  rw [List.length_map] at h1 h3 h4
  have h1' := h1
  obtain ⟨h2, ⟨rfl, hn⟩ | ⟨g, cap, cur, rfl, hB, hg, hn, hm, hs, ht⟩⟩ := h1
  · omega
  have hvl : vs.length = ps.length := by omega
  refine ⟨g, cap, vs, rfl, (Array.getElem?_eq_some_iff.1 hg).1, hvl, h4, fun j hj => ?_⟩
  have hI : IRow w B (vs.getD j (.bool false)) ((ps.map pr2).getD j []) := h3 j hj
  have e : (ps.map pr2).getD j [] = [(ps.getD j (0, 0)).1, (ps.getD j (0, 0)).2] := by
    simp [List.getD, hj, pr2]
  rw [e] at hI
  refine ⟨?_, ?_⟩
  · rw [h1'.cellAt j (by omega)]
    simp [List.getD, show j < vs.length by omega]
  · obtain ⟨q, c, hv, _, hq, _, _, hc, _⟩ := hI.some_ (by simp)
    exact ⟨q, c, hv, hq, hI, by simpa using hc 0 (by simp), by simpa using hc 1 (by simp)⟩
set_option maxRecDepth 100000 in
set_option maxHeartbeats 4000000 in
theorem spec_WholeLadders (a b : Int) (w : World) :
    Calls Try.prog 36 #[.agg #[.int .i64 a, .int .i64 b]] w fun e w' => ∃ v, e = .returned (.tuple #[v, .bool (okBx a b)]) ∧ RRow w' w.heap.size v (WLD a b) ∧ Below w.heap.size w w' := by
  cases h1 : okBx a b
  · have HE := Lib.hid (show WLD a b = [] by simp [WLD, h1])
    go_enter Try.func36, Try.ntmps36
    go_wp2_with fail
    refine (spec_lnBox _ _ _).mono ?_
    rintro e w1 ⟨rfl, hbw1⟩
    obtain ⟨hcw1, hfw1⟩ := bcell hbw1
    have hzw1 := bsize hbw1
    (try simp only [World.size_alloc, World.size_setCell] at hzw1)
    have kw1_0_0 : w1.cell? ⟨w.heap.size, 0, none⟩ = some (.int .i64 a) := by rw [hcw1 _ _ (by first | (simp; done) | omega | (simp; omega))]; first | assumption | (simp [go_sem]; done) | (simp [go_sem]; done) | (simp [go_sem, *]; done)
    have kw1_0_1 : w1.cell? ⟨w.heap.size, 1, none⟩ = some (.int .i64 b) := by rw [hcw1 _ _ (by first | (simp; done) | omega | (simp; omega))]; first | assumption | (simp [go_sem]; done) | (simp [go_sem]; done) | (simp [go_sem, *]; done)
    have sw1_0 : w.heap.size < w1.heap.size := by first | omega | (simp at *; omega)
    have hBw1 : Below w.heap.size w w1 := (by repeat (first | exact Below.refl _ _ | refine bl_alloc ?_ _ | refine bl_drewN ?_ _ | refine bl_trans (by assumption) ?_ | refine bl_set ?_ (by first | omega | (simp; done) | (simp; omega)) _))
    have HBw1 := Lib.hid hBw1
    clear hBw1 hcw1 hfw1 hbw1
    rw [h1]
    go_wp2
    go_ret2
    exact ⟨_, rfl, by rw [HE.out]; exact RRow.nil _ _, (by repeat (first | exact HBw1.out | exact Below.refl _ _ | refine bl_alloc ?_ _ | refine bl_drewN ?_ _ | refine bl_trans (by assumption) ?_ | refine bl_set ?_ (by first | omega | (simp; done) | (simp; omega)) _))⟩
  have HE := Lib.hid (show WLD a b = fmp gW (LPS a b) (LPS a b).length by simp only [WLD, h1]; rfl)
  obtain ⟨⟨a1, a2⟩, b1, b2⟩ := okBx_true h1
  have HC := fun W => Lib.hid (lnLeans_any a b a1 a2 b1 b2 W)
  have hln := LPS_len a1 a2 b1 b2
  have hpos := LPS_pos a1 b1
  have HM := Lib.hid (fun j hj => LPS_mem a1 a2 b1 b2 j hj)
  generalize LPS a b = ps at *
  obtain ⟨i0, ji, iz0, iz1, iz2⟩ := info_parts infoIS
  go_enter Try.func36, Try.ntmps36
  go_wp2_with fail
  refine (spec_lnBox _ _ _).mono ?_
  rintro e w1 ⟨rfl, hbw1⟩
  obtain ⟨hcw1, hfw1⟩ := bcell hbw1
  have hzw1 := bsize hbw1
  (try simp only [World.size_alloc, World.size_setCell] at hzw1)
  have kw1_0_0 : w1.cell? ⟨w.heap.size, 0, none⟩ = some (.int .i64 a) := by rw [hcw1 _ _ (by first | (simp; done) | omega | (simp; omega))]; first | assumption | (simp [go_sem]; done) | (simp [go_sem]; done) | (simp [go_sem, *]; done)
  have kw1_0_1 : w1.cell? ⟨w.heap.size, 1, none⟩ = some (.int .i64 b) := by rw [hcw1 _ _ (by first | (simp; done) | omega | (simp; omega))]; first | assumption | (simp [go_sem]; done) | (simp [go_sem]; done) | (simp [go_sem, *]; done)
  have sw1_0 : w.heap.size < w1.heap.size := by first | omega | (simp at *; omega)
  have hBw1 : Below w.heap.size w w1 := (by repeat (first | exact Below.refl _ _ | refine bl_alloc ?_ _ | refine bl_drewN ?_ _ | refine bl_trans (by assumption) ?_ | refine bl_set ?_ (by first | omega | (simp; done) | (simp; omega)) _))
  have HBw1 := Lib.hid hBw1
  clear hBw1 hcw1 hfw1 hbw1
  rw [h1]
  go_wp2_with fail
  refine ((HC _).out).mono ?_
  rintro e w2 ⟨v, rfl, hR, hb⟩
  obtain ⟨g, cap, vs, rfl, hg, hvl, hdis, hc⟩ := RRow.cells hR hpos
  have HCL := Lib.hid hc
  have HDI := Lib.hid hdis
  have HBW := Lib.hid (show Below w.heap.size w w2 from (by repeat (first | exact HBw2.out | exact Below.refl _ _ | refine bl_alloc ?_ _ | refine bl_drewN ?_ _ | refine bl_trans (by assumption) ?_ | refine bl_set ?_ (by first | omega | (simp; done) | (simp; omega)) _)))
  have hz1 : w.heap.size ≤ w2.heap.size := HBW.out.size
  generalize hN : ps.length = N at *
  have HN := Lib.hid hN
  clear hc hR hN hb hdis
  go_wp2_with fail
  go_loopw [4, 15] (fun r t wr => ∃ k : Nat, k ≤ N ∧ t = .int .i64 (k : Int) ∧ RRow wr w2.heap.size r (fmp gW ps k) ∧ Below w2.heap.size w2 wr) (fun _ t _ => (N + 1 - (intOf t).toNat))
  case atStart => exact ⟨0, by omega, by simp, RRow.nil _ _, Below.refl _ _⟩
  case round =>
    obtain ⟨k, hk, rfl, hI, hB⟩ := hrel
    have HB := Lib.hid hB
    have hzz := hB.size
    by_cases hlt : k < N
    · have hlt' : (k : Int) < (N : Int) := by omega
      obtain ⟨c0, q, cq, hv, hq, _, e0, e1⟩ := HCL.out k hlt
      have c0 := cell_after hB hg c0
      rw [hv] at c0
      have e0 := cell_after hB hq e0
      have e1 := cell_after hB hq e1
      have bds := HM.out k hlt
      clear hB hv
      generalize hx : (ps.getD k (0, 0)).1 = x at *
      generalize hy : (ps.getD k (0, 0)).2 = y at *
      obtain ⟨⟨x1, x2⟩, y1, y2⟩ := bds
      obtain ⟨⟨u1, u2⟩, ⟨u3_, u4_⟩, t1, t2⟩ := sq_bd (a := x) (b := y) (by omega) (by omega) (by omega) (by omega)
      have hsq : x * x + y * y = sq x y := rfl
      have HW := fun W => Lib.hid (clRoot_any (sq x y) t1 (by omega) W)
      have hwd := Lib.hid (show whole (sq x y) = (rt (sq x y) * rt (sq x y) == sq x y) from rfl)
      obtain ⟨r0, r1_, _⟩ := rt_facts t1
      have r3 : 0 ≤ rt (sq x y) * rt (sq x y) := Int.mul_nonneg r0 r0
      cases hw : whole (sq x y)
      · have HQ := Lib.hid (show fmp gW ps (k + 1) = fmp gW ps k by rw [fmp, gW, hx, hy, hw]; simp)
        have hwe := hwd.out.symm
        rw [hw] at hwe
        clear hx hy hwd
        generalize sq x y = S at *
        generalize rt S = R at *
        have HI := Lib.hid hI
        clear hI
        go_wp2_with fail
        go_quiet (fail)
        go_wp2_with fail
        refine ((HW _).out).mono ?_
        rintro e w' ⟨rfl, rfl⟩
        go_wp2
        go_roundw
        case rel => exact ⟨k + 1, by omega, by go_num, by rw [HQ.out]; exact RRowF.drewN HI.out _, below_drewN HB.out _⟩
        case measure => simp only [intOf]; omega
      · have HQ := Lib.hid (show fmp gW ps (k + 1) = fmp gW ps k ++ [[x, y, rt (sq x y)]] by rw [fmp, gW, hx, hy, hw]; rfl)
        have hwe := hwd.out.symm
        rw [hw] at hwe
        clear hx hy hwd
        generalize sq x y = S at *
        generalize rt S = R at *
        obtain ⟨vs, g1, g3, g4⟩ := hI
        have hlen := fmp_len gW_len ps k
        have H1 := Lib.hid g1
        have H3 := Lib.hid g3
        have H4 := Lib.hid g4
        have hO := Lib.hid g1
        clear g1 g3 g4
        generalize hL : (fmp gW ps k).length = L at *
        have HL := Lib.hid hL
        clear hL
        go_wp2_with fail
        go_quiet (fail)
        go_wp2_with fail
        refine ((HW _).out).mono ?_
        rintro e w' ⟨rfl, rfl⟩
        have e0 : (wr.drewN nq).drew.cell? ⟨q, 0, none⟩ = some (.int .i64 x) := e0
        have e1 : (wr.drewN nq).drew.cell? ⟨q, 1, none⟩ = some (.int .i64 y) := e1
        have H1 := Lib.hid (show (wr.drewN nq).drew.ownsRow _ _ _ _ _ _ from H1.out)
        have H3 := Lib.hid (show ∀ i, i < L → IRow (wr.drewN nq).drew _ _ _ from H3.out)
        have hO := Lib.hid (show (wr.drewN nq).drew.ownsRow _ _ _ _ _ _ from hO.out)
        have HB := Lib.hid (below_drewN HB.out nq)
        have hzz : w2.heap.size ≤ (wr.drewN nq).heap.size := hzz
        generalize wr.drewN nq = wd at *
        go_wp2_with fail
        go_region_law (refine step_append_lies _ rfl _ _ 34 rfl w2.heap.size 39 i0 (.slice none 0 0) 1 24 Try.underlying34 ji iz0 iz1 iz2 rfl (by decide) _ _ _ rfl (World.ownsRow.alloc (World.ownsRow.alloc (w := wd.drew) hO.out _) _) ⟨_, 0, none⟩ 1 1 [.slice (some ⟨wd.heap.size, 0, none⟩) 3 3] rfl rfl (cell_one_alloc _ _ _ _ (by simp)) (by simp [Value.oneCell']) (by decide) (by unfold maxLen; omega) (by omega) (by simp; omega) _ rfl ?_; intro g3 cp wn hown1 hgrow2 hat hlt2)
        all_goals
          have hnw := IRow.made wd.drew w2.heap.size [x, y, R] (by simp; omega) (by simp [maxLen])
          rw [← HL.out] at hown1 H3 H4
          obtain ⟨r1, r2⟩ := RRow.push (rs := fmp gW ps k) (xs := [x, y, R]) (wr := wd.drew) (by simp; omega) (by rw [HL.out]; exact H1.out) H3.out H4.out hnw hown1 hgrow2
          rw [← HQ.out, HL.out] at r1
          have Q1 := Lib.hid r1
          have Q2 := Lib.hid (HB.out.trans ((show Below w2.heap.size wd wd.drew from Below.drew (Below.refl _ _)).trans r2))
          clear r1 r2 hown1 hgrow2 hnw hat hlt2
          go_wp2
          go_roundw
          case rel => exact ⟨k + 1, by omega, by go_num, Q1.out, Q2.out⟩
          case measure => simp only [intOf]; omega
    · obtain rfl : k = N := by omega
      have HI := Lib.hid hI
      clear hB hI
      go_wp2
      go_ret2
      exact ⟨_, rfl, by rw [HE.out]; exact HI.out.mono (by omega), bl_trans HB.out HBW.out⟩
theorem pair_of {vs : List Value} {n : Nat} (hn : vs.length = n) (h : ∀ i j, i < j → j < n → (vs.getD i (.bool false)).ownBlock = none ∨ (vs.getD i (.bool false)).ownBlock ≠ (vs.getD j (.bool false)).ownBlock) :
    vs.Pairwise fun u v => u.ownBlock = none ∨ u.ownBlock ≠ v.ownBlock := by
  rw [List.pairwise_iff_getElem]
  intro i j hi hj hij
  have := h i j hij (by omega)
  simpa [List.getD, hi, hj] using this
theorem of_pair {vs : List Value} (h : vs.Pairwise fun u v => u.ownBlock = none ∨ u.ownBlock ≠ v.ownBlock) : ∀ i j, i < j → j < vs.length → (vs.getD i (.bool false)).ownBlock = none ∨ (vs.getD i (.bool false)).ownBlock ≠ (vs.getD j (.bool false)).ownBlock := by
  rw [List.pairwise_iff_getElem] at h
  intro i j hij hj
  have := h i j (by omega) hj hij
  simpa [List.getD, hj, show i < vs.length by omega] using this
/-- what was kept of the first k rows -/
structure Kept (w1 : World) (B : Nat) (ps : List (Int × Int)) (vs : List Value) (k : Nat) (us : List Value) : Prop where
  len : us.length = (fmp gS ps k).length
  sub : us.Sublist (vs.take k)
  row : ∀ i, i < us.length → IRow w1 B (us.getD i (.bool false)) ((fmp gS ps k).getD i [])
theorem Kept.nil (w1 : World) (B : Nat) (ps : List (Int × Int)) (vs : List Value) : Kept w1 B ps vs 0 [] := ⟨rfl, by simp, fun i hi => by simp at hi⟩
theorem Kept.no {w1 : World} {B : Nat} {ps : List (Int × Int)} {vs us : List Value} {k : Nat} (h : Kept w1 B ps vs k us) (e : fmp gS ps (k + 1) = fmp gS ps k) : Kept w1 B ps vs (k + 1) us := by
  refine ⟨by rw [e]; exact h.len, ?_, by rw [e]; exact h.row⟩
  rw [List.take_add_one]
  exact h.sub.trans (List.sublist_append_left _ _)
theorem Kept.yes {w1 : World} {B : Nat} {ps : List (Int × Int)} {vs us : List Value} {k : Nat} {xs : List Int} (h : Kept w1 B ps vs k us) (hk : k < vs.length) (e : fmp gS ps (k + 1) = fmp gS ps k ++ [xs]) (hI : IRow w1 B (vs.getD k (.bool false)) xs) :
    Kept w1 B ps vs (k + 1) (us ++ [vs.getD k (.bool false)]) := by
  have ev : vs[k]? = some (vs.getD k (.bool false)) := by simp [List.getD, hk]
  refine ⟨by rw [e]; simp [h.len], ?_, fun i hi => ?_⟩
  · rw [List.take_add_one, ev]
    exact h.sub.append (List.Sublist.refl _)
  · rw [e]
    by_cases hi' : i < us.length
    · have := h.row i hi'
      have h2 := h.len
      simpa [List.getD, List.getElem?_append_left hi', List.getElem?_append_left (show i < (fmp gS ps k).length by omega)] using this
    · have h2 := h.len
      obtain rfl : i = us.length := by simp at hi; omega
      have e1 : (us ++ [vs.getD k (.bool false)]).getD us.length (.bool false) = vs.getD k (.bool false) := by simp [List.getD]
      have e2 : (fmp gS ps k ++ [xs]).getD us.length [] = xs := by rw [h2]; simp [List.getD]
      rw [e1, e2]
      exact hI
set_option maxRecDepth 100000 in
set_option maxHeartbeats 4000000 in
theorem spec_WholeSquareLeans (s : Int) (w : World) :
    Calls Try.prog 53 #[.int .i64 s] w fun e w' => ∃ v, e = .returned (.tuple #[v, .bool (okSd s)]) ∧ RRow w' w.heap.size v (WSQ s) ∧ Below w.heap.size w w' := by
  cases h1 : okSd s
  · have HE := Lib.hid (show WSQ s = [] by simp [WSQ, h1])
    go_enter Try.func53, Try.ntmps53
    go_wp2_with fail
    refine (lnSide_any _ _).mono ?_
    rintro e w' ⟨rfl, rfl⟩
    rw [h1]
    go_wp2
    go_ret2
    exact ⟨_, rfl, by rw [HE.out]; exact RRow.nil _ _, (by repeat (first | exact Below.refl _ _ | refine bl_alloc ?_ _ | refine bl_drewN ?_ _ | refine bl_trans (by assumption) ?_ | refine bl_set ?_ (by first | omega | (simp; done) | (simp; omega)) _))⟩
  have HE := Lib.hid (show WSQ s = fmp gS (LPS s s) (LPS s s).length by simp only [WSQ, h1]; rfl)
  obtain ⟨a1, a2⟩ := okSd_true h1
  have HC := fun W => Lib.hid (lnLeans_any s s a1 a2 a1 a2 W)
  have hln := LPS_len a1 a2 a1 a2
  have hpos := LPS_pos a1 a1
  generalize LPS s s = ps at *
  obtain ⟨i0, ji, iz0, iz1, iz2⟩ := info_parts infoIS
  go_enter Try.func53, Try.ntmps53
  go_wp2_with fail
  refine (lnSide_any _ _).mono ?_
  rintro e w' ⟨rfl, rfl⟩
  rw [h1]
  go_wp2_with fail
  refine ((HC _).out).mono ?_
  rintro e w1 ⟨v, rfl, hR, hb⟩
  obtain ⟨g, cap, vs, rfl, hg, hvl, hdis, hc⟩ := RRow.cells hR hpos
  have HCL := Lib.hid hc
  have HDI := Lib.hid hdis
  have HBW := Lib.hid (show Below w.heap.size w w1 from (by repeat (first | exact Below.refl _ _ | refine bl_alloc ?_ _ | refine bl_drewN ?_ _ | refine bl_trans (by assumption) ?_ | refine bl_set ?_ (by first | omega | (simp; done) | (simp; omega)) _)))
  have hz1 : w.heap.size ≤ w1.heap.size := HBW.out.size
  generalize hN : ps.length = N at *
  have HN := Lib.hid hN
  clear hc hR hN hb hdis
  have HPW := Lib.hid (pair_of hvl HDI.out)
  go_wp2_with fail
  go_loopw [4, 15] (fun r t wr => ∃ (k : Nat) (us : List Value), k ≤ N ∧ t = .int .i64 (k : Int) ∧ wr.ownsRow w1.heap.size 39 1 r us.length us ∧ Kept w1 w.heap.size ps vs k us ∧ Below w1.heap.size w1 wr) (fun _ t _ => (N + 1 - (intOf t).toNat))
  case atStart => exact ⟨0, [], by omega, by simp, World.ownsRow_nil _ _ _ _, Kept.nil _ _ _ _, Below.refl _ _⟩
  case round =>
    obtain ⟨k, us, hk, rfl, hO, hK, hB⟩ := hrel
    have HB := Lib.hid hB
    have HK := Lib.hid hK
    have HO := Lib.hid hO
    have hzz := hB.size
    have hul := hK.len
    have hfl := fmp_len gS_len ps k
    clear hK hO
    by_cases hlt : k < N
    · have hlt' : (k : Int) < (N : Int) := by omega
      obtain ⟨c0, q, cq, hv, hq, hI, e0, e1⟩ := HCL.out k hlt
      have c0 := cell_after hB hg c0
      have HV := Lib.hid hv
      rw [hv] at c0
      have e0 := cell_after hB hq e0
      have e1 := cell_after hB hq e1
      clear hB
      generalize hx : (ps.getD k (0, 0)).1 = x at *
      generalize hy : (ps.getD k (0, 0)).2 = y at *
      have HXI := Lib.hid hI
      clear hI hv
      by_cases hw : x ≤ y
      · have HQ := Lib.hid (show fmp gS ps (k + 1) = fmp gS ps k ++ [[x, y]] by rw [fmp, gS, hx, hy, if_pos hw])
        have HK2 := Lib.hid (Kept.yes HK.out (by omega) HQ.out HXI.out)
        rw [HV.out] at HK2
        clear hx hy HXI HQ
        go_wp2_with fail
        go_quiet (fail)
        have HO := Lib.hid (show (wr.drewN nq).ownsRow _ _ _ _ _ _ from HO.out)
        have HB := Lib.hid (below_drewN HB.out nq)
        have hzz : w1.heap.size ≤ (wr.drewN nq).heap.size := hzz
        generalize wr.drewN nq = wd at *
        go_wp2_with (at_builtin; refine wpList_append_own _ rfl _ _ 34 rfl w1.heap.size 39 i0 (.slice none 0 0) 1 24 Try.underlying34 ji iz0 iz1 iz2 rfl (by decide) _ _ _ rfl (HO.out.alloc _) ⟨wd.heap.size, 0, none⟩ 1 1 [.slice (some ⟨q, 0, none⟩) 2 cq] rfl rfl ?c1 ?c2 ?c3 ?c4 ?c5 ?_)
        all_goals (try exact cell_one_alloc _ _ _ _ (by simp))
        case c2 => simp [Value.oneCell']
        case c3 => unfold maxLen; omega
        case c4 => omega
        case c5 => first | omega | (simp; omega)
        intro v' wn hown1 hgrow1 _
        have r2 : Below w1.heap.size wd wn := ((Below.refl w1.heap.size wd).alloc hzz _).grown hgrow1 (by simp; omega) fun g e => (World.ownsRow.lt HO.out g e).1
        have Q1 := Lib.hid hown1
        have Q2 := Lib.hid (HB.out.trans r2)
        clear r2 hown1 hgrow1
        go_wp2
        go_roundw
        case rel => exact ⟨k + 1, _, by omega, by go_num, by rw [List.length_append, hul]; exact Q1.out, HK2.out, Q2.out⟩
        case measure => simp only [intOf]; omega
      · have HQ := Lib.hid (show fmp gS ps (k + 1) = fmp gS ps k by rw [fmp, gS, hx, hy, if_neg hw, List.append_nil])
        have HK2 := Lib.hid (Kept.no HK.out HQ.out)
        clear hx hy HXI HQ
        go_wp2_with fail
        go_quiet (fail)
        go_wp2
        go_roundw
        case rel => exact ⟨k + 1, _, by omega, by go_num, HO.out, HK2.out, below_drewN HB.out _⟩
        case measure => simp only [intOf]; omega
    · obtain rfl : k = N := by omega
      have HF := Lib.hid (show RRow wr w.heap.size u4 (fmp gS ps k) from ⟨us, by rw [← hul]; exact own_mono HO.out (by omega), fun i hi => (HK.out.row i (by omega)).keep HB.out, fun i j hij hj => of_pair (HPW.out.sublist (HK.out.sub.trans (List.take_sublist _ _))) i j hij (by omega)⟩)
      clear hB HK HO
      go_wp2
      go_ret2
      exact ⟨_, rfl, by rw [HE.out]; exact HF.out, bl_trans HB.out HBW.out⟩
end Go.Proofs.Ytjboffbhkffhkaa
