/- The dark places, by the program and by the model. -/
import Derived.Test.YtophkahaefbkiaaV2
namespace Go.Proofs.Ytophkahaefbkiaa
open Go.RowKit Go.Maps Go.WideMaps
set_option linter.unusedVariables false
set_option linter.unusedSimpArgs false
def dk (l a b q : Int) : Bool := decide (a < q) && decide (0 ≤ line l a b q)
def dkAny (l : Int) (f : Nat → Int) (q : Int) : Nat → Bool
  | 0 => false
  | m + 1 => dkAny l f q m || dk l (f (m * 2)) (f (m * 2 + 1)) q
/-- dark, up to most, by one of the first j poles -/
def Vd (l : Int) (f : Nat → Int) (most : Int) (j : Nat) (q : Int) : Bool := dkAny l f q j && decide (q ≤ most)
/-- the same, and between a pole's place and c -/
def Vc (l : Int) (f : Nat → Int) (most : Int) (j : Nat) (a c q : Int) : Bool := Vd l f most j q || (decide (a < q) && decide (q < c))
def okD (l : Int) (n : Nat) (f : Nat → Int) (most : Int) : Bool := okG l n f && within most 0 500
def DPL (l : Int) (n : Nat) (f : Nat → Int) (most : Int) : List Int := if okD l n f most then upTo (Vd l f most n) 501 else []
theorem dkAny_lo {l : Int} {f : Nat → Int} {q : Int} : ∀ {m : Nat}, (∀ i, i < m → 1 ≤ f (i * 2)) → dkAny l f q m = true → 0 ≤ q
  | 0, _, h => by cases h
  | m + 1, ha, h => by
    simp only [dkAny, Bool.or_eq_true] at h
    rcases h with h | h
    · exact dkAny_lo (fun i hi => ha i (by omega)) h
    · simp only [dk, Bool.and_eq_true, decide_eq_true_eq] at h
      have := ha m (by omega)
      omega
theorem Vd_rng {l : Int} {n : Nat} {f : Nat → Int} {most : Int} (h : okG l n f = true) (hm : most ≤ 500) {m : Nat} (hmn : m ≤ n) (q : Int) (hq : Vd l f most m q = true) : 0 ≤ q ∧ q ≤ 500 := by
  simp only [Vd, Bool.and_eq_true, decide_eq_true_eq] at hq
  exact ⟨dkAny_lo (fun i hi => (okB_true ((okG_true h).2 i (by omega))).2.1.1) hq.1, by omega⟩
theorem Vc_start (l : Int) (f : Nat → Int) (most : Int) (j : Nat) (a q : Int) : Vc l f most j a (a + 1) q = Vd l f most j q := by
  unfold Vc
  by_cases c : a < q
  · have : ¬ q < a + 1 := by omega
    simp [c, this]
  · simp [c]
theorem Vc_step (l : Int) (f : Nat → Int) (most : Int) (j : Nat) {a c : Int} (h : a < c) (q : Int) : Vc l f most j a (c + 1) q = (Vc l f most j a c q || decide (q = c)) := by
  unfold Vc
  rw [Bool.eq_iff_iff]
  simp only [Bool.or_eq_true, Bool.and_eq_true, decide_eq_true_eq]
  constructor
  · rintro (h1 | h1)
    · exact .inl (.inl h1)
    · by_cases e : q = c
      · exact .inr e
      · exact .inl (.inr (by omega))
  · rintro ((h1 | h1) | h1)
    · exact .inl h1
    · exact .inr (by omega)
    · exact .inr (by omega)
theorem line_step {l a b c q : Int} (h : okB l a b = true) (hq : c ≤ q) : line l a b q ≤ line l a b c := by
  obtain ⟨_, _, _, hb⟩ := okB_true h
  unfold line
  have := Int.mul_le_mul_of_nonneg_left hq (show 0 ≤ l - b by omega)
  omega
theorem Vc_end {l : Int} {f : Nat → Int} {most : Int} {j : Nat} {c : Int} (hB : okB l (f (j * 2)) (f (j * 2 + 1)) = true) (hc : f (j * 2) < c) (hd : ∀ q, f (j * 2) < q → q < c → q ≤ most ∧ 0 ≤ line l (f (j * 2)) (f (j * 2 + 1)) q)
    (he : most < c ∨ line l (f (j * 2)) (f (j * 2 + 1)) c < 0) (q : Int) : Vc l f most j (f (j * 2)) c q = Vd l f most (j + 1) q := by
  unfold Vc Vd
  simp only [dkAny, dk]
  rw [Bool.eq_iff_iff]
  simp only [Bool.or_eq_true, Bool.and_eq_true, decide_eq_true_eq]
  constructor
  · rintro (h1 | h1)
    · exact ⟨.inl h1.1, h1.2⟩
    · have := hd q h1.1 h1.2
      exact ⟨.inr ⟨h1.1, this.2⟩, this.1⟩
  · rintro ⟨h1 | h1, h2⟩
    · exact .inl ⟨h1, h2⟩
    · refine .inr ⟨h1.1, ?_⟩
      rcases he with he | he
      · omega
      · by_cases e : q < c
        · exact e
        · have := line_step hB (show c ≤ q by omega)
          omega
theorem IRow.lower {w : World} {B B' : Nat} {v : Value} {xs : List Int} (h : IRow w B v xs) (hb : B' ≤ B) : IRow w B' v xs := by
  obtain ⟨h1, h2⟩ := h
  refine ⟨h1, ?_⟩
  rcases h2 with h2 | ⟨g, cap, cur, e, hB, rest⟩
  · exact .inl h2
  · exact .inr ⟨g, cap, cur, e, Nat.le_trans hb hB, rest⟩
theorem upTo_dark (l : Int) (f : Nat → Int) (n : Nat) {most : Int} {k : Nat} (hk : most < (k : Int)) (h5 : k ≤ 501) : upTo (Vd l f most n) 501 = upTo (Vd l f most n) k :=
  upTo_same 501 h5 fun q h1 _ => by
    have : ¬ (q : Int) ≤ most := by omega
    simp [Vd, this]
theorem DPL_len (l : Int) (n : Nat) (f : Nat → Int) (most : Int) : (DPL l n f most).length ≤ 4000000 := by
  unfold DPL
  split
  · exact Nat.le_trans (upTo_len _ _) (by omega)
  · simp
set_option maxRecDepth 100000 in
set_option maxHeartbeats 2000000 in
theorem impl_DarkPlaces (l : Int) (v : Value) (most : Int) (n : Nat) (f : Nat → Int) (w : World) (h : PRow w v n f) (hcap : ∀ a m c, v = .slice a m c → m ≤ c) :
    Calls Try.prog 19 #[.int .i64 l, v, .int .i64 most] w fun e w' => ∃ u, e = .returned (.tuple #[u, .bool (okD l n f most)]) ∧ IRow w' w.heap.size u (DPL l n f most) ∧ Below w.heap.size w w' := by
  have hl := h.len_le
  have HH := Lib.hid h
  cases h1 : okG l n f
  · obtain ⟨a, c, rfl⟩ := h.shape
    have hD : okD l n f most = false := by simp [okD, h1]
    clear h hcap
    go_enter Try.func19, Try.ntmps19
    go_wp2_with fail
    refine (impl_ArePoles _ _ _ _ _ HH.out).mono ?_
    rintro e w1 ⟨rfl, hb⟩
    rw [h1]
    go_wp2
    go_ret2
    exact ⟨_, by rw [hD]; rfl, by simp only [DPL, hD]; exact IRow.nil _ _, (by repeat (first | exact Below.refl _ _ | refine bl_alloc ?_ _ | refine bl_drewN ?_ _ | refine bl_trans (by assumption) ?_ | refine bl_set ?_ (by first | omega | (simp; done) | (simp; omega)) _))⟩
  cases h2 : within most 0 500
  · obtain ⟨a, c, rfl⟩ := h.shape
    have hD : okD l n f most = false := by simp [okD, h1, h2]
    clear h hcap
    go_enter Try.func19, Try.ntmps19
    go_wp2_with fail
    refine (impl_ArePoles _ _ _ _ _ HH.out).mono ?_
    rintro e w1 ⟨rfl, hb⟩
    rw [h1]
    go_wp2_with (go_at_call 31; refine (isWithin_any _ _ _ _).mono ?_; rintro e w' ⟨rfl, rfl⟩; rw [h2])
    go_ret2
    exact ⟨_, by rw [hD]; rfl, by simp only [DPL, hD]; exact IRow.nil _ _, (by repeat (first | exact Below.refl _ _ | refine bl_alloc ?_ _ | refine bl_drewN ?_ _ | refine bl_trans (by assumption) ?_ | refine bl_set ?_ (by first | omega | (simp; done) | (simp; omega)) _))⟩
  · obtain ⟨hn, hok⟩ := okG_true h1
    obtain ⟨hm0, hm5⟩ := within_true h2
    obtain ⟨b, off, cap, rfl, _⟩ := h.some_ (by omega)
    have hcp : n ≤ cap := hcap _ _ _ rfl
    clear h hcap
    have OK := Lib.hid hok
    clear hok
    have hD : okD l n f most = true := by simp [okD, h1, h2]
    have DZ := Lib.hid (show DPL l n f most = upTo (Vd l f most n) 501 by simp [DPL, hD])
    have G1 := Lib.hid h1
    have G2 := Lib.hid h2
    have GD := Lib.hid hD
    clear h1 h2 hD
    obtain ⟨i0, hi, hz0, hz1, hz2⟩ := info_parts infoI
    have hmm := @run_makeMap Try.prog
    go_enter Try.func19, Try.ntmps19
    go_wp2_with fail
    refine (impl_ArePoles _ _ _ _ _ HH.out).mono ?_
    rintro e w1 ⟨rfl, hb⟩
    rw [G1.out]
    go_wp2_with (go_at_call 31; refine (isWithin_any _ _ _ _).mono ?_; rintro e w' ⟨rfl, rfl⟩; rw [G2.out])
    have hw1 : w.heap.size ≤ w1.heap.size := hb.size
    have HB0 := Lib.hid hb
    clear hb
    go_loopw [24] (fun i wr => ∃ j k : Nat, j ≤ n ∧ i = .int .i64 (j : Int) ∧ k ≤ 501 * j ∧ ISet wr w1.heap.size k (Vd l f most j) ∧ Below w.heap.size w wr) (fun i _ => n - (intOf i).toNat)
    case atStart => exact ⟨0, 0, Nat.zero_le _, rfl, Nat.le_refl _, (BSet.made _ _ _ _ _).congr fun q => by simp [Vd, dkAny], HB0.out.alloc hw1 _⟩
    case round =>
      obtain ⟨j, k, hj, rfl, hk, hS, hW⟩ := hrel
      by_cases hlt : j < n
      · obtain ⟨b', off', cap', hv, hb', hc⟩ := (HH.out.keep hW).some_ (by omega)
        simp only [Value.slice.injEq, Option.some.injEq, Addr.mk.injEq, and_true, true_and] at hv
        obtain ⟨⟨rfl, rfl⟩, rfl⟩ := hv
        obtain ⟨p1, p2⟩ := hc j hlt
        have hlt' : (j : Int) < (n : Int) := by omega
        have HW := Lib.hid hW
        clear hc hW
        have HS := Lib.hid hS
        have hsz := hS.lt
        obtain ⟨⟨l0, l1⟩, ⟨a0, a1⟩, ⟨b0, b1⟩, b2⟩ := okB_true (OK.out j hlt)
        have HOK := Lib.hid (OK.out j hlt)
        clear hS
        go_wp2
        rename World => wo
        go_loopw [11] (fun pl wq => ∃ (c : Int) (k2 : Nat), pl = .int .i64 c ∧ f (j * 2) < c ∧ c ≤ 501 ∧ k2 ≤ 501 * j + c.toNat ∧ (∀ q, f (j * 2) < q → q < c → q ≤ most ∧ 0 ≤ line l (f (j * 2)) (f (j * 2 + 1)) q) ∧ ISet wq w1.heap.size k2 (Vc l f most j (f (j * 2)) c) ∧ wq.cell? ⟨wo.heap.size, 0, none⟩ = some (.int .i64 (f (j * 2))) ∧ wq.cell? ⟨wo.heap.size, 1, none⟩ = some (.int .i64 (f (j * 2 + 1))) ∧ wo.heap.size < wq.heap.size ∧ Below w.heap.size w wq) (fun pl _ => 501 - (intOf pl).toNat)
        case atStart =>
          refine ⟨_, k, rfl, by omega, by omega, by omega, fun q h1 h2 => by omega, (HS.out.alloc _).congr fun q => (Vc_start _ _ _ _ _ _).symm, by simp, by simp, by simp, HW.out.alloc (Nat.le_trans hw1 (Nat.le_of_lt hsz)) _⟩
        case round =>
          clear p1 p2 HS HW
          obtain ⟨c, k2, rfl, hc1, hc5, hk2, hdn, hS, c1, c2, c3, hW⟩ := hrel
          have HS := Lib.hid hS
          have HW := Lib.hid hW
          have HDN := Lib.hid hdn
          clear hS hW hdn
          by_cases hcm : c ≤ most
          · go_wp2_with fail
            refine (lineTimesPlace_any _ _ _ _ HOK.out (by omega) (by omega) _).mono ?_
            rintro e w2 ⟨rfl, hb2⟩
            have HS2 := Lib.hid (HS.out.keep hb2)
            have d1 := cell_after hb2 c3 c1
            have d2 := cell_after hb2 c3 c2
            have d3 : wo.heap.size < w2.heap.size := Nat.lt_of_lt_of_le c3 hb2.size
            have HW2 := Lib.hid (bl_trans hb2 HW.out)
            have hln := line_bd HOK.out (show 0 ≤ c by omega) (show c ≤ 501 by omega)
            obtain ⟨-, -, hl0, hl1⟩ := hln
            clear hb2 c1 c2 c3 HS HW
            generalize hL : line l (f (j * 2)) (f (j * 2 + 1)) c = L at *
            have HL := Lib.hid hL
            clear hL
            by_cases hL0 : 0 ≤ L
            · have hkm : k2 < maxLen := by unfold maxLen; omega
              have hWF : okI6 c := wf_mid (by omega) (by omega)
              go_wp2_with (at_mapUpdate; refine wpList_set_put _ HS2.out rfl _ _ _ 62 rfl keyedI Try.underlying62 Try.underlying4 kI_inj kI_key rfl hkm hWF rfl rfl (key_I hWF) ?_; intro w3 hS3 hg3; have HS3 := Lib.hid hS3; have HG3 := Lib.hid hg3; clear hS3 hg3)
              refine ⟨⟨c + 1, k2 + 1, rfl, by omega, by omega, by omega, fun q h1 h2 => ?_, HS3.out.congr fun q => (Vc_step l f most j hc1 q).symm, ?_, ?_, ?_, ?_⟩, by simp only [intOf]; omega⟩
              · by_cases e : q < c
                · exact HDN.out q h1 e
                · obtain rfl : q = c := by omega
                  exact ⟨hcm, by rw [HL.out]; exact hL0⟩
              · exact (World.cell?_of_block (w := w2) (HG3.out.block _ d3 (by simp; omega))).trans d1
              · exact (World.cell?_of_block (w := w2) (HG3.out.block _ d3 (by simp; omega))).trans d2
              · exact Nat.lt_of_lt_of_le d3 HG3.out.size
              · exact HW2.out.grown HG3.out HW2.out.size (fun q e => by simp only [Option.some.injEq] at e; omega)
            · go_wp2
              exact ⟨⟨j + 1, k2, by omega, by go_num, by omega, HS2.out.congr fun q => Vc_end HOK.out hc1 HDN.out (.inr (by rw [HL.out]; omega)) q, HW2.out⟩, by simp only [intOf]; omega⟩
          · go_wp2
            exact ⟨⟨j + 1, k2, by omega, by go_num, by omega, HS.out.congr fun q => Vc_end HOK.out hc1 HDN.out (.inl (by omega)) q, HW.out⟩, by simp only [intOf]; omega⟩
      · obtain rfl : j = n := by omega
        have HS := Lib.hid hS
        have HW := Lib.hid hW
        clear hS hW
        go_wp2_with fail
        refine (takeInOrder_any _ _ _ (Vd_rng G1.out hm5 (Nat.le_refl _)) _ HS.out).mono ?_
        rintro e w2 ⟨r, rfl, hR, hg⟩
        have HR2 := Lib.hid hR
        have HG2 := Lib.hid hg
        clear hR hg
        go_wp2
        go_ret2
        refine ⟨_, by rw [GD.out]; rfl, by rw [DZ.out]; exact HR2.out.lower HW.out.size, HW.out.grown HG2.out HW.out.size (fun q e => by simp only [Option.some.injEq] at e; omega)⟩
set_option maxRecDepth 100000 in
set_option maxHeartbeats 2000000 in
theorem spec_DarkPlaces (l : Int) (v : Value) (most : Int) (n : Nat) (f : Nat → Int) (w : World) (h : PRow w v n f) (hcap : ∀ a m c, v = .slice a m c → m ≤ c) :
    Calls Try.prog 17 #[.int .i64 l, v, .int .i64 most] w fun e w' => ∃ u, e = .returned (.tuple #[u, .bool (okD l n f most)]) ∧ IRow w' w.heap.size u (DPL l n f most) ∧ Below w.heap.size w w' := by
  have hl := h.len_le
  have HH := Lib.hid h
  cases h1 : okG l n f
  · obtain ⟨a, c, rfl⟩ := h.shape
    have hD : okD l n f most = false := by simp [okD, h1]
    clear h hcap
    go_enter Try.func17, Try.ntmps17
    go_wp2_with fail
    refine (spec_swGood _ _ _ _ _ HH.out).mono ?_
    rintro e w1 ⟨rfl, hb⟩
    rw [h1]
    go_wp2
    go_ret2
    exact ⟨_, by rw [hD]; rfl, by simp only [DPL, hD]; exact IRow.nil _ _, (by repeat (first | exact Below.refl _ _ | refine bl_alloc ?_ _ | refine bl_drewN ?_ _ | refine bl_trans (by assumption) ?_ | refine bl_set ?_ (by first | omega | (simp; done) | (simp; omega)) _))⟩
  cases h2 : within most 0 500
  · obtain ⟨a, c, rfl⟩ := h.shape
    have hD : okD l n f most = false := by simp [okD, h1, h2]
    clear h hcap
    go_enter Try.func17, Try.ntmps17
    go_wp2_with fail
    refine (spec_swGood _ _ _ _ _ HH.out).mono ?_
    rintro e w1 ⟨rfl, hb⟩
    rw [h1]
    go_wp2_with (go_at_call 29; refine (l1In_any _ _ _ _).mono ?_; rintro e w' ⟨rfl, rfl⟩; rw [h2])
    go_ret2
    exact ⟨_, by rw [hD]; rfl, by simp only [DPL, hD]; exact IRow.nil _ _, (by repeat (first | exact Below.refl _ _ | refine bl_alloc ?_ _ | refine bl_drewN ?_ _ | refine bl_trans (by assumption) ?_ | refine bl_set ?_ (by first | omega | (simp; done) | (simp; omega)) _))⟩
  · obtain ⟨hn, hok⟩ := okG_true h1
    obtain ⟨hm0, hm5⟩ := within_true h2
    obtain ⟨b, off, cap, rfl, _⟩ := h.some_ (by omega)
    have hcp : n ≤ cap := hcap _ _ _ rfl
    clear h hcap
    have OK := Lib.hid hok
    clear hok
    have hD : okD l n f most = true := by simp [okD, h1, h2]
    have DZ := Lib.hid (show DPL l n f most = upTo (Vd l f most n) 501 by simp [DPL, hD])
    have G1 := Lib.hid h1
    have G2 := Lib.hid h2
    have GD := Lib.hid hD
    clear h1 h2 hD
    obtain ⟨i0, hi, hz0, hz1, hz2⟩ := info_parts infoI
    go_enter Try.func17, Try.ntmps17
    go_wp2_with fail
    refine (spec_swGood _ _ _ _ _ HH.out).mono ?_
    rintro e w1 ⟨rfl, hb⟩
    rw [G1.out]
    go_wp2_with (go_at_call 29; refine (l1In_any _ _ _ _).mono ?_; rintro e w' ⟨rfl, rfl⟩; rw [G2.out])
    have HB0 := Lib.hid hb
    clear hb
    go_loopw [8, 9] (fun u pl wr => ∃ c : Nat, (c : Int) ≤ most + 1 ∧ pl = .int .i64 (c : Int) ∧ IRow wr w.heap.size u (upTo (Vd l f most n) c) ∧ Below w.heap.size w wr) (fun _ pl _ => 501 - (intOf pl).toNat)
    case atStart => exact ⟨0, by omega, rfl, IRow.nil _ _, HB0.out⟩
    case round =>
      obtain ⟨c, hc, rfl, hR, hW⟩ := hrel
      by_cases hcm : (c : Int) ≤ most
      · have HR := Lib.hid hR
        have HW := Lib.hid hW
        clear hR hW
        go_wp2
        rename World => wo
        go_loopw [10, 29] (fun dd i wq => ∃ j : Nat, j ≤ n ∧ dd = .bool (dkAny l f (c : Int) j) ∧ i = .int .i64 (j : Int) ∧ Below wo.heap.size wo wq) (fun _ i _ => n - (intOf i).toNat)
        case atStart => exact ⟨0, Nat.zero_le _, rfl, rfl, Below.refl _ _⟩
        case round =>
          obtain ⟨j, hj, rfl, rfl, hV⟩ := hrel
          by_cases hlt : j < n
          · obtain ⟨b', off', cap', hv, hb', hc'⟩ := (HH.out.keep (bl_trans hV HW.out)).some_ (by omega)
            simp only [Value.slice.injEq, Option.some.injEq, Addr.mk.injEq, and_true, true_and] at hv
            obtain ⟨⟨rfl, rfl⟩, rfl⟩ := hv
            obtain ⟨p1, p2⟩ := hc' j hlt
            have hlt' : (j : Int) < (n : Int) := by omega
            have HV := Lib.hid hV
            obtain ⟨⟨l0, l1⟩, ⟨a0, a1⟩, ⟨b0, b1⟩, b2⟩ := okB_true (OK.out j hlt)
            have HOK := Lib.hid (OK.out j hlt)
            obtain ⟨⟨m1, m2⟩, ⟨m3, m4⟩, -⟩ := line_bd HOK.out (show (0 : Int) ≤ (c : Int) by omega) (show (c : Int) ≤ 501 by omega)
            have hcx : (0 : Int) ≤ (c : Int) := by omega
            have hc5 : (c : Int) ≤ 500 := by omega
            have e1 : (c : Int) * (l - f (j * 2 + 1)) = (l - f (j * 2 + 1)) * (c : Int) := Int.mul_comm _ _
            have e2 : f (j * 2) * l = l * f (j * 2) := Int.mul_comm _ _
            have hD1 : dk l (f (j * 2)) (f (j * 2 + 1)) (c : Int) = (decide (f (j * 2) < (c : Int)) && decide ((c : Int) * (l - f (j * 2 + 1)) ≤ f (j * 2) * l)) := by
              unfold dk line
              rw [e1, e2]
              congr 1
              simp only [decide_eq_decide]
              omega
            rw [← e1] at m3 m4
            rw [← e2] at m1 m2
            generalize hX : (c : Int) * (l - f (j * 2 + 1)) = X at *
            generalize hY : f (j * 2) * l = Y at *
            have HX := Lib.hid hX
            have HY := Lib.hid hY
            clear hc' hV hX hY e1 e2
            cases hd : dkAny l f (c : Int) j
            · by_cases g : f (j * 2) < (c : Int)
              · by_cases g2 : X ≤ Y
                · have HD := Lib.hid (show dkAny l f (c : Int) (j + 1) = true by simp [dkAny, hd, hD1, g, g2])
                  clear hd hD1
                  go_wp2
                  go_roundw
                  case rel => exact ⟨j + 1, by omega, by rw [HD.out, HX.out, HY.out, IntWalk.wrap64_in X ⟨by omega, by omega⟩, IntWalk.wrap64_in Y ⟨by omega, by omega⟩]; simp [g2], by go_num, bl_alloc HV.out _⟩
                  case measure => simp only [intOf]; omega
                · have HD := Lib.hid (show dkAny l f (c : Int) (j + 1) = false by simp [dkAny, hd, hD1, g, g2])
                  clear hd hD1
                  go_wp2
                  go_roundw
                  case rel => exact ⟨j + 1, by omega, by rw [HD.out, HX.out, HY.out, IntWalk.wrap64_in X ⟨by omega, by omega⟩, IntWalk.wrap64_in Y ⟨by omega, by omega⟩]; simp [g2], by go_num, bl_alloc HV.out _⟩
                  case measure => simp only [intOf]; omega
              · have HD := Lib.hid (show dkAny l f (c : Int) (j + 1) = false by simp [dkAny, hd, hD1, g])
                clear hd hD1
                go_wp2
                go_roundw
                case rel => exact ⟨j + 1, by omega, by rw [HD.out], by go_num, bl_alloc HV.out _⟩
                case measure => simp only [intOf]; omega
            · have HD := Lib.hid (show dkAny l f (c : Int) (j + 1) = true by simp [dkAny, hd])
              clear hd hD1
              go_wp2
              go_roundw
              case rel => exact ⟨j + 1, by omega, by rw [HD.out], by go_num, bl_alloc HV.out _⟩
              case measure => simp only [intOf]; omega
          · obtain rfl : j = n := by omega
            have HWW := Lib.hid (bl_trans hV HW.out)
            have HBW := Lib.hid HWW.out.size
            have HR2 := Lib.hid (HR.out.keep hV)
            have hcm' : (c : Int) ≤ most := hcm
            have hVd : Vd l f most j (c : Int) = dkAny l f (c : Int) j := by simp [Vd, hcm]
            clear hV HR HW
            cases t : dkAny l f (c : Int) j
            · have HQ := Lib.hid (upTo_no (V := Vd l f most j) (k := c) (by rw [hVd, t]))
              clear t hVd
              go_wp2
              go_roundw
              case rel => exact ⟨c + 1, by omega, by go_num, by rw [HQ.out]; exact HR2.out, HWW.out⟩
              case measure => simp only [intOf]; omega
            · have HQ := Lib.hid (upTo_yes (V := Vd l f most j) (k := c) (by rw [hVd, t]))
              have hll := upTo_len (Vd l f most j) c
              have hO := Lib.hid (show wr.ownsRow w.heap.size 3 1 u8 (upTo (Vd l f most j) c).length ((upTo (Vd l f most j) c).map (Value.int .i64)) from HR2.out)
              have hbw := HBW.out
              clear t hVd
              generalize hL : (upTo (Vd l f most j) c).length = L at *
              have HL := Lib.hid hL
              clear hL
              go_wp2_with (at_builtin; refine wpList_append_own _ rfl _ _ 35 rfl w.heap.size 3 i0 (.int .i64 0) 1 8 Try.underlying35 hi hz0 hz1 hz2 rfl (by decide) _ _ _ rfl (hO.out.alloc _) ⟨wr.heap.size, 0, none⟩ 1 1 [.int .i64 (c : Int)] rfl rfl ?c1 ?c2 ?c3 ?c4 ?c5 ?_)
              all_goals (try exact cell_one_alloc _ _ _ _ (by simp))
              case c2 => simp [Value.oneCell']
              case c3 => unfold maxLen; omega
              case c4 => omega
              case c5 => first | omega | (simp; omega)
              intro v' w3 hown1 hgrow1 _
              have hs1 := hgrow1.size
              simp only [World.size_alloc] at hs1
              rw [← HL.out] at hown1
              obtain ⟨r1, r2⟩ := IRow.push (x := (c : Int)) (W := wr) HBW.out HR2.out hown1 hgrow1
              rw [← HQ.out] at r1
              have Q1 := Lib.hid r1
              have Q2 := Lib.hid (HWW.out.trans r2)
              clear r1 r2 hown1 hgrow1
              go_wp2
              go_roundw
              case rel => exact ⟨c + 1, by omega, by go_num, Q1.out, Q2.out⟩
              case measure => simp only [intOf]; omega
      · have HR := Lib.hid hR
        have HW := Lib.hid hW
        have HQ := Lib.hid (upTo_dark l f n (most := most) (k := c) (by omega) (by omega))
        clear hR hW
        go_wp2
        go_ret2
        exact ⟨_, by rw [GD.out]; rfl, by rw [DZ.out, HQ.out]; exact HR.out, HW.out⟩
end Go.Proofs.Ytophkahaefbkiaa
