/- Chapter 6: tables of shadows, by the program and by the model alike. -/
import Derived.Test.YtkcncjoekbbolaaWK4
import Derived.Test.YtkcncjoekbbolaaR2
namespace Go.Proofs.Ytkcncjoekbbolaa
open Go.RowKit
set_option linter.unusedVariables false
set_option linter.unusedSimpArgs false
theorem own_mono {w : World} {B C : Nat} {T size : Nat} {v : Value} {n : Nat} {xs : List Value} (h : w.ownsRow C T size v n xs) (hb : B ≤ C) : w.ownsRow B T size v n xs := by
  obtain ⟨h1, h2⟩ := h
  refine ⟨h1, ?_⟩
  rcases h2 with h2 | ⟨g, cap, cur, e, hB, rest⟩
  · exact .inl h2
  · exact .inr ⟨g, cap, cur, e, Nat.le_trans hb hB, rest⟩
theorem RRow.mono {w : World} {B C : Nat} {v : Value} {rs : List (List Int)} (h : RRow w C v rs) (hb : B ≤ C) : RRow w B v rs := by
  obtain ⟨vs, h1, h3, h4⟩ := h
  exact ⟨vs, own_mono h1 hb, fun i hi => own_mono (h3 i hi) hb, h4⟩
theorem RRow.keep {w w' : World} {B : Nat} {v : Value} {rs : List (List Int)} (h : RRow w B v rs) (k : Below w.heap.size w w') : RRow w' B v rs := RRowF.keep h k
theorem cell_one_alloc (w : World) (x : Value) (t : TypeId) (n : Nat) (hn : n = w.heap.size) : ∀ j u, [x][j]? = some u → (w.alloc (.cells #[x] t)).cell? ((⟨n, 0, none⟩ : Addr).add j) = some u := by
  intro j u hj
  subst hn
  match j, hj with
  | 0, hj =>
    simp at hj
    subst hj
    simp [Addr.add]
theorem own_keep {w w' : World} {B T size : Nat} {v : Value} {n : Nat} {vs : List Value} (h : w.ownsRow B T size v n vs) (k : Below w.heap.size w w') : w'.ownsRow B T size v n vs :=
  World.ownsRow.kept h (only_of_below k none) (by cases hv : v.ownBlock <;> simp)
def shR (l h p s : Int) (k : Nat) : List Int := [ln ((p + s * (k : Int)) * h) (l - h), ld ((p + s * (k : Int)) * h) (l - h)]
def shT (l h p s : Int) : Nat → List (List Int)
  | 0 => []
  | k + 1 => shT l h p s k ++ [shR l h p s k]
theorem shT_len (l h p s : Int) (k : Nat) : (shT l h p s k).length = k := by
  induction k with
  | zero => rfl
  | succ k ih => simp [shT, ih]
theorem shT_two (l h p s : Int) (k : Nat) : ∀ r ∈ shT l h p s k, r.length ≤ 2 := by
  induction k with
  | zero => intro r hr; simp [shT] at hr
  | succ k ih =>
    intro r hr
    simp only [shT, List.mem_append, List.mem_singleton] at hr
    rcases hr with hr | hr
    · exact ih r hr
    · subst hr; simp [shR]
def shZ (l h p s m : Int) : List (List Int) := if okAt l h p s m then shT l h p s (m.toNat + 1) else []
theorem shZ_tot (l h p s m : Int) : tot (fun i => (shZ l h p s m).getD i []) (shZ l h p s m).length ≤ 4000000 := by
  unfold shZ
  cases ho : okAt l h p s m
  · simp [tot]
  · obtain ⟨_, ⟨m1, m2⟩, _, _⟩ := okAt_true ho
    have := rows_le (shT l h p s (m.toNat + 1)) 2 61 (shT_two l h p s _) (by rw [shT_len]; omega)
    simp only [if_true]
    omega
theorem okAt_down {l h p s m k : Int} (ho : okAt l h p s m = true) (k0 : 0 ≤ k) (k1 : k ≤ m) : okAt l h p s k = true := by
  obtain ⟨hk, ⟨m1, m2⟩, x0, x1⟩ := okAt_true ho
  obtain ⟨_, _, ⟨p1, p2⟩, _, _⟩ := okWk_true hk
  have hw : within k 0 60 = true := by simp [within]; omega
  have hx : 0 ≤ p + s * k := by
    rcases Int.le_total 0 s with g | g
    · have := Int.mul_nonneg g k0; omega
    · have := Int.mul_le_mul_of_nonneg_left (a := k) (b := m) (c := -s) k1 (by omega)
      rw [Int.neg_mul, Int.neg_mul] at this
      omega
  simp [okAt, hk, hw, hx]
theorem sh_push {wr w1 : World} {C : Nat} {v v' : Value} {l h p s : Int} {k : Nat} {o2 : Obj} {vs : List Value} (hC : C ≤ wr.heap.size)
    (h1 : wr.ownsRow C 70 1 v k vs) (h3 : ∀ i, i < k → IRow wr C (vs.getD i (.bool false)) ((shT l h p s k).getD i []))
    (h4 : ∀ i j, i < j → j < k → (vs.getD i (.bool false)).ownBlock = none ∨ (vs.getD i (.bool false)).ownBlock ≠ (vs.getD j (.bool false)).ownBlock)
    (hO : w1.ownsRow C 70 1 v' (k + 1) (vs ++ [.slice (some ⟨wr.heap.size, 0, none⟩) 2 2]))
    (hg : ((wr.alloc (.cells #[.int .i64 (ln ((p + s * (k : Int)) * h) (l - h)), .int .i64 (ld ((p + s * (k : Int)) * h) (l - h))] 3)).alloc o2).grownBy w1 v.ownBlock) :
    RRow w1 C v' (shT l h p s (k + 1)) ∧ Below C wr w1 := by
  have hl := shT_len l h p s k
  have hn := IRow.made wr C (shR l h p s k) hC (by simp [maxLen, shR])
  exact RRow.push (rs := shT l h p s k) (xs := shR l h p s k) hC (by rw [hl]; exact h1) (by rw [hl]; exact h3) (by rw [hl]; exact h4) hn (by rw [hl]; exact hO) hg
set_option maxRecDepth 100000 in
set_option maxHeartbeats 4000000 in
theorem spec_ShadowTable (l h p s m : Int) (w : World) :
    Calls Try.prog 45 #[.int .i64 l, .agg #[.int .i64 h, .int .i64 p, .int .i64 s], .int .i64 m] w fun e w' => ∃ v, e = .returned (.tuple #[v, .bool (okAt l h p s m)]) ∧ RRow w' w.heap.size v (shZ l h p s m) ∧ Below w.heap.size w w' := by
  have HP := fun W => Lib.hid (wkPlace_any l h p s m W)
  cases ho : okAt l h p s m
  · rw [ho] at HP
    have HE := Lib.hid (show shZ l h p s m = [] by simp [shZ, ho])
    clear ho
    go_enter Try.func45, Try.ntmps45
    go_wp2_with fail
    refine ((HP _).out).mono ?_
    rintro e w1 ⟨rfl, hbw1⟩
    obtain ⟨hcw1, hfw1⟩ := bcell hbw1
    have hzw1 := bsize hbw1
    (try simp only [World.size_alloc, World.size_setCell] at hzw1)
    have kw1_0_0 : w1.cell? ⟨w.heap.size, 0, none⟩ = some (.int .i64 h) := by rw [hcw1 _ _ (by first | (simp; done) | omega | (simp; omega))]; first | assumption | (simp [go_sem]; done) | (simp [go_sem]; done) | (simp [go_sem, *]; done)
    have kw1_0_1 : w1.cell? ⟨w.heap.size, 1, none⟩ = some (.int .i64 p) := by rw [hcw1 _ _ (by first | (simp; done) | omega | (simp; omega))]; first | assumption | (simp [go_sem]; done) | (simp [go_sem]; done) | (simp [go_sem, *]; done)
    have kw1_0_2 : w1.cell? ⟨w.heap.size, 2, none⟩ = some (.int .i64 s) := by rw [hcw1 _ _ (by first | (simp; done) | omega | (simp; omega))]; first | assumption | (simp [go_sem]; done) | (simp [go_sem]; done) | (simp [go_sem, *]; done)
    have sw1_0 : w.heap.size < w1.heap.size := by first | omega | (simp at *; omega)
    have hBw1 : Below w.heap.size w w1 := (by repeat (first | exact Below.refl _ _ | refine bl_alloc ?_ _ | refine bl_drewN ?_ _ | refine bl_trans (by assumption) ?_ | refine bl_set ?_ (by first | omega | (simp; done) | (simp; omega)) _))
    have HBw1 := Lib.hid hBw1
    clear hBw1 hcw1 hfw1 hbw1
    go_wp2
    go_ret2
    exact ⟨_, rfl, by rw [HE.out]; exact RRow.nil _ _, (by repeat (first | exact HBw1.out | exact Below.refl _ _ | refine bl_alloc ?_ _ | refine bl_drewN ?_ _ | refine bl_trans (by assumption) ?_ | refine bl_set ?_ (by first | omega | (simp; done) | (simp; omega)) _))⟩
  rw [ho] at HP
  have HE := Lib.hid (show shZ l h p s m = shT l h p s (m.toNat + 1) by simp [shZ, ho])
  obtain ⟨_, ⟨m1, m2⟩, _, _⟩ := okAt_true ho
  obtain ⟨n, hn⟩ : ∃ n : Nat, n = m.toNat := ⟨_, rfl⟩
  obtain rfl : m = (n : Int) := by omega
  rw [← hn] at HE
  clear hn
  have HS := fun (k : Nat) (hk : k ≤ n) W => Lib.hid (spec_ShadowAt l h p s (k : Int) W)
  have HK := Lib.hid (fun (k : Nat) (hk : k ≤ n) => okAt_down (k := (k : Int)) ho (by omega) (by omega))
  obtain ⟨i0, ji, iz0, iz1, iz2⟩ := info_parts infoIS
  clear ho
  generalize Z true (p + s * (n : Int)) = y at *
  go_enter Try.func45, Try.ntmps45
  go_wp2_with fail
  refine ((HP _).out).mono ?_
  rintro e w1 ⟨rfl, hbw1⟩
  obtain ⟨hcw1, hfw1⟩ := bcell hbw1
  have hzw1 := bsize hbw1
  (try simp only [World.size_alloc, World.size_setCell] at hzw1)
  have kw1_0_0 : w1.cell? ⟨w.heap.size, 0, none⟩ = some (.int .i64 h) := by rw [hcw1 _ _ (by first | (simp; done) | omega | (simp; omega))]; first | assumption | (simp [go_sem]; done) | (simp [go_sem]; done) | (simp [go_sem, *]; done)
  have kw1_0_1 : w1.cell? ⟨w.heap.size, 1, none⟩ = some (.int .i64 p) := by rw [hcw1 _ _ (by first | (simp; done) | omega | (simp; omega))]; first | assumption | (simp [go_sem]; done) | (simp [go_sem]; done) | (simp [go_sem, *]; done)
  have kw1_0_2 : w1.cell? ⟨w.heap.size, 2, none⟩ = some (.int .i64 s) := by rw [hcw1 _ _ (by first | (simp; done) | omega | (simp; omega))]; first | assumption | (simp [go_sem]; done) | (simp [go_sem]; done) | (simp [go_sem, *]; done)
  have sw1_0 : w.heap.size < w1.heap.size := by first | omega | (simp at *; omega)
  have hBw1 : Below w.heap.size w w1 := (by repeat (first | exact Below.refl _ _ | refine bl_alloc ?_ _ | refine bl_drewN ?_ _ | refine bl_trans (by assumption) ?_ | refine bl_set ?_ (by first | omega | (simp; done) | (simp; omega)) _))
  have HBw1 := Lib.hid hBw1
  clear hBw1 hcw1 hfw1 hbw1
  go_wp2_with fail
  go_loopw [10, 11] (fun v kk wr => ∃ k : Nat, k ≤ n + 1 ∧ kk = .int .i64 (k : Nat) ∧ RRow wr w1.heap.size v (shT l h p s k) ∧ Below w1.heap.size w1 wr) (fun _ kk _ => n + 1 - (intOf kk).toNat)
  case atStart => exact ⟨0, Nat.zero_le _, rfl, RRow.nil _ _, Below.refl _ _⟩
  case round =>
    obtain ⟨k, hk, rfl, hR, hb⟩ := hrel
    by_cases hlt : k ≤ n
    · have ix1 : (k : Int) ≤ (n : Int) := by omega
      have r0 := cell_after hb sw1_0 kw1_0_0
      have r1 := cell_after hb sw1_0 kw1_0_1
      have r2 := cell_after hb sw1_0 kw1_0_2
      have HSk := fun W => HS k hlt W
      have hkk := HK.out k hlt
      rw [hkk] at HSk
      clear hkk
      go_wp2_with fail
      refine ((HSk _).out).mono ?_
      rintro e x1 ⟨rfl, hbx⟩
      obtain ⟨vs, g1, g3, g4⟩ := hR
      rw [shT_len] at g1 g3 g4
      have hO := Lib.hid (own_keep g1 hbx)
      have H3 := Lib.hid (fun i hi => (g3 i hi).keep hbx)
      have H4 := Lib.hid g4
      have HCW : w1.heap.size ≤ x1.heap.size := by have := hb.size; have := hbx.size; omega
      have HB := Lib.hid (show Below w1.heap.size w1 x1 from hb.trans (hbx.mono hb.size))
      clear g1 g3 g4 hb hbx
      go_wp2_with (first | (at_builtin; refine wpList_append_own _ rfl _ _ 41 rfl w1.heap.size 70 i0 (.slice none 0 0) 1 24 Try.underlying41 ji iz0 iz1 iz2 rfl (by decide) _ _ _ rfl ((hO.out.alloc _).alloc _) ⟨x1.heap.size + 1, 0, none⟩ 1 1 [.slice (some ⟨x1.heap.size, 0, none⟩) 2 2] rfl rfl ?c1 ?c2 ?c3 ?c4 ?c5 ?_))
      all_goals (try exact cell_one_alloc _ _ _ _ (by simp))
      case c2 => simp [Value.oneCell']
      case c3 => unfold maxLen; omega
      case c4 => omega
      case c5 => first | omega | (simp; omega)
      intro v' wn hown1 hgrow1 _
      obtain ⟨q1, q2⟩ := sh_push (by omega) hO.out H3.out H4.out hown1 hgrow1
      have Q1 := Lib.hid q1
      have Q2 := Lib.hid q2
      clear q1 q2 hown1 hgrow1
      go_wp2
      go_roundw
      case rel => exact ⟨k + 1, by omega, by go_num, Q1.out, HB.out.trans Q2.out⟩
      case measure => simp only [intOf]; omega
    · obtain rfl : k = n + 1 := by omega
      have HR := Lib.hid hR
      have HB := Lib.hid hb
      clear hR hb
      go_wp2
      go_ret2
      exact ⟨_, rfl, by rw [HE.out]; exact HR.out.mono (by omega), bl_trans HB.out HBw1.out⟩
set_option maxRecDepth 100000 in
set_option maxHeartbeats 4000000 in
theorem impl_ShadowTable (l h p s m : Int) (w : World) :
    Calls Try.prog 46 #[.int .i64 l, .agg #[.int .i64 h, .int .i64 p, .int .i64 s], .int .i64 m] w fun e w' => ∃ v, e = .returned (.tuple #[v, .bool (okAt l h p s m)]) ∧ RRow w' w.heap.size v (shZ l h p s m) ∧ Below w.heap.size w w' := by
  cases hm : within m 0 60
  · have HO := Lib.hid (show okAt l h p s m = false by simp [okAt, hm])
    have HE := Lib.hid (show shZ l h p s m = [] by simp [shZ, HO.out])
    go_enter Try.func46, Try.ntmps46
    go_wp2_with fail
    refine (isWithin_any _ _ _ _).mono ?_
    rintro e w' ⟨rfl, rfl⟩
    rw [hm]
    go_wp2
    go_ret2
    exact ⟨_, by rw [HO.out]; rfl, by rw [HE.out]; exact RRow.nil _ _, (by repeat (first | exact Below.refl _ _ | refine bl_alloc ?_ _ | refine bl_drewN ?_ _ | refine bl_trans (by assumption) ?_ | refine bl_set ?_ (by first | omega | (simp; done) | (simp; omega)) _))⟩
  obtain ⟨m1, m2⟩ := within_true hm
  have HM := Lib.hid hm
  obtain ⟨n, hn⟩ : ∃ n : Nat, n = m.toNat := ⟨_, rfl⟩
  obtain rfl : m = (n : Int) := by omega
  have HT := Lib.hid (show okAt l h p s (n : Int) = true → shZ l h p s (n : Int) = shT l h p s (n + 1) from fun e => by simp [shZ, e])
  have HF := Lib.hid (show okAt l h p s (n : Int) = false → shZ l h p s (n : Int) = [] from fun e => by simp [shZ, e])
  clear hn hm
  have HS := fun (k : Nat) W => Lib.hid (impl_ShadowAt l h p s (k : Int) W)
  have HK := Lib.hid (fun (k : Nat) (hk : k ≤ n) (ho : okAt l h p s (n : Int) = true) => okAt_down (k := (k : Int)) ho (by omega) (by omega))
  obtain ⟨i0, ji, iz0, iz1, iz2⟩ := info_parts infoIS
  go_enter Try.func46, Try.ntmps46
  go_wp2_with fail
  refine (isWithin_any _ _ _ _).mono ?_
  rintro e w' ⟨rfl, rfl⟩
  rw [HM.out]
  go_wp2_with fail
  have hz : w.heap.size < (w.alloc (.cells #[.int .i64 h, .int .i64 p, .int .i64 s] 25)).heap.size := by simp
  have q0 : (w.alloc (.cells #[.int .i64 h, .int .i64 p, .int .i64 s] 25)).cell? ⟨w.heap.size, 0, none⟩ = some (.int .i64 h) := by simp
  have q1 : (w.alloc (.cells #[.int .i64 h, .int .i64 p, .int .i64 s] 25)).cell? ⟨w.heap.size, 1, none⟩ = some (.int .i64 p) := by simp
  have q2 : (w.alloc (.cells #[.int .i64 h, .int .i64 p, .int .i64 s] 25)).cell? ⟨w.heap.size, 2, none⟩ = some (.int .i64 s) := by simp
  have HBW := Lib.hid (show Below w.heap.size w (w.alloc (.cells #[.int .i64 h, .int .i64 p, .int .i64 s] 25)) from (by repeat (first | exact Below.refl _ _ | refine bl_alloc ?_ _ | refine bl_drewN ?_ _ | refine bl_trans (by assumption) ?_ | refine bl_set ?_ (by first | omega | (simp; done) | (simp; omega)) _)))
  generalize (w.alloc (.cells #[.int .i64 h, .int .i64 p, .int .i64 s] 25)) = wz at *
  go_loopw [8, 18] (fun v kk wr => ∃ k : Nat, k ≤ n + 1 ∧ kk = .int .i64 (k : Nat) ∧ RRow wr wz.heap.size v (shT l h p s k) ∧ Below wz.heap.size wz wr ∧ (∀ j : Nat, j < k → okAt l h p s (j : Int) = true)) (fun _ kk _ => n + 1 - (intOf kk).toNat)
  case atStart => exact ⟨0, Nat.zero_le _, rfl, RRow.nil _ _, Below.refl _ _, fun j hj => absurd hj (by omega)⟩
  case round =>
    obtain ⟨k, hk, rfl, hR, hb, hj⟩ := hrel
    have HJ := Lib.hid hj
    clear hj
    by_cases hlt : k ≤ n
    · have ix1 : (k : Int) ≤ (n : Int) := by omega
      have ix2 : (k : Int) < (n : Int) + 1 := by omega
      have r0 := cell_after hb hz q0
      have r1 := cell_after hb hz q1
      have r2 := cell_after hb hz q2
      have HSk := fun W => HS k W
      cases hok : okAt l h p s (k : Int)
      · rw [hok] at HSk
        have HO := Lib.hid (show okAt l h p s (n : Int) = false by
          cases he : okAt l h p s (n : Int)
          · rfl
          · rw [HK.out k hlt he] at hok; cases hok)
        have HE := Lib.hid (HF.out HO.out)
        have HB := Lib.hid hb
        clear hok hR hb
        go_wp2_with fail
        refine ((HSk _).out).mono ?_
        rintro e x1 ⟨rfl, hbx⟩
        have HBX := Lib.hid hbx
        clear hbx
        go_wp2
        go_ret2
        exact ⟨_, by rw [HO.out]; rfl, by rw [HE.out]; exact RRow.nil _ _, bl_trans (bl_trans HBX.out HB.out) HBW.out⟩
      rw [hok] at HSk
      have HOK := Lib.hid hok
      clear hok
      go_wp2_with fail
      refine ((HSk _).out).mono ?_
      rintro e x1 ⟨rfl, hbx⟩
      obtain ⟨vs, g1, g3, g4⟩ := hR
      rw [shT_len] at g1 g3 g4
      have hO := Lib.hid (own_keep g1 hbx)
      have H3 := Lib.hid (fun i hi => (g3 i hi).keep hbx)
      have H4 := Lib.hid g4
      have HCW : wz.heap.size ≤ x1.heap.size := by have := hb.size; have := hbx.size; omega
      have HB := Lib.hid (show Below wz.heap.size wz x1 from hb.trans (hbx.mono hb.size))
      clear g1 g3 g4 hb hbx
      go_wp2_with (first | (at_builtin; refine wpList_append_own _ rfl _ _ 41 rfl wz.heap.size 70 i0 (.slice none 0 0) 1 24 Try.underlying41 ji iz0 iz1 iz2 rfl (by decide) _ _ _ rfl ((hO.out.alloc _).alloc _) ⟨x1.heap.size + 1, 0, none⟩ 1 1 [.slice (some ⟨x1.heap.size, 0, none⟩) 2 2] rfl rfl ?c1 ?c2 ?c3 ?c4 ?c5 ?_))
      all_goals (try exact cell_one_alloc _ _ _ _ (by simp))
      case c2 => simp [Value.oneCell']
      case c3 => unfold maxLen; omega
      case c4 => omega
      case c5 => first | omega | (simp; omega)
      intro v' wn hown1 hgrow1 _
      obtain ⟨q1, q2⟩ := sh_push (by omega) hO.out H3.out H4.out hown1 hgrow1
      have Q1 := Lib.hid q1
      have Q2 := Lib.hid q2
      clear q1 q2 hown1 hgrow1
      go_wp2
      go_roundw
      case rel => exact ⟨k + 1, by omega, by go_num, Q1.out, HB.out.trans Q2.out, fun j hj => by
        by_cases e : j < k
        · exact HJ.out j e
        · obtain rfl : j = k := by omega
          exact HOK.out⟩
      case measure => simp only [intOf]; omega
    · obtain rfl : k = n + 1 := by omega
      have HR := Lib.hid hR
      have HB := Lib.hid hb
      have HO := Lib.hid (HJ.out n (by omega))
      have HE := Lib.hid (HT.out HO.out)
      clear hR hb
      go_wp2
      go_ret2
      exact ⟨_, by rw [HO.out]; rfl, by rw [HE.out]; exact HR.out.mono (by omega), bl_trans HB.out HBW.out⟩
end Go.Proofs.Ytkcncjoekbbolaa
