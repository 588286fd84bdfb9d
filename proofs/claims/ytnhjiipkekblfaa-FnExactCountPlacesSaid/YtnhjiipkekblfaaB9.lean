/- CornerOf: by the program and by the model alike. -/
import Derived.Test.YtnhjiipkekblfaaB8
namespace Go.Proofs.Ytnhjiipkekblfaa
open Go.RowKit Beam Go.Deep
set_option linter.unusedVariables false
set_option linter.unusedSimpArgs false
def cX (a b x y : Int) (r u : Bool) : Int := if okE a b x y r u then ((wayI a b x y r u).x (wayI a b x y r u).M : Nat) else 0
def cY (a b x y : Int) (r u : Bool) : Int := if okE a b x y r u then ((wayI a b x y r u).y (wayI a b x y r u).M : Nat) else 0
def SWay (g n cap B : Nat) (W0 w : World) : Prop := w.cell? ⟨B, 0, none⟩ = some (.slice (some ⟨g, 0, none⟩) n cap) ∧ w.cell? ⟨B, 1, none⟩ = some (.bool true) ∧ Below W0.heap.size W0 w
theorem SWay.mk {g n cap B : Nat} {W0 v : World} (h0 : W0.cell? ⟨B, 0, none⟩ = some (.slice (some ⟨g, 0, none⟩) n cap)) (h1 : W0.cell? ⟨B, 1, none⟩ = some (.bool true)) (hl : B < W0.heap.size) (hb : Below W0.heap.size W0 v) : SWay g n cap B W0 v :=
  ⟨cell_after hb hl h0, cell_after hb hl h1, hb⟩
theorem last3 {a b : Prop} {D : Prop} (h : a ∧ b ∧ D) : D := h.2.2
set_option maxRecDepth 100000 in
set_option maxHeartbeats 2000000 in
theorem impl_CornerOf (a b x y : Int) (r u : Bool) (w : World) :
    Calls Try.prog 38 #[.agg #[.int .i64 a, .int .i64 b], .agg #[.int .i64 x, .int .i64 y, .bool r, .bool u]] w fun e w' => e = .returned (.tuple #[.int .i64 (cX a b x y r u), .int .i64 (cY a b x y r u), .bool (okE a b x y r u)]) ∧ Below w.heap.size w w' := by
  cases h : okB a b x y
  · go_enter Try.func38, Try.ntmps38
    go_wp2_with fail
    refine (wtc_no _ _ _ _ _ _ h _).mono ?_
    rintro e w1 ⟨rfl, hb1⟩
    obtain ⟨hc1, hf1⟩ := bcell hb1
    have hz1 := bsize hb1
    (try simp only [World.size_alloc, World.size_setCell] at hz1)
    have k1_0_0 : w1.cell? ⟨w.heap.size, 0, none⟩ = some (.int .i64 a) := by rw [hc1 _ _ (by first | (simp; done) | omega | (simp; omega))]; first | assumption | (simp [go_sem]; done) | (simp [go_sem]; done) | (simp [go_sem, *]; done)
    have k1_0_1 : w1.cell? ⟨w.heap.size, 1, none⟩ = some (.int .i64 b) := by rw [hc1 _ _ (by first | (simp; done) | omega | (simp; omega))]; first | assumption | (simp [go_sem]; done) | (simp [go_sem]; done) | (simp [go_sem, *]; done)
    have s1_0 : w.heap.size < w1.heap.size := by omega
    have k1_1_0 : w1.cell? ⟨w.heap.size + 1, 0, none⟩ = some (.int .i64 x) := by rw [hc1 _ _ (by first | (simp; done) | omega | (simp; omega))]; first | assumption | (simp [go_sem]; done) | (simp [go_sem]; done) | (simp [go_sem, *]; done)
    have k1_1_1 : w1.cell? ⟨w.heap.size + 1, 1, none⟩ = some (.int .i64 y) := by rw [hc1 _ _ (by first | (simp; done) | omega | (simp; omega))]; first | assumption | (simp [go_sem]; done) | (simp [go_sem]; done) | (simp [go_sem, *]; done)
    have k1_1_2 : w1.cell? ⟨w.heap.size + 1, 2, none⟩ = some (.bool r) := by rw [hc1 _ _ (by first | (simp; done) | omega | (simp; omega))]; first | assumption | (simp [go_sem]; done) | (simp [go_sem]; done) | (simp [go_sem, *]; done)
    have k1_1_3 : w1.cell? ⟨w.heap.size + 1, 3, none⟩ = some (.bool u) := by rw [hc1 _ _ (by first | (simp; done) | omega | (simp; omega))]; first | assumption | (simp [go_sem]; done) | (simp [go_sem]; done) | (simp [go_sem, *]; done)
    have s1_1 : w.heap.size + 1 < w1.heap.size := by omega
    have hB1 : Below w.heap.size w w1 := (by repeat (first | exact Below.refl _ _ | refine bl_alloc ?_ _ | refine bl_drewN ?_ _ | refine bl_trans (by assumption) ?_ | refine bl_set ?_ (by first | omega | (simp; done) | (simp; omega)) _))
    have HB1 := Lib.hid hB1
    clear hB1 hc1 hf1 hb1
    go_wp2
    go_ret3
    exact ⟨by simp [okE, cX, cY, h], bl_alloc HB1.out _⟩
  · have hn := wlen_pos (wayI_args h r u).1
    have HW := fun W => Lib.hid (wtc_yes a b x y r u h W)
    cases he : (wayI a b x y r u).e
    · have HX := Lib.hid (show cX a b x y r u = 0 by simp [cX, okE, h, he])
      have HY := Lib.hid (show cY a b x y r u = 0 by simp [cY, okE, h, he])
      have HE := Lib.hid (show okE a b x y r u = false by simp [okE, h, he])
      generalize wlen (wayI a b x y r u) = n at *
      go_enter Try.func38, Try.ntmps38
      go_wp2_with fail
      refine ((HW _).out).mono ?_
      rintro e w1 ⟨g, cap, rfl, hR, hb1⟩
      obtain ⟨hc1, hf1⟩ := bcell hb1
      have hz1 := bsize hb1
      (try simp only [World.size_alloc, World.size_setCell] at hz1)
      have k1_0_0 : w1.cell? ⟨w.heap.size, 0, none⟩ = some (.int .i64 a) := by rw [hc1 _ _ (by first | (simp; done) | omega | (simp; omega))]; first | assumption | (simp [go_sem]; done) | (simp [go_sem]; done) | (simp [go_sem, *]; done)
      have k1_0_1 : w1.cell? ⟨w.heap.size, 1, none⟩ = some (.int .i64 b) := by rw [hc1 _ _ (by first | (simp; done) | omega | (simp; omega))]; first | assumption | (simp [go_sem]; done) | (simp [go_sem]; done) | (simp [go_sem, *]; done)
      have s1_0 : w.heap.size < w1.heap.size := by omega
      have k1_1_0 : w1.cell? ⟨w.heap.size + 1, 0, none⟩ = some (.int .i64 x) := by rw [hc1 _ _ (by first | (simp; done) | omega | (simp; omega))]; first | assumption | (simp [go_sem]; done) | (simp [go_sem]; done) | (simp [go_sem, *]; done)
      have k1_1_1 : w1.cell? ⟨w.heap.size + 1, 1, none⟩ = some (.int .i64 y) := by rw [hc1 _ _ (by first | (simp; done) | omega | (simp; omega))]; first | assumption | (simp [go_sem]; done) | (simp [go_sem]; done) | (simp [go_sem, *]; done)
      have k1_1_2 : w1.cell? ⟨w.heap.size + 1, 2, none⟩ = some (.bool r) := by rw [hc1 _ _ (by first | (simp; done) | omega | (simp; omega))]; first | assumption | (simp [go_sem]; done) | (simp [go_sem]; done) | (simp [go_sem, *]; done)
      have k1_1_3 : w1.cell? ⟨w.heap.size + 1, 3, none⟩ = some (.bool u) := by rw [hc1 _ _ (by first | (simp; done) | omega | (simp; omega))]; first | assumption | (simp [go_sem]; done) | (simp [go_sem]; done) | (simp [go_sem, *]; done)
      have s1_1 : w.heap.size + 1 < w1.heap.size := by omega
      have hB1 : Below w.heap.size w w1 := (by repeat (first | exact Below.refl _ _ | refine bl_alloc ?_ _ | refine bl_drewN ?_ _ | refine bl_trans (by assumption) ?_ | refine bl_set ?_ (by first | omega | (simp; done) | (simp; omega)) _))
      have HB1 := Lib.hid hB1
      clear hB1 hc1 hf1 hb1
      clear hR
      rw [he]
      go_wp2
      go_ret3
      exact ⟨ret_iib (by rw [HX.out]) (by rw [HY.out]) (by rw [HE.out]), bl_alloc HB1.out _⟩
    · have OK := Lib.hid (wayI_args h r u).1
      have hM : wlen (wayI a b x y r u) = (wayI a b x y r u).M + 1 := by simp [wlen, he]
      have hMM : (wayI a b x y r u).made (wayI a b x y r u).M = (wayI a b x y r u).M := by simp [BWay.made, he]
      have HX := Lib.hid (show cX a b x y r u = ((wayI a b x y r u).x (wayI a b x y r u).M : Nat) by simp [cX, okE, h, he])
      have HY := Lib.hid (show cY a b x y r u = ((wayI a b x y r u).y (wayI a b x y r u).M : Nat) by simp [cY, okE, h, he])
      have HE := Lib.hid (show okE a b x y r u = true by simp [okE, h, he])
      have HLL := Lib.hid (show ((wlen (wayI a b x y r u) : Nat) : Int) - 1 = ((wayI a b x y r u).M : Nat) by rw [hM]; omega)
      have HV := Lib.hid (show bAt (wayI a b x y r u) (wayI a b x y r u).M = .agg #[.int .i64 ((wayI a b x y r u).x (wayI a b x y r u).M : Nat), .int .i64 ((wayI a b x y r u).y (wayI a b x y r u).M : Nat), .bool ((wayI a b x y r u).kr (wayI a b x y r u).M), .bool ((wayI a b x y r u).ku (wayI a b x y r u).M)] by unfold bAt; rw [hMM])
      have HBA := fun (v : World) (C g cap : Nat) hR => Lib.hid (behind_any (wayI a b x y r u) OK.out g cap C (wayI a b x y r u).M (by have := hn.2; omega) v hR)
      simp only [HV.out, he] at HBA
      clear HV hM hMM OK
      generalize (wayI a b x y r u).x (wayI a b x y r u).M = vx at *
      generalize (wayI a b x y r u).y (wayI a b x y r u).M = vy at *
      generalize (wayI a b x y r u).kr (wayI a b x y r u).M = vr_ at *
      generalize (wayI a b x y r u).ku (wayI a b x y r u).M = vu at *
      generalize (wayI a b x y r u).M = m at *
      generalize wlen (wayI a b x y r u) = n at *
      obtain ⟨hn1, hn2⟩ := hn
      go_enter Try.func38, Try.ntmps38
      go_wp2_with fail
      refine ((HW _).out).mono ?_
      rintro e w1 ⟨g, cap, rfl, hR, hb1⟩
      obtain ⟨hc1, hf1⟩ := bcell hb1
      have hz1 := bsize hb1
      (try simp only [World.size_alloc, World.size_setCell] at hz1)
      have k1_0_0 : w1.cell? ⟨w.heap.size, 0, none⟩ = some (.int .i64 a) := by rw [hc1 _ _ (by first | (simp; done) | omega | (simp; omega))]; first | assumption | (simp [go_sem]; done) | (simp [go_sem]; done) | (simp [go_sem, *]; done)
      have k1_0_1 : w1.cell? ⟨w.heap.size, 1, none⟩ = some (.int .i64 b) := by rw [hc1 _ _ (by first | (simp; done) | omega | (simp; omega))]; first | assumption | (simp [go_sem]; done) | (simp [go_sem]; done) | (simp [go_sem, *]; done)
      have s1_0 : w.heap.size < w1.heap.size := by omega
      have k1_1_0 : w1.cell? ⟨w.heap.size + 1, 0, none⟩ = some (.int .i64 x) := by rw [hc1 _ _ (by first | (simp; done) | omega | (simp; omega))]; first | assumption | (simp [go_sem]; done) | (simp [go_sem]; done) | (simp [go_sem, *]; done)
      have k1_1_1 : w1.cell? ⟨w.heap.size + 1, 1, none⟩ = some (.int .i64 y) := by rw [hc1 _ _ (by first | (simp; done) | omega | (simp; omega))]; first | assumption | (simp [go_sem]; done) | (simp [go_sem]; done) | (simp [go_sem, *]; done)
      have k1_1_2 : w1.cell? ⟨w.heap.size + 1, 2, none⟩ = some (.bool r) := by rw [hc1 _ _ (by first | (simp; done) | omega | (simp; omega))]; first | assumption | (simp [go_sem]; done) | (simp [go_sem]; done) | (simp [go_sem, *]; done)
      have k1_1_3 : w1.cell? ⟨w.heap.size + 1, 3, none⟩ = some (.bool u) := by rw [hc1 _ _ (by first | (simp; done) | omega | (simp; omega))]; first | assumption | (simp [go_sem]; done) | (simp [go_sem]; done) | (simp [go_sem, *]; done)
      have s1_1 : w.heap.size + 1 < w1.heap.size := by omega
      have hB1 : Below w.heap.size w w1 := (by repeat (first | exact Below.refl _ _ | refine bl_alloc ?_ _ | refine bl_drewN ?_ _ | refine bl_trans (by assumption) ?_ | refine bl_set ?_ (by first | omega | (simp; done) | (simp; omega)) _))
      have HB1 := Lib.hid hB1
      clear hB1 hc1 hf1 hb1
      have R0 := Lib.hid hR
      clear hR
      rw [he]
      go_wp2_with fail
      have c0 : (w1.alloc (.cells #[.slice (some ⟨g, 0, none⟩) n cap, .bool true] 72)).cell? ⟨w1.heap.size, 0, none⟩ = some (.slice (some ⟨g, 0, none⟩) n cap) := by simp [go_sem]
      have c1 : (w1.alloc (.cells #[.slice (some ⟨g, 0, none⟩) n cap, .bool true] 72)).cell? ⟨w1.heap.size, 1, none⟩ = some (.bool true) := by simp [go_sem]
      have hl : w1.heap.size < (w1.alloc (.cells #[.slice (some ⟨g, 0, none⟩) n cap, .bool true] 72)).heap.size := by simp
      have Rz := Lib.hid (R0.out.keep ((Below.refl _ _).alloc (Nat.le_refl _) (.cells #[.slice (some ⟨g, 0, none⟩) n cap, .bool true] 72)))
      have Bz := Lib.hid (bl_alloc HB1.out (.cells #[.slice (some ⟨g, 0, none⟩) n cap, .bool true] 72))
      have HS := Lib.hid (fun v hb => SWay.mk (v := v) c0 c1 hl hb)
      clear R0
      generalize (w1.alloc (.cells #[.slice (some ⟨g, 0, none⟩) n cap, .bool true] 72)) = wz at *
      have hS := HS.out wz (Below.refl _ _)
      unfold SWay at hS
      clear c0 c1
      go_region_held3 (fun w' => w'.cell? ⟨w1.heap.size, 0, none⟩ = some (.slice (some ⟨g, 0, none⟩) n cap) ∧ w'.cell? ⟨w1.heap.size, 1, none⟩ = some (.bool true) ∧ Below wz.heap.size wz w') (first | exact HS.out _ (bl_alloc hbz _) | exact HS.out _ (bl_alloc hb9 _) | exact HS.out _ (bl_alloc (bl_trans hb9 (Below.drew (Below.refl _ _))) _) | exact HS.out _ (bl_alloc (bl_trans hb9 (last3 (by assumption))) _) | exact HS.out _ (bl_trans hb9 (last3 (by assumption))) | exact HS.out _ (bl_alloc (last3 (by assumption)) _) | exact HS.out _ (below_drewN (Below.refl _ _) _) | exact HS.out _ (Below.drew (Below.refl _ _)) | exact HS.out _ (bl_set (bl_set (bl_set (bl_set (last3 (by assumption)) (by first | omega | (simp; done) | (simp; omega)) _) (by first | omega | (simp; done) | (simp; omega)) _) (by first | omega | (simp; done) | (simp; omega)) _) (by first | omega | (simp; done) | (simp; omega)) _) | assumption) (first | (go_at_call 84; refine (last_any _ _ _ _ (by omega) (by omega) _).mono ?_; rintro e w9 ⟨rfl, hb9⟩; obtain ⟨hc9, hf9⟩ := bcell hb9; have hz9 := hb9.size; (try simp [Nat.succ_le_iff] at hz9); rw [HLL.out]) | (go_at_call 77; refine ((HBA _ _ _ _ (Rz.out.keep (last3 (by assumption)))).out).mono ?_; rintro e w9 ⟨rfl, hb9⟩; obtain ⟨hc9, hf9⟩ := bcell hb9; have hz9 := hb9.size; (try simp [Nat.succ_le_iff] at hz9); (try have hzq : wz.heap.size < w9.heap.size := by omega); have hbz : Below wz.heap.size wz w9 := bl_trans hb9 (last3 (by assumption))))
      all_goals
        have hB : Below wz.heap.size wz _ := last3 (by assumption)
        go_wp2_with fail
        go_quiet (fail)
        go_wp2
        go_ret3
        exact ⟨ret_iib (by rw [HX.out]) (by rw [HY.out]) (by rw [HE.out]), bl_drewN (bl_trans hB Bz.out) _⟩
set_option maxRecDepth 100000 in
set_option maxHeartbeats 2000000 in
theorem spec_CornerOf (a b x y : Int) (r u : Bool) (w : World) :
    Calls Try.prog 37 #[.agg #[.int .i64 a, .int .i64 b], .agg #[.int .i64 x, .int .i64 y, .bool r, .bool u]] w fun e w' => e = .returned (.tuple #[.int .i64 (cX a b x y r u), .int .i64 (cY a b x y r u), .bool (okE a b x y r u)]) ∧ Below w.heap.size w w' := by
  cases h : okB a b x y
  · go_enter Try.func37, Try.ntmps37
    go_wp2_with fail
    refine (spec_beGood _ _ _ _ _ _ _).mono ?_
    rintro e w1 ⟨rfl, hb1⟩
    obtain ⟨hc1, hf1⟩ := bcell hb1
    have hz1 := bsize hb1
    (try simp only [World.size_alloc, World.size_setCell] at hz1)
    have k1_0_0 : w1.cell? ⟨w.heap.size, 0, none⟩ = some (.int .i64 a) := by rw [hc1 _ _ (by first | (simp; done) | omega | (simp; omega))]; first | assumption | (simp [go_sem]; done) | (simp [go_sem]; done) | (simp [go_sem, *]; done)
    have k1_0_1 : w1.cell? ⟨w.heap.size, 1, none⟩ = some (.int .i64 b) := by rw [hc1 _ _ (by first | (simp; done) | omega | (simp; omega))]; first | assumption | (simp [go_sem]; done) | (simp [go_sem]; done) | (simp [go_sem, *]; done)
    have s1_0 : w.heap.size < w1.heap.size := by omega
    have k1_1_0 : w1.cell? ⟨w.heap.size + 1, 0, none⟩ = some (.int .i64 x) := by rw [hc1 _ _ (by first | (simp; done) | omega | (simp; omega))]; first | assumption | (simp [go_sem]; done) | (simp [go_sem]; done) | (simp [go_sem, *]; done)
    have k1_1_1 : w1.cell? ⟨w.heap.size + 1, 1, none⟩ = some (.int .i64 y) := by rw [hc1 _ _ (by first | (simp; done) | omega | (simp; omega))]; first | assumption | (simp [go_sem]; done) | (simp [go_sem]; done) | (simp [go_sem, *]; done)
    have k1_1_2 : w1.cell? ⟨w.heap.size + 1, 2, none⟩ = some (.bool r) := by rw [hc1 _ _ (by first | (simp; done) | omega | (simp; omega))]; first | assumption | (simp [go_sem]; done) | (simp [go_sem]; done) | (simp [go_sem, *]; done)
    have k1_1_3 : w1.cell? ⟨w.heap.size + 1, 3, none⟩ = some (.bool u) := by rw [hc1 _ _ (by first | (simp; done) | omega | (simp; omega))]; first | assumption | (simp [go_sem]; done) | (simp [go_sem]; done) | (simp [go_sem, *]; done)
    have s1_1 : w.heap.size + 1 < w1.heap.size := by omega
    have hB1 : Below w.heap.size w w1 := (by repeat (first | exact Below.refl _ _ | refine bl_alloc ?_ _ | refine bl_drewN ?_ _ | refine bl_trans (by assumption) ?_ | refine bl_set ?_ (by first | omega | (simp; done) | (simp; omega)) _))
    have HB1 := Lib.hid hB1
    clear hB1 hc1 hf1 hb1
    rw [h]
    go_wp2
    go_ret3
    exact ⟨by simp [okE, cX, cY, h], HB1.out⟩
  · have HL := long_le (wayI_args h r u).1
    have hm := Nat.le_trans (BWay.made_lt (t := wayI a b x y r u) (longN (wayI a b x y r u))).1 HL.1
    have HML := Lib.hid (fun he => made_long (t := wayI a b x y r u) (wayI_args h r u).1 he)
    have HW := fun W => Lib.hid (beEnd_of h r u W)
    clear HL
    cases he : (wayI a b x y r u).e
    · have HX := Lib.hid (show cX a b x y r u = 0 by simp [cX, okE, h, he])
      have HY := Lib.hid (show cY a b x y r u = 0 by simp [cY, okE, h, he])
      have HE := Lib.hid (show okE a b x y r u = false by simp [okE, h, he])
      generalize (wayI a b x y r u).made (longN (wayI a b x y r u)) = n at *
      generalize sidesS (wayI a b x y r u) n = sd at *
      go_enter Try.func37, Try.ntmps37
      go_wp2_with fail
      refine (spec_beGood _ _ _ _ _ _ _).mono ?_
      rintro e w1 ⟨rfl, hb1⟩
      obtain ⟨hc1, hf1⟩ := bcell hb1
      have hz1 := bsize hb1
      (try simp only [World.size_alloc, World.size_setCell] at hz1)
      have k1_0_0 : w1.cell? ⟨w.heap.size, 0, none⟩ = some (.int .i64 a) := by rw [hc1 _ _ (by first | (simp; done) | omega | (simp; omega))]; first | assumption | (simp [go_sem]; done) | (simp [go_sem]; done) | (simp [go_sem, *]; done)
      have k1_0_1 : w1.cell? ⟨w.heap.size, 1, none⟩ = some (.int .i64 b) := by rw [hc1 _ _ (by first | (simp; done) | omega | (simp; omega))]; first | assumption | (simp [go_sem]; done) | (simp [go_sem]; done) | (simp [go_sem, *]; done)
      have s1_0 : w.heap.size < w1.heap.size := by omega
      have k1_1_0 : w1.cell? ⟨w.heap.size + 1, 0, none⟩ = some (.int .i64 x) := by rw [hc1 _ _ (by first | (simp; done) | omega | (simp; omega))]; first | assumption | (simp [go_sem]; done) | (simp [go_sem]; done) | (simp [go_sem, *]; done)
      have k1_1_1 : w1.cell? ⟨w.heap.size + 1, 1, none⟩ = some (.int .i64 y) := by rw [hc1 _ _ (by first | (simp; done) | omega | (simp; omega))]; first | assumption | (simp [go_sem]; done) | (simp [go_sem]; done) | (simp [go_sem, *]; done)
      have k1_1_2 : w1.cell? ⟨w.heap.size + 1, 2, none⟩ = some (.bool r) := by rw [hc1 _ _ (by first | (simp; done) | omega | (simp; omega))]; first | assumption | (simp [go_sem]; done) | (simp [go_sem]; done) | (simp [go_sem, *]; done)
      have k1_1_3 : w1.cell? ⟨w.heap.size + 1, 3, none⟩ = some (.bool u) := by rw [hc1 _ _ (by first | (simp; done) | omega | (simp; omega))]; first | assumption | (simp [go_sem]; done) | (simp [go_sem]; done) | (simp [go_sem, *]; done)
      have s1_1 : w.heap.size + 1 < w1.heap.size := by omega
      have hB1 : Below w.heap.size w w1 := (by repeat (first | exact Below.refl _ _ | refine bl_alloc ?_ _ | refine bl_drewN ?_ _ | refine bl_trans (by assumption) ?_ | refine bl_set ?_ (by first | omega | (simp; done) | (simp; omega)) _))
      have HB1 := Lib.hid hB1
      clear hB1 hc1 hf1 hb1
      rw [h]
      have HBp2 := HB1
      go_wp2_with fail
      refine ((HW _).out).mono ?_
      rintro e w2 ⟨g, cap, rfl, hR, hb2⟩
      obtain ⟨hc2, hf2⟩ := bcell hb2
      have hz2 := bsize hb2
      (try simp only [World.size_alloc, World.size_setCell] at hz2)
      have k2_0_0 : w2.cell? ⟨w.heap.size, 0, none⟩ = some (.int .i64 a) := by rw [hc2 _ _ (by first | (simp; done) | omega | (simp; omega))]; first | assumption | (simp [go_sem]; done) | (simp [go_sem, k1_0_0, k1_0_1, k1_1_0, k1_1_1, k1_1_2, k1_1_3]; done) | (simp [go_sem, *]; done)
      have k2_0_1 : w2.cell? ⟨w.heap.size, 1, none⟩ = some (.int .i64 b) := by rw [hc2 _ _ (by first | (simp; done) | omega | (simp; omega))]; first | assumption | (simp [go_sem]; done) | (simp [go_sem, k1_0_0, k1_0_1, k1_1_0, k1_1_1, k1_1_2, k1_1_3]; done) | (simp [go_sem, *]; done)
      have s2_0 : w.heap.size < w2.heap.size := by omega
      have k2_1_0 : w2.cell? ⟨w.heap.size + 1, 0, none⟩ = some (.int .i64 x) := by rw [hc2 _ _ (by first | (simp; done) | omega | (simp; omega))]; first | assumption | (simp [go_sem]; done) | (simp [go_sem, k1_0_0, k1_0_1, k1_1_0, k1_1_1, k1_1_2, k1_1_3]; done) | (simp [go_sem, *]; done)
      have k2_1_1 : w2.cell? ⟨w.heap.size + 1, 1, none⟩ = some (.int .i64 y) := by rw [hc2 _ _ (by first | (simp; done) | omega | (simp; omega))]; first | assumption | (simp [go_sem]; done) | (simp [go_sem, k1_0_0, k1_0_1, k1_1_0, k1_1_1, k1_1_2, k1_1_3]; done) | (simp [go_sem, *]; done)
      have k2_1_2 : w2.cell? ⟨w.heap.size + 1, 2, none⟩ = some (.bool r) := by rw [hc2 _ _ (by first | (simp; done) | omega | (simp; omega))]; first | assumption | (simp [go_sem]; done) | (simp [go_sem, k1_0_0, k1_0_1, k1_1_0, k1_1_1, k1_1_2, k1_1_3]; done) | (simp [go_sem, *]; done)
      have k2_1_3 : w2.cell? ⟨w.heap.size + 1, 3, none⟩ = some (.bool u) := by rw [hc2 _ _ (by first | (simp; done) | omega | (simp; omega))]; first | assumption | (simp [go_sem]; done) | (simp [go_sem, k1_0_0, k1_0_1, k1_1_0, k1_1_1, k1_1_2, k1_1_3]; done) | (simp [go_sem, *]; done)
      have s2_1 : w.heap.size + 1 < w2.heap.size := by omega
      have hB2 : Below w.heap.size w w2 := (by repeat (first | exact Below.refl _ _ | exact HB1.out | refine bl_alloc ?_ _ | refine bl_drewN ?_ _ | refine bl_trans (by assumption) ?_ | refine bl_set ?_ (by first | omega | (simp; done) | (simp; omega)) _))
      have HB2 := Lib.hid hB2
      clear hB2 hc2 hf2 hb2 k1_0_0 k1_0_1 k1_1_0 k1_1_1 k1_1_2 k1_1_3
      clear hR
      rw [he]
      go_wp2
      go_ret3
      exact ⟨ret_iib (by rw [HX.out]) (by rw [HY.out]) (by rw [HE.out]), HB2.out⟩
    · have hml := HML.out he
      have HX := Lib.hid (show cX a b x y r u = ((wayI a b x y r u).x ((wayI a b x y r u).made (longN (wayI a b x y r u))) : Nat) by rw [hml]; simp [cX, okE, h, he])
      have HY := Lib.hid (show cY a b x y r u = ((wayI a b x y r u).y ((wayI a b x y r u).made (longN (wayI a b x y r u))) : Nat) by rw [hml]; simp [cY, okE, h, he])
      have HE := Lib.hid (show okE a b x y r u = true by simp [okE, h, he])
      clear hml HML
      generalize (wayI a b x y r u).made (longN (wayI a b x y r u)) = n at *
      generalize sidesS (wayI a b x y r u) n = sd at *
      have ix0 : (0 : Int) ≤ (n : Int) := by omega
      have ix1 : (n : Int) < (n : Int) + 1 := by omega
      have ix5 : (n : Int).toNat = n := by omega
      go_enter Try.func37, Try.ntmps37
      go_wp2_with fail
      refine (spec_beGood _ _ _ _ _ _ _).mono ?_
      rintro e w1 ⟨rfl, hb1⟩
      obtain ⟨hc1, hf1⟩ := bcell hb1
      have hz1 := bsize hb1
      (try simp only [World.size_alloc, World.size_setCell] at hz1)
      have k1_0_0 : w1.cell? ⟨w.heap.size, 0, none⟩ = some (.int .i64 a) := by rw [hc1 _ _ (by first | (simp; done) | omega | (simp; omega))]; first | assumption | (simp [go_sem]; done) | (simp [go_sem]; done) | (simp [go_sem, *]; done)
      have k1_0_1 : w1.cell? ⟨w.heap.size, 1, none⟩ = some (.int .i64 b) := by rw [hc1 _ _ (by first | (simp; done) | omega | (simp; omega))]; first | assumption | (simp [go_sem]; done) | (simp [go_sem]; done) | (simp [go_sem, *]; done)
      have s1_0 : w.heap.size < w1.heap.size := by omega
      have k1_1_0 : w1.cell? ⟨w.heap.size + 1, 0, none⟩ = some (.int .i64 x) := by rw [hc1 _ _ (by first | (simp; done) | omega | (simp; omega))]; first | assumption | (simp [go_sem]; done) | (simp [go_sem]; done) | (simp [go_sem, *]; done)
      have k1_1_1 : w1.cell? ⟨w.heap.size + 1, 1, none⟩ = some (.int .i64 y) := by rw [hc1 _ _ (by first | (simp; done) | omega | (simp; omega))]; first | assumption | (simp [go_sem]; done) | (simp [go_sem]; done) | (simp [go_sem, *]; done)
      have k1_1_2 : w1.cell? ⟨w.heap.size + 1, 2, none⟩ = some (.bool r) := by rw [hc1 _ _ (by first | (simp; done) | omega | (simp; omega))]; first | assumption | (simp [go_sem]; done) | (simp [go_sem]; done) | (simp [go_sem, *]; done)
      have k1_1_3 : w1.cell? ⟨w.heap.size + 1, 3, none⟩ = some (.bool u) := by rw [hc1 _ _ (by first | (simp; done) | omega | (simp; omega))]; first | assumption | (simp [go_sem]; done) | (simp [go_sem]; done) | (simp [go_sem, *]; done)
      have s1_1 : w.heap.size + 1 < w1.heap.size := by omega
      have hB1 : Below w.heap.size w w1 := (by repeat (first | exact Below.refl _ _ | refine bl_alloc ?_ _ | refine bl_drewN ?_ _ | refine bl_trans (by assumption) ?_ | refine bl_set ?_ (by first | omega | (simp; done) | (simp; omega)) _))
      have HB1 := Lib.hid hB1
      clear hB1 hc1 hf1 hb1
      rw [h]
      have HBp2 := HB1
      go_wp2_with fail
      refine ((HW _).out).mono ?_
      rintro e w2 ⟨g, cap, rfl, hR, hb2⟩
      obtain ⟨hc2, hf2⟩ := bcell hb2
      have hz2 := bsize hb2
      (try simp only [World.size_alloc, World.size_setCell] at hz2)
      have k2_0_0 : w2.cell? ⟨w.heap.size, 0, none⟩ = some (.int .i64 a) := by rw [hc2 _ _ (by first | (simp; done) | omega | (simp; omega))]; first | assumption | (simp [go_sem]; done) | (simp [go_sem, k1_0_0, k1_0_1, k1_1_0, k1_1_1, k1_1_2, k1_1_3]; done) | (simp [go_sem, *]; done)
      have k2_0_1 : w2.cell? ⟨w.heap.size, 1, none⟩ = some (.int .i64 b) := by rw [hc2 _ _ (by first | (simp; done) | omega | (simp; omega))]; first | assumption | (simp [go_sem]; done) | (simp [go_sem, k1_0_0, k1_0_1, k1_1_0, k1_1_1, k1_1_2, k1_1_3]; done) | (simp [go_sem, *]; done)
      have s2_0 : w.heap.size < w2.heap.size := by omega
      have k2_1_0 : w2.cell? ⟨w.heap.size + 1, 0, none⟩ = some (.int .i64 x) := by rw [hc2 _ _ (by first | (simp; done) | omega | (simp; omega))]; first | assumption | (simp [go_sem]; done) | (simp [go_sem, k1_0_0, k1_0_1, k1_1_0, k1_1_1, k1_1_2, k1_1_3]; done) | (simp [go_sem, *]; done)
      have k2_1_1 : w2.cell? ⟨w.heap.size + 1, 1, none⟩ = some (.int .i64 y) := by rw [hc2 _ _ (by first | (simp; done) | omega | (simp; omega))]; first | assumption | (simp [go_sem]; done) | (simp [go_sem, k1_0_0, k1_0_1, k1_1_0, k1_1_1, k1_1_2, k1_1_3]; done) | (simp [go_sem, *]; done)
      have k2_1_2 : w2.cell? ⟨w.heap.size + 1, 2, none⟩ = some (.bool r) := by rw [hc2 _ _ (by first | (simp; done) | omega | (simp; omega))]; first | assumption | (simp [go_sem]; done) | (simp [go_sem, k1_0_0, k1_0_1, k1_1_0, k1_1_1, k1_1_2, k1_1_3]; done) | (simp [go_sem, *]; done)
      have k2_1_3 : w2.cell? ⟨w.heap.size + 1, 3, none⟩ = some (.bool u) := by rw [hc2 _ _ (by first | (simp; done) | omega | (simp; omega))]; first | assumption | (simp [go_sem]; done) | (simp [go_sem, k1_0_0, k1_0_1, k1_1_0, k1_1_1, k1_1_2, k1_1_3]; done) | (simp [go_sem, *]; done)
      have s2_1 : w.heap.size + 1 < w2.heap.size := by omega
      have hB2 : Below w.heap.size w w2 := (by repeat (first | exact Below.refl _ _ | exact HB1.out | refine bl_alloc ?_ _ | refine bl_drewN ?_ _ | refine bl_trans (by assumption) ?_ | refine bl_set ?_ (by first | omega | (simp; done) | (simp; omega)) _))
      have HB2 := Lib.hid hB2
      clear hB2 hc2 hf2 hb2 k1_0_0 k1_0_1 k1_1_0 k1_1_1 k1_1_2 k1_1_3
      have R0 := Lib.hid hR
      clear hR
      rw [he]
      obtain ⟨g', cap', e, _, hg, _, _, hcc⟩ := R0.out.open_ (by omega)
      simp only [Value.slice.injEq, Option.some.injEq, Addr.mk.injEq, and_true, true_and] at e
      obtain ⟨rfl, rfl⟩ := e
      obtain ⟨d0, d1, d2, d3⟩ := hcc n (by omega)
      simp only [bm, List.getElem?_cons_zero, List.getElem?_cons_succ] at d0 d1 d2 d3
      clear hcc R0
      go_wp2_with fail
      go_quiet (fail)
      go_wp2
      go_ret3
      exact ⟨ret_iib (by rw [HX.out]) (by rw [HY.out]) (by rw [HE.out]), bl_drewN (bl_alloc HB2.out _) _⟩
end Go.Proofs.Ytnhjiipkekblfaa
