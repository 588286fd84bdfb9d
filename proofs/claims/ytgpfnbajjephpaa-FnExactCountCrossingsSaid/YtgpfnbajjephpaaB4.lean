/- The model's run of a beam, step by step. -/
import Derived.Test.YtgpfnbajjephpaaB3
import Derived.Deep.RegionHeld3
namespace Go.Proofs.Ytgpfnbajjephpaa
open Go.RowKit Beam Go.Deep
set_option linter.unusedVariables false
set_option linter.unusedSimpArgs false
def sideAt (t : BWay) (j : Nat) : ByteArray := if t.cor j then ⟨#[]⟩ else sideI t.W t.H (t.x j) (t.y j)
def sidesS (t : BWay) : Nat → ByteArray
  | 0 => ⟨#[]⟩
  | k + 1 => sidesS t k ++ sideAt t (k + 1)
theorem sideI_size (a b x y : Int) : (sideI a b x y).size ≤ 1 := by
  unfold sideI
  cases (x == a) <;> cases (x == 0) <;> cases (y == b) <;> cases (y == 0) <;> simp [ByteArray.size]
theorem sideAt_size (t : BWay) (j : Nat) : (sideAt t j).size ≤ 1 := by
  unfold sideAt; split
  · simp [ByteArray.size]
  · exact sideI_size _ _ _ _
theorem sidesS_size (t : BWay) (k : Nat) : (sidesS t k).size ≤ k := by
  induction k with
  | zero => simp [sidesS, ByteArray.size]
  | succ k ih =>
    have := sideAt_size t (k + 1)
    simp only [sidesS, ByteArray.size_append]; omega
theorem side_end {t : BWay} {k : Nat} (h : t.cor (k + 1) = true) : sideAt t (k + 1) = ⟨#[]⟩ := by simp [sideAt, h]
theorem side_go {t : BWay} {k : Nat} (h : t.cor (k + 1) = false) : sideAt t (k + 1) = sideI t.W t.H (t.x (k + 1)) (t.y (k + 1)) := by simp [sideAt, h]
theorem run_more {t : BWay} (h : t.ok) {k s : Nat} (hk : k ≤ t.made s) (hs : k < s) (hc : k = 0 ∨ t.cor k = false) : k + 1 ≤ t.made s := by
  obtain ⟨a, b⟩ := t.made_lt s
  by_cases c : t.made s < s
  · obtain ⟨e, m⟩ := b c
    have m1 := (t.M_spec h).1
    by_cases d : k = t.M
    · rcases hc with hc | hc
      · omega
      · rw [BWay.e, ← d, hc] at e; cases e
    · omega
  · omega
theorem run_end {t : BWay} (h : t.ok) {k s : Nat} (hk : k ≤ t.made s) (h1 : 1 ≤ k) (hc : t.cor k = true) : k = t.made s := by
  have e : t.e = true := by
    cases e : t.e
    · rw [BWay.no_cor h e] at hc; cases hc
    · rfl
  have m : k = t.M := by
    by_cases c : k < t.M
    · rw [BWay.cor_before h h1 c] at hc; cases hc
    · have : t.made s ≤ t.M := by unfold BWay.made; rw [if_pos e]; exact Nat.min_le_right _ _
      omega
  have : t.made s ≤ t.M := by unfold BWay.made; rw [if_pos e]; exact Nat.min_le_right _ _
  omega
theorem run_whole {t : BWay} {s : Nat} (hk : s ≤ t.made s) : s = t.made s := by
  have := (t.made_lt s).1
  omega
theorem bturn (t : BWay) : bm t 0 = [.int .i64 (t.x 0 : Nat), .int .i64 (t.y 0 : Nat), .bool (t.r 0), .bool (t.u 0)] := bm_go (.inl rfl)
theorem BRow.one (w : World) (B : Nat) (t : BWay) (hB : B ≤ w.heap.size) : BRow (w.alloc (.cells #[.int .i64 (t.x 0 : Nat), .int .i64 (t.y 0 : Nat), .bool (t.r 0), .bool (t.u 0)] 30)) B (.slice (some ⟨w.heap.size, 0, none⟩) 1 1) 1 t := by
  have h := World.ownsRow_lit (base := B) (e := 30) (size := 4) w #[.int .i64 (t.x 0 : Nat), .int .i64 (t.y 0 : Nat), .bool (t.r 0), .bool (t.u 0)] 1 hB (by simp [maxLen]) (by simp)
  have e : bms t 1 = #[Value.int .i64 (t.x 0 : Nat), .int .i64 (t.y 0 : Nat), .bool (t.r 0), .bool (t.u 0)].toList := by simp [bms, bturn]
  unfold BRow
  rw [e]
  exact h
/-- the table's box, first in a call -/
structure TB (t : BWay) (B : Nat) (w : World) : Prop where
  a0 : w.cell? ⟨B, 0, none⟩ = some (.int .i64 (t.W : Nat))
  a1 : w.cell? ⟨B, 1, none⟩ = some (.int .i64 (t.H : Nat))
  hB : B + 1 < w.heap.size
theorem TB.far {t : BWay} {B : Nat} {w v : World} (h : TB t B w) (k : Below (B + 1 + 1) w v) : TB t B v := by
  obtain ⟨a0, a1, hB⟩ := h
  exact ⟨(k.cell (p := ⟨B, 0, none⟩) (show B < _ by omega)).trans a0, (k.cell (p := ⟨B, 1, none⟩) (show B < _ by omega)).trans a1, Nat.lt_of_lt_of_le hB k.size⟩
theorem TB.keep {t : BWay} {B : Nat} {w v : World} (h : TB t B w) (k : Below w.heap.size w v) : TB t B v := h.far (k.mono (by have := h.hB; omega))
/-- the table's box and the beam numbered k of a row, in the block g -/
def S8 (t : BWay) (B g k : Nat) (W0 w : World) : Prop := w.cell? ⟨B, 0, none⟩ = some (.int .i64 (t.W : Nat)) ∧ w.cell? ⟨B, 1, none⟩ = some (.int .i64 (t.H : Nat)) ∧
  w.cell? ⟨g, k * 4, none⟩ = some (.int .i64 (t.x k : Nat)) ∧ w.cell? ⟨g, k * 4 + 1, none⟩ = some (.int .i64 (t.y k : Nat)) ∧ w.cell? ⟨g, k * 4 + 2, none⟩ = some (.bool (t.r k)) ∧ w.cell? ⟨g, k * 4 + 3, none⟩ = some (.bool (t.u k)) ∧ Below W0.heap.size W0 w
theorem S8.mk {t : BWay} {B C g k n : Nat} {cap : Nat} {w v : World} (hT : TB t B w) (hR : BRow w C (.slice (some ⟨g, 0, none⟩) n cap) n t) (hk : k < n) (hG : k = 0 ∨ t.cor k = false) (hb : Below w.heap.size w v) : S8 t B g k w v := by
  obtain ⟨g', cap', e, _, hg, _, _, hc⟩ := (hR.keep hb).open_ (by omega)
  simp only [Value.slice.injEq, Option.some.injEq, Addr.mk.injEq, and_true, true_and] at e
  obtain ⟨rfl, rfl⟩ := e
  obtain ⟨c0, c1, c2, c3⟩ := hc k hk
  rw [bm_go hG] at c0 c1 c2 c3
  exact ⟨(hT.keep hb).a0, (hT.keep hb).a1, c0, c1, c2, c3, hb⟩
def S9 (t : BWay) (B g k : Nat) (W0 w : World) : Prop := w.cell? ⟨B, 0, none⟩ = some (.int .i64 (t.W : Nat)) ∧ w.cell? ⟨B, 1, none⟩ = some (.int .i64 (t.H : Nat)) ∧
  w.cell? ⟨g, k * 4, none⟩ = some (.int .i64 (t.x k : Nat)) ∧ w.cell? ⟨g, k * 4 + 1, none⟩ = some (.int .i64 (t.y k : Nat)) ∧ w.cell? ⟨g, k * 4 + 2, none⟩ = some (.bool (t.kr k)) ∧ w.cell? ⟨g, k * 4 + 3, none⟩ = some (.bool (t.ku k)) ∧ Below W0.heap.size W0 w
theorem S9.mk {t : BWay} {B C g k n : Nat} {cap : Nat} {w v : World} (hT : TB t B w) (hR : BRow w C (.slice (some ⟨g, 0, none⟩) n cap) n t) (hk : k < n) (hb : Below w.heap.size w v) : S9 t B g k w v := by
  obtain ⟨g', cap', e, _, hg, _, _, hc⟩ := (hR.keep hb).open_ (by omega)
  simp only [Value.slice.injEq, Option.some.injEq, Addr.mk.injEq, and_true, true_and] at e
  obtain ⟨rfl, rfl⟩ := e
  obtain ⟨c0, c1, c2, c3⟩ := hc k hk
  exact ⟨(hT.keep hb).a0, (hT.keep hb).a1, c0, c1, c2, c3, hb⟩
theorem sb {a b : Value} (h : a = b) : Ending.returned a = .returned b := by rw [h]
theorem beStep_way {t : BWay} (h : t.ok) (k : Nat) (w : World) :
    Calls Try.prog 22 #[.agg #[.int .i64 (t.W : Nat), .int .i64 (t.H : Nat)], .agg #[.int .i64 (t.x k : Nat), .int .i64 (t.y k : Nat), .bool (t.r k), .bool (t.u k)]] w fun e w' => e = .returned (.tuple #[.agg #[.int .i64 (t.x (k + 1) : Nat), .int .i64 (t.y (k + 1) : Nat), .bool (t.kr (k + 1)), .bool (t.ku (k + 1))], .string (sideAt t (k + 1))]) ∧ Below w.heap.size w w' := by
  have bx := x_le h k
  have by_ := y_le h k
  have hW := h.1
  have hH := h.2.1
  have hci := corI t (k + 1)
  cases hcor : t.cor (k + 1)
  · refine (beStep_go (t.W : Nat) (t.H : Nat) _ _ _ _ _ _ (Lib.hid (moveX h k)) (Lib.hid (moveY h k)) (by omega) (by omega) (by omega) (by omega) (by omega) (by omega) (hci.trans hcor) w).mono ?_
    rintro e w' ⟨rfl, hb⟩
    refine ⟨sb ?_, hb⟩
    rw [turnX h k, turnY h k, side_go hcor]
    have e1 : t.kr (k + 1) = t.r (k + 1) := by unfold BWay.kr; rw [if_neg (by simp [hcor])]
    have e2 : t.ku (k + 1) = t.u (k + 1) := by unfold BWay.ku; rw [if_neg (by simp [hcor])]
    rw [e1, e2]
  · refine (beStep_corner (t.W : Nat) (t.H : Nat) _ _ _ _ _ _ (Lib.hid (moveX h k)) (Lib.hid (moveY h k)) (by omega) (by omega) (by omega) (by omega) (by omega) (by omega) (hci.trans hcor) w).mono ?_
    rintro e w' ⟨rfl, hb⟩
    refine ⟨sb ?_, hb⟩
    rw [side_end hcor]
    have e1 : t.kr (k + 1) = t.r k := by unfold BWay.kr; rw [if_pos ⟨by omega, hcor⟩]; rfl
    have e2 : t.ku (k + 1) = t.u k := by unfold BWay.ku; rw [if_pos ⟨by omega, hcor⟩]; rfl
    rw [e1, e2]
theorem last7 {a b c d e f : Prop} {D : Prop} (h : a ∧ b ∧ c ∧ d ∧ e ∧ f ∧ D) : D := h.2.2.2.2.2.2

set_option maxRecDepth 100000 in
set_option maxHeartbeats 2000000 in
theorem beRun_any (t : BWay) (h : t.ok) (r u : Bool) (hr : turnI t.W (t.x 0) r = t.r 0) (hu : turnI t.H (t.y 0) u = t.u 0) (s : Nat) (hs : s ≤ 1000000) (w : World) :
    Calls Try.prog 16 #[.agg #[.int .i64 (t.W : Nat), .int .i64 (t.H : Nat)], .agg #[.int .i64 (t.x 0 : Nat), .int .i64 (t.y 0 : Nat), .bool r, .bool u], .int .i64 (s : Nat)] w fun e w' => ∃ v, e = .returned (.tuple #[v, .string (sidesS t (t.made s))]) ∧ BRow w' w.heap.size v (t.made s + 1) t ∧ Below w.heap.size w w' := by
  obtain ⟨i0, hi, hz0, hz1, hz2⟩ := info_parts infoB
  have HR := Lib.hid hr
  have HU := Lib.hid hu
  have OK := Lib.hid h
  have hW1 : 1 ≤ t.W := h.1
  have hH1 : 1 ≤ t.H := h.2.1
  clear hr hu h
  go_enter Try.func16, Try.ntmps16
  go_wp2_with fail
  refine (beTurn_any _ _ _ _ _ _ (by omega) (by omega) _).mono ?_
  rintro e w1 ⟨rfl, hb1⟩
  have hzz := bsize hb1
  (try simp only [World.size_alloc] at hzz)
  rw [HR.out, HU.out]
  have T1 := Lib.hid (TB.keep (t := t) (B := w.heap.size) ⟨by simp, by simp, by simp⟩ hb1)
  have W1 := Lib.hid (show Below w.heap.size w w1 by exact (by repeat (first | exact Below.refl _ _ | refine bl_alloc ?_ _ | refine bl_drewN ?_ _ | refine bl_trans (by assumption) ?_)))
  clear hb1
  go_wp2_with fail
  go_loopw [8, 9, 10] (fun v sd kk wr => ∃ k : Nat, k ≤ t.made s ∧ kk = .int .i64 (k : Nat) ∧ sd = .string (sidesS t k) ∧ TB t w.heap.size wr ∧ BRow wr (w.heap.size + 1 + 1) v (k + 1) t ∧ Below w.heap.size w wr) (fun _ _ kk _ => s - (intOf kk).toNat)
  case atStart => exact ⟨0, Nat.zero_le _, rfl, rfl, T1.out.keep ((Below.refl _ _).alloc (Nat.le_refl _) _), BRow.one _ _ t (by omega), bl_alloc W1.out _⟩
  case round =>
    clear T1 W1 hzz
    obtain ⟨k, hk, rfl, rfl, hT, hR, hW⟩ := hrel
    have HK := Lib.hid hk
    have HL := Lib.hid (BWay.made_lt (t := t) s)
    have hks : k ≤ s := Nat.le_trans hk HL.out.1
    clear hk
    obtain ⟨g, cap, rfl, hgB, hg, -⟩ := hR.open_ (by omega)
    have T0 := Lib.hid hT
    have R0 := Lib.hid hR
    have W0 := Lib.hid hW
    have bx := x_le OK.out k
    have by_ := y_le OK.out k
    have ix0 : (0 : Int) ≤ (k : Int) := by omega
    have ix1 : (k : Int) < ((k + 1 : Nat) : Int) := by omega
    have ix2 : (k : Int) < (k : Int) + 1 := by omega
    obtain ⟨a0, a1, hBs⟩ := hT
    clear hR hW
    by_cases hlt : k < s
    · have hlt' : (k : Int) < (s : Int) := by omega
      by_cases h0 : k = 0
      · have hb0 : ((k : Int) == 0) = true := by simp; omega
        have HS := Lib.hid (fun v (hb : Below wr.heap.size wr v) => S8.mk (k := k) T0.out R0.out (by omega) (.inl h0) hb)
        have HG : Hid (k = 0 ∨ t.cor k = false) := Lib.hid (.inl h0)
        clear h0
        go_wp2_with fail
        go_quiet (fail)
        have T2 := Lib.hid (T0.out.keep (below_drewN (Below.refl _ _) nq))
        have R2 := Lib.hid (R0.out.keep (below_drewN (Below.refl _ _) nq))
        have W2 := Lib.hid (bl_drewN W0.out nq)
        clear HS T0 R0 W0 a0 a1 hBs hg
        generalize wr.drewN nq = wq at *
        go_wp2_with fail
        have hRk := Lib.hid (run_more OK.out HK.out hlt HG.out)
        have HS := Lib.hid (fun v (hb : Below wq.heap.size wq v) => S8.mk (k := k) T2.out R2.out (by omega) HG.out hb)
        have hS := HS.out wq (Below.refl _ _)
        unfold S8 at hS
        have HQ := Lib.hid (show bms t (k + 1 + 1) = bms t (k + 1) ++ bm t (k + 1) from rfl)
        have hsz := sidesS_size t k
        have hsz2 := sideAt_size t (k + 1)
        have hcat : ¬ 9223372036854775807 < (sidesS t k).size + (sideAt t (k + 1)).size := by omega
        have HSS := Lib.hid (show sidesS t (k + 1) = sidesS t k ++ sideAt t (k + 1) from rfl)
        go_region_held3 (fun w' => w'.cell? ⟨w.heap.size, 0, none⟩ = some (.int .i64 (t.W : Nat)) ∧ w'.cell? ⟨w.heap.size, 1, none⟩ = some (.int .i64 (t.H : Nat)) ∧ w'.cell? ⟨g, k * 4, none⟩ = some (.int .i64 (t.x k : Nat)) ∧ w'.cell? ⟨g, k * 4 + 1, none⟩ = some (.int .i64 (t.y k : Nat)) ∧ w'.cell? ⟨g, k * 4 + 2, none⟩ = some (.bool (t.r k)) ∧ w'.cell? ⟨g, k * 4 + 3, none⟩ = some (.bool (t.u k)) ∧ Below wq.heap.size wq w') (first | exact HS.out _ (bl_alloc hb9 _) | exact HS.out _ (bl_alloc (bl_trans hb9 (Below.drew (Below.refl _ _))) _) | exact HS.out _ (bl_trans hb9 (last7 (by assumption))) | exact HS.out _ (bl_alloc (last7 (by assumption)) _) | exact HS.out _ (below_drewN (Below.refl _ _) _) | exact HS.out _ (Below.drew (Below.refl _ _)) | exact HS.out _ (bl_set (last7 (by assumption)) (by first | omega | (simp; done) | (simp; omega)) _) | exact HS.out _ (bl_set (bl_set (bl_set (bl_set (last7 (by assumption)) (by first | omega | (simp; done) | (simp; omega)) _) (by first | omega | (simp; done) | (simp; omega)) _) (by first | omega | (simp; done) | (simp; omega)) _) (by first | omega | (simp; done) | (simp; omega)) _) | assumption) (first | (go_at_call 22; refine (beStep_way OK.out k _).mono ?_; rintro e w9 ⟨rfl, hb9⟩; obtain ⟨hc9, hf9⟩ := bcell hb9; (try have hz9 : wq.heap.size < w9.heap.size := by (have := hb9.size; simp at this; omega))) | fail)
        all_goals
          have hqz : wq.heap.size ≤ w9.heap.size := by (have := hb9.size; simp at this; omega)
          first
          | (have q0 : (w9.alloc (.cells #[.int .i64 (t.x (k + 1) : Nat), .int .i64 (t.y (k + 1) : Nat), .bool (t.kr (k + 1)), .bool (t.ku (k + 1))] 30)).cell? ⟨w9.heap.size, 0, none⟩ = some (.int .i64 (t.x (k + 1) : Nat)) := by simp
             have q1 : (w9.alloc (.cells #[.int .i64 (t.x (k + 1) : Nat), .int .i64 (t.y (k + 1) : Nat), .bool (t.kr (k + 1)), .bool (t.ku (k + 1))] 30)).cell? ⟨w9.heap.size, 1, none⟩ = some (.int .i64 (t.y (k + 1) : Nat)) := by simp
             have q2 : (w9.alloc (.cells #[.int .i64 (t.x (k + 1) : Nat), .int .i64 (t.y (k + 1) : Nat), .bool (t.kr (k + 1)), .bool (t.ku (k + 1))] 30)).cell? ⟨w9.heap.size, 2, none⟩ = some (.bool (t.kr (k + 1))) := by simp
             have q3 : (w9.alloc (.cells #[.int .i64 (t.x (k + 1) : Nat), .int .i64 (t.y (k + 1) : Nat), .bool (t.kr (k + 1)), .bool (t.ku (k + 1))] 30)).cell? ⟨w9.heap.size, 3, none⟩ = some (.bool (t.ku (k + 1))) := by simp
             have hB : Below wq.heap.size wq (w9.alloc (.cells #[.int .i64 (t.x (k + 1) : Nat), .int .i64 (t.y (k + 1) : Nat), .bool (t.kr (k + 1)), .bool (t.ku (k + 1))] 30)) := last7 (by assumption)
             have T3 := Lib.hid (T2.out.keep hB)
             have R3 := Lib.hid (R2.out.keep hB)
             have W3 := Lib.hid (bl_trans hB W2.out)
             have hzB := T3.out.hB
             clear hB
             rename_i hh
             clear hh
             generalize (w9.alloc (.cells #[.int .i64 (t.x (k + 1) : Nat), .int .i64 (t.y (k + 1) : Nat), .bool (t.kr (k + 1)), .bool (t.ku (k + 1))] 30)) = wz at *
             clear hb9 hc9 hf9
             generalize w9.heap.size = p at *)
          | (have q0 : ((((w9.setCell ⟨wq.heap.size, 0, none⟩ (.int .i64 (t.x (k + 1) : Nat))).setCell ⟨wq.heap.size, 1, none⟩ (.int .i64 (t.y (k + 1) : Nat))).setCell ⟨wq.heap.size, 2, none⟩ (.bool (t.kr (k + 1)))).setCell ⟨wq.heap.size, 3, none⟩ (.bool (t.ku (k + 1)))).cell? ⟨wq.heap.size, 0, none⟩ = some (.int .i64 (t.x (k + 1) : Nat)) := by simp [go_sem, hc9]
             have q1 : ((((w9.setCell ⟨wq.heap.size, 0, none⟩ (.int .i64 (t.x (k + 1) : Nat))).setCell ⟨wq.heap.size, 1, none⟩ (.int .i64 (t.y (k + 1) : Nat))).setCell ⟨wq.heap.size, 2, none⟩ (.bool (t.kr (k + 1)))).setCell ⟨wq.heap.size, 3, none⟩ (.bool (t.ku (k + 1)))).cell? ⟨wq.heap.size, 1, none⟩ = some (.int .i64 (t.y (k + 1) : Nat)) := by simp [go_sem, hc9]
             have q2 : ((((w9.setCell ⟨wq.heap.size, 0, none⟩ (.int .i64 (t.x (k + 1) : Nat))).setCell ⟨wq.heap.size, 1, none⟩ (.int .i64 (t.y (k + 1) : Nat))).setCell ⟨wq.heap.size, 2, none⟩ (.bool (t.kr (k + 1)))).setCell ⟨wq.heap.size, 3, none⟩ (.bool (t.ku (k + 1)))).cell? ⟨wq.heap.size, 2, none⟩ = some (.bool (t.kr (k + 1))) := by simp [go_sem, hc9]
             have q3 : ((((w9.setCell ⟨wq.heap.size, 0, none⟩ (.int .i64 (t.x (k + 1) : Nat))).setCell ⟨wq.heap.size, 1, none⟩ (.int .i64 (t.y (k + 1) : Nat))).setCell ⟨wq.heap.size, 2, none⟩ (.bool (t.kr (k + 1)))).setCell ⟨wq.heap.size, 3, none⟩ (.bool (t.ku (k + 1)))).cell? ⟨wq.heap.size, 3, none⟩ = some (.bool (t.ku (k + 1))) := by simp [go_sem, hc9]
             have hB : Below wq.heap.size wq ((((w9.setCell ⟨wq.heap.size, 0, none⟩ (.int .i64 (t.x (k + 1) : Nat))).setCell ⟨wq.heap.size, 1, none⟩ (.int .i64 (t.y (k + 1) : Nat))).setCell ⟨wq.heap.size, 2, none⟩ (.bool (t.kr (k + 1)))).setCell ⟨wq.heap.size, 3, none⟩ (.bool (t.ku (k + 1)))) := last7 (by assumption)
             have T3 := Lib.hid (T2.out.keep hB)
             have R3 := Lib.hid (R2.out.keep hB)
             have W3 := Lib.hid (bl_trans hB W2.out)
             have hzB := T3.out.hB
             clear hB
             rename_i hh
             clear hh
             generalize ((((w9.setCell ⟨wq.heap.size, 0, none⟩ (.int .i64 (t.x (k + 1) : Nat))).setCell ⟨wq.heap.size, 1, none⟩ (.int .i64 (t.y (k + 1) : Nat))).setCell ⟨wq.heap.size, 2, none⟩ (.bool (t.kr (k + 1)))).setCell ⟨wq.heap.size, 3, none⟩ (.bool (t.ku (k + 1)))) = wz at *
             clear hb9 hc9 hf9
             generalize wq.heap.size = p at *)
          clear HS T2 R2 W2 hqz
          clear hS
          have hO2 := Lib.hid (show wz.ownsRow (w.heap.size + 1 + 1) 30 4 _ (k + 1) (bms t (k + 1)) from R3.out)
          go_wp2_with (at_builtin; refine wpList_append_own _ rfl _ _ 34 rfl (w.heap.size + 1 + 1) 30 i0 (.agg #[.int .i64 0, .int .i64 0, .bool false, .bool false]) 4 24 Try.underlying34 hi hz0 hz1 hz2 rfl (by decide) _ _ _ rfl (hO2.out.alloc _) ⟨wz.heap.size, 0, none⟩ 1 1 [.int .i64 (t.x (k + 1) : Nat), .int .i64 (t.y (k + 1) : Nat), .bool (t.kr (k + 1)), .bool (t.ku (k + 1))] rfl rfl (cells4 _ _ _ _ _ _ _ (by simp)) (by simp [Value.oneCell']) (by unfold maxLen; omega) (by omega) (by first | omega | (simp; omega)) ?_; intro v' wy hown2 hgrow2 _)
          obtain ⟨q2', p2'⟩ := BRow.push (n := (k + 1)) hzB R3.out hown2 hgrow2
          have Q2 := Lib.hid q2'
          have P2 := Lib.hid p2'
          clear q2' p2' hown2 hgrow2
          have T4 := Lib.hid (T3.out.far P2.out)
          have W4 := Lib.hid (W3.out.trans (P2.out.mono (by omega)))
          go_wp2
          go_roundw
          case rel => exact ⟨k + 1, hRk.out, by go_num, by rw [HSS.out], T4.out, Q2.out, W4.out⟩
          case measure => simp only [intOf]; omega
      · have hb0 : ((k : Int) == 0) = false := by simp; omega
        have H1 := Lib.hid (show 1 ≤ k by omega)
        clear h0
        have HCk := Lib.hid (corI t k)
        have hzB := T0.out.hB
        cases hck : t.cor k
        · have HG : Hid (k = 0 ∨ t.cor k = false) := Lib.hid (.inr hck)
          have HS := Lib.hid (fun v (hb : Below wr.heap.size wr v) => S8.mk (k := k) T0.out R0.out (by omega) HG.out hb)
          have hS := HS.out wr (Below.refl _ _)
          unfold S8 at hS
          clear a0 a1
          go_wp2_with fail
          go_region_held3 (fun w' => w'.cell? ⟨w.heap.size, 0, none⟩ = some (.int .i64 (t.W : Nat)) ∧ w'.cell? ⟨w.heap.size, 1, none⟩ = some (.int .i64 (t.H : Nat)) ∧ w'.cell? ⟨g, k * 4, none⟩ = some (.int .i64 (t.x k : Nat)) ∧ w'.cell? ⟨g, k * 4 + 1, none⟩ = some (.int .i64 (t.y k : Nat)) ∧ w'.cell? ⟨g, k * 4 + 2, none⟩ = some (.bool (t.r k)) ∧ w'.cell? ⟨g, k * 4 + 3, none⟩ = some (.bool (t.u k)) ∧ Below wr.heap.size wr w') (first | exact HS.out _ (bl_alloc hb9 _) | exact HS.out _ (bl_alloc (bl_trans hb9 (Below.drew (Below.refl _ _))) _) | exact HS.out _ (bl_trans hb9 (last7 (by assumption))) | exact HS.out _ (bl_alloc (last7 (by assumption)) _) | exact HS.out _ (below_drewN (Below.refl _ _) _) | exact HS.out _ (Below.drew (Below.refl _ _)) | exact HS.out _ (bl_set (last7 (by assumption)) (by first | omega | (simp; done) | (simp; omega)) _) | exact HS.out _ (bl_set (bl_set (bl_set (bl_set (last7 (by assumption)) (by first | omega | (simp; done) | (simp; omega)) _) (by first | omega | (simp; done) | (simp; omega)) _) (by first | omega | (simp; done) | (simp; omega)) _) (by first | omega | (simp; done) | (simp; omega)) _) | assumption) (first | (go_at_call 18; refine (beCorner_any _ _ _ _ _ _ _).mono ?_; rintro e wq ⟨rfl, hb9⟩; rw [HCk.out, hck]) | fail)
          have hB : Below wr.heap.size wr wq := last7 (by assumption)
          rename_i hh
          clear hh
          have T2 := Lib.hid (T0.out.keep hB)
          have R2 := Lib.hid (R0.out.keep hB)
          have W2 := Lib.hid (bl_trans hB W0.out)
          clear HS T0 R0 W0 hBs hg hB hck hS hb9 hzB
          go_wp2_with fail
          have hRk := Lib.hid (run_more OK.out HK.out hlt HG.out)
          have HS := Lib.hid (fun v (hb : Below wq.heap.size wq v) => S8.mk (k := k) T2.out R2.out (by omega) HG.out hb)
          have hS := HS.out wq (Below.refl _ _)
          unfold S8 at hS
          have HQ := Lib.hid (show bms t (k + 1 + 1) = bms t (k + 1) ++ bm t (k + 1) from rfl)
          have hsz := sidesS_size t k
          have hsz2 := sideAt_size t (k + 1)
          have hcat : ¬ 9223372036854775807 < (sidesS t k).size + (sideAt t (k + 1)).size := by omega
          have HSS := Lib.hid (show sidesS t (k + 1) = sidesS t k ++ sideAt t (k + 1) from rfl)
          go_region_held3 (fun w' => w'.cell? ⟨w.heap.size, 0, none⟩ = some (.int .i64 (t.W : Nat)) ∧ w'.cell? ⟨w.heap.size, 1, none⟩ = some (.int .i64 (t.H : Nat)) ∧ w'.cell? ⟨g, k * 4, none⟩ = some (.int .i64 (t.x k : Nat)) ∧ w'.cell? ⟨g, k * 4 + 1, none⟩ = some (.int .i64 (t.y k : Nat)) ∧ w'.cell? ⟨g, k * 4 + 2, none⟩ = some (.bool (t.r k)) ∧ w'.cell? ⟨g, k * 4 + 3, none⟩ = some (.bool (t.u k)) ∧ Below wq.heap.size wq w') (first | exact HS.out _ (bl_alloc hb9 _) | exact HS.out _ (bl_alloc (bl_trans hb9 (Below.drew (Below.refl _ _))) _) | exact HS.out _ (bl_trans hb9 (last7 (by assumption))) | exact HS.out _ (bl_alloc (last7 (by assumption)) _) | exact HS.out _ (below_drewN (Below.refl _ _) _) | exact HS.out _ (Below.drew (Below.refl _ _)) | exact HS.out _ (bl_set (last7 (by assumption)) (by first | omega | (simp; done) | (simp; omega)) _) | exact HS.out _ (bl_set (bl_set (bl_set (bl_set (last7 (by assumption)) (by first | omega | (simp; done) | (simp; omega)) _) (by first | omega | (simp; done) | (simp; omega)) _) (by first | omega | (simp; done) | (simp; omega)) _) (by first | omega | (simp; done) | (simp; omega)) _) | assumption) (first | (go_at_call 22; refine (beStep_way OK.out k _).mono ?_; rintro e w9 ⟨rfl, hb9⟩; obtain ⟨hc9, hf9⟩ := bcell hb9; (try have hz9 : wq.heap.size < w9.heap.size := by (have := hb9.size; simp at this; omega))) | fail)
          all_goals
            have hqz : wq.heap.size ≤ w9.heap.size := by (have := hb9.size; simp at this; omega)
            first
            | (have q0 : (w9.alloc (.cells #[.int .i64 (t.x (k + 1) : Nat), .int .i64 (t.y (k + 1) : Nat), .bool (t.kr (k + 1)), .bool (t.ku (k + 1))] 30)).cell? ⟨w9.heap.size, 0, none⟩ = some (.int .i64 (t.x (k + 1) : Nat)) := by simp
               have q1 : (w9.alloc (.cells #[.int .i64 (t.x (k + 1) : Nat), .int .i64 (t.y (k + 1) : Nat), .bool (t.kr (k + 1)), .bool (t.ku (k + 1))] 30)).cell? ⟨w9.heap.size, 1, none⟩ = some (.int .i64 (t.y (k + 1) : Nat)) := by simp
               have q2 : (w9.alloc (.cells #[.int .i64 (t.x (k + 1) : Nat), .int .i64 (t.y (k + 1) : Nat), .bool (t.kr (k + 1)), .bool (t.ku (k + 1))] 30)).cell? ⟨w9.heap.size, 2, none⟩ = some (.bool (t.kr (k + 1))) := by simp
               have q3 : (w9.alloc (.cells #[.int .i64 (t.x (k + 1) : Nat), .int .i64 (t.y (k + 1) : Nat), .bool (t.kr (k + 1)), .bool (t.ku (k + 1))] 30)).cell? ⟨w9.heap.size, 3, none⟩ = some (.bool (t.ku (k + 1))) := by simp
               have hB : Below wq.heap.size wq (w9.alloc (.cells #[.int .i64 (t.x (k + 1) : Nat), .int .i64 (t.y (k + 1) : Nat), .bool (t.kr (k + 1)), .bool (t.ku (k + 1))] 30)) := last7 (by assumption)
               have T3 := Lib.hid (T2.out.keep hB)
               have R3 := Lib.hid (R2.out.keep hB)
               have W3 := Lib.hid (bl_trans hB W2.out)
               have hzB := T3.out.hB
               clear hB
               rename_i hh
               clear hh
               generalize (w9.alloc (.cells #[.int .i64 (t.x (k + 1) : Nat), .int .i64 (t.y (k + 1) : Nat), .bool (t.kr (k + 1)), .bool (t.ku (k + 1))] 30)) = wz at *
               clear hb9 hc9 hf9
               generalize w9.heap.size = p at *)
            | (have q0 : ((((w9.setCell ⟨wq.heap.size, 0, none⟩ (.int .i64 (t.x (k + 1) : Nat))).setCell ⟨wq.heap.size, 1, none⟩ (.int .i64 (t.y (k + 1) : Nat))).setCell ⟨wq.heap.size, 2, none⟩ (.bool (t.kr (k + 1)))).setCell ⟨wq.heap.size, 3, none⟩ (.bool (t.ku (k + 1)))).cell? ⟨wq.heap.size, 0, none⟩ = some (.int .i64 (t.x (k + 1) : Nat)) := by simp [go_sem, hc9]
               have q1 : ((((w9.setCell ⟨wq.heap.size, 0, none⟩ (.int .i64 (t.x (k + 1) : Nat))).setCell ⟨wq.heap.size, 1, none⟩ (.int .i64 (t.y (k + 1) : Nat))).setCell ⟨wq.heap.size, 2, none⟩ (.bool (t.kr (k + 1)))).setCell ⟨wq.heap.size, 3, none⟩ (.bool (t.ku (k + 1)))).cell? ⟨wq.heap.size, 1, none⟩ = some (.int .i64 (t.y (k + 1) : Nat)) := by simp [go_sem, hc9]
               have q2 : ((((w9.setCell ⟨wq.heap.size, 0, none⟩ (.int .i64 (t.x (k + 1) : Nat))).setCell ⟨wq.heap.size, 1, none⟩ (.int .i64 (t.y (k + 1) : Nat))).setCell ⟨wq.heap.size, 2, none⟩ (.bool (t.kr (k + 1)))).setCell ⟨wq.heap.size, 3, none⟩ (.bool (t.ku (k + 1)))).cell? ⟨wq.heap.size, 2, none⟩ = some (.bool (t.kr (k + 1))) := by simp [go_sem, hc9]
               have q3 : ((((w9.setCell ⟨wq.heap.size, 0, none⟩ (.int .i64 (t.x (k + 1) : Nat))).setCell ⟨wq.heap.size, 1, none⟩ (.int .i64 (t.y (k + 1) : Nat))).setCell ⟨wq.heap.size, 2, none⟩ (.bool (t.kr (k + 1)))).setCell ⟨wq.heap.size, 3, none⟩ (.bool (t.ku (k + 1)))).cell? ⟨wq.heap.size, 3, none⟩ = some (.bool (t.ku (k + 1))) := by simp [go_sem, hc9]
               have hB : Below wq.heap.size wq ((((w9.setCell ⟨wq.heap.size, 0, none⟩ (.int .i64 (t.x (k + 1) : Nat))).setCell ⟨wq.heap.size, 1, none⟩ (.int .i64 (t.y (k + 1) : Nat))).setCell ⟨wq.heap.size, 2, none⟩ (.bool (t.kr (k + 1)))).setCell ⟨wq.heap.size, 3, none⟩ (.bool (t.ku (k + 1)))) := last7 (by assumption)
               have T3 := Lib.hid (T2.out.keep hB)
               have R3 := Lib.hid (R2.out.keep hB)
               have W3 := Lib.hid (bl_trans hB W2.out)
               have hzB := T3.out.hB
               clear hB
               rename_i hh
               clear hh
               generalize ((((w9.setCell ⟨wq.heap.size, 0, none⟩ (.int .i64 (t.x (k + 1) : Nat))).setCell ⟨wq.heap.size, 1, none⟩ (.int .i64 (t.y (k + 1) : Nat))).setCell ⟨wq.heap.size, 2, none⟩ (.bool (t.kr (k + 1)))).setCell ⟨wq.heap.size, 3, none⟩ (.bool (t.ku (k + 1)))) = wz at *
               clear hb9 hc9 hf9
               generalize wq.heap.size = p at *)
            clear HS T2 R2 W2 hqz
            clear hS
            have hO2 := Lib.hid (show wz.ownsRow (w.heap.size + 1 + 1) 30 4 _ (k + 1) (bms t (k + 1)) from R3.out)
            go_wp2_with (at_builtin; refine wpList_append_own _ rfl _ _ 34 rfl (w.heap.size + 1 + 1) 30 i0 (.agg #[.int .i64 0, .int .i64 0, .bool false, .bool false]) 4 24 Try.underlying34 hi hz0 hz1 hz2 rfl (by decide) _ _ _ rfl (hO2.out.alloc _) ⟨wz.heap.size, 0, none⟩ 1 1 [.int .i64 (t.x (k + 1) : Nat), .int .i64 (t.y (k + 1) : Nat), .bool (t.kr (k + 1)), .bool (t.ku (k + 1))] rfl rfl (cells4 _ _ _ _ _ _ _ (by simp)) (by simp [Value.oneCell']) (by unfold maxLen; omega) (by omega) (by first | omega | (simp; omega)) ?_; intro v' wy hown2 hgrow2 _)
            obtain ⟨q2', p2'⟩ := BRow.push (n := (k + 1)) hzB R3.out hown2 hgrow2
            have Q2 := Lib.hid q2'
            have P2 := Lib.hid p2'
            clear q2' p2' hown2 hgrow2
            have T4 := Lib.hid (T3.out.far P2.out)
            have W4 := Lib.hid (W3.out.trans (P2.out.mono (by omega)))
            go_wp2
            go_roundw
            case rel => exact ⟨k + 1, hRk.out, by go_num, by rw [HSS.out], T4.out, Q2.out, W4.out⟩
            case measure => simp only [intOf]; omega
        · have HS := Lib.hid (fun v (hb : Below wr.heap.size wr v) => S9.mk (k := k) T0.out R0.out (by omega) hb)
          have hS := HS.out wr (Below.refl _ _)
          unfold S9 at hS
          clear a0 a1
          go_wp2_with fail
          go_region_held3 (fun w' => w'.cell? ⟨w.heap.size, 0, none⟩ = some (.int .i64 (t.W : Nat)) ∧ w'.cell? ⟨w.heap.size, 1, none⟩ = some (.int .i64 (t.H : Nat)) ∧ w'.cell? ⟨g, k * 4, none⟩ = some (.int .i64 (t.x k : Nat)) ∧ w'.cell? ⟨g, k * 4 + 1, none⟩ = some (.int .i64 (t.y k : Nat)) ∧ w'.cell? ⟨g, k * 4 + 2, none⟩ = some (.bool (t.kr k)) ∧ w'.cell? ⟨g, k * 4 + 3, none⟩ = some (.bool (t.ku k)) ∧ Below wr.heap.size wr w') (first | exact HS.out _ (bl_alloc hb9 _) | exact HS.out _ (bl_alloc (bl_trans hb9 (Below.drew (Below.refl _ _))) _) | exact HS.out _ (bl_trans hb9 (last7 (by assumption))) | exact HS.out _ (bl_alloc (last7 (by assumption)) _) | exact HS.out _ (below_drewN (Below.refl _ _) _) | exact HS.out _ (Below.drew (Below.refl _ _)) | exact HS.out _ (bl_set (last7 (by assumption)) (by first | omega | (simp; done) | (simp; omega)) _) | exact HS.out _ (bl_set (bl_set (bl_set (bl_set (last7 (by assumption)) (by first | omega | (simp; done) | (simp; omega)) _) (by first | omega | (simp; done) | (simp; omega)) _) (by first | omega | (simp; done) | (simp; omega)) _) (by first | omega | (simp; done) | (simp; omega)) _) | assumption) (first | (go_at_call 18; refine (beCorner_any _ _ _ _ _ _ _).mono ?_; rintro e wq ⟨rfl, hb9⟩; rw [HCk.out, hck]) | fail)
          have hB : Below wr.heap.size wr wq := last7 (by assumption)
          rename_i hh
          clear hh
          have HE := Lib.hid (run_end OK.out HK.out H1.out hck)
          have R2 := Lib.hid (R0.out.keep hB)
          have W2 := Lib.hid (bl_trans hB W0.out)
          clear HS T0 R0 W0 hBs hg hB hck hS hb9 hzB
          go_wp2
          go_ret2
          exact ⟨_, by rw [← HE.out]; rfl, by rw [← HE.out]; exact R2.out.mono (by omega), W2.out⟩
    · obtain rfl : k = s := by omega
      have HE := Lib.hid (run_whole HK.out)
      clear a0 a1
      go_wp2_with fail
      go_quiet (fail)
      go_wp2
      go_ret2
      exact ⟨_, by rw [← HE.out]; rfl, by rw [← HE.out]; exact (R0.out.keep (below_drewN (Below.refl _ _) _)).mono (by omega), bl_drewN W0.out _⟩
end Go.Proofs.Ytgpfnbajjephpaa
