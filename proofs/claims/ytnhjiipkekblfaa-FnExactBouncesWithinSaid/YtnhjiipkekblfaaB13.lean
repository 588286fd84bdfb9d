/- The sides of bounces: by the program and by the model alike. -/
import Derived.Test.YtnhjiipkekblfaaB8
import Derived.Laws.BytesArg
namespace Go.Proofs.Ytnhjiipkekblfaa
open Go.RowKit Beam Go.Deep
set_option linter.unusedVariables false
set_option linter.unusedSimpArgs false
theorem cell_one (w : World) (x : Value) (t : TypeId) (n : Nat) (hn : n = w.heap.size) : ∀ j u, [x][j]? = some u → (w.alloc (.cells #[x] t)).cell? ((⟨n, 0, none⟩ : Addr).add j) = some u := by
  intro j u hj
  subst hn
  match j, hj with
  | 0, hj =>
    simp at hj
    subst hj
    simp [Addr.add]
theorem infoU : (Try.prog.info? 5).map (fun i => (i.zero, i.size, i.bytes)) = some (some (.int .u8 0), 1, 1) := by kernel_rfl
/-- a call's own slice of bytes -/
def URow (w : World) (C : Nat) (v : Value) (xs : List Int) : Prop := w.ownsRow C 5 1 v xs.length (xs.map (Value.int .u8))
theorem URow.keep {w w' : World} {C : Nat} {v : Value} {xs : List Int} (h : URow w C v xs) (k : Below w.heap.size w w') : URow w' C v xs :=
  World.ownsRow.kept h (only_of_below k none) (by cases hv : v.ownBlock <;> simp)
theorem URow.nil (w : World) (C : Nat) : URow w C (.slice none 0 0) [] := World.ownsRow_nil w C _ 1
theorem URow.push {W w1 : World} {C : Nat} {v v' : Value} {xs : List Int} {x : Int} {o : Obj} (hC : C ≤ W.heap.size) (h : URow W C v xs)
    (hO : w1.ownsRow C 5 1 v' (xs.length + 1) (xs.map (Value.int .u8) ++ [.int .u8 x])) (hg : (W.alloc o).grownBy w1 v.ownBlock) : URow w1 C v' (xs ++ [x]) ∧ Below C W w1 := by
  refine ⟨?_, ((Below.refl C W).alloc hC o).grown hg (by simp; omega) fun g e => (World.ownsRow.lt h g e).1⟩
  unfold URow
  simpa using hO
theorem URow.text {w : World} {C : Nat} {v : Value} {xs : List Int} (h : URow w C v xs) : (convert 99 9 v).run Try.prog w = .ok (.string (strOfNums xs)) w := by
  obtain ⟨h1, ⟨rfl, hn⟩ | ⟨g, cap, cur, rfl, hB, hg, hn, hm, hs, ht⟩⟩ := h
  · have e : xs = [] := by cases xs <;> simp_all
    subst e
    exact run_convert_bytes_nil w 99 5 Try.underlying99 Try.underlying5 0 0 9 Try.underlying9
  · have h' : w.ownsRow C 5 1 (.slice (some ⟨g, 0, none⟩) xs.length cap) xs.length (xs.map (Value.int .u8)) := ⟨h1, .inr ⟨g, cap, cur, rfl, hB, hg, hn, hm, hs, ht⟩⟩
    refine run_convert_bytes_arg w 99 5 Try.underlying99 Try.underlying5 g 0 xs.length cap xs rfl (fun i hi => ?_) 9 Try.underlying9
    rw [Nat.zero_add, World.ownsRow.cellAt h' i (by omega)]
    simp [hi, List.getD]
def sideN (t : BWay) (j : Nat) : List Int := (sideAt t j).data.toList.map fun x => (x.toNat : Int)
def sN (t : BWay) : Nat → List Int
  | 0 => []
  | k + 1 => sN t k ++ sideN t (k + 1)
theorem son_bytes (s : ByteArray) : strOfNums (s.data.toList.map fun x => (x.toNat : Int)) = s := by
  unfold strOfNums
  apply ByteArray.ext
  apply Array.toList_inj.1
  simp [List.map_map, Function.comp_def]
theorem son_append (a b : List Int) : strOfNums (a ++ b) = strOfNums a ++ strOfNums b := by
  apply ByteArray.ext
  apply Array.toList_inj.1
  simp [strOfNums]
theorem sN_text (t : BWay) (k : Nat) : strOfNums (sN t k) = sidesS t k := by
  induction k with
  | zero => rfl
  | succ k ih => rw [sN, sidesS, son_append, ih, sideN, son_bytes]
theorem sN_len (t : BWay) (k : Nat) : (sN t k).length ≤ k := by
  have := sidesS_size t k
  rw [← sN_text, strOfNums_size] at this
  exact this
theorem sn_end {t : BWay} {k : Nat} (h : t.cor (k + 1) = true) : sN t (k + 1) = sN t k := by
  rw [sN, sideN, side_end h]; simp
theorem sn_of {t : BWay} {k : Nat} (h : t.cor (k + 1) = false) {s : ByteArray} (e : sideI t.W t.H (t.x (k + 1)) (t.y (k + 1)) = s) : sN t (k + 1) = sN t k ++ s.data.toList.map fun x => (x.toNat : Int) := by
  rw [sN, sideN, side_go h, e]
theorem made_le {t : BWay} {s k : Nat} (hk : k ≤ t.made s) : t.made k = k := by
  cases he : t.e <;> simp only [BWay.made, he, if_true, Bool.false_eq_true, if_false] at hk ⊢ <;> omega
set_option maxRecDepth 100000 in
set_option maxHeartbeats 4000000 in
theorem sidesOf_any (t : BWay) (h : t.ok) (g cap C s : Nat) (hs : s ≤ 100000) (w : World) (hR : BRow w C (.slice (some ⟨g, 0, none⟩) (wlen t) cap) (wlen t) t) :
    Calls Try.prog 85 #[.agg #[.int .i64 (t.W : Nat), .int .i64 (t.H : Nat)], .agg #[.slice (some ⟨g, 0, none⟩) (wlen t) cap, .bool t.e], .int .i64 (s : Nat)] w fun e w' => e = .returned (.string (sidesS t (t.made s))) ∧ Below w.heap.size w w' := by
  have OK := Lib.hid h
  have R0 := Lib.hid hR
  have hwl := wlen_pos h
  have hm := (t.made_lt s).1
  have HMD : (if t.e then min (s : Int) ((wlen t : Int) - 1) else (s : Int)) = ((t.made s : Nat) : Int) := by
    cases he : t.e
    · simp [BWay.made, he]
    · simp [BWay.made, he, wlen]; omega
  have HSM := fun W => Lib.hid (stepsMade_any g cap (wlen t) t.e (s : Int) hwl.1 (by omega) (by omega) (by omega) W)
  simp only [HMD] at HSM
  have HBA := fun (k : Nat) (hk : k + 1 ≤ 100001) (v : World) hR => Lib.hid (behind_any t OK.out g cap C (k + 1) (by omega) v hR)
  have HBV := Lib.hid (fun k (hk : k + 1 ≤ t.made s) => (show bAt t (k + 1) = .agg #[.int .i64 (t.x (k + 1) : Nat), .int .i64 (t.y (k + 1) : Nat), .bool (t.kr (k + 1)), .bool (t.ku (k + 1))] by unfold bAt; rw [made_le hk]))
  have HT := Lib.hid (sN_text t (t.made s))
  obtain ⟨i0, ji, iz0, iz1, iz2⟩ := info_parts infoU
  clear HMD hR h
  generalize t.made s = m at *
  generalize wlen t = n at *
  generalize t.e = e0 at *
  obtain ⟨hn1, hn2⟩ := hwl
  go_enter Try.func85, Try.ntmps85
  go_wp2_with fail
  refine ((HSM _).out).mono ?_
  rintro e w1 ⟨rfl, hb1⟩
  obtain ⟨hc1, hf1⟩ := bcell hb1
  have hz1 := bsize hb1
  (try simp only [World.size_alloc, World.size_setCell] at hz1)
  have k1_0_0 : w1.cell? ⟨w.heap.size, 0, none⟩ = some (.int .i64 (t.W : Nat)) := by rw [hc1 _ _ (by first | (simp; done) | omega | (simp; omega))]; first | assumption | (simp [go_sem]; done) | (simp [go_sem]; done) | (simp [go_sem, *]; done)
  have k1_0_1 : w1.cell? ⟨w.heap.size, 1, none⟩ = some (.int .i64 (t.H : Nat)) := by rw [hc1 _ _ (by first | (simp; done) | omega | (simp; omega))]; first | assumption | (simp [go_sem]; done) | (simp [go_sem]; done) | (simp [go_sem, *]; done)
  have s1_0 : w.heap.size < w1.heap.size := by omega
  have k1_1_0 : w1.cell? ⟨w.heap.size + 1, 0, none⟩ = some (.slice (some ⟨g, 0, none⟩) n cap) := by rw [hc1 _ _ (by first | (simp; done) | omega | (simp; omega))]; first | assumption | (simp [go_sem]; done) | (simp [go_sem]; done) | (simp [go_sem, *]; done)
  have k1_1_1 : w1.cell? ⟨w.heap.size + 1, 1, none⟩ = some (.bool e0) := by rw [hc1 _ _ (by first | (simp; done) | omega | (simp; omega))]; first | assumption | (simp [go_sem]; done) | (simp [go_sem]; done) | (simp [go_sem, *]; done)
  have s1_1 : w.heap.size + 1 < w1.heap.size := by omega
  have hB1 : Below w.heap.size w w1 := (by repeat (first | exact Below.refl _ _ | refine bl_alloc ?_ _ | refine bl_drewN ?_ _ | refine bl_trans (by assumption) ?_ | refine bl_set ?_ (by first | omega | (simp; done) | (simp; omega)) _))
  have HB1 := Lib.hid hB1
  clear hB1 hc1 hf1 hb1
  go_wp2_with fail
  go_loopw [7, 13] (fun v kk wr => ∃ k : Nat, k ≤ m ∧ kk = .int .i64 (k : Nat) ∧ URow wr w1.heap.size v (sN t k) ∧ Below w1.heap.size w1 wr) (fun _ kk _ => m - (intOf kk).toNat)
  case atStart => exact ⟨0, Nat.zero_le _, rfl, URow.nil _ _, Below.refl _ _⟩
  case round =>
    obtain ⟨k, hk, rfl, hU, hb⟩ := hrel
    by_cases hlt : k < m
    · have ix0 : (0 : Int) ≤ (k : Int) := by omega
      have ix1 : (k : Int) < (m : Int) := by omega
      have T0 := Lib.hid (cell_after hb s1_0 k1_0_0)
      have T1 := Lib.hid (cell_after hb s1_0 k1_0_1)
      have W0 := cell_after hb s1_1 k1_1_0
      have W1 := cell_after hb s1_1 k1_1_1
      have RK := Lib.hid (R0.out.keep (bl_trans hb HB1.out))
      have HBK := Lib.hid (HBV.out k (by omega))
      have HCI := Lib.hid (corI t (k + 1))
      have U1 := Lib.hid hU
      have B1 := Lib.hid hb
      have lT := Nat.lt_of_lt_of_le s1_0 hb.size
      have hsl := sN_len t k
      clear hU hb
      have HBAk := Lib.hid (HBA k (by omega) _ RK.out).out
      rw [show (((k + 1 : Nat)) : Int) = (k : Int) + 1 by omega] at HBAk
      go_wp2_with fail
      refine (HBAk.out).mono ?_
      rintro e w9 ⟨rfl, hb9⟩
      rw [HBK.out]
      have T0 := Lib.hid (cell_after hb9 lT T0.out)
      have T1 := Lib.hid (cell_after hb9 lT T1.out)
      have t0 := T0.out
      have t1 := T1.out
      have lT := size_after hb9 lT
      have U9 := Lib.hid (U1.out.keep hb9)
      have B9 := Lib.hid (bl_trans hb9 B1.out)
      clear hb9 W0 W1 U1 B1 RK
      go_wp2_with fail
      refine (isAtCorner_any _ _ _ _ _ _ _).mono ?_
      rintro e wA ⟨rfl, hbA⟩
      rw [HCI.out]
      have x0 : wA.cell? ⟨w9.heap.size, 0, none⟩ = some (.int .i64 (t.x (k + 1) : Nat)) := by rw [(bcell hbA).1 _ _ (by simp)]; simp [go_sem]
      have x1 : wA.cell? ⟨w9.heap.size, 1, none⟩ = some (.int .i64 (t.y (k + 1) : Nat)) := by rw [(bcell hbA).1 _ _ (by simp)]; simp [go_sem]
      have hbB : Below w9.heap.size w9 wA := bl_trans hbA (bl_alloc (Below.refl _ _) _)
      have t0 := cell_after hbB lT T0.out
      have t1 := cell_after hbB lT T1.out
      have UA := Lib.hid (U9.out.keep hbB)
      have BA := Lib.hid (bl_trans hbB B9.out)
      have HCA : w1.heap.size ≤ wA.heap.size := BA.out.size
      clear hbA hbB U9 B9 lT T0 T1
      have X0 := Lib.hid (show 1 ≤ t.W ∧ 1 ≤ t.H from ⟨OK.out.1, OK.out.2.1⟩)
      cases hcor : t.cor (k + 1)
      case true =>
        have HSN := Lib.hid (sn_end hcor)
        go_wp2
        go_roundw
        case rel => exact ⟨k + 1, by omega, by go_num, by rw [HSN.out]; exact UA.out, BA.out⟩
        case measure => simp only [intOf]; omega
      case false =>
        have HOF := Lib.hid (fun (s : ByteArray) e => sn_of hcor (s := s) e)
        clear hcor
        cases e1 : (((t.x (k + 1) : Nat) : Int) == 0)
        case true =>
          have HSN := Lib.hid (show sN t (k + 1) = sN t k ++ [108] from HOF.out ⟨#[108]⟩ (side_l (by have := X0.out.1; simp at e1 ⊢; omega) e1))
          have hO2 := Lib.hid (show wA.ownsRow w1.heap.size 5 1 _ (sN t k).length ((sN t k).map (Value.int .u8)) from UA.out)
          generalize hL : (sN t k).length = L at *
          have HLn := Lib.hid hL
          clear hL
          go_wp2_with (at_builtin; refine wpList_append_own _ rfl _ _ 99 rfl w1.heap.size 5 i0 (.int .u8 0) 1 1 Try.underlying99 ji iz0 iz1 iz2 rfl (by decide) _ _ _ rfl (hO2.out.alloc _) ⟨wA.heap.size, 0, none⟩ 1 1 [.int .u8 108] rfl rfl (cell_one _ _ _ _ (by simp)) (by simp [Value.oneCell']) (by unfold maxLen; omega) (by omega) (by first | omega | (simp; omega)) ?_; intro v' wn hown hgrow _)
          rw [← HLn.out] at hown
          obtain ⟨q1, q2⟩ := URow.push HCA UA.out hown hgrow
          rw [← HSN.out] at q1
          have Q1 := Lib.hid q1
          have Q2 := Lib.hid q2
          clear q1 q2 hown hgrow
          go_wp2
          go_roundw
          case rel => exact ⟨k + 1, by omega, by go_num, Q1.out, BA.out.trans Q2.out⟩
          case measure => simp only [intOf]; omega
        case false =>
          cases e2 : (((t.x (k + 1) : Nat) : Int) == (t.W : Nat))
          case true =>
            have HSN := Lib.hid (show sN t (k + 1) = sN t k ++ [114] from HOF.out ⟨#[114]⟩ (side_r e2))
            have hO2 := Lib.hid (show wA.ownsRow w1.heap.size 5 1 _ (sN t k).length ((sN t k).map (Value.int .u8)) from UA.out)
            generalize hL : (sN t k).length = L at *
            have HLn := Lib.hid hL
            clear hL
            go_wp2_with (at_builtin; refine wpList_append_own _ rfl _ _ 99 rfl w1.heap.size 5 i0 (.int .u8 0) 1 1 Try.underlying99 ji iz0 iz1 iz2 rfl (by decide) _ _ _ rfl (hO2.out.alloc _) ⟨wA.heap.size, 0, none⟩ 1 1 [.int .u8 114] rfl rfl (cell_one _ _ _ _ (by simp)) (by simp [Value.oneCell']) (by unfold maxLen; omega) (by omega) (by first | omega | (simp; omega)) ?_; intro v' wn hown hgrow _)
            rw [← HLn.out] at hown
            obtain ⟨q1, q2⟩ := URow.push HCA UA.out hown hgrow
            rw [← HSN.out] at q1
            have Q1 := Lib.hid q1
            have Q2 := Lib.hid q2
            clear q1 q2 hown hgrow
            go_wp2
            go_roundw
            case rel => exact ⟨k + 1, by omega, by go_num, Q1.out, BA.out.trans Q2.out⟩
            case measure => simp only [intOf]; omega
          case false =>
            cases e3 : (((t.y (k + 1) : Nat) : Int) == 0)
            case true =>
              have HSN := Lib.hid (show sN t (k + 1) = sN t k ++ [100] from HOF.out ⟨#[100]⟩ (side_d e2 e1 (by have := X0.out.2; simp at e3 ⊢; omega) e3))
              have hO2 := Lib.hid (show wA.ownsRow w1.heap.size 5 1 _ (sN t k).length ((sN t k).map (Value.int .u8)) from UA.out)
              generalize hL : (sN t k).length = L at *
              have HLn := Lib.hid hL
              clear hL
              go_wp2_with (at_builtin; refine wpList_append_own _ rfl _ _ 99 rfl w1.heap.size 5 i0 (.int .u8 0) 1 1 Try.underlying99 ji iz0 iz1 iz2 rfl (by decide) _ _ _ rfl (hO2.out.alloc _) ⟨wA.heap.size, 0, none⟩ 1 1 [.int .u8 100] rfl rfl (cell_one _ _ _ _ (by simp)) (by simp [Value.oneCell']) (by unfold maxLen; omega) (by omega) (by first | omega | (simp; omega)) ?_; intro v' wn hown hgrow _)
              rw [← HLn.out] at hown
              obtain ⟨q1, q2⟩ := URow.push HCA UA.out hown hgrow
              rw [← HSN.out] at q1
              have Q1 := Lib.hid q1
              have Q2 := Lib.hid q2
              clear q1 q2 hown hgrow
              go_wp2
              go_roundw
              case rel => exact ⟨k + 1, by omega, by go_num, Q1.out, BA.out.trans Q2.out⟩
              case measure => simp only [intOf]; omega
            case false =>
              cases e4 : (((t.y (k + 1) : Nat) : Int) == (t.H : Nat))
              case true =>
                have HSN := Lib.hid (show sN t (k + 1) = sN t k ++ [117] from HOF.out ⟨#[117]⟩ (side_u e2 e1 e4))
                have hO2 := Lib.hid (show wA.ownsRow w1.heap.size 5 1 _ (sN t k).length ((sN t k).map (Value.int .u8)) from UA.out)
                generalize hL : (sN t k).length = L at *
                have HLn := Lib.hid hL
                clear hL
                go_wp2_with (at_builtin; refine wpList_append_own _ rfl _ _ 99 rfl w1.heap.size 5 i0 (.int .u8 0) 1 1 Try.underlying99 ji iz0 iz1 iz2 rfl (by decide) _ _ _ rfl (hO2.out.alloc _) ⟨wA.heap.size, 0, none⟩ 1 1 [.int .u8 117] rfl rfl (cell_one _ _ _ _ (by simp)) (by simp [Value.oneCell']) (by unfold maxLen; omega) (by omega) (by first | omega | (simp; omega)) ?_; intro v' wn hown hgrow _)
                rw [← HLn.out] at hown
                obtain ⟨q1, q2⟩ := URow.push HCA UA.out hown hgrow
                rw [← HSN.out] at q1
                have Q1 := Lib.hid q1
                have Q2 := Lib.hid q2
                clear q1 q2 hown hgrow
                go_wp2
                go_roundw
                case rel => exact ⟨k + 1, by omega, by go_num, Q1.out, BA.out.trans Q2.out⟩
                case measure => simp only [intOf]; omega
              case false =>
                have HSN := Lib.hid (show sN t (k + 1) = sN t k by have := HOF.out ⟨#[]⟩ (side_n e2 e1 e4 e3); simpa using this)
                go_wp2
                go_roundw
                case rel => exact ⟨k + 1, by omega, by go_num, by rw [HSN.out]; exact UA.out, BA.out⟩
                case measure => simp only [intOf]; omega
    · obtain rfl : k = m := by omega
      have HC := Lib.hid hU.text
      have hC := HC.out
      rw [HT.out] at hC
      have HB := Lib.hid hb
      clear hU hb
      go_wp2
      go_ret
      exact ⟨rfl, bl_trans HB.out HB1.out⟩

theorem sidesOf_of {a b x y : Int} (h : okB a b x y = true) (r u : Bool) (g cap C s : Nat) (hs : s ≤ 100000) (w : World) (hR : BRow w C (.slice (some ⟨g, 0, none⟩) (wlen (wayI a b x y r u)) cap) (wlen (wayI a b x y r u)) (wayI a b x y r u)) :
    Calls Try.prog 85 #[.agg #[.int .i64 a, .int .i64 b], .agg #[.slice (some ⟨g, 0, none⟩) (wlen (wayI a b x y r u)) cap, .bool (wayI a b x y r u).e], .int .i64 (s : Nat)] w fun e w' => e = .returned (.string (sidesS (wayI a b x y r u) ((wayI a b x y r u).made s))) ∧ Below w.heap.size w w' := by
  obtain ⟨hk, h1, h2, _⟩ := wayI_args h r u
  generalize wayI a b x y r u = t at *
  rw [h1, h2]
  exact sidesOf_any t hk g cap C s hs w hR
def bS (a b x y : Int) (r u : Bool) (s : Int) : ByteArray := if okBS 1000 a b x y s then sidesS (wayI a b x y r u) ((wayI a b x y r u).made s.toNat) else ⟨#[]⟩
def bC (a b x y : Int) (r u : Bool) : Int := if okE a b x y r u then ((sidesS (wayI a b x y r u) (wayI a b x y r u).M).size : Nat) else 0
theorem ret_sb {a b : ByteArray} {c d : Bool} (h1 : a = b) (h2 : c = d) : Ending.returned (.tuple #[.string a, .bool c]) = .returned (.tuple #[.string b, .bool d]) := by rw [h1, h2]
set_option maxRecDepth 100000 in
set_option maxHeartbeats 800000 in
theorem spec_BouncesWithin (a b x y : Int) (r u : Bool) (s : Int) (w : World) :
    Calls Try.prog 41 #[.agg #[.int .i64 a, .int .i64 b], .agg #[.int .i64 x, .int .i64 y, .bool r, .bool u], .int .i64 s] w fun e w' => e = .returned (.tuple #[.string (bS a b x y r u s), .bool (okBS 1000 a b x y s)]) ∧ Below w.heap.size w w' := by
  cases h : okBS 1000 a b x y s
  · go_enter Try.func41, Try.ntmps41
    go_wp2_with fail
    refine (spec_beAsked _ _ _ _ _ _ _ _ _).mono ?_
    rintro e w1 ⟨rfl, hb1⟩
    obtain ⟨hc1, hf1⟩ := bcell hb1
    have hz1 := bsize hb1
    (try simp only [World.size_alloc, World.size_setCell] at hz1)
    have k1_0_0 : w1.cell? ⟨w.heap.size, 0, none⟩ = some (.int .i64 a) := by rw [hc1 _ _ (by first | (simp; done) | omega | (simp; omega))]; first | assumption | (simp [go_sem]; done) | (simp [go_sem]; done) | (simp [go_sem, *]; done)
    have k1_0_1 : w1.cell? ⟨w.heap.size, 1, none⟩ = some (.int .i64 b) := by rw [hc1 _ _ (by first | (simp; done) | omega | (simp; omega))]; first | assumption | (simp [go_sem]; done) | (simp [go_sem]; done) | (simp [go_sem, *]; done)
    have s1_0 : w.heap.size < w1.heap.size := by omega
    have k1_1_0 : w1.cell? ⟨w.heap.size + 1, 0, none⟩ = some (.int .i64 x) := by rw [hc1 _ _ (by first | (simp; done) | omega | (simp; omega))]; first | assumption | (simp [go_sem]; done) | (simp [go_sem]; done) | (simp [go_sem, *]; done)
    have k1_1_1 : w1.cell? ⟨w.heap.size + 1, 1, none⟩ = some (.int .i64 y) := by rw [hc1 _ _ (by first | (simp; done) | omega | (simp; omega))]; first | assumption | (simp [go_sem]; done) | (simp [go_sem]; done) | (simp [go_sem, *]; done)
    have k1_1_2 : w1.cell? ⟨w.heap.size + 1, 2, none⟩ = some (.bool r) := by rw [hc1 _ _ (by first | (simp; done) | omega | (simp; omega))]; first | assumption | (simp [go_sem]; done) | (simp [go_sem]; done) | (simp [go_sem, *]; done)
    have k1_1_3 : w1.cell? ⟨w.heap.size + 1, 3, none⟩ = some (.bool u) := by rw [hc1 _ _ (by first | (simp; done) | omega | (simp; omega))]; first | assumption | (simp [go_sem]; done) | (simp [go_sem]; done) | (simp [go_sem, *]; done)
    have s1_1 : w.heap.size + 1 < w1.heap.size := by omega
    have hB1 : Below w.heap.size w w1 := (by repeat (first | exact Below.refl _ _ | refine bl_alloc ?_ _ | refine bl_drewN ?_ _ | refine bl_trans (by assumption) ?_ | refine bl_set ?_ (by first | omega | (simp; done) | (simp; omega)) _))
    have HB1 := Lib.hid hB1
    clear hB1 hc1 hf1 hb1
    rw [h]
    go_wp2
    go_ret2
    exact ⟨ret_sb (by simp [bS, h]) rfl, HB1.out⟩
  have h0 := h
  simp only [okBS, Bool.and_eq_true] at h0
  obtain ⟨hB, hs⟩ := h0
  obtain ⟨s1, s2⟩ := within_true hs
  have HW := fun W => Lib.hid (beRun_of hB r u s s1 (by omega) W)
  have HS := Lib.hid (show bS a b x y r u s = sidesS (wayI a b x y r u) ((wayI a b x y r u).made s.toNat) by simp [bS, h])
  clear hB hs
  generalize sidesS (wayI a b x y r u) ((wayI a b x y r u).made s.toNat) = sd at *
  generalize (wayI a b x y r u).made s.toNat + 1 = n at *
  go_enter Try.func41, Try.ntmps41
  go_wp2_with fail
  refine (spec_beAsked _ _ _ _ _ _ _ _ _).mono ?_
  rintro e w1 ⟨rfl, hb1⟩
  obtain ⟨hc1, hf1⟩ := bcell hb1
  have hz1 := bsize hb1
  (try simp only [World.size_alloc, World.size_setCell] at hz1)
  have k1_0_0 : w1.cell? ⟨w.heap.size, 0, none⟩ = some (.int .i64 a) := by rw [hc1 _ _ (by first | (simp; done) | omega | (simp; omega))]; first | assumption | (simp [go_sem]; done) | (simp [go_sem]; done) | (simp [go_sem, *]; done)
  have k1_0_1 : w1.cell? ⟨w.heap.size, 1, none⟩ = some (.int .i64 b) := by rw [hc1 _ _ (by first | (simp; done) | omega | (simp; omega))]; first | assumption | (simp [go_sem]; done) | (simp [go_sem]; done) | (simp [go_sem, *]; done)
  have s1_0 : w.heap.size < w1.heap.size := by omega
  have k1_1_0 : w1.cell? ⟨w.heap.size + 1, 0, none⟩ = some (.int .i64 x) := by rw [hc1 _ _ (by first | (simp; done) | omega | (simp; omega))]; first | assumption | (simp [go_sem]; done) | (simp [go_sem]; done) | (simp [go_sem, *]; done)
  have k1_1_1 : w1.cell? ⟨w.heap.size + 1, 1, none⟩ = some (.int .i64 y) := by rw [hc1 _ _ (by first | (simp; done) | omega | (simp; omega))]; first | assumption | (simp [go_sem]; done) | (simp [go_sem]; done) | (simp [go_sem, *]; done)
  have k1_1_2 : w1.cell? ⟨w.heap.size + 1, 2, none⟩ = some (.bool r) := by rw [hc1 _ _ (by first | (simp; done) | omega | (simp; omega))]; first | assumption | (simp [go_sem]; done) | (simp [go_sem]; done) | (simp [go_sem, *]; done)
  have k1_1_3 : w1.cell? ⟨w.heap.size + 1, 3, none⟩ = some (.bool u) := by rw [hc1 _ _ (by first | (simp; done) | omega | (simp; omega))]; first | assumption | (simp [go_sem]; done) | (simp [go_sem]; done) | (simp [go_sem, *]; done)
  have s1_1 : w.heap.size + 1 < w1.heap.size := by omega
  have hB1 : Below w.heap.size w w1 := (by repeat (first | exact Below.refl _ _ | refine bl_alloc ?_ _ | refine bl_drewN ?_ _ | refine bl_trans (by assumption) ?_ | refine bl_set ?_ (by first | omega | (simp; done) | (simp; omega)) _))
  have HB1 := Lib.hid hB1
  clear hB1 hc1 hf1 hb1
  rw [h]
  have HBp2 := HB1
  go_wp2_with fail
  refine ((HW _).out).mono ?_
  rintro e w2 ⟨g, cap, rfl, hR, hb2⟩
  obtain ⟨hc2, hf2⟩ := bcell hb2
  have hz2 := bsize hb2
  (try simp only [World.size_alloc, World.size_setCell] at hz2)
  have k2_0_0 : w2.cell? ⟨w.heap.size, 0, none⟩ = some (.int .i64 a) := by rw [hc2 _ _ (by first | (simp; done) | omega | (simp; omega))]; first | assumption | (simp [go_sem]; done) | (simp [go_sem, k1_0_0, k1_0_1, k1_1_0, k1_1_1, k1_1_2, k1_1_3]; done) | (simp [go_sem, *]; done)
  have k2_0_1 : w2.cell? ⟨w.heap.size, 1, none⟩ = some (.int .i64 b) := by rw [hc2 _ _ (by first | (simp; done) | omega | (simp; omega))]; first | assumption | (simp [go_sem]; done) | (simp [go_sem, k1_0_0, k1_0_1, k1_1_0, k1_1_1, k1_1_2, k1_1_3]; done) | (simp [go_sem, *]; done)
  have s2_0 : w.heap.size < w2.heap.size := by omega
  have k2_1_0 : w2.cell? ⟨w.heap.size + 1, 0, none⟩ = some (.int .i64 x) := by rw [hc2 _ _ (by first | (simp; done) | omega | (simp; omega))]; first | assumption | (simp [go_sem]; done) | (simp [go_sem, k1_0_0, k1_0_1, k1_1_0, k1_1_1, k1_1_2, k1_1_3]; done) | (simp [go_sem, *]; done)
  have k2_1_1 : w2.cell? ⟨w.heap.size + 1, 1, none⟩ = some (.int .i64 y) := by rw [hc2 _ _ (by first | (simp; done) | omega | (simp; omega))]; first | assumption | (simp [go_sem]; done) | (simp [go_sem, k1_0_0, k1_0_1, k1_1_0, k1_1_1, k1_1_2, k1_1_3]; done) | (simp [go_sem, *]; done)
  have k2_1_2 : w2.cell? ⟨w.heap.size + 1, 2, none⟩ = some (.bool r) := by rw [hc2 _ _ (by first | (simp; done) | omega | (simp; omega))]; first | assumption | (simp [go_sem]; done) | (simp [go_sem, k1_0_0, k1_0_1, k1_1_0, k1_1_1, k1_1_2, k1_1_3]; done) | (simp [go_sem, *]; done)
  have k2_1_3 : w2.cell? ⟨w.heap.size + 1, 3, none⟩ = some (.bool u) := by rw [hc2 _ _ (by first | (simp; done) | omega | (simp; omega))]; first | assumption | (simp [go_sem]; done) | (simp [go_sem, k1_0_0, k1_0_1, k1_1_0, k1_1_1, k1_1_2, k1_1_3]; done) | (simp [go_sem, *]; done)
  have s2_1 : w.heap.size + 1 < w2.heap.size := by omega
  have hB2 : Below w.heap.size w w2 := (by repeat (first | exact Below.refl _ _ | exact HB1.out | refine bl_alloc ?_ _ | refine bl_drewN ?_ _ | refine bl_trans (by assumption) ?_ | refine bl_set ?_ (by first | omega | (simp; done) | (simp; omega)) _))
  have HB2 := Lib.hid hB2
  clear hB2 hc2 hf2 hb2 k1_0_0 k1_0_1 k1_1_0 k1_1_1 k1_1_2 k1_1_3
  clear hR
  go_wp2
  go_ret2
  exact ⟨ret_sb (by rw [HS.out]) rfl, HB2.out⟩
theorem six_aft {b1 b2 o1 o2 o3 o4 o5 o6 : Nat} {v1 v2 v3 v4 v5 v6 : Value} {W0 v : World} (h1 : W0.cell? ⟨b1, o1, none⟩ = some v1) (h2 : W0.cell? ⟨b1, o2, none⟩ = some v2) (h3 : W0.cell? ⟨b2, o3, none⟩ = some v3) (h4 : W0.cell? ⟨b2, o4, none⟩ = some v4) (h5 : W0.cell? ⟨b2, o5, none⟩ = some v5) (h6 : W0.cell? ⟨b2, o6, none⟩ = some v6) (l1 : b1 < W0.heap.size) (l2 : b2 < W0.heap.size) (hb : Below W0.heap.size W0 v) :
    v.cell? ⟨b1, o1, none⟩ = some v1 ∧ v.cell? ⟨b1, o2, none⟩ = some v2 ∧ v.cell? ⟨b2, o3, none⟩ = some v3 ∧ v.cell? ⟨b2, o4, none⟩ = some v4 ∧ v.cell? ⟨b2, o5, none⟩ = some v5 ∧ v.cell? ⟨b2, o6, none⟩ = some v6 ∧ Below W0.heap.size W0 v :=
  ⟨cell_after hb l1 h1, cell_after hb l1 h2, cell_after hb l2 h3, cell_after hb l2 h4, cell_after hb l2 h5, cell_after hb l2 h6, hb⟩
set_option maxRecDepth 100000 in
set_option maxHeartbeats 2000000 in
theorem impl_BouncesWithin (a b x y : Int) (r u : Bool) (s : Int) (w : World) :
    Calls Try.prog 42 #[.agg #[.int .i64 a, .int .i64 b], .agg #[.int .i64 x, .int .i64 y, .bool r, .bool u], .int .i64 s] w fun e w' => e = .returned (.tuple #[.string (bS a b x y r u s), .bool (okBS 1000 a b x y s)]) ∧ Below w.heap.size w w' := by
  cases h : okB a b x y
  · have HO := Lib.hid (show okBS 1000 a b x y s = false by simp [okBS, h])
    go_enter Try.func42, Try.ntmps42
    go_wp2_with fail
    refine (impl_IsBeam _ _ _ _ _ _ _).mono ?_
    rintro e w1 ⟨rfl, hb1⟩
    obtain ⟨hc1, hf1⟩ := bcell hb1
    have hz1 := bsize hb1
    (try simp only [World.size_alloc, World.size_setCell] at hz1)
    have k1_0_0 : w1.cell? ⟨w.heap.size, 0, none⟩ = some (.int .i64 a) := by rw [hc1 _ _ (by first | (simp; done) | omega | (simp; omega))]; first | assumption | (simp [go_sem]; done) | (simp [go_sem]; done) | (simp [go_sem, *]; done)
    have k1_0_1 : w1.cell? ⟨w.heap.size, 1, none⟩ = some (.int .i64 b) := by rw [hc1 _ _ (by first | (simp; done) | omega | (simp; omega))]; first | assumption | (simp [go_sem]; done) | (simp [go_sem]; done) | (simp [go_sem, *]; done)
    have s1_0 : w.heap.size < w1.heap.size := by omega
    have k1_1_0 : w1.cell? ⟨w.heap.size + 1, 0, none⟩ = some (.int .i64 x) := by rw [hc1 _ _ (by first | (simp; done) | omega | (simp; omega))]; first | assumption | (simp [go_sem]; done) | (simp [go_sem]; done) | (simp [go_sem, *]; done)
    have k1_1_1 : w1.cell? ⟨w.heap.size + 1, 1, none⟩ = some (.int .i64 y) := by rw [hc1 _ _ (by first | (simp; done) | omega | (simp; omega))]; first | assumption | (simp [go_sem]; done) | (simp [go_sem]; done) | (simp [go_sem, *]; done)
    have k1_1_2 : w1.cell? ⟨w.heap.size + 1, 2, none⟩ = some (.bool r) := by rw [hc1 _ _ (by first | (simp; done) | omega | (simp; omega))]; first | assumption | (simp [go_sem]; done) | (simp [go_sem]; done) | (simp [go_sem, *]; done)
    have k1_1_3 : w1.cell? ⟨w.heap.size + 1, 3, none⟩ = some (.bool u) := by rw [hc1 _ _ (by first | (simp; done) | omega | (simp; omega))]; first | assumption | (simp [go_sem]; done) | (simp [go_sem]; done) | (simp [go_sem, *]; done)
    have s1_1 : w.heap.size + 1 < w1.heap.size := by omega
    have hB1 : Below w.heap.size w w1 := (by repeat (first | exact Below.refl _ _ | refine bl_alloc ?_ _ | refine bl_drewN ?_ _ | refine bl_trans (by assumption) ?_ | refine bl_set ?_ (by first | omega | (simp; done) | (simp; omega)) _))
    have HB1 := Lib.hid hB1
    clear hB1 hc1 hf1 hb1
    rw [h]
    go_wp2
    go_ret2
    exact ⟨ret_sb (by simp [bS, HO.out]) (by rw [HO.out]), HB1.out⟩
  cases h1 : within s 0 1000
  · have HO := Lib.hid (show okBS 1000 a b x y s = false by simp [okBS, h, h1])
    go_enter Try.func42, Try.ntmps42
    go_wp2_with fail
    refine (impl_IsBeam _ _ _ _ _ _ _).mono ?_
    rintro e w1 ⟨rfl, hb1⟩
    obtain ⟨hc1, hf1⟩ := bcell hb1
    have hz1 := bsize hb1
    (try simp only [World.size_alloc, World.size_setCell] at hz1)
    have k1_0_0 : w1.cell? ⟨w.heap.size, 0, none⟩ = some (.int .i64 a) := by rw [hc1 _ _ (by first | (simp; done) | omega | (simp; omega))]; first | assumption | (simp [go_sem]; done) | (simp [go_sem]; done) | (simp [go_sem, *]; done)
    have k1_0_1 : w1.cell? ⟨w.heap.size, 1, none⟩ = some (.int .i64 b) := by rw [hc1 _ _ (by first | (simp; done) | omega | (simp; omega))]; first | assumption | (simp [go_sem]; done) | (simp [go_sem]; done) | (simp [go_sem, *]; done)
    have s1_0 : w.heap.size < w1.heap.size := by omega
    have k1_1_0 : w1.cell? ⟨w.heap.size + 1, 0, none⟩ = some (.int .i64 x) := by rw [hc1 _ _ (by first | (simp; done) | omega | (simp; omega))]; first | assumption | (simp [go_sem]; done) | (simp [go_sem]; done) | (simp [go_sem, *]; done)
    have k1_1_1 : w1.cell? ⟨w.heap.size + 1, 1, none⟩ = some (.int .i64 y) := by rw [hc1 _ _ (by first | (simp; done) | omega | (simp; omega))]; first | assumption | (simp [go_sem]; done) | (simp [go_sem]; done) | (simp [go_sem, *]; done)
    have k1_1_2 : w1.cell? ⟨w.heap.size + 1, 2, none⟩ = some (.bool r) := by rw [hc1 _ _ (by first | (simp; done) | omega | (simp; omega))]; first | assumption | (simp [go_sem]; done) | (simp [go_sem]; done) | (simp [go_sem, *]; done)
    have k1_1_3 : w1.cell? ⟨w.heap.size + 1, 3, none⟩ = some (.bool u) := by rw [hc1 _ _ (by first | (simp; done) | omega | (simp; omega))]; first | assumption | (simp [go_sem]; done) | (simp [go_sem]; done) | (simp [go_sem, *]; done)
    have s1_1 : w.heap.size + 1 < w1.heap.size := by omega
    have hB1 : Below w.heap.size w w1 := (by repeat (first | exact Below.refl _ _ | refine bl_alloc ?_ _ | refine bl_drewN ?_ _ | refine bl_trans (by assumption) ?_ | refine bl_set ?_ (by first | omega | (simp; done) | (simp; omega)) _))
    have HB1 := Lib.hid hB1
    clear hB1 hc1 hf1 hb1
    rw [h]
    go_wp2_with (go_at_call 67; refine (isWithin_any _ _ _ _).mono ?_; rintro e w' ⟨rfl, rfl⟩; rw [h1])
    go_ret2
    exact ⟨ret_sb (by simp [bS, HO.out]) (by rw [HO.out]), HB1.out⟩
  obtain ⟨s1, s2⟩ := within_true h1
  obtain ⟨n, rfl⟩ := Int.eq_ofNat_of_zero_le s1
  have HO := Lib.hid (show okBS 1000 a b x y (n : Int) = true by simp [okBS, h, h1])
  have HSS := Lib.hid (show bS a b x y r u (n : Int) = sidesS (wayI a b x y r u) ((wayI a b x y r u).made n) by simp [bS, HO.out])
  have HW := fun W => Lib.hid (wayOf_of h r u W)
  have HSD := fun (v : World) (g cap C : Nat) hR => Lib.hid (sidesOf_of h r u g cap C n (by omega) v hR)
  generalize sidesS (wayI a b x y r u) ((wayI a b x y r u).made n) = sd at *
  generalize wlen (wayI a b x y r u) = m at *
  generalize (wayI a b x y r u) = t at *
  generalize t.e = e0 at *
  go_enter Try.func42, Try.ntmps42
  go_wp2_with fail
  refine (impl_IsBeam _ _ _ _ _ _ _).mono ?_
  rintro e w1 ⟨rfl, hb1⟩
  obtain ⟨hc1, hf1⟩ := bcell hb1
  have hz1 := bsize hb1
  (try simp only [World.size_alloc, World.size_setCell] at hz1)
  have k1_0_0 : w1.cell? ⟨w.heap.size, 0, none⟩ = some (.int .i64 a) := by rw [hc1 _ _ (by first | (simp; done) | omega | (simp; omega))]; first | assumption | (simp [go_sem]; done) | (simp [go_sem]; done) | (simp [go_sem, *]; done)
  have k1_0_1 : w1.cell? ⟨w.heap.size, 1, none⟩ = some (.int .i64 b) := by rw [hc1 _ _ (by first | (simp; done) | omega | (simp; omega))]; first | assumption | (simp [go_sem]; done) | (simp [go_sem]; done) | (simp [go_sem, *]; done)
  have s1_0 : w.heap.size < w1.heap.size := by omega
  have k1_1_0 : w1.cell? ⟨w.heap.size + 1, 0, none⟩ = some (.int .i64 x) := by rw [hc1 _ _ (by first | (simp; done) | omega | (simp; omega))]; first | assumption | (simp [go_sem]; done) | (simp [go_sem]; done) | (simp [go_sem, *]; done)
  have k1_1_1 : w1.cell? ⟨w.heap.size + 1, 1, none⟩ = some (.int .i64 y) := by rw [hc1 _ _ (by first | (simp; done) | omega | (simp; omega))]; first | assumption | (simp [go_sem]; done) | (simp [go_sem]; done) | (simp [go_sem, *]; done)
  have k1_1_2 : w1.cell? ⟨w.heap.size + 1, 2, none⟩ = some (.bool r) := by rw [hc1 _ _ (by first | (simp; done) | omega | (simp; omega))]; first | assumption | (simp [go_sem]; done) | (simp [go_sem]; done) | (simp [go_sem, *]; done)
  have k1_1_3 : w1.cell? ⟨w.heap.size + 1, 3, none⟩ = some (.bool u) := by rw [hc1 _ _ (by first | (simp; done) | omega | (simp; omega))]; first | assumption | (simp [go_sem]; done) | (simp [go_sem]; done) | (simp [go_sem, *]; done)
  have s1_1 : w.heap.size + 1 < w1.heap.size := by omega
  have hB1 : Below w.heap.size w w1 := (by repeat (first | exact Below.refl _ _ | refine bl_alloc ?_ _ | refine bl_drewN ?_ _ | refine bl_trans (by assumption) ?_ | refine bl_set ?_ (by first | omega | (simp; done) | (simp; omega)) _))
  have HB1 := Lib.hid hB1
  clear hB1 hc1 hf1 hb1
  rw [h]
  go_wp2_with (go_at_call 67; refine (isWithin_any _ _ _ _).mono ?_; rintro e w' ⟨rfl, rfl⟩; rw [h1])
  have HS := Lib.hid (fun v hb => six_aft (v := v) k1_0_0 k1_0_1 k1_1_0 k1_1_1 k1_1_2 k1_1_3 s1_0 s1_1 hb)
  have hS := HS.out w1 (Below.refl _ _)
  go_region_held3 (fun w' => w'.cell? ⟨w.heap.size, 0, none⟩ = some (.int .i64 a) ∧ w'.cell? ⟨w.heap.size, 1, none⟩ = some (.int .i64 b) ∧ w'.cell? ⟨w.heap.size + 1, 0, none⟩ = some (.int .i64 x) ∧ w'.cell? ⟨w.heap.size + 1, 1, none⟩ = some (.int .i64 y) ∧ w'.cell? ⟨w.heap.size + 1, 2, none⟩ = some (.bool r) ∧ w'.cell? ⟨w.heap.size + 1, 3, none⟩ = some (.bool u) ∧ Below w1.heap.size w1 w') (first | exact HS.out _ (bl_trans hb9 (last7 (by assumption))) | exact HS.out _ (below_drewN (Below.refl _ _) _) | exact HS.out _ (Below.drew (Below.refl _ _)) | assumption) (first | (go_at_call 76; refine ((HW _).out).mono ?_; rintro e w9 ⟨g, cap, rfl, hR, hb9⟩) | (go_at_call 85; refine ((HSD _ _ _ _ hR).out).mono ?_; rintro e w9 ⟨rfl, hb9⟩))
  have hB : Below w1.heap.size w1 _ := last7 (by assumption)
  have HF := Lib.hid (bl_trans hB HB1.out)
  clear hB
  go_wp2
  go_ret2
  exact ⟨ret_sb (by rw [HSS.out]) (by rw [HO.out]), HF.out⟩
theorem last5 {a b c d : Prop} {D : Prop} (h : a ∧ b ∧ c ∧ d ∧ D) : D := h.2.2.2.2
theorem four_aft {b1 b2 o1 o2 o3 o4 : Nat} {v1 v2 v3 v4 : Value} {W0 v : World} (h1 : W0.cell? ⟨b1, o1, none⟩ = some v1) (h2 : W0.cell? ⟨b1, o2, none⟩ = some v2) (h3 : W0.cell? ⟨b2, o3, none⟩ = some v3) (h4 : W0.cell? ⟨b2, o4, none⟩ = some v4) (l1 : b1 < W0.heap.size) (l2 : b2 < W0.heap.size) (hb : Below W0.heap.size W0 v) :
    v.cell? ⟨b1, o1, none⟩ = some v1 ∧ v.cell? ⟨b1, o2, none⟩ = some v2 ∧ v.cell? ⟨b2, o3, none⟩ = some v3 ∧ v.cell? ⟨b2, o4, none⟩ = some v4 ∧ Below W0.heap.size W0 v :=
  ⟨cell_after hb l1 h1, cell_after hb l1 h2, cell_after hb l2 h3, cell_after hb l2 h4, hb⟩
set_option maxRecDepth 100000 in
set_option maxHeartbeats 2000000 in
theorem impl_BouncesToCorner (a b x y : Int) (r u : Bool) (w : World) :
    Calls Try.prog 40 #[.agg #[.int .i64 a, .int .i64 b], .agg #[.int .i64 x, .int .i64 y, .bool r, .bool u]] w fun e w' => e = .returned (.tuple #[.int .i64 (bC a b x y r u), .bool (okE a b x y r u)]) ∧ Below w.heap.size w w' := by
  cases h : okB a b x y
  · go_enter Try.func40, Try.ntmps40
    go_wp2_with fail
    refine (wtc_no _ _ _ _ _ _ h _).mono ?_
    rintro e w1 ⟨rfl, hb1⟩
    obtain ⟨hc1, hf1⟩ := bcell hb1
    have hz1 := bsize hb1
    (try simp only [World.size_alloc, World.size_setCell] at hz1)
    have k1_0_0 : w1.cell? ⟨w.heap.size, 0, none⟩ = some (.int .i64 a) := by rw [hc1 _ _ (by first | (simp; done) | omega | (simp; omega))]; first | assumption | (simp [go_sem]; done) | (simp [go_sem]; done) | (simp [go_sem, *]; done)
    have k1_0_1 : w1.cell? ⟨w.heap.size, 1, none⟩ = some (.int .i64 b) := by rw [hc1 _ _ (by first | (simp; done) | omega | (simp; omega))]; first | assumption | (simp [go_sem]; done) | (simp [go_sem]; done) | (simp [go_sem, *]; done)
    have s1_0 : w.heap.size < w1.heap.size := by omega
    have k1_1_0 : w1.cell? ⟨w.heap.size + 1, 0, none⟩ = some (.int .i64 x) := by rw [hc1 _ _ (by first | (simp; done) | omega | (simp; omega))]; first | assumption | (simp [go_sem]; done) | (simp [go_sem]; done) | (simp [go_sem, *]; done)
    have k1_1_1 : w1.cell? ⟨w.heap.size + 1, 1, none⟩ = some (.int .i64 y) := by rw [hc1 _ _ (by first | (simp; done) | omega | (simp; omega))]; first | assumption | (simp [go_sem]; done) | (simp [go_sem]; done) | (simp [go_sem, *]; done)
    have k1_1_2 : w1.cell? ⟨w.heap.size + 1, 2, none⟩ = some (.bool r) := by rw [hc1 _ _ (by first | (simp; done) | omega | (simp; omega))]; first | assumption | (simp [go_sem]; done) | (simp [go_sem]; done) | (simp [go_sem, *]; done)
    have k1_1_3 : w1.cell? ⟨w.heap.size + 1, 3, none⟩ = some (.bool u) := by rw [hc1 _ _ (by first | (simp; done) | omega | (simp; omega))]; first | assumption | (simp [go_sem]; done) | (simp [go_sem]; done) | (simp [go_sem, *]; done)
    have s1_1 : w.heap.size + 1 < w1.heap.size := by omega
    have hB1 : Below w.heap.size w w1 := (by repeat (first | exact Below.refl _ _ | refine bl_alloc ?_ _ | refine bl_drewN ?_ _ | refine bl_trans (by assumption) ?_ | refine bl_set ?_ (by first | omega | (simp; done) | (simp; omega)) _))
    have HB1 := Lib.hid hB1
    clear hB1 hc1 hf1 hb1
    go_wp2
    go_ret2
    exact ⟨by simp [okE, bC, h], bl_alloc HB1.out _⟩
  · have hn := wlen_pos (wayI_args h r u).1
    have HW := fun W => Lib.hid (wtc_yes a b x y r u h W)
    cases he : (wayI a b x y r u).e
    · have HX := Lib.hid (show bC a b x y r u = 0 by simp [bC, okE, h, he])
      have HE := Lib.hid (show okE a b x y r u = false by simp [okE, h, he])
      generalize wlen (wayI a b x y r u) = n at *
      go_enter Try.func40, Try.ntmps40
      go_wp2_with fail
      refine ((HW _).out).mono ?_
      rintro e w1 ⟨g, cap, rfl, hR, hb1⟩
      obtain ⟨hc1, hf1⟩ := bcell hb1
      have hz1 := bsize hb1
      (try simp only [World.size_alloc, World.size_setCell] at hz1)
      have k1_0_0 : w1.cell? ⟨w.heap.size, 0, none⟩ = some (.int .i64 a) := by rw [hc1 _ _ (by first | (simp; done) | omega | (simp; omega))]; first | assumption | (simp [go_sem]; done) | (simp [go_sem]; done) | (simp [go_sem, *]; done)
      have k1_0_1 : w1.cell? ⟨w.heap.size, 1, none⟩ = some (.int .i64 b) := by rw [hc1 _ _ (by first | (simp; done) | omega | (simp; omega))]; first | assumption | (simp [go_sem]; done) | (simp [go_sem]; done) | (simp [go_sem, *]; done)
      have s1_0 : w.heap.size < w1.heap.size := by omega
      have k1_1_0 : w1.cell? ⟨w.heap.size + 1, 0, none⟩ = some (.int .i64 x) := by rw [hc1 _ _ (by first | (simp; done) | omega | (simp; omega))]; first | assumption | (simp [go_sem]; done) | (simp [go_sem]; done) | (simp [go_sem, *]; done)
      have k1_1_1 : w1.cell? ⟨w.heap.size + 1, 1, none⟩ = some (.int .i64 y) := by rw [hc1 _ _ (by first | (simp; done) | omega | (simp; omega))]; first | assumption | (simp [go_sem]; done) | (simp [go_sem]; done) | (simp [go_sem, *]; done)
      have k1_1_2 : w1.cell? ⟨w.heap.size + 1, 2, none⟩ = some (.bool r) := by rw [hc1 _ _ (by first | (simp; done) | omega | (simp; omega))]; first | assumption | (simp [go_sem]; done) | (simp [go_sem]; done) | (simp [go_sem, *]; done)
      have k1_1_3 : w1.cell? ⟨w.heap.size + 1, 3, none⟩ = some (.bool u) := by rw [hc1 _ _ (by first | (simp; done) | omega | (simp; omega))]; first | assumption | (simp [go_sem]; done) | (simp [go_sem]; done) | (simp [go_sem, *]; done)
      have s1_1 : w.heap.size + 1 < w1.heap.size := by omega
      have hB1 : Below w.heap.size w w1 := (by repeat (first | exact Below.refl _ _ | refine bl_alloc ?_ _ | refine bl_drewN ?_ _ | refine bl_trans (by assumption) ?_ | refine bl_set ?_ (by first | omega | (simp; done) | (simp; omega)) _))
      have HB1 := Lib.hid hB1
      clear hB1 hc1 hf1 hb1
      clear hR
      rw [he]
      go_wp2
      go_ret2
      exact ⟨ret_ib (by rw [HX.out]) (by rw [HE.out]), bl_alloc HB1.out _⟩
    · have hM : wlen (wayI a b x y r u) = (wayI a b x y r u).M + 1 := by simp [wlen, he]
      have hMM : (wayI a b x y r u).made (wayI a b x y r u).M = (wayI a b x y r u).M := by simp [BWay.made, he]
      have HX := Lib.hid (show bC a b x y r u = ((sidesS (wayI a b x y r u) (wayI a b x y r u).M).size : Nat) by simp [bC, okE, h, he])
      have HE := Lib.hid (show okE a b x y r u = true by simp [okE, h, he])
      have HLL := Lib.hid (show ((wlen (wayI a b x y r u) : Nat) : Int) - 1 = ((wayI a b x y r u).M : Nat) by rw [hM]; omega)
      have HSD := fun (v : World) (g cap C : Nat) hR => Lib.hid (sidesOf_of h r u g cap C (wayI a b x y r u).M (by have := hn.2; omega) v hR)
      simp only [hMM, he] at HSD
      clear hM hMM
      generalize sidesS (wayI a b x y r u) (wayI a b x y r u).M = sd at *
      generalize (wayI a b x y r u).M = m at *
      generalize wlen (wayI a b x y r u) = n at *
      obtain ⟨hn1, hn2⟩ := hn
      go_enter Try.func40, Try.ntmps40
      go_wp2_with fail
      refine ((HW _).out).mono ?_
      rintro e w1 ⟨g, cap, rfl, hR, hb1⟩
      obtain ⟨hc1, hf1⟩ := bcell hb1
      have hz1 := bsize hb1
      (try simp only [World.size_alloc, World.size_setCell] at hz1)
      have k1_0_0 : w1.cell? ⟨w.heap.size, 0, none⟩ = some (.int .i64 a) := by rw [hc1 _ _ (by first | (simp; done) | omega | (simp; omega))]; first | assumption | (simp [go_sem]; done) | (simp [go_sem]; done) | (simp [go_sem, *]; done)
      have k1_0_1 : w1.cell? ⟨w.heap.size, 1, none⟩ = some (.int .i64 b) := by rw [hc1 _ _ (by first | (simp; done) | omega | (simp; omega))]; first | assumption | (simp [go_sem]; done) | (simp [go_sem]; done) | (simp [go_sem, *]; done)
      have s1_0 : w.heap.size < w1.heap.size := by omega
      have k1_1_0 : w1.cell? ⟨w.heap.size + 1, 0, none⟩ = some (.int .i64 x) := by rw [hc1 _ _ (by first | (simp; done) | omega | (simp; omega))]; first | assumption | (simp [go_sem]; done) | (simp [go_sem]; done) | (simp [go_sem, *]; done)
      have k1_1_1 : w1.cell? ⟨w.heap.size + 1, 1, none⟩ = some (.int .i64 y) := by rw [hc1 _ _ (by first | (simp; done) | omega | (simp; omega))]; first | assumption | (simp [go_sem]; done) | (simp [go_sem]; done) | (simp [go_sem, *]; done)
      have k1_1_2 : w1.cell? ⟨w.heap.size + 1, 2, none⟩ = some (.bool r) := by rw [hc1 _ _ (by first | (simp; done) | omega | (simp; omega))]; first | assumption | (simp [go_sem]; done) | (simp [go_sem]; done) | (simp [go_sem, *]; done)
      have k1_1_3 : w1.cell? ⟨w.heap.size + 1, 3, none⟩ = some (.bool u) := by rw [hc1 _ _ (by first | (simp; done) | omega | (simp; omega))]; first | assumption | (simp [go_sem]; done) | (simp [go_sem]; done) | (simp [go_sem, *]; done)
      have s1_1 : w.heap.size + 1 < w1.heap.size := by omega
      have hB1 : Below w.heap.size w w1 := (by repeat (first | exact Below.refl _ _ | refine bl_alloc ?_ _ | refine bl_drewN ?_ _ | refine bl_trans (by assumption) ?_ | refine bl_set ?_ (by first | omega | (simp; done) | (simp; omega)) _))
      have HB1 := Lib.hid hB1
      clear hB1 hc1 hf1 hb1
      have R0 := Lib.hid hR
      clear hR
      rw [he]
      go_wp2_with fail
      have a0 : (w1.alloc (.cells #[.slice (some ⟨g, 0, none⟩) n cap, .bool true] 72)).cell? ⟨w.heap.size, 0, none⟩ = some (.int .i64 a) := cell_after ((Below.refl _ _).alloc (Nat.le_refl _) _) s1_0 k1_0_0
      have a1 : (w1.alloc (.cells #[.slice (some ⟨g, 0, none⟩) n cap, .bool true] 72)).cell? ⟨w.heap.size, 1, none⟩ = some (.int .i64 b) := cell_after ((Below.refl _ _).alloc (Nat.le_refl _) _) s1_0 k1_0_1
      have c0 : (w1.alloc (.cells #[.slice (some ⟨g, 0, none⟩) n cap, .bool true] 72)).cell? ⟨w1.heap.size, 0, none⟩ = some (.slice (some ⟨g, 0, none⟩) n cap) := by simp [go_sem]
      have c1 : (w1.alloc (.cells #[.slice (some ⟨g, 0, none⟩) n cap, .bool true] 72)).cell? ⟨w1.heap.size, 1, none⟩ = some (.bool true) := by simp [go_sem]
      have l0 : w.heap.size < (w1.alloc (.cells #[.slice (some ⟨g, 0, none⟩) n cap, .bool true] 72)).heap.size := by simp; omega
      have l1 : w1.heap.size < (w1.alloc (.cells #[.slice (some ⟨g, 0, none⟩) n cap, .bool true] 72)).heap.size := by simp
      have Rz := Lib.hid (R0.out.keep ((Below.refl _ _).alloc (Nat.le_refl _) (.cells #[.slice (some ⟨g, 0, none⟩) n cap, .bool true] 72)))
      have Bz := Lib.hid (bl_alloc HB1.out (.cells #[.slice (some ⟨g, 0, none⟩) n cap, .bool true] 72))
      clear R0
      generalize (w1.alloc (.cells #[.slice (some ⟨g, 0, none⟩) n cap, .bool true] 72)) = wz at *
      have HS := Lib.hid (fun v hb => four_aft (v := v) a0 a1 c0 c1 l0 l1 hb)
      have hS := HS.out wz (Below.refl _ _)
      clear a0 a1 c0 c1
      go_region_held3 (fun w' => w'.cell? ⟨w.heap.size, 0, none⟩ = some (.int .i64 a) ∧ w'.cell? ⟨w.heap.size, 1, none⟩ = some (.int .i64 b) ∧ w'.cell? ⟨w1.heap.size, 0, none⟩ = some (.slice (some ⟨g, 0, none⟩) n cap) ∧ w'.cell? ⟨w1.heap.size, 1, none⟩ = some (.bool true) ∧ Below wz.heap.size wz w') (first | exact HS.out _ (bl_trans hb9 (last5 (by assumption))) | exact HS.out _ (below_drewN (Below.refl _ _) _) | exact HS.out _ (Below.drew (Below.refl _ _)) | assumption) (first | (go_at_call 84; refine (last_any _ _ _ _ (by omega) (by omega) _).mono ?_; rintro e w9 ⟨rfl, hb9⟩; rw [HLL.out]) | (go_at_call 85; refine ((HSD _ _ _ _ (Rz.out.keep (last5 (by assumption)))).out).mono ?_; rintro e w9 ⟨rfl, hb9⟩))
      have hB : Below wz.heap.size wz _ := last5 (by assumption)
      have HF := Lib.hid (bl_trans hB Bz.out)
      clear hB
      go_wp2
      go_ret2
      exact ⟨ret_ib (by rw [HX.out]) (by rw [HE.out]), HF.out⟩
set_option maxRecDepth 100000 in
set_option maxHeartbeats 2000000 in
theorem spec_BouncesToCorner (a b x y : Int) (r u : Bool) (w : World) :
    Calls Try.prog 39 #[.agg #[.int .i64 a, .int .i64 b], .agg #[.int .i64 x, .int .i64 y, .bool r, .bool u]] w fun e w' => e = .returned (.tuple #[.int .i64 (bC a b x y r u), .bool (okE a b x y r u)]) ∧ Below w.heap.size w w' := by
  cases h : okB a b x y
  · go_enter Try.func39, Try.ntmps39
    go_wp2_with fail
    refine (spec_beGood _ _ _ _ _ _ _).mono ?_
    rintro e w1 ⟨rfl, hb1⟩
    obtain ⟨hc1, hf1⟩ := bcell hb1
    have hz1 := bsize hb1
    (try simp only [World.size_alloc, World.size_setCell] at hz1)
    have k1_0_0 : w1.cell? ⟨w.heap.size, 0, none⟩ = some (.int .i64 a) := by rw [hc1 _ _ (by first | (simp; done) | omega | (simp; omega))]; first | assumption | (simp [go_sem]; done) | (simp [go_sem]; done) | (simp [go_sem, *]; done)
    have k1_0_1 : w1.cell? ⟨w.heap.size, 1, none⟩ = some (.int .i64 b) := by rw [hc1 _ _ (by first | (simp; done) | omega | (simp; omega))]; first | assumption | (simp [go_sem]; done) | (simp [go_sem]; done) | (simp [go_sem, *]; done)
    have s1_0 : w.heap.size < w1.heap.size := by omega
    have k1_1_0 : w1.cell? ⟨w.heap.size + 1, 0, none⟩ = some (.int .i64 x) := by rw [hc1 _ _ (by first | (simp; done) | omega | (simp; omega))]; first | assumption | (simp [go_sem]; done) | (simp [go_sem]; done) | (simp [go_sem, *]; done)
    have k1_1_1 : w1.cell? ⟨w.heap.size + 1, 1, none⟩ = some (.int .i64 y) := by rw [hc1 _ _ (by first | (simp; done) | omega | (simp; omega))]; first | assumption | (simp [go_sem]; done) | (simp [go_sem]; done) | (simp [go_sem, *]; done)
    have k1_1_2 : w1.cell? ⟨w.heap.size + 1, 2, none⟩ = some (.bool r) := by rw [hc1 _ _ (by first | (simp; done) | omega | (simp; omega))]; first | assumption | (simp [go_sem]; done) | (simp [go_sem]; done) | (simp [go_sem, *]; done)
    have k1_1_3 : w1.cell? ⟨w.heap.size + 1, 3, none⟩ = some (.bool u) := by rw [hc1 _ _ (by first | (simp; done) | omega | (simp; omega))]; first | assumption | (simp [go_sem]; done) | (simp [go_sem]; done) | (simp [go_sem, *]; done)
    have s1_1 : w.heap.size + 1 < w1.heap.size := by omega
    have hB1 : Below w.heap.size w w1 := (by repeat (first | exact Below.refl _ _ | refine bl_alloc ?_ _ | refine bl_drewN ?_ _ | refine bl_trans (by assumption) ?_ | refine bl_set ?_ (by first | omega | (simp; done) | (simp; omega)) _))
    have HB1 := Lib.hid hB1
    clear hB1 hc1 hf1 hb1
    rw [h]
    go_wp2
    go_ret2
    exact ⟨by simp [okE, bC, h], HB1.out⟩
  · have HML := Lib.hid (fun he => made_long (t := wayI a b x y r u) (wayI_args h r u).1 he)
    have HW := fun W => Lib.hid (beEnd_of h r u W)
    cases he : (wayI a b x y r u).e
    · have HX := Lib.hid (show bC a b x y r u = 0 by simp [bC, okE, h, he])
      have HE := Lib.hid (show okE a b x y r u = false by simp [okE, h, he])
      generalize (wayI a b x y r u).made (longN (wayI a b x y r u)) = n at *
      generalize sidesS (wayI a b x y r u) n = sd at *
      go_enter Try.func39, Try.ntmps39
      go_wp2_with fail
      refine (spec_beGood _ _ _ _ _ _ _).mono ?_
      rintro e w1 ⟨rfl, hb1⟩
      obtain ⟨hc1, hf1⟩ := bcell hb1
      have hz1 := bsize hb1
      (try simp only [World.size_alloc, World.size_setCell] at hz1)
      have k1_0_0 : w1.cell? ⟨w.heap.size, 0, none⟩ = some (.int .i64 a) := by rw [hc1 _ _ (by first | (simp; done) | omega | (simp; omega))]; first | assumption | (simp [go_sem]; done) | (simp [go_sem]; done) | (simp [go_sem, *]; done)
      have k1_0_1 : w1.cell? ⟨w.heap.size, 1, none⟩ = some (.int .i64 b) := by rw [hc1 _ _ (by first | (simp; done) | omega | (simp; omega))]; first | assumption | (simp [go_sem]; done) | (simp [go_sem]; done) | (simp [go_sem, *]; done)
      have s1_0 : w.heap.size < w1.heap.size := by omega
      have k1_1_0 : w1.cell? ⟨w.heap.size + 1, 0, none⟩ = some (.int .i64 x) := by rw [hc1 _ _ (by first | (simp; done) | omega | (simp; omega))]; first | assumption | (simp [go_sem]; done) | (simp [go_sem]; done) | (simp [go_sem, *]; done)
      have k1_1_1 : w1.cell? ⟨w.heap.size + 1, 1, none⟩ = some (.int .i64 y) := by rw [hc1 _ _ (by first | (simp; done) | omega | (simp; omega))]; first | assumption | (simp [go_sem]; done) | (simp [go_sem]; done) | (simp [go_sem, *]; done)
      have k1_1_2 : w1.cell? ⟨w.heap.size + 1, 2, none⟩ = some (.bool r) := by rw [hc1 _ _ (by first | (simp; done) | omega | (simp; omega))]; first | assumption | (simp [go_sem]; done) | (simp [go_sem]; done) | (simp [go_sem, *]; done)
      have k1_1_3 : w1.cell? ⟨w.heap.size + 1, 3, none⟩ = some (.bool u) := by rw [hc1 _ _ (by first | (simp; done) | omega | (simp; omega))]; first | assumption | (simp [go_sem]; done) | (simp [go_sem]; done) | (simp [go_sem, *]; done)
      have s1_1 : w.heap.size + 1 < w1.heap.size := by omega
      have hB1 : Below w.heap.size w w1 := (by repeat (first | exact Below.refl _ _ | refine bl_alloc ?_ _ | refine bl_drewN ?_ _ | refine bl_trans (by assumption) ?_ | refine bl_set ?_ (by first | omega | (simp; done) | (simp; omega)) _))
      have HB1 := Lib.hid hB1
      clear hB1 hc1 hf1 hb1
      rw [h]
      have HBp2 := HB1
      go_wp2_with fail
      refine ((HW _).out).mono ?_
      rintro e w2 ⟨g, cap, rfl, hR, hb2⟩
      obtain ⟨hc2, hf2⟩ := bcell hb2
      have hz2 := bsize hb2
      (try simp only [World.size_alloc, World.size_setCell] at hz2)
      have k2_0_0 : w2.cell? ⟨w.heap.size, 0, none⟩ = some (.int .i64 a) := by rw [hc2 _ _ (by first | (simp; done) | omega | (simp; omega))]; first | assumption | (simp [go_sem]; done) | (simp [go_sem, k1_0_0, k1_0_1, k1_1_0, k1_1_1, k1_1_2, k1_1_3]; done) | (simp [go_sem, *]; done)
      have k2_0_1 : w2.cell? ⟨w.heap.size, 1, none⟩ = some (.int .i64 b) := by rw [hc2 _ _ (by first | (simp; done) | omega | (simp; omega))]; first | assumption | (simp [go_sem]; done) | (simp [go_sem, k1_0_0, k1_0_1, k1_1_0, k1_1_1, k1_1_2, k1_1_3]; done) | (simp [go_sem, *]; done)
      have s2_0 : w.heap.size < w2.heap.size := by omega
      have k2_1_0 : w2.cell? ⟨w.heap.size + 1, 0, none⟩ = some (.int .i64 x) := by rw [hc2 _ _ (by first | (simp; done) | omega | (simp; omega))]; first | assumption | (simp [go_sem]; done) | (simp [go_sem, k1_0_0, k1_0_1, k1_1_0, k1_1_1, k1_1_2, k1_1_3]; done) | (simp [go_sem, *]; done)
      have k2_1_1 : w2.cell? ⟨w.heap.size + 1, 1, none⟩ = some (.int .i64 y) := by rw [hc2 _ _ (by first | (simp; done) | omega | (simp; omega))]; first | assumption | (simp [go_sem]; done) | (simp [go_sem, k1_0_0, k1_0_1, k1_1_0, k1_1_1, k1_1_2, k1_1_3]; done) | (simp [go_sem, *]; done)
      have k2_1_2 : w2.cell? ⟨w.heap.size + 1, 2, none⟩ = some (.bool r) := by rw [hc2 _ _ (by first | (simp; done) | omega | (simp; omega))]; first | assumption | (simp [go_sem]; done) | (simp [go_sem, k1_0_0, k1_0_1, k1_1_0, k1_1_1, k1_1_2, k1_1_3]; done) | (simp [go_sem, *]; done)
      have k2_1_3 : w2.cell? ⟨w.heap.size + 1, 3, none⟩ = some (.bool u) := by rw [hc2 _ _ (by first | (simp; done) | omega | (simp; omega))]; first | assumption | (simp [go_sem]; done) | (simp [go_sem, k1_0_0, k1_0_1, k1_1_0, k1_1_1, k1_1_2, k1_1_3]; done) | (simp [go_sem, *]; done)
      have s2_1 : w.heap.size + 1 < w2.heap.size := by omega
      have hB2 : Below w.heap.size w w2 := (by repeat (first | exact Below.refl _ _ | exact HB1.out | refine bl_alloc ?_ _ | refine bl_drewN ?_ _ | refine bl_trans (by assumption) ?_ | refine bl_set ?_ (by first | omega | (simp; done) | (simp; omega)) _))
      have HB2 := Lib.hid hB2
      clear hB2 hc2 hf2 hb2 k1_0_0 k1_0_1 k1_1_0 k1_1_1 k1_1_2 k1_1_3
      clear hR
      rw [he]
      go_wp2
      go_ret2
      exact ⟨ret_ib (by rw [HX.out]) (by rw [HE.out]), HB2.out⟩
    · have hml := HML.out he
      have HX := Lib.hid (show bC a b x y r u = ((sidesS (wayI a b x y r u) ((wayI a b x y r u).made (longN (wayI a b x y r u)))).size : Nat) by rw [hml]; simp [bC, okE, h, he])
      have HE := Lib.hid (show okE a b x y r u = true by simp [okE, h, he])
      clear hml HML
      generalize (wayI a b x y r u).made (longN (wayI a b x y r u)) = n at *
      generalize sidesS (wayI a b x y r u) n = sd at *
      go_enter Try.func39, Try.ntmps39
      go_wp2_with fail
      refine (spec_beGood _ _ _ _ _ _ _).mono ?_
      rintro e w1 ⟨rfl, hb1⟩
      obtain ⟨hc1, hf1⟩ := bcell hb1
      have hz1 := bsize hb1
      (try simp only [World.size_alloc, World.size_setCell] at hz1)
      have k1_0_0 : w1.cell? ⟨w.heap.size, 0, none⟩ = some (.int .i64 a) := by rw [hc1 _ _ (by first | (simp; done) | omega | (simp; omega))]; first | assumption | (simp [go_sem]; done) | (simp [go_sem]; done) | (simp [go_sem, *]; done)
      have k1_0_1 : w1.cell? ⟨w.heap.size, 1, none⟩ = some (.int .i64 b) := by rw [hc1 _ _ (by first | (simp; done) | omega | (simp; omega))]; first | assumption | (simp [go_sem]; done) | (simp [go_sem]; done) | (simp [go_sem, *]; done)
      have s1_0 : w.heap.size < w1.heap.size := by omega
      have k1_1_0 : w1.cell? ⟨w.heap.size + 1, 0, none⟩ = some (.int .i64 x) := by rw [hc1 _ _ (by first | (simp; done) | omega | (simp; omega))]; first | assumption | (simp [go_sem]; done) | (simp [go_sem]; done) | (simp [go_sem, *]; done)
      have k1_1_1 : w1.cell? ⟨w.heap.size + 1, 1, none⟩ = some (.int .i64 y) := by rw [hc1 _ _ (by first | (simp; done) | omega | (simp; omega))]; first | assumption | (simp [go_sem]; done) | (simp [go_sem]; done) | (simp [go_sem, *]; done)
      have k1_1_2 : w1.cell? ⟨w.heap.size + 1, 2, none⟩ = some (.bool r) := by rw [hc1 _ _ (by first | (simp; done) | omega | (simp; omega))]; first | assumption | (simp [go_sem]; done) | (simp [go_sem]; done) | (simp [go_sem, *]; done)
      have k1_1_3 : w1.cell? ⟨w.heap.size + 1, 3, none⟩ = some (.bool u) := by rw [hc1 _ _ (by first | (simp; done) | omega | (simp; omega))]; first | assumption | (simp [go_sem]; done) | (simp [go_sem]; done) | (simp [go_sem, *]; done)
      have s1_1 : w.heap.size + 1 < w1.heap.size := by omega
      have hB1 : Below w.heap.size w w1 := (by repeat (first | exact Below.refl _ _ | refine bl_alloc ?_ _ | refine bl_drewN ?_ _ | refine bl_trans (by assumption) ?_ | refine bl_set ?_ (by first | omega | (simp; done) | (simp; omega)) _))
      have HB1 := Lib.hid hB1
      clear hB1 hc1 hf1 hb1
      rw [h]
      have HBp2 := HB1
      go_wp2_with fail
      refine ((HW _).out).mono ?_
      rintro e w2 ⟨g, cap, rfl, hR, hb2⟩
      obtain ⟨hc2, hf2⟩ := bcell hb2
      have hz2 := bsize hb2
      (try simp only [World.size_alloc, World.size_setCell] at hz2)
      have k2_0_0 : w2.cell? ⟨w.heap.size, 0, none⟩ = some (.int .i64 a) := by rw [hc2 _ _ (by first | (simp; done) | omega | (simp; omega))]; first | assumption | (simp [go_sem]; done) | (simp [go_sem, k1_0_0, k1_0_1, k1_1_0, k1_1_1, k1_1_2, k1_1_3]; done) | (simp [go_sem, *]; done)
      have k2_0_1 : w2.cell? ⟨w.heap.size, 1, none⟩ = some (.int .i64 b) := by rw [hc2 _ _ (by first | (simp; done) | omega | (simp; omega))]; first | assumption | (simp [go_sem]; done) | (simp [go_sem, k1_0_0, k1_0_1, k1_1_0, k1_1_1, k1_1_2, k1_1_3]; done) | (simp [go_sem, *]; done)
      have s2_0 : w.heap.size < w2.heap.size := by omega
      have k2_1_0 : w2.cell? ⟨w.heap.size + 1, 0, none⟩ = some (.int .i64 x) := by rw [hc2 _ _ (by first | (simp; done) | omega | (simp; omega))]; first | assumption | (simp [go_sem]; done) | (simp [go_sem, k1_0_0, k1_0_1, k1_1_0, k1_1_1, k1_1_2, k1_1_3]; done) | (simp [go_sem, *]; done)
      have k2_1_1 : w2.cell? ⟨w.heap.size + 1, 1, none⟩ = some (.int .i64 y) := by rw [hc2 _ _ (by first | (simp; done) | omega | (simp; omega))]; first | assumption | (simp [go_sem]; done) | (simp [go_sem, k1_0_0, k1_0_1, k1_1_0, k1_1_1, k1_1_2, k1_1_3]; done) | (simp [go_sem, *]; done)
      have k2_1_2 : w2.cell? ⟨w.heap.size + 1, 2, none⟩ = some (.bool r) := by rw [hc2 _ _ (by first | (simp; done) | omega | (simp; omega))]; first | assumption | (simp [go_sem]; done) | (simp [go_sem, k1_0_0, k1_0_1, k1_1_0, k1_1_1, k1_1_2, k1_1_3]; done) | (simp [go_sem, *]; done)
      have k2_1_3 : w2.cell? ⟨w.heap.size + 1, 3, none⟩ = some (.bool u) := by rw [hc2 _ _ (by first | (simp; done) | omega | (simp; omega))]; first | assumption | (simp [go_sem]; done) | (simp [go_sem, k1_0_0, k1_0_1, k1_1_0, k1_1_1, k1_1_2, k1_1_3]; done) | (simp [go_sem, *]; done)
      have s2_1 : w.heap.size + 1 < w2.heap.size := by omega
      have hB2 : Below w.heap.size w w2 := (by repeat (first | exact Below.refl _ _ | exact HB1.out | refine bl_alloc ?_ _ | refine bl_drewN ?_ _ | refine bl_trans (by assumption) ?_ | refine bl_set ?_ (by first | omega | (simp; done) | (simp; omega)) _))
      have HB2 := Lib.hid hB2
      clear hB2 hc2 hf2 hb2 k1_0_0 k1_0_1 k1_1_0 k1_1_1 k1_1_2 k1_1_3
      clear hR
      rw [he]
      go_wp2
      go_ret2
      exact ⟨ret_ib (by rw [HX.out]) (by rw [HE.out]), HB2.out⟩
end Go.Proofs.Ytnhjiipkekblfaa
