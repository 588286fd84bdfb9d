/- The poles that are hidden; slices of poles that are numbered. -/
import Derived.Test.YtcmoilacjpldbaaPL3
import Derived.Test.YtcmoilacjpldbaaS2
import Derived.Test.YtcmoilacjpldbaaR2
namespace Go.Proofs.Ytcmoilacjpldbaa
open Go.RowKit
theorem cell_one_alloc (w : World) (x : Value) (t : TypeId) (n : Nat) (hn : n = w.heap.size) : ∀ j u, [x][j]? = some u → (w.alloc (.cells #[x] t)).cell? ((⟨n, 0, none⟩ : Addr).add j) = some u := by
  intro j u hj
  subst hn
  match j, hj with
  | 0, hj =>
    simp at hj
    subst hj
    simp [Addr.add]
theorem IRow.nil (w : World) (B : Nat) : IRow w B (.slice none 0 0) [] := World.ownsRow_nil w B _ 1
theorem IRow.push {W w1 : World} {B : Nat} {v v' : Value} {xs : List Int} {x : Int} {o : Obj} (hB : B ≤ W.heap.size) (h : IRow W B v xs)
    (hO : w1.ownsRow B 3 1 v' (xs.length + 1) (xs.map (Value.int .i64) ++ [.int .i64 x])) (hg : (W.alloc o).grownBy w1 v.ownBlock) : IRow w1 B v' (xs ++ [x]) ∧ Below B W w1 := by
  refine ⟨?_, ((Below.refl B W).alloc hB o).grown hg (by simp; omega) fun g e => (World.ownsRow.lt h g e).1⟩
  unfold IRow
  simpa using hO
def hidAny (l : Int) (f : Nat → Int) (q : Nat) : Nat → Bool
  | 0 => false
  | m + 1 => hidAny l f q m || hid_ l (f (m * 2)) (f (m * 2 + 1)) (f (q * 2)) (f (q * 2 + 1))
def hpTo (l : Int) (f : Nat → Int) : Nat → List Int
  | 0 => []
  | k + 1 => hpTo l f k ++ (if hidAny l f k k then [(k : Int)] else [])
def HPL (l : Int) (n : Nat) (f : Nat → Int) : List Int := if okG l n f then hpTo l f n else []
theorem hpTo_len (l : Int) (f : Nat → Int) (k : Nat) : (hpTo l f k).length ≤ k := by
  induction k with
  | zero => simp [hpTo]
  | succ m ih => simp only [hpTo]; split <;> simp <;> omega
theorem HPL_len (l : Int) (n : Nat) (f : Nat → Int) : (HPL l n f).length ≤ 4000000 := by
  unfold HPL
  split
  · rename_i h
    have := hpTo_len l f n
    have := (okG_true h).1
    omega
  · simp
theorem hidAny_more {l : Int} {f : Nat → Int} {q k m : Nat} (h : hidAny l f q k = true) (hm : k ≤ m) : hidAny l f q m = true := by
  obtain ⟨d, rfl⟩ : ∃ d, m = k + d := ⟨m - k, by omega⟩
  clear hm
  induction d with
  | zero => exact h
  | succ d ih =>
    show (hidAny l f q (k + d) || _) = true
    rw [ih]; rfl
theorem hp_yes {l : Int} {f : Nat → Int} {j : Nat} (h : hidAny l f j j = true) : hpTo l f (j + 1) = hpTo l f j ++ [(j : Int)] := by simp [hpTo, h]
theorem hp_no {l : Int} {f : Nat → Int} {j : Nat} (h : hidAny l f j j = false) : hpTo l f (j + 1) = hpTo l f j := by simp [hpTo, h]
set_option maxHeartbeats 800000 in
theorem impl_HiddenPoles (l : Int) (v : Value) (n : Nat) (f : Nat → Int) (w : World) (h : PRow w v n f) (hcap : ∀ a m c, v = .slice a m c → m ≤ c) :
    Calls Try.prog 52 #[.int .i64 l, v] w fun e w' => ∃ u, e = .returned (.tuple #[u, .bool (okG l n f)]) ∧ IRow w' w.heap.size u (HPL l n f) ∧ Below w.heap.size w w' := by
  have hl := h.len_le
  have HH := Lib.hid h
  cases h1 : okG l n f
  · obtain ⟨a, c, rfl⟩ := h.shape
    clear h hcap
    go_enter Try.func52, Try.ntmps52
    go_wp2_with fail
    refine (impl_ArePoles _ _ _ _ _ HH.out).mono ?_
    rintro e w1 ⟨rfl, hb⟩
    rw [h1]
    go_wp2
    go_ret2
    exact ⟨_, rfl, by simp only [HPL, h1]; exact IRow.nil _ _, (by repeat (first | exact Below.refl _ _ | refine bl_alloc ?_ _ | refine bl_drewN ?_ _ | refine bl_trans (by assumption) ?_ | refine bl_set ?_ (by first | omega | (simp; done) | (simp; omega)) _))⟩
  · obtain ⟨hn, hok⟩ := okG_true h1
    obtain ⟨b, off, cap, rfl, _⟩ := h.some_ (by omega)
    have hcp : n ≤ cap := hcap _ _ _ rfl
    clear h hcap
    have OK := Lib.hid hok
    clear hok
    have HPZ := Lib.hid (show HPL l n f = hpTo l f n by simp [HPL, h1])
    have G1 := Lib.hid h1
    clear h1
    obtain ⟨i0, hi, hz0, hz1, hz2⟩ := info_parts infoI
    go_enter Try.func52, Try.ntmps52
    go_wp2_with fail
    refine (impl_ArePoles _ _ _ _ _ HH.out).mono ?_
    rintro e w1 ⟨rfl, hb⟩
    rw [G1.out]
    go_wp2
    go_loopw [6, 17] (fun u i wr => ∃ j : Nat, j ≤ n ∧ i = .int .i64 (j : Int) ∧ IRow wr w.heap.size u (hpTo l f j) ∧ Below w.heap.size w wr) (fun _ i _ => n - (intOf i).toNat)
    case atStart => exact ⟨0, Nat.zero_le _, rfl, IRow.nil _ _, (by repeat (first | exact Below.refl _ _ | refine bl_alloc ?_ _ | refine bl_drewN ?_ _ | refine bl_trans (by assumption) ?_ | refine bl_set ?_ (by first | omega | (simp; done) | (simp; omega)) _))⟩
    case round =>
      clear hb
      obtain ⟨j, hj, rfl, hI, hW⟩ := hrel
      by_cases hlt : j < n
      · obtain ⟨b', off', cap', hv, hb', hc⟩ := (HH.out.keep hW).some_ (by omega)
        simp only [Value.slice.injEq, Option.some.injEq, Addr.mk.injEq, and_true, true_and] at hv
        obtain ⟨⟨rfl, rfl⟩, rfl⟩ := hv
        obtain ⟨p1, p2⟩ := hc j hlt
        have hlt' : (j : Int) < (n : Int) := by omega
        have HW := Lib.hid hW
        clear hc hW
        have hjc : (j : Int) ≤ (cap : Int) := by omega
        have HI := Lib.hid hI
        clear hI
        go_wp2
        rename World => wo
        go_loopw [6, 26] (fun u i wq => u = u6 ∧ ∃ k : Nat, k ≤ j ∧ i = .int .i64 (k : Int) ∧ hidAny l f j k = false ∧ wq.cell? ⟨wo.heap.size, 0, none⟩ = some (.int .i64 (f (j * 2))) ∧ wq.cell? ⟨wo.heap.size, 1, none⟩ = some (.int .i64 (f (j * 2 + 1))) ∧ wo.heap.size < wq.heap.size ∧ Below wo.heap.size wo wq) (fun _ i _ => j - (intOf i).toNat)
        case atStart => exact ⟨rfl, 0, Nat.zero_le _, rfl, rfl, by simp, by simp, by simp, bl_alloc (Below.refl _ _) _⟩
        case round =>
          clear p1 p2
          obtain ⟨rfl, k, hk, rfl, hA, c1, c2, c3, hV⟩ := hrel
          by_cases hlk : k < j
          · obtain ⟨b', off', cap', hv, hb2', hc⟩ := (HH.out.keep (bl_trans hV HW.out)).some_ (by omega)
            simp only [Value.slice.injEq, Option.some.injEq, Addr.mk.injEq, and_true, true_and] at hv
            obtain ⟨⟨rfl, rfl⟩, rfl⟩ := hv
            obtain ⟨q1, q2⟩ := hc k (by omega)
            have hlk' : (k : Int) < (j : Int) := by omega
            have HV := Lib.hid hV
            clear hc hV
            go_wp2_with fail
            refine (hides_any _ _ _ _ _ (OK.out k (by omega)) (OK.out j hlt) _).mono ?_
            rintro e w2 ⟨rfl, hb2⟩
            have d1 := cell_after hb2 (by simp; omega) (show (wr.alloc _).cell? ⟨wo.heap.size, 0, none⟩ = _ by rw [(bcell (bl_alloc (Below.refl _ wr) _)).1 _ _ c3]; exact c1)
            have d2 := cell_after hb2 (by simp; omega) (show (wr.alloc _).cell? ⟨wo.heap.size, 1, none⟩ = _ by rw [(bcell (bl_alloc (Below.refl _ wr) _)).1 _ _ c3]; exact c2)
            have d3 : wo.heap.size < w2.heap.size := by have := hb2.size; simp at this; omega
            have HV2 := Lib.hid (show Below wo.heap.size wo w2 from bl_trans hb2 (bl_alloc HV.out _))
            clear hb2 HV c1 c2 c3 q1 q2
            cases t : hid_ l (f (k * 2)) (f (k * 2 + 1)) (f (j * 2)) (f (j * 2 + 1))
            · have TT := Lib.hid (show hidAny l f j (k + 1) = false by simp [hidAny, hA, t])
              clear t
              go_wp2
              go_roundw
              case rel => exact ⟨rfl, k + 1, by omega, by go_num, TT.out, d1, d2, d3, HV2.out⟩
              case measure => simp only [intOf]; omega
            · have HQ := Lib.hid (hp_yes (hidAny_more (show hidAny l f j (k + 1) = true by simp [hidAny, t]) (show k + 1 ≤ j by omega)))
              have HBW := Lib.hid (show w.heap.size ≤ w2.heap.size from Nat.le_trans HW.out.size (Nat.le_of_lt d3))
              have HI2 := Lib.hid (HI.out.keep HV2.out)
              have HWW := Lib.hid (bl_trans HV2.out HW.out)
              have hll := hpTo_len l f j
              have hO := Lib.hid (show w2.ownsRow w.heap.size 3 1 u6 (hpTo l f j).length ((hpTo l f j).map (Value.int .i64)) from HI2.out)
              have hbw := HBW.out
              clear t hA
              generalize hL : (hpTo l f j).length = L at *
              have HL := Lib.hid hL
              clear hL
              go_wp2_with (at_builtin; refine wpList_append_own _ rfl _ _ 47 rfl w.heap.size 3 i0 (.int .i64 0) 1 8 Try.underlying47 hi hz0 hz1 hz2 rfl (by decide) _ _ _ rfl (hO.out.alloc _) ⟨w2.heap.size, 0, none⟩ 1 1 [.int .i64 (j : Int)] rfl rfl ?c1 ?c2 ?c3 ?c4 ?c5 ?_)
              all_goals (try exact cell_one_alloc _ _ _ _ (by simp))
              case c2 => simp [Value.oneCell']
              case c3 => unfold maxLen; omega
              case c4 => omega
              case c5 => first | omega | (simp; omega)
              intro v' w3 hown1 hgrow1 _
              have hs1 := hgrow1.size
              simp only [World.size_alloc] at hs1
              rw [← HL.out] at hown1
              obtain ⟨r1, r2⟩ := IRow.push (x := (j : Int)) (W := w2) HBW.out HI2.out hown1 hgrow1
              rw [← HQ.out] at r1
              have Q1 := Lib.hid r1
              have Q2 := Lib.hid (HWW.out.trans r2)
              clear r1 r2 hown1 hgrow1
              go_wp2
              go_roundw
              case rel => exact ⟨j + 1, by omega, by go_num, Q1.out, Q2.out⟩
              case measure => simp only [intOf]; omega
          · obtain rfl : k = j := by omega
            have HQ := Lib.hid (hp_no hA)
            have HI2 := Lib.hid (HI.out.keep hV)
            have HWW := Lib.hid (bl_trans hV HW.out)
            clear hA hV
            go_wp2
            go_roundw
            case rel => exact ⟨k + 1, by omega, by go_num, by rw [HQ.out]; exact HI2.out, HWW.out⟩
            case measure => simp only [intOf]; omega
      · obtain rfl : j = n := by omega
        have HI := Lib.hid hI
        have HW := Lib.hid hW
        clear hI hW
        go_wp2
        go_ret2
        exact ⟨_, rfl, by rw [HPZ.out]; exact HI.out, HW.out⟩
set_option maxHeartbeats 800000 in
theorem spec_HiddenPoles (l : Int) (v : Value) (n : Nat) (f : Nat → Int) (w : World) (h : PRow w v n f) (hcap : ∀ a m c, v = .slice a m c → m ≤ c) :
    Calls Try.prog 51 #[.int .i64 l, v] w fun e w' => ∃ u, e = .returned (.tuple #[u, .bool (okG l n f)]) ∧ IRow w' w.heap.size u (HPL l n f) ∧ Below w.heap.size w w' := by
  have hl := h.len_le
  have HH := Lib.hid h
  cases h1 : okG l n f
  · obtain ⟨a, c, rfl⟩ := h.shape
    clear h hcap
    go_enter Try.func51, Try.ntmps51
    go_wp2_with fail
    refine (spec_swGood _ _ _ _ _ HH.out).mono ?_
    rintro e w1 ⟨rfl, hb⟩
    rw [h1]
    go_wp2
    go_ret2
    exact ⟨_, rfl, by simp only [HPL, h1]; exact IRow.nil _ _, (by repeat (first | exact Below.refl _ _ | refine bl_alloc ?_ _ | refine bl_drewN ?_ _ | refine bl_trans (by assumption) ?_ | refine bl_set ?_ (by first | omega | (simp; done) | (simp; omega)) _))⟩
  · obtain ⟨hn, hok⟩ := okG_true h1
    obtain ⟨b, off, cap, rfl, _⟩ := h.some_ (by omega)
    have hcp : n ≤ cap := hcap _ _ _ rfl
    clear h hcap
    have OK := Lib.hid hok
    clear hok
    have HPZ := Lib.hid (show HPL l n f = hpTo l f n by simp [HPL, h1])
    have G1 := Lib.hid h1
    clear h1
    obtain ⟨i0, hi, hz0, hz1, hz2⟩ := info_parts infoI
    go_enter Try.func51, Try.ntmps51
    go_wp2_with fail
    refine (spec_swGood _ _ _ _ _ HH.out).mono ?_
    rintro e w1 ⟨rfl, hb⟩
    rw [G1.out]
    go_wp2
    go_loopw [6, 18] (fun u i wr => ∃ j : Nat, j ≤ n ∧ i = .int .i64 (j : Int) ∧ IRow wr w.heap.size u (hpTo l f j) ∧ Below w.heap.size w wr) (fun _ i _ => n - (intOf i).toNat)
    case atStart => exact ⟨0, Nat.zero_le _, rfl, IRow.nil _ _, (by repeat (first | exact Below.refl _ _ | refine bl_alloc ?_ _ | refine bl_drewN ?_ _ | refine bl_trans (by assumption) ?_ | refine bl_set ?_ (by first | omega | (simp; done) | (simp; omega)) _))⟩
    case round =>
      clear hb
      obtain ⟨j, hj, rfl, hI, hW⟩ := hrel
      by_cases hlt : j < n
      · obtain ⟨b', off', cap', hv, hb', hc⟩ := (HH.out.keep hW).some_ (by omega)
        simp only [Value.slice.injEq, Option.some.injEq, Addr.mk.injEq, and_true, true_and] at hv
        obtain ⟨⟨rfl, rfl⟩, rfl⟩ := hv
        obtain ⟨p1, p2⟩ := hc j hlt
        have hlt' : (j : Int) < (n : Int) := by omega
        have HW := Lib.hid hW
        clear hc hW
        have hjc : (j : Int) ≤ (cap : Int) := by omega
        have HI := Lib.hid hI
        clear hI
        go_wp2
        rename World => wo
        go_loopw [9, 27] (fun hd i wq => ∃ k : Nat, k ≤ j ∧ hd = .bool (hidAny l f j k) ∧ i = .int .i64 (k : Int) ∧ wq.cell? ⟨wo.heap.size, 0, none⟩ = some (.int .i64 (f (j * 2))) ∧ wq.cell? ⟨wo.heap.size, 1, none⟩ = some (.int .i64 (f (j * 2 + 1))) ∧ wo.heap.size < wq.heap.size ∧ Below wo.heap.size wo wq) (fun _ i _ => j - (intOf i).toNat)
        case atStart => exact ⟨0, Nat.zero_le _, rfl, rfl, by simp, by simp, by simp, bl_alloc (Below.refl _ _) _⟩
        case round =>
          clear p1 p2
          obtain ⟨k, hk, rfl, rfl, c1, c2, c3, hV⟩ := hrel
          by_cases hlk : k < j
          · obtain ⟨b', off', cap', hv, hb2', hc⟩ := (HH.out.keep (bl_trans hV HW.out)).some_ (by omega)
            simp only [Value.slice.injEq, Option.some.injEq, Addr.mk.injEq, and_true, true_and] at hv
            obtain ⟨⟨rfl, rfl⟩, rfl⟩ := hv
            obtain ⟨q1, q2⟩ := hc k (by omega)
            have hlk' : (k : Int) < (j : Int) := by omega
            have HV := Lib.hid hV
            clear hc hV
            cases t : hidAny l f j k
            · go_wp2_with fail
              refine (swHides_any _ _ _ _ _ (OK.out k (by omega)) (OK.out j hlt) _).mono ?_
              rintro e w2 ⟨rfl, hb2⟩
              have d1 := cell_after hb2 (by simp; omega) (show (wr.alloc _).cell? ⟨wo.heap.size, 0, none⟩ = _ by rw [(bcell (bl_alloc (Below.refl _ wr) _)).1 _ _ c3]; exact c1)
              have d2 := cell_after hb2 (by simp; omega) (show (wr.alloc _).cell? ⟨wo.heap.size, 1, none⟩ = _ by rw [(bcell (bl_alloc (Below.refl _ wr) _)).1 _ _ c3]; exact c2)
              have d3 : wo.heap.size < w2.heap.size := by have := hb2.size; simp at this; omega
              have HV2 := Lib.hid (show Below wo.heap.size wo w2 from bl_trans hb2 (bl_alloc HV.out _))
              have TT := Lib.hid (show hidAny l f j (k + 1) = hid_ l (f (k * 2)) (f (k * 2 + 1)) (f (j * 2)) (f (j * 2 + 1)) by simp [hidAny, t])
              clear hb2 HV c1 c2 c3 q1 q2 t
              generalize hid_ l (f (k * 2)) (f (k * 2 + 1)) (f (j * 2)) (f (j * 2 + 1)) = t at *
              go_wp2
              go_roundw
              case rel => exact ⟨k + 1, by omega, by rw [TT.out], by go_num, d1, d2, d3, HV2.out⟩
              case measure => simp only [intOf]; omega
            · have TT := Lib.hid (show hidAny l f j (k + 1) = true by simp [hidAny, t])
              have d1 : (wr.alloc (.cells #[.int .i64 (f (k * 2)), .int .i64 (f (k * 2 + 1))] 26)).cell? ⟨wo.heap.size, 0, none⟩ = some (.int .i64 (f (j * 2))) := by rw [(bcell (bl_alloc (Below.refl _ wr) _)).1 _ _ c3]; exact c1
              have d2 : (wr.alloc (.cells #[.int .i64 (f (k * 2)), .int .i64 (f (k * 2 + 1))] 26)).cell? ⟨wo.heap.size, 1, none⟩ = some (.int .i64 (f (j * 2 + 1))) := by rw [(bcell (bl_alloc (Below.refl _ wr) _)).1 _ _ c3]; exact c2
              have D1 := Lib.hid d1
              have D2 := Lib.hid d2
              clear d1 d2 t
              go_wp2
              go_roundw
              case rel => exact ⟨k + 1, by omega, by rw [TT.out], by go_num, D1.out, D2.out, by simp; omega, bl_alloc HV.out _⟩
              case measure => simp only [intOf]; omega
          · obtain rfl : k = j := by omega
            have HI2 := Lib.hid (HI.out.keep hV)
            have HWW := Lib.hid (bl_trans hV HW.out)
            have HBW := Lib.hid (show w.heap.size ≤ wr.heap.size from Nat.le_trans HW.out.size (Nat.le_of_lt c3))
            clear hV
            cases t : hidAny l f k k
            · have HQ := Lib.hid (hp_no t)
              clear t
              go_wp2
              go_roundw
              case rel => exact ⟨k + 1, by omega, by go_num, by rw [HQ.out]; exact HI2.out, HWW.out⟩
              case measure => simp only [intOf]; omega
            · have HQ := Lib.hid (hp_yes t)
              have hll := hpTo_len l f k
              have hO := Lib.hid (show wr.ownsRow w.heap.size 3 1 u6 (hpTo l f k).length ((hpTo l f k).map (Value.int .i64)) from HI2.out)
              have hbw := HBW.out
              clear t
              generalize hL : (hpTo l f k).length = L at *
              have HL := Lib.hid hL
              clear hL
              go_wp2_with (at_builtin; refine wpList_append_own _ rfl _ _ 47 rfl w.heap.size 3 i0 (.int .i64 0) 1 8 Try.underlying47 hi hz0 hz1 hz2 rfl (by decide) _ _ _ rfl (hO.out.alloc _) ⟨wr.heap.size, 0, none⟩ 1 1 [.int .i64 (k : Int)] rfl rfl ?c1 ?c2 ?c3 ?c4 ?c5 ?_)
              all_goals (try exact cell_one_alloc _ _ _ _ (by simp))
              case c2 => simp [Value.oneCell']
              case c3 => unfold maxLen; omega
              case c4 => omega
              case c5 => first | omega | (simp; omega)
              intro v' w3 hown1 hgrow1 _
              have hs1 := hgrow1.size
              simp only [World.size_alloc] at hs1
              rw [← HL.out] at hown1
              obtain ⟨r1, r2⟩ := IRow.push (x := (k : Int)) (W := wr) HBW.out HI2.out hown1 hgrow1
              rw [← HQ.out] at r1
              have Q1 := Lib.hid r1
              have Q2 := Lib.hid (HWW.out.trans r2)
              clear r1 r2 hown1 hgrow1
              go_wp2
              go_roundw
              case rel => exact ⟨k + 1, by omega, by go_num, Q1.out, Q2.out⟩
              case measure => simp only [intOf]; omega
      · obtain rfl : j = n := by omega
        have HI := Lib.hid hI
        have HW := Lib.hid hW
        clear hI hW
        go_wp2
        go_ret2
        exact ⟨_, rfl, by rw [HPZ.out]; exact HI.out, HW.out⟩

def mixP (k : Int) (f : Nat → Int) (j : Nat) : Nat → Int := fun i => if i < j then k + (i : Int) else f i
set_option maxHeartbeats 800000 in
theorem markPoleS_any (v : Value) (k : Int) (n : Nat) (f : Nat → Int) (B : Nat) (w : World) (h : ORow w B v n f) (k0 : 0 ≤ k) (k1 : k + n * 2 ≤ 4611686018427387904) :
    Calls Try.prog 48 #[v, .int .i64 k] w fun e w' => e = .returned (.int .i64 (k + (n : Int) * 2)) ∧ ORow w' B v n (fun i => k + (i : Int)) ∧ w.grownBy w' v.ownBlock ∧ w'.heap.size = w.heap.size := by
  have hl := h.toP.len_le
  rcases h.open_ with ⟨rfl, rfl⟩ | ⟨g, cap, rfl, hB, hg, hnc, hm, hc, hf⟩
  · have HH := Lib.hid h
    clear h
    go_enter Try.func48, Try.ntmps48
    go_wp2
    go_loopw [1, 5] (fun c i wr => c = .int .i64 k ∧ i = .int .i64 0 ∧ wr = w) (fun _ _ _ => 0)
    case atStart => exact ⟨rfl, rfl, rfl⟩
    case round =>
      obtain ⟨rfl, rfl, rfl⟩ := hrel
      go_wp2
      go_ret
      exact ⟨by simp, HH.out.congr (fun i hi => absurd hi (by omega)), grown_refl' _ _, rfl⟩
  · have HH := Lib.hid h
    clear h hc hf
    go_enter Try.func48, Try.ntmps48
    go_wp2
    go_loopw [1, 5] (fun c i wr => ∃ j : Nat, j ≤ n ∧ c = .int .i64 (k + (j : Int) * 2) ∧ i = .int .i64 j ∧ ORow wr B (.slice (some ⟨g, 0, none⟩) n cap) n (mixP k f (j * 2)) ∧ w.grownBy wr (some g) ∧ wr.heap.size = w.heap.size) (fun _ i _ => n - (intOf i).toNat)
    case atStart => exact ⟨0, Nat.zero_le _, by simp, rfl, HH.out.congr (fun i _ => by simp [mixP]), grown_refl' _ _, rfl⟩
    case round =>
      obtain ⟨j, hj, rfl, rfl, hO, hG, hS⟩ := hrel
      by_cases hlt : j < n
      · rcases hO.open_ with ⟨he, _⟩ | ⟨g', cap', he, _, hg', _, _, hcc, hff⟩
        · cases he
        simp only [Value.slice.injEq, Option.some.injEq, Addr.mk.injEq, and_true, true_and] at he
        obtain ⟨rfl, rfl⟩ := he
        have d1 := hcc (j * 2) (by omega)
        have d2 := hcc (j * 2 + 1) (by omega)
        have f1 := hff (j * 2)
        have f2 := hff (j * 2 + 1)
        have s1 := hO.stored (j * 2) (k + (j : Int) * 2)
        have s2 := s1.1.stored (j * 2 + 1) (k + (j : Int) * 2 + 1)
        have S1 := Lib.hid s2.1
        have S2 := Lib.hid (grown_trans' hG (grown_trans' s1.2 s2.2))
        have HS := Lib.hid hS
        have hlt' : (j : Int) < (n : Int) := by omega
        clear hcc hff hO hG hS s1 s2
        go_wp2
        go_roundw
        case rel =>
          refine ⟨j + 1, by omega, by go_num, by go_num, S1.out.congr (fun i hi => ?_), S2.out, by simp [World.setCell, HS.out]⟩
          unfold mixP
          by_cases e1 : i = j * 2 + 1
          · rw [if_pos e1, if_pos (show i < (j + 1) * 2 by omega), e1]; push_cast; omega
          · by_cases e2 : i = j * 2
            · rw [if_neg e1, if_pos e2, if_pos (show i < (j + 1) * 2 by omega), e2]; push_cast; omega
            · by_cases e3 : i < j * 2
              · rw [if_neg e1, if_neg e2, if_pos e3, if_pos (show i < (j + 1) * 2 by omega)]
              · rw [if_neg e1, if_neg e2, if_neg e3, if_neg (show ¬ i < (j + 1) * 2 by omega)]
        case measure => simp only [intOf]; omega
      · obtain rfl : j = n := by omega
        have HO := Lib.hid hO
        have HG := Lib.hid hG
        have HS := Lib.hid hS
        clear hO hG hS
        go_wp2
        go_ret
        exact ⟨rfl, HO.out.congr (fun i hi => by simp [mixP, hi]), HG.out, HS.out⟩
theorem ne_block {u v : Value} {m : Nat} (hu : ∀ g, u.ownBlock = some g → g < m) (hv : ∀ g, v.ownBlock = some g → m ≤ g) : u.ownBlock = none ∨ u.ownBlock ≠ v.ownBlock := by
  cases e : u.ownBlock with
  | none => exact .inl rfl
  | some g =>
    refine .inr fun e' => ?_
    have := hu g e
    have := hv g e'.symm
    omega
theorem ORow.caps {w : World} {B : Nat} {v : Value} {n : Nat} {f : Nat → Int} (h : ORow w B v n f) : ∀ a m c, v = .slice a m c → m ≤ c := by
  intro a m c e
  rcases h.open_ with ⟨rfl, _⟩ | ⟨g, cap, rfl, _, _, hn, _⟩
  · cases e; exact Nat.le_refl _
  · cases e; exact hn
end Go.Proofs.Ytcmoilacjpldbaa
