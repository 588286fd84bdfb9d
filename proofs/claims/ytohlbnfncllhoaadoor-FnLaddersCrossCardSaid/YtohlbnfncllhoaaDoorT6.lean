/- Texts of numbers that are read back, by the program. -/
import Derived.Test.YtohlbnfncllhoaaDoorT2
import Derived.Test.YtohlbnfncllhoaaDoorP1
import Derived.Shelf.Strconv.ErrVarAll
import Derived.Lib.AtoiErrMem
namespace Go.Proofs.YtohlbnfncllhoaaDoor
open Go.RowKit
theorem var_below {w w' : World} {name : String} {g : Nat} {cs : Array Value} (hg : Tryd.prog.globalNamed name = some g) (h : w.var? Tryd.prog name = some cs) (hb : Below w.heap.size w w') : w'.var? Tryd.prog name = some cs := by
  unfold World.var? at h ⊢
  rw [hg] at h ⊢
  simp only [Option.bind_some] at h ⊢
  have hlt : g < w.heap.size := by
    by_cases c : g < w.heap.size
    · exact c
    · rw [Array.getElem?_eq_none (by omega)] at h
      simp at h
  rw [hb.block _ hlt]
  exact h
def Errs (w : World) : Prop := (∃ t p, w.var? Tryd.prog "strconv.ErrSyntax" = some #[.iface t p]) ∧ ∃ t p, w.var? Tryd.prog "strconv.ErrRange" = some #[.iface t p]
theorem Errs.below {w w' : World} (h : Errs w) (hb : Below w.heap.size w w') : Errs w' := by
  obtain ⟨⟨t, p, h1⟩, t', p', h2⟩ := h
  exact ⟨⟨t, p, var_below (g := 2) (by kernel_rfl) h1 hb⟩, t', p', var_below (g := 3) (by kernel_rfl) h2 hb⟩
theorem below_bytes (w : World) (b : Nat) (t : ByteArray) : Below w.heap.size w (Lib.bytesWorld w b t) := Lib.bytesWorld_below w b t
/-- how Atoi ends -/
def atB (l : List UInt8) : Bool := match Lib.atoiAll l with
  | .ok _ => true
  | _ => false
def atV (l : List UInt8) : Int := match Lib.atoiAll l with
  | .ok v => v
  | _ => 0
theorem atoi_yes (s : ByteArray) (hs : s.size ≤ 1048576) (h : atB s.data.toList = true) (w : World) :
    Calls Tryd.prog 66 #[.string s] w fun e w' => e = .returned (.tuple #[.int .i64 (atV s.data.toList), .nilIface]) ∧ Below w.heap.size w w' := by
  unfold atB at h
  unfold atV
  cases hc : Lib.atoiAll s.data.toList
  · rename_i v
    refine (Tryd.strconv_Atoi_ok s (by omega) v hc w).mono ?_
    rintro e w' ⟨rfl, rfl | ⟨t, rfl⟩⟩
    · exact ⟨rfl, Below.refl _ _⟩
    · exact ⟨rfl, below_bytes _ _ _⟩
  · rw [hc] at h; cases h
  · rw [hc] at h; cases h
theorem atoi_no (s : ByteArray) (hs : s.size ≤ 1048576) (h : atB s.data.toList = false) (w : World) (E : Errs w) :
    Calls Tryd.prog 66 #[.string s] w fun e w' => ∃ n t p, e = .returned (.tuple #[.int .i64 n, .iface t p]) ∧ Below w.heap.size w w' := by
  obtain ⟨⟨t, p, h1⟩, t', p', h2⟩ := E
  unfold atB at h
  cases hc : Lib.atoiAll s.data.toList
  · rw [hc] at h; cases h
  · refine (Any.strconv_Atoi_syntax_var Tryd.laysC172 s (by omega) hc t p w h1).mono ?_
    rintro e w' ⟨N, rfl, _, _, hb⟩
    exact ⟨_, _, _, rfl, hb⟩
  · refine (Any.strconv_Atoi_range_var Tryd.laysC172 s (by omega) hc t' p' w h2).mono ?_
    rintro e w' ⟨N, rfl, _, _, hb⟩
    exact ⟨_, _, _, rfl, hb⟩
theorem atV_bound (l : List UInt8) : -9223372036854775808 ≤ atV l ∧ atV l ≤ 9223372036854775807 := by
  unfold atV
  cases hc : Lib.atoiAll l
  · exact Lib.atoiAll_bounds hc
  · exact ⟨by decide, by decide⟩
  · exact ⟨by decide, by decide⟩
/-- numbers with a sign, as they are written -/
def psB (s : ByteArray) : Bool := atB s.data.toList && ((dec (atV s.data.toList)).toList == s.toList)
def psV (s : ByteArray) : Int := if psB s then atV s.data.toList else 0
set_option maxHeartbeats 400000 in
theorem parseSigned_any (s : ByteArray) (hs : s.size ≤ 1048576) (w : World) (T : Tab w) (E : Errs w) :
    Calls Tryd.prog 61 #[.string s] w fun e w' => e = .returned (.tuple #[.int .i64 (psV s), .bool (psB s)]) ∧ Below w.heap.size w w' := by
  obtain ⟨v0, v1⟩ := atV_bound s.data.toList
  cases ha : atB s.data.toList
  · have P := Lib.hid (show psB s = false by simp [psB, ha])
    have C := fun W (EW : Errs W) => Lib.hid (atoi_no s hs ha W EW)
    clear ha
    go_enter Tryd.func61, Tryd.ntmps61
    go_wp2_with fail
    refine ((C _ E).out).mono ?_
    rintro e w1 ⟨n, t, p, rfl, hb⟩
    go_wp2
    go_ret2
    exact ⟨by simp [psV, P.out], hb⟩
  have C := fun W => Lib.hid (atoi_yes s hs ha W)
  cases hc : ((dec (atV s.data.toList)).toList == s.toList)
  · have P := Lib.hid (show psB s = false by simp only [psB, hc, Bool.and_false])
    clear ha
    generalize atV s.data.toList = v at *
    go_enter Tryd.func61, Tryd.ntmps61
    go_wp2_with fail
    refine ((C _).out).mono ?_
    rintro e w1 ⟨rfl, hb⟩
    go_wp2_with (go_at_call 42; refine (itoa_any _ v0 v1 T hb).mono ?_; rintro e w2 ⟨rfl, hb2⟩)
    go_ret2
    exact ⟨by simp [psV, P.out], bl_trans hb2 hb⟩
  · have P := Lib.hid (show psB s = true by rw [psB, ha, hc]; rfl)
    have PV := Lib.hid (show psV s = atV s.data.toList by simp [psV, P.out])
    clear ha
    generalize atV s.data.toList = v at *
    go_enter Tryd.func61, Tryd.ntmps61
    go_wp2_with fail
    refine ((C _).out).mono ?_
    rintro e w1 ⟨rfl, hb⟩
    go_wp2_with (go_at_call 42; refine (itoa_any _ v0 v1 T hb).mono ?_; rintro e w2 ⟨rfl, hb2⟩)
    go_ret2
    exact ⟨by simp [PV.out, P.out], bl_trans hb2 hb⟩
def pnB (s : ByteArray) : Bool := atB s.data.toList && (decide (0 ≤ atV s.data.toList) && ((dec (atV s.data.toList)).toList == s.toList))
def pnV (s : ByteArray) : Int := if pnB s then atV s.data.toList else 0
theorem pn_ps (s : ByteArray) : pnB s = (psB s && decide (0 ≤ psV s)) := by
  unfold pnB psV
  cases h : psB s
  · have h' := h
    unfold psB at h'
    cases h1 : atB s.data.toList
    · rfl
    · rw [h1, Bool.true_and] at h'
      rw [h', Bool.and_false]; rfl
  · have h' := h
    unfold psB at h'
    rw [Bool.and_eq_true] at h'
    rw [h'.1, h'.2]
    simp
theorem pnV_ps {s : ByteArray} (h : pnB s = true) : pnV s = psV s := by
  have h' := h
  rw [pn_ps, Bool.and_eq_true] at h'
  unfold pnV psV
  rw [h, h'.1]
set_option maxHeartbeats 400000 in
theorem parseNumber_any (s : ByteArray) (hs : s.size ≤ 1048576) (w : World) (T : Tab w) (E : Errs w) :
    Calls Tryd.prog 47 #[.string s] w fun e w' => e = .returned (.tuple #[.int .i64 (pnV s), .bool (pnB s)]) ∧ Below w.heap.size w w' := by
  have HS := Lib.hid (parseSigned_any s hs w T E)
  have HB := Lib.hid (pn_ps s)
  cases h : psB s
  · have P := Lib.hid (show pnB s = false by rw [HB.out, h]; rfl)
    rw [h] at HS
    generalize psV s = v at *
    go_enter Tryd.func47, Tryd.ntmps47
    go_wp2_with fail
    refine (HS.out).mono ?_
    rintro e w1 ⟨rfl, hb⟩
    go_wp2
    go_ret2
    exact ⟨by simp [pnV, P.out], hb⟩
  · by_cases hn : psV s < 0
    · have P := Lib.hid (show pnB s = false by rw [HB.out, decide_eq_false (by omega), Bool.and_false])
      rw [h] at HS
      generalize psV s = v at *
      go_enter Tryd.func47, Tryd.ntmps47
      go_wp2_with fail
      refine (HS.out).mono ?_
      rintro e w1 ⟨rfl, hb⟩
      go_wp2
      go_ret2
      exact ⟨by simp [pnV, P.out], hb⟩
    · have P := Lib.hid (show pnB s = true by rw [HB.out, h, decide_eq_true (by omega)]; rfl)
      have PV := Lib.hid (pnV_ps P.out)
      rw [h] at HS
      generalize psV s = v at *
      go_enter Tryd.func47, Tryd.ntmps47
      go_wp2_with fail
      refine (HS.out).mono ?_
      rintro e w1 ⟨rfl, hb⟩
      go_wp2
      go_ret2
      exact ⟨by simp [PV.out, P.out], hb⟩
theorem dec_itoa (n : Int) : (dec n).data.toList = Lib.itoa n := by simp [dec]
theorem atoi_neg (n : Nat) (h : n < 1000000) : Lib.atoiAll (45 :: Lib.decDigits n) = .ok (-(n : Int)) := by
  have hl : (45 :: Lib.decDigits n).length ≤ 18 := by
    have := digits_len 5 n (by omega)
    simp only [List.length_cons]
    omega
  rw [Lib.atoiAll_short _ hl]
  have e : Lib.atoi (45 :: Lib.decDigits n) = some (-(n : Int)) := by
    have hne := digits_ne n
    have hfr := decFrom_digits n
    simp [Lib.atoi, Lib.decNat, hfr, hne]
  rw [e]
  rfl
theorem ps_sound {s : ByteArray} (h : psB s = true) : s.data.toList = Lib.itoa (psV s) := by
  have hv : psV s = atV s.data.toList := by simp [psV, h]
  simp only [psB, Bool.and_eq_true, beq_iff_eq] at h
  rw [hv, ← dec_itoa]
  have h2 := h.2
  rw [Lib.toList_data, Lib.toList_data] at h2
  exact h2.symm
theorem ps_complete {s : ByteArray} {n : Int} (h1 : -1000000 < n) (h2 : n < 1000000) (h : s.data.toList = Lib.itoa n) : psB s = true ∧ psV s = n := by
  have ha : Lib.atoiAll s.data.toList = .ok n := by
    rw [h]
    unfold Lib.itoa
    split
    · rw [atoi_neg _ (by omega), show -((n.natAbs : Nat) : Int) = n by omega]
    · rw [atoi_digits _ (by omega), show ((n.toNat : Nat) : Int) = n by omega]
  have h3 : atB s.data.toList = true := by unfold atB; rw [ha]
  have h4 : atV s.data.toList = n := by unfold atV; rw [ha]
  have h5 : (dec n).toList = s.toList := by
    rw [Lib.toList_data, Lib.toList_data, h, dec_itoa]
  have h6 : psB s = true := by rw [psB, h3, h4, h5]; simp
  exact ⟨h6, by rw [psV, h6, if_pos rfl, h4]⟩
/-- what such a number is -/
theorem pn_sound {s : ByteArray} (h : pnB s = true) : 0 ≤ pnV s ∧ s.data.toList = Lib.decDigits (pnV s).toNat := by
  have hv : pnV s = atV s.data.toList := by simp [pnV, h]
  simp only [pnB, Bool.and_eq_true, decide_eq_true_eq, beq_iff_eq] at h
  obtain ⟨_, h1, h2⟩ := h
  rw [hv]
  refine ⟨h1, ?_⟩
  rw [Lib.toList_data, Lib.toList_data] at h2
  refine h2.symm.trans ?_
  unfold dec Lib.itoa
  rw [if_neg (by omega)]
theorem pn_complete {s : ByteArray} {m : Nat} (hm : m < 1000000) (h : s.data.toList = Lib.decDigits m) : pnB s = true ∧ pnV s = m := by
  have ha := atoi_digits m hm
  have h1 : atB s.data.toList = true := by unfold atB; rw [h, ha]
  have h2 : atV s.data.toList = m := by unfold atV; rw [h, ha]
  have h3 : (dec (m : Int)).toList = s.toList := by
    rw [Lib.toList_data, Lib.toList_data, h]
    unfold dec Lib.itoa
    rw [if_neg (by omega)]
    simp
  have h4 : pnB s = true := by
    rw [pnB, h1, h2, h3]
    simp
  exact ⟨h4, by rw [pnV, h4, if_pos rfl, h2]⟩
end Go.Proofs.YtohlbnfncllhoaaDoor
