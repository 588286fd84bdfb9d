/- Texts of numbers that are read back, by the program. -/
import Derived.Test.YtophkahaefbkiaaDoorT2
import Derived.Test.YtophkahaefbkiaaDoorP1
import Derived.Shelf.Strconv.ErrVarAll
import Derived.Lib.AtoiErrMem
namespace Go.Proofs.YtophkahaefbkiaaDoor
open Go.RowKit
theorem var_below {w w' : World} {name : String} {g : Nat} {cs : Array Value} (hg : Tryd.prog.globalNamed name = some g) (h : w.var? Tryd.prog name = some cs) (hb : Below w.heap.size w w') : w'.var? Tryd.prog name = some cs := by
  unfold World.var? at h ⊢
  rw [hg] at h ⊢
  simp only [Option.bind_some] at h ⊢
  have hlt : g < w.heap.size := by
    by_cases c : g < w.heap.size
    · exact c
    · rw [Array.getElem?_eq_none (by omega)] at h
      simp at h
  rw [hb.block _ hlt]
  exact h
def Errs (w : World) : Prop := (∃ t p, w.var? Tryd.prog "strconv.ErrSyntax" = some #[.iface t p]) ∧ ∃ t p, w.var? Tryd.prog "strconv.ErrRange" = some #[.iface t p]
theorem Errs.below {w w' : World} (h : Errs w) (hb : Below w.heap.size w w') : Errs w' := by
  obtain ⟨⟨t, p, h1⟩, t', p', h2⟩ := h
  exact ⟨⟨t, p, var_below (g := 2) (by kernel_rfl) h1 hb⟩, t', p', var_below (g := 3) (by kernel_rfl) h2 hb⟩
theorem below_bytes (w : World) (b : Nat) (t : ByteArray) : Below w.heap.size w (Lib.bytesWorld w b t) := Lib.bytesWorld_below w b t
/-- how Atoi ends -/
def atB (l : List UInt8) : Bool := match Lib.atoiAll l with
  | .ok _ => true
  | _ => false
def atV (l : List UInt8) : Int := match Lib.atoiAll l with
  | .ok v => v
  | _ => 0
theorem atoi_yes (s : ByteArray) (hs : s.size ≤ 1048576) (h : atB s.data.toList = true) (w : World) :
    Calls Tryd.prog 38 #[.string s] w fun e w' => e = .returned (.tuple #[.int .i64 (atV s.data.toList), .nilIface]) ∧ Below w.heap.size w w' := by
  unfold atB at h
  unfold atV
  cases hc : Lib.atoiAll s.data.toList
  · rename_i v
    refine (Tryd.strconv_Atoi_ok s (by omega) v hc w).mono ?_
    rintro e w' ⟨rfl, rfl | ⟨t, rfl⟩⟩
    · exact ⟨rfl, Below.refl _ _⟩
    · exact ⟨rfl, below_bytes _ _ _⟩
  · rw [hc] at h; cases h
  · rw [hc] at h; cases h
theorem atoi_no (s : ByteArray) (hs : s.size ≤ 1048576) (h : atB s.data.toList = false) (w : World) (E : Errs w) :
    Calls Tryd.prog 38 #[.string s] w fun e w' => ∃ n t p, e = .returned (.tuple #[.int .i64 n, .iface t p]) ∧ Below w.heap.size w w' := by
  obtain ⟨⟨t, p, h1⟩, t', p', h2⟩ := E
  unfold atB at h
  cases hc : Lib.atoiAll s.data.toList
  · rw [hc] at h; cases h
  · refine (Any.strconv_Atoi_syntax_var Tryd.laysC172 s (by omega) hc t p w h1).mono ?_
    rintro e w' ⟨N, rfl, _, _, hb⟩
    exact ⟨_, _, _, rfl, hb⟩
  · refine (Any.strconv_Atoi_range_var Tryd.laysC172 s (by omega) hc t' p' w h2).mono ?_
    rintro e w' ⟨N, rfl, _, _, hb⟩
    exact ⟨_, _, _, rfl, hb⟩
theorem atV_bound (l : List UInt8) : -9223372036854775808 ≤ atV l ∧ atV l ≤ 9223372036854775807 := by
  unfold atV
  cases hc : Lib.atoiAll l
  · exact Lib.atoiAll_bounds hc
  · exact ⟨by decide, by decide⟩
  · exact ⟨by decide, by decide⟩
def pnB (s : ByteArray) : Bool := atB s.data.toList && (decide (0 ≤ atV s.data.toList) && ((dec (atV s.data.toList)).toList == s.toList))
def pnV (s : ByteArray) : Int := if pnB s then atV s.data.toList else 0
set_option maxHeartbeats 400000 in
theorem parseNumber_any (s : ByteArray) (hs : s.size ≤ 1048576) (w : World) (T : Tab w) (E : Errs w) :
    Calls Tryd.prog 24 #[.string s] w fun e w' => e = .returned (.tuple #[.int .i64 (pnV s), .bool (pnB s)]) ∧ Below w.heap.size w w' := by
  obtain ⟨v0, v1⟩ := atV_bound s.data.toList
  cases ha : atB s.data.toList
  · have P := Lib.hid (show pnB s = false by simp [pnB, ha])
    have C := fun W (EW : Errs W) => Lib.hid (atoi_no s hs ha W EW)
    clear ha
    go_enter Tryd.func24, Tryd.ntmps24
    go_wp2_with fail
    refine ((C _ E).out).mono ?_
    rintro e w1 ⟨n, t, p, rfl, hb⟩
    go_wp2
    go_ret2
    exact ⟨by simp [pnV, P.out], hb⟩
  have C := fun W => Lib.hid (atoi_yes s hs ha W)
  by_cases hn : atV s.data.toList < 0
  · have P := Lib.hid (show pnB s = false by simp [pnB]; omega)
    clear ha
    generalize atV s.data.toList = v at *
    go_enter Tryd.func24, Tryd.ntmps24
    go_wp2_with fail
    refine ((C _).out).mono ?_
    rintro e w1 ⟨rfl, hb⟩
    go_wp2
    go_ret2
    exact ⟨by simp [pnV, P.out], hb⟩
  cases hc : ((dec (atV s.data.toList)).toList == s.toList)
  · have P := Lib.hid (show pnB s = false by simp only [pnB, hc, Bool.and_false])
    clear ha
    generalize atV s.data.toList = v at *
    go_enter Tryd.func24, Tryd.ntmps24
    go_wp2_with fail
    refine ((C _).out).mono ?_
    rintro e w1 ⟨rfl, hb⟩
    go_wp2_with (go_at_call 18; refine (itoa_any _ v0 v1 T hb).mono ?_; rintro e w2 ⟨rfl, hb2⟩)
    go_ret2
    exact ⟨by simp [pnV, P.out], bl_trans hb2 hb⟩
  · have P := Lib.hid (show pnB s = true by rw [pnB, ha, hc]; simp; omega)
    have PV := Lib.hid (show pnV s = atV s.data.toList by simp [pnV, P.out])
    clear ha
    generalize atV s.data.toList = v at *
    go_enter Tryd.func24, Tryd.ntmps24
    go_wp2_with fail
    refine ((C _).out).mono ?_
    rintro e w1 ⟨rfl, hb⟩
    go_wp2_with (go_at_call 18; refine (itoa_any _ v0 v1 T hb).mono ?_; rintro e w2 ⟨rfl, hb2⟩)
    go_ret2
    exact ⟨by simp [PV.out, P.out], bl_trans hb2 hb⟩
/-- what such a number is -/
theorem pn_sound {s : ByteArray} (h : pnB s = true) : 0 ≤ pnV s ∧ s.data.toList = Lib.decDigits (pnV s).toNat := by
  have hv : pnV s = atV s.data.toList := by simp [pnV, h]
  simp only [pnB, Bool.and_eq_true, decide_eq_true_eq, beq_iff_eq] at h
  obtain ⟨_, h1, h2⟩ := h
  rw [hv]
  refine ⟨h1, ?_⟩
  rw [Lib.toList_data, Lib.toList_data] at h2
  refine h2.symm.trans ?_
  unfold dec Lib.itoa
  rw [if_neg (by omega)]
theorem pn_complete {s : ByteArray} {m : Nat} (hm : m < 1000000) (h : s.data.toList = Lib.decDigits m) : pnB s = true ∧ pnV s = m := by
  have ha := atoi_digits m hm
  have h1 : atB s.data.toList = true := by unfold atB; rw [h, ha]
  have h2 : atV s.data.toList = m := by unfold atV; rw [h, ha]
  have h3 : (dec (m : Int)).toList = s.toList := by
    rw [Lib.toList_data, Lib.toList_data, h]
    unfold dec Lib.itoa
    rw [if_neg (by omega)]
    simp
  have h4 : pnB s = true := by
    rw [pnB, h1, h2, h3]
    simp
  exact ⟨h4, by rw [pnV, h4, if_pos rfl, h2]⟩
end Go.Proofs.YtophkahaefbkiaaDoor
