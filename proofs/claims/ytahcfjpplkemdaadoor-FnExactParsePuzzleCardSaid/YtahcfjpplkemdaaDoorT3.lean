/- Texts that are cut at a sign, by the model. -/
import Derived.Test.YtahcfjpplkemdaaDoorP1
import Derived.Test.YtahcfjpplkemdaaDoorT2
namespace Go.Proofs.YtahcfjpplkemdaaDoor
open Go.RowKit
theorem infoS : (Tryd.prog.info? 9).map (fun i => (i.zero, i.size, i.bytes)) = some (some (.string ⟨#[]⟩), 1, 16) := by kernel_rfl
def str (p : List UInt8) : Value := .string ⟨p.toArray⟩
/-- a slice of strings of the call's own -/
def SRow (w : World) (B : Nat) (v : Value) (ss : List (List UInt8)) : Prop := w.ownsRow B 9 1 v ss.length (ss.map str)
theorem SRow.keep {w w' : World} {B : Nat} {v : Value} {ss : List (List UInt8)} (h : SRow w B v ss) (k : Below w.heap.size w w') : SRow w' B v ss :=
  World.ownsRow.kept h (row := none) ⟨k.os, k.tape, k.output, k.size, fun i hi _ => k.block i hi⟩ (by cases hv : v.ownBlock <;> simp)
theorem SRow.open_ {w : World} {B : Nat} {v : Value} {ss : List (List UInt8)} (h : SRow w B v ss) (hx : 0 < ss.length) :
    ∃ g cap, v = .slice (some ⟨g, 0, none⟩) ss.length cap ∧ B ≤ g ∧ g < w.heap.size ∧ ∀ i, i < ss.length → w.cell? ⟨g, i, none⟩ = some (str (ss.getD i [])) := by
  have h' := h
  obtain ⟨_, ⟨rfl, hn⟩ | ⟨g, cap, cur, rfl, hB, hg, hn, hm, hs, ht⟩⟩ := h
  · omega
  · refine ⟨g, cap, rfl, hB, (Array.getElem?_eq_some_iff.1 hg).1, fun i hi => ?_⟩
    have := World.ownsRow.cellAt h' i (by omega)
    rw [this]
    simp [List.getD, hi]
theorem piece_eq (s : ByteArray) (b : UInt8) (k f : Nat) (e : (sp b s.data.toList k).2 = (s.data.toList.take k).drop f) : s.extract f k = ⟨((sp b s.data.toList k).2).toArray⟩ := by
  rw [Lib.extract_eq, e, List.drop_take]
theorem sp_yes {b : UInt8} {l : List UInt8} {k : Nat} (h : l.getD k 0 = b) : sp b l (k + 1) = ((sp b l k).1 ++ [(sp b l k).2], []) := by simp only [sp]; rw [if_pos h]
theorem sp_no {b : UInt8} {l : List UInt8} {k : Nat} (h : ¬ l.getD k 0 = b) : sp b l (k + 1) = ((sp b l k).1, (sp b l k).2 ++ [l.getD k 0]) := by simp only [sp]; rw [if_neg h]
theorem sp_len (b : UInt8) (l : List UInt8) : ∀ k, (sp b l k).1.length ≤ k
  | 0 => by simp [sp]
  | k + 1 => by
    have := sp_len b l k
    simp only [sp]; split <;> simp <;> omega

theorem drop_take_snoc (l : List UInt8) (k f : Nat) (h : k < l.length) (hf : f ≤ k) : (l.take (k + 1)).drop f = (l.take k).drop f ++ [l.getD k 0] := by
  rw [take_snoc l k h, List.drop_append_of_le_length (by rw [List.length_take]; omega)]
theorem len_data (s : ByteArray) : s.data.toList.length = s.size := by rw [Array.length_toList]; rfl
theorem getD_data (s : ByteArray) (k : Nat) (h : k < s.size) : s.data.toList.getD k 0 = s[k] := by
  have e : s.data.toList[k]? = some s[k] := by
    rw [List.getElem?_eq_getElem (by rw [len_data]; exact h)]; rfl
  rw [List.getD, e]; rfl
set_option maxHeartbeats 1000000 in
theorem l1Split_any (s : ByteArray) (b : UInt8) (n : Int) (hn : n = b.toNat) (hs : s.size ≤ 1048576) (w : World) :
    Calls Tryd.prog 39 #[.string s, .int .u8 n] w fun e w' => ∃ v, e = .returned v ∧ SRow w' w.heap.size v ((sp b s.data.toList s.size).1 ++ [(sp b s.data.toList s.size).2]) ∧ Below w.heap.size w w' := by
  obtain ⟨i0, hi, hz0, hz1, hz2⟩ := info_parts infoS
  obtain ⟨B, hB⟩ : ∃ B, w.heap.size = B := ⟨_, rfl⟩
  have hBw : B ≤ w.heap.size := by omega
  rw [hB]
  clear hB
  have HN := Lib.hid hn
  clear hn
  go_enter Tryd.func39, Tryd.ntmps39
  go_wp2
  go_loopw [5, 6, 7] (fun v fr i wr => ∃ k f : Nat, k ≤ s.size ∧ f ≤ k ∧ i = .int .i64 k ∧ fr = .int .i64 f ∧ Hid ((sp b s.data.toList k).2 = (s.data.toList.take k).drop f) ∧ SRow wr B v (sp b s.data.toList k).1 ∧ Below B w wr) (fun _ _ i _ => s.size - (intOf i).toNat)
  case atStart => exact ⟨0, 0, Nat.zero_le _, Nat.le_refl _, rfl, rfl, Lib.hid (by simp [sp]), World.ownsRow_nil _ _ _ 1, Below.refl _ _⟩
  case round =>
    obtain ⟨k, f, hk, hf, rfl, rfl, HE, hO, hW⟩ := hrel
    have hBr : B ≤ wr.heap.size := Nat.le_trans hBw hW.size
    have hpl := sp_len b s.data.toList k
    have HO := Lib.hid (show wr.ownsRow B 9 1 _ _ _ from hO)
    have HW := Lib.hid hW
    have HP := Lib.hid (piece_eq s b k f HE.out)
    clear hO hW
    by_cases hlt : k < s.size
    · have hg : s.data.toList.getD k 0 = s[k] := getD_data s k hlt
      have HG := Lib.hid hg
      by_cases hd : s[k] = b
      · have ht : ((s[k].toNat : Int) == n) = true := by rw [HN.out, hd]; simp
        have HS := Lib.hid (sp_yes (l := s.data.toList) (k := k) (b := b) (by rw [hg]; exact hd))
        clear hg hd
        generalize hL : (sp b s.data.toList k).1.length = L at *
        have HL := Lib.hid hL
        clear hL
        go_wp2_with (at_builtin; refine wpList_append_own _ rfl _ _ 42 rfl B 9 i0 (.string ⟨#[]⟩) 1 16 Tryd.underlying42 hi hz0 hz1 hz2 rfl (by decide) _ _ _ rfl (HO.out.alloc _) ⟨wr.heap.size, 0, none⟩ 1 1 [.string (s.extract f k)] rfl rfl ?c1 ?c2 ?c3 ?c4 ?c5 ?_)
        case c1 => exact (cell_one_new _ _ _)
        case c2 => simp [Value.oneCell']
        case c3 => unfold maxLen; omega
        case c4 => omega
        case c5 => first | omega | (simp; omega)
        intro v' w1 hown1 hgrow1 _
        have hb1 : Below B wr w1 := (((Below.refl B wr).alloc hBr _)).grown hgrow1 (by simp; omega) fun g e => (HO.out.lt g e).1
        have Q1 : Hid (SRow w1 B v' (sp b s.data.toList (k + 1)).1) := by
          rw [HS.out]
          unfold SRow
          rw [List.length_append, List.length_singleton, HL.out, List.map_append]
          rw [HP.out] at hown1
          exact hown1
        have Q2 := Lib.hid hb1
        clear hb1 hown1 hgrow1
        go_wp2
        go_roundw
        case rel => exact ⟨k + 1, k + 1, by omega, Nat.le_refl _, by go_num, by go_num, by rw [HS.out]; exact Lib.hid (by simp), Q1.out, HW.out.trans Q2.out⟩
        case measure => simp only [intOf]; omega
      · have ht : ((s[k].toNat : Int) == n) = false := by
          rw [HN.out, beq_eq_false_iff_ne]
          intro e
          exact hd (UInt8.toNat_inj.1 (by omega))
        have HS := Lib.hid (sp_no (l := s.data.toList) (k := k) (b := b) (by rw [hg]; exact hd))
        have HT := Lib.hid (show (sp b s.data.toList (k + 1)).2 = (s.data.toList.take (k + 1)).drop f by
          rw [sp_no (l := s.data.toList) (k := k) (b := b) (by rw [hg]; exact hd), HE.out, drop_take_snoc _ k f (by rw [len_data]; exact hlt) hf])
        clear hg hd
        go_wp2
        go_roundw
        case rel => exact ⟨k + 1, f, by omega, by omega, by go_num, rfl, HT, by rw [HS.out]; exact HO.out, HW.out⟩
        case measure => simp only [intOf]; omega
    · obtain rfl : k = s.size := by omega
      generalize hL : (sp b s.data.toList s.size).1.length = L at *
      have HL := Lib.hid hL
      clear hL
      go_wp2_with (at_builtin; refine wpList_append_own _ rfl _ _ 42 rfl B 9 i0 (.string ⟨#[]⟩) 1 16 Tryd.underlying42 hi hz0 hz1 hz2 rfl (by decide) _ _ _ rfl (HO.out.alloc _) ⟨wr.heap.size, 0, none⟩ 1 1 [.string (s.extract f s.size)] rfl rfl ?c1 ?c2 ?c3 ?c4 ?c5 ?_)
      case c1 => exact (cell_one_new _ _ _)
      case c2 => simp [Value.oneCell']
      case c3 => unfold maxLen; omega
      case c4 => omega
      case c5 => first | omega | (simp; omega)
      intro v' w1 hown1 hgrow1 _
      have hb1 : Below B wr w1 := (((Below.refl B wr).alloc hBr _)).grown hgrow1 (by simp; omega) fun g e => (HO.out.lt g e).1
      have Q1 : Hid (SRow w1 B v' ((sp b s.data.toList s.size).1 ++ [(sp b s.data.toList s.size).2])) := by
        unfold SRow
        rw [List.length_append, List.length_singleton, HL.out, List.map_append]
        rw [HP.out] at hown1
        exact hown1
      have Q2 := Lib.hid hb1
      clear hb1 hown1 hgrow1
      go_wp2
      go_ret
      exact ⟨_, rfl, Q1.out, HW.out.trans Q2.out⟩
end Go.Proofs.YtahcfjpplkemdaaDoor
