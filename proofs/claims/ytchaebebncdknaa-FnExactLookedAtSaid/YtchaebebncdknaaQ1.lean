/- Slices of integers as they came in: read and copied. -/
import Derived.Test.YtchaebebncdknaaR1
import Derived.OwnWalk
import Derived.ChangeSlices
namespace Go.Proofs.Ytchaebebncdknaa
open Go.RowKit
theorem infoI : (Try.prog.info? 3).map (fun i => (i.zero, i.size, i.bytes)) = some (some (.int .i64 0), 1, 8) := by kernel_rfl

/-- 'v' is a slice of ints with the elements xs. -/
def QRow (w : World) (v : Value) (xs : List Int) : Prop :=
  (xs = [] ∧ ∃ a c, v = .slice a 0 c) ∨ (0 < xs.length ∧ ∃ b off cap, v = .slice (some ⟨b, off, none⟩) xs.length cap ∧ xs.length ≤ maxLen ∧ b < w.heap.size ∧ ∀ i, i < xs.length → w.cell? ⟨b, off + i, none⟩ = some (.int .i64 (xs.getD i 0)))
theorem QRow.keep {w w' : World} {v : Value} {xs : List Int} (h : QRow w v xs) (k : Below w.heap.size w w') : QRow w' v xs := by
  rcases h with h | ⟨h0, b, off, cap, hv, hn, hb, hc⟩
  · exact .inl h
  · exact .inr ⟨h0, b, off, cap, hv, hn, Nat.lt_of_lt_of_le hb k.size, fun i hi => by rw [(bcell k).1 _ _ hb]; exact hc i hi⟩
theorem QRow.shape {w : World} {v : Value} {xs : List Int} (h : QRow w v xs) : ∃ a c, v = .slice a xs.length c := by
  rcases h with ⟨rfl, a, c, h1⟩ | ⟨_, b, off, cap, h1, _⟩
  · exact ⟨a, c, h1⟩
  · exact ⟨_, cap, h1⟩
theorem QRow.len_le {w : World} {v : Value} {xs : List Int} (h : QRow w v xs) : xs.length ≤ 9223372036854775807 := by
  rcases h with ⟨rfl, _⟩ | ⟨_, b, off, cap, _, hn, _⟩
  · simp
  · unfold maxLen at hn; omega
theorem QRow.some_ {w : World} {v : Value} {xs : List Int} (h : QRow w v xs) (h0 : 0 < xs.length) : ∃ b off cap, v = .slice (some ⟨b, off, none⟩) xs.length cap ∧ b < w.heap.size ∧ ∀ i, i < xs.length → w.cell? ⟨b, off + i, none⟩ = some (.int .i64 (xs.getD i 0)) := by
  rcases h with ⟨rfl, _⟩ | ⟨_, b, off, cap, hv, hn, hb, hc⟩
  · simp at h0
  · exact ⟨b, off, cap, hv, hb, hc⟩
theorem IRow.toQ {w : World} {B : Nat} {v : Value} {xs : List Int} (h : IRow w B v xs) : QRow w v xs := by
  rcases h.open_ with ⟨rfl, rfl⟩ | ⟨g, cap, cur, rfl, _, hg, hn, hm, _, _, hc, _⟩
  · exact .inl ⟨rfl, _, _, rfl⟩
  · by_cases h0 : 0 < xs.length
    · exact .inr ⟨h0, g, 0, cap, rfl, by omega, hg, fun i hi => by rw [Nat.zero_add]; exact hc i hi⟩
    · obtain rfl : xs = [] := by cases xs <;> simp_all
      exact .inl ⟨rfl, _, _, rfl⟩
theorem addr_spot {w : World} {a : Addr} {x : Value} (h : w.cell? a = some x) : a.spot = none ∧ a.block < w.heap.size := by
  refine ⟨?_, World.block_lt_of_cell? w _ h⟩
  obtain ⟨b, off, spot⟩ := a
  simp only [World.cell?] at h
  cases spot with
  | none => rfl
  | some x => exfalso; split at h <;> simp at h
theorem add_flat (b off k : Nat) : (⟨b, off, none⟩ : Addr).add k = ⟨b, off + k, none⟩ := by
  unfold Addr.add
  split
  · rename_i hk; subst hk; rfl
  · rfl
section
open Go.ChangeShapes Go.WideShapes
variable {H : Type} {enc : TypeId × Value → H} {w : World} {base : Nat} {spare : Nat → Bool} {held : Bool}
set_option maxRecDepth 100000 in
theorem open_q {r : Reach} {b0 : Nat} {v : Value} {d : DataW H} {ps : List MemPlace} (hv : Value.okWide Try.prog w r b0 56 v) (h : DataW.Trod enc Try.prog w base spare held 56 v d ps) : ∃ xs, QRow w v xs := by
  obtain ⟨a0, len, cap, rfl⟩ := okWide_slice Try.underlying56 hv
  obtain ⟨fuel, hf⟩ := h
  rcases Go.ChangeShapes.open_ints Try.underlying56 Try.underlying3 (by kernel_rfl) hf with ⟨hc, _⟩ | ⟨a, l, c, zs, hc, _, hl, hm, hz, _, hcell, _⟩
  · simp [Value.cells] at hc
    obtain ⟨rfl, rfl, rfl⟩ := hc
    exact ⟨[], .inl ⟨rfl, _, _, rfl⟩⟩
  · simp [Value.cells] at hc
    obtain ⟨rfl, rfl, rfl⟩ := hc
    have hlm : len ≤ zs.length := by rw [hz]; split <;> omega
    by_cases h0 : 0 < len
    · have c0 := hcell 0 (by omega)
      obtain ⟨b, off, spot⟩ := a
      have hs : spot = none := by
        have := (addr_spot c0).1
        simpa [Addr.add] using this
      subst hs
      have hb : b < w.heap.size := by
        have := (addr_spot c0).2
        simpa [Addr.add] using this
      refine ⟨zs.take len, .inr ⟨by simp; omega, b, off, cap, ?_, by simp; omega, hb, fun i hi => ?_⟩⟩
      · rw [List.length_take, Nat.min_eq_left hlm]
      · rw [List.length_take, Nat.min_eq_left hlm] at hi
        have := hcell i (by omega)
        rw [add_flat] at this
        rw [this]
        simp [List.getD, hi]
    · obtain rfl : len = 0 := by omega
      exact ⟨[], .inl ⟨rfl, _, _, rfl⟩⟩
end

theorem cp_zero (xs : List Int) : xs.take 0 ++ List.replicate (xs.length - 0) 0 = List.replicate xs.length 0 := by simp
theorem cp_end (xs : List Int) : xs.take xs.length ++ List.replicate (xs.length - xs.length) 0 = xs := by simp
theorem cp_len (xs : List Int) (j : Nat) (h : j ≤ xs.length) : (xs.take j ++ List.replicate (xs.length - j) 0).length = xs.length := by simp; omega
theorem cp_set (xs : List Int) (j : Nat) (h : j < xs.length) : (xs.take j ++ List.replicate (xs.length - j) 0).set j (xs.getD j 0) = xs.take (j + 1) ++ List.replicate (xs.length - (j + 1)) 0 := by
  have e : xs.length - j = (xs.length - (j + 1)) + 1 := by omega
  have el : (xs.take j).length = j := by simp; omega
  rw [List.set_append_right _ _ (by omega), el, Nat.sub_self, e, List.replicate_succ, List.set_cons_zero, List.take_add_one, List.append_assoc]
  simp [List.getD, h]
theorem IRow.zeros {w : World} {B : Nat} {v : Value} {n : Nat} (h : w.ownsRow B 3 1 v n (madeCells (Value.int .i64 0).cells (n * 1)).toList) : IRow w B v (List.replicate n 0) := by
  unfold IRow
  have e : (madeCells (Value.int .i64 0).cells (n * 1)).toList = (List.replicate n (0 : Int)).map (Value.int .i64) := by
    refine List.ext_getElem (by simp [madeCells]) fun i h1 h2 => ?_
    simp [madeCells, Value.cells, Nat.mod_one]
  rw [List.length_replicate, ← e]
  exact h

set_option maxHeartbeats 800000 in
theorem toIntS_any (v : Value) (xs : List Int) (w : World) (h : QRow w v xs) (hn : xs.length ≤ 1048576) :
    Calls Try.prog 64 #[v] w fun e w' => ∃ u, e = .returned u ∧ IRow w' w.heap.size u xs ∧ Below w.heap.size w w' := by
  obtain ⟨i0, hi, hz0, hz1, hz2⟩ := info_parts infoI
  have hsh := h.shape
  obtain ⟨a, c, hv⟩ := hsh
  obtain ⟨B, hB⟩ : ∃ B, w.heap.size = B := ⟨_, rfl⟩
  have HH := Lib.hid h
  clear h
  have h0' := HH.out
  generalize hL : xs.length = n at *
  have HL := Lib.hid hL
  subst hv
  clear h0' hL
  rw [hB]
  go_enter Try.func64, Try.ntmps64
  go_wp2_with (at_make; refine wpList_make_full _ rfl _ _ 56 rfl w.heap.size 3 i0 _ 1 Try.underlying56 hi hz0 hz1 .i64 .i64 _ _ n rfl rfl rfl rfl (by rw [hz2]; omega) (by unfold maxLen; omega) (Nat.le_refl _) ?_; intro w1 hown hgrow; have hO := Lib.hid (IRow.zeros hown); clear hown; have hG := Lib.hid hgrow; clear hgrow)
  have hW : Below B w w1 := by
    exact ⟨hG.out.os, hG.out.tape, hG.out.output, hG.out.size, fun i hi => hG.out.block i (by omega) (by simp)⟩
  (try rw [hB] at hO)
  (try rw [hB])
  have hHB : B ≤ w.heap.size := by omega
  go_loopw [4] (fun i wr => ∃ j : Nat, j ≤ n ∧ i = .int .i64 (j : Int) ∧ IRow wr B (.slice (some ⟨B, 0, none⟩) n n) (xs.take j ++ List.replicate (n - j) 0) ∧ Below B w wr) (fun i _ => n - (intOf i).toNat)
  case atStart => exact ⟨0, Nat.zero_le _, rfl, by simpa using hO.out, hW⟩
  case round =>
    obtain ⟨j, hj, rfl, hR, hW'⟩ := hrel
    by_cases hlt : j < n
    · have hP : QRow wr (.slice a n c) xs := HH.out.keep (by rw [hB]; exact hW')
      obtain ⟨b, off, cap, hv, hb, hc⟩ := hP.some_ (by rw [HL.out]; omega)
      have c1 := hc j (by rw [HL.out]; exact hlt)
      have HR := Lib.hid hR
      have HW := Lib.hid hW'
      rw [HL.out] at hv
      simp only [Value.slice.injEq, true_and] at hv
      obtain ⟨rfl, rfl⟩ := hv
      have hlt' : (j : Int) < (n : Int) := by omega
      have HX := Lib.hid (show (xs.take j ++ List.replicate (n - j) 0).length = n by rw [← HL.out]; exact cp_len xs j (by rw [HL.out]; exact hj))
      rcases hR.open_ with ⟨he, _⟩ | ⟨g, cap, cur, he, hBg, hg, q1, q2, q3, q4, hcc, hff⟩
      · cases he
      simp only [Value.slice.injEq, Option.some.injEq, Addr.mk.injEq, and_true] at he
      obtain ⟨rfl, q5, rfl⟩ := he
      have f1 := hff j
      obtain ⟨x0, d1⟩ : ∃ x, wr.cell? ⟨B, j, none⟩ = some x := ⟨_, hcc j (by rw [HX.out]; exact hlt)⟩
      clear hR hW' hc hP hcc hff q1 q2 q3 q4 q5
      go_wp2
      go_roundw
      case rel =>
        refine ⟨j + 1, by omega, by go_num, ?_, HW.out.setCell (p := ⟨B, j, none⟩) (Nat.le_refl _) _⟩
        have s1 := HR.out.stored HX.out j (xs.getD j 0)
        have e1 := cp_set xs j (by rw [HL.out]; exact hlt)
        rw [HL.out] at e1
        rw [← e1]
        exact s1
      case measure => simp only [intOf]; omega
    · obtain rfl : j = n := by omega
      have hR' := hR
      rw [← HL.out, cp_end, HL.out] at hR'
      have HR := Lib.hid hR'
      have HW := Lib.hid hW'
      clear hR hW' hR'
      go_wp2
      go_ret
      exact ⟨_, rfl, HR.out, HW.out⟩
end Go.Proofs.Ytchaebebncdknaa
