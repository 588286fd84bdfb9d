/- strings.IndexAny at the signs + and -, whatever bytes the text holds. -/
import Derived.Test.YtkcncjoekbbolaaDoorShelf
import Derived.Test.YtkcncjoekbbolaaDoorC1
import Derived.Laws.RangeAny
import Derived.Laws.Runes
import Derived.Deep.LoopGhost
import Derived.LoopTactic
import Derived.Deep.RegionHeld3
namespace Go.Proofs.YtkcncjoekbbolaaDoor
open Go.RowKit
set_option linter.unusedVariables false
set_option linter.unusedSimpArgs false
theorem decode_cont (s : ByteArray) (i : Nat) (hi : i < s.size) : ∀ j, 0 < j → j < (Utf8.decode s i).2 → i + j < s.size ∧ 128 ≤ (s.get! (i + j)).toNat := by
  intro j j0 j1
  have key : ∀ k, (decide (i + k < s.size) && ((s.get! (i + k)).toNat / 64 == 2)) = true → i + k < s.size ∧ 128 ≤ (s.get! (i + k)).toNat := fun k h => by
    simp only [Bool.and_eq_true, decide_eq_true_eq, beq_iff_eq] at h
    omega
  simp only [Utf8.decode] at j1
  split at j1
  · simp only at j1; omega
  · split at j1
    · rename_i h
      split at j1
      · simp only at j1
        obtain rfl : j = 1 := by omega
        exact key 1 (by simp only [Bool.and_eq_true] at h ⊢; exact h.2)
      · simp only at j1; omega
    · split at j1
      · rename_i h
        split at j1
        · simp only at j1
          simp only [Bool.and_eq_true] at h
          rcases (show j = 1 ∨ j = 2 by omega) with rfl | rfl
          · exact key 1 (by simp only [Bool.and_eq_true]; exact h.1.2)
          · exact key 2 (by simp only [Bool.and_eq_true]; exact h.2)
        · simp only at j1; omega
      · split at j1
        · rename_i h
          split at j1
          · simp only at j1
            simp only [Bool.and_eq_true] at h
            rcases (show j = 1 ∨ j = 2 ∨ j = 3 by omega) with rfl | rfl | rfl
            · exact key 1 (by simp only [Bool.and_eq_true]; exact h.1.1.2)
            · exact key 2 (by simp only [Bool.and_eq_true]; exact h.1.2)
            · exact key 3 (by simp only [Bool.and_eq_true]; exact h.2)
          · simp only at j1; omega
        · simp only at j1; omega
/-- a scope of whose labels no jump goes to -/
theorem wp_scope_plain {P : Program} {a : Act} {w : World} {Q : Exit → Act → World → Prop} {c rest : Code} (l : Nat) (hf : findLabel c l = some rest) (hQ : ∀ l a w, ¬ Q (.goto l) a w) (h : c.wp P Q a w) : (Code.scope c).wp P Q a w :=
  wp_scope_jumps l (fun _ _ => False) (fun _ _ => 0) hf (Code.wp_mono (fun e a' w' h => by
    cases e <;> simp only [Exit.jump]
    case goto l' => exact (hQ _ _ _ h).elim
    all_goals exact h) h) fun _ _ h => h.elim
def pm : ByteArray := ⟨#[43, 45]⟩
theorem pm_high {x : UInt8} (h : 128 ≤ x.toNat) : pm.data.toList.contains x = false := by
  show [(43 : UInt8), 45].contains x = false
  have h1 : x ≠ 43 := by rintro rfl; simp at h
  have h2 : x ≠ 45 := by rintro rfl; simp at h
  simp [h1, h2]
theorem get_list (s : ByteArray) (j : Nat) (hj : j < s.size) : s.data.toList[j]? = some (s.get! j) := by
  rw [Lib.data_getElem? s j hj]
  have : s.get! j = s[j]'hj := by
    show s.data[j]! = s.data[j]
    rw [getElem!_pos s.data j hj]
  rw [this]
theorem noAny_far {s : ByteArray} {i : Nat} (hi : i < s.size) (ha : 128 ≤ (s[i]'hi).toNat) (h : Lib.NoAny s.data.toList pm.data.toList i) : i + (Utf8.decode s i).2 ≤ s.size ∧ Lib.NoAny s.data.toList pm.data.toList (i + (Utf8.decode s i).2) := by
  have hc := decode_cont s i hi
  have hg := (decode_high s i hi ha).2
  refine ⟨?_, fun j b hj hb => ?_⟩
  · by_cases e : (Utf8.decode s i).2 = 1
    · omega
    · have := (hc ((Utf8.decode s i).2 - 1) (by omega) (by omega)).1
      omega
  · by_cases e : j < i
    · exact h j b e hb
    by_cases e2 : j = i
    · subst e2
      rw [Lib.data_getElem? s j hi] at hb
      cases hb
      exact pm_high ha
    · obtain ⟨q1, q2⟩ := hc (j - i) (by omega) (by omega)
      rw [show i + (j - i) = j by omega] at q1 q2
      rw [get_list s j q1] at hb
      cases hb
      exact pm_high q2
set_option maxRecDepth 100000 in
set_option maxHeartbeats 4000000 in
theorem indexRune_high (r : Int) (h0 : 128 ≤ r) (h1 : r ≤ 2147483647) (w : World) :
    Calls Tryd.prog 34 #[.string pm, .int .i32 r] w fun e w' => e = .returned (.int .i64 (-1)) ∧ Below w.heap.size w w' := by
  have q0 : ¬ r < 128 := by omega
  by_cases he : r = 65533
  · subst he
    go_enter Tryd.func34, Tryd.ntmps34
    go_wp2
    go_loopg [5, 6] 2 (fun g _ _ wx => ∃ i : Nat, i + g = 2 ∧ wx = w.iter pm i)
    case atStart => exact ⟨0, by omega, rfl⟩
    case round =>
      obtain ⟨i, hig, rfl⟩ := hrel
      cases gk with
      | zero =>
        obtain rfl : i = 2 := by omega
        have hnx := fun ty => run_next_end (P := Tryd.prog) w pm 2 ty (by decide)
        go_wp2
        go_ret
        exact ⟨rfl, bl_alloc (Below.refl _ _) _⟩
      | succ g =>
        have hi : i < pm.size := by show i < 2; omega
        have hx : (pm[i]'hi).toNat = 43 ∨ (pm[i]'hi).toNat = 45 := by
          rcases (show i = 0 ∨ i = 1 by omega) with rfl | rfl
          · exact .inl rfl
          · exact .inr rfl
        have hnx := fun ty => run_next_ascii (P := Tryd.prog) w pm i ty hi (by omega)
        generalize (pm[i]'hi).toNat = x at *
        have hne : ((x : Int) == 65533) = false := by simp; omega
        clear hx
        go_wp2
        go_roundg g
        case measure => omega
        case rel => exact ⟨i + 1, by omega, rfl⟩
  have he' : (r == 65533) = false := by simp [he]
  have HV := fun W => Lib.hid (Tryd.utf8_ValidRune r W)
  cases hv : Lib.validRune r
  · rw [hv] at HV
    go_enter Tryd.func34, Tryd.ntmps34
    go_wp2_with fail
    refine ((HV _).out).mono ?_
    rintro e w' ⟨rfl, rfl⟩
    go_wp2
    go_ret
    exact ⟨rfl, Below.refl _ _⟩
  · rw [hv] at HV
    obtain ⟨n2, n4, hl⟩ := encode_facts r (by rw [validRune_eq]; exact hv) h0
    have hcv := fun W => run_convert_int_string (P := Tryd.prog) W 21 9 .i32 r (by kernel_rfl) (by kernel_rfl)
    generalize Utf8.encode r = rs at *
    have s2 : (pm.size : Int) = 2 := rfl
    have HI := fun W => Lib.hid (Tryd.strings_IndexByte (⟨#[]⟩ : ByteArray) ((rs[rs.size - 1]'(by omega)).toNat : Int) W)
    by_cases hn : rs.size = 2
    · have hi : (rs.size : Int) - 1 < (pm.size : Int) := by omega
      have hl' := hl (by omega)
      obtain ⟨y, hy⟩ : ∃ y, y = (rs[rs.size - 1]'(by omega)) := ⟨_, rfl⟩
      rw [← hy] at hl' HI
      have hy1 : rs[1]'(by omega) = y := by rw [hy]; congr 1; omega
      clear hl hy
      go_enter Tryd.func34, Tryd.ntmps34
      go_wp2_with fail
      refine ((HV _).out).mono ?_
      rintro e w' ⟨rfl, rfl⟩
      go_wp2
      refine wp_scope_plain 1 rfl (fun _ _ _ h => h) ?_
      go_wp2_with fail
      go_loopw [9] (fun i wx => i = .int .i64 1 ∧ wx = w') (fun _ _ => 0)
      case atStart => exact ⟨rfl, rfl⟩
      case round =>
        obtain ⟨rfl, rfl⟩ := hrel
        have hb1 : (1 : Int) < (pm.size : Int) := by omega
        have hb2 : (1 : Int) < (rs.size : Int) := by omega
        have hp1 : pm[1]'(by decide) = 45 := rfl
        go_wp2_with fail
        refine wp_scope_plain 0 rfl (fun _ _ _ h => h) ?_
        go_wp2_with fail
        go_quiet (fail)
        have hne : ((45 : Int) != (y.toNat : Int)) = true := by simp; omega
        have hsl : pm.extract 2 2 = (⟨#[]⟩ : ByteArray) := rfl
        have hsl2 : pm.extract 2 pm.size = (⟨#[]⟩ : ByteArray) := rfl
        have w2 : IntKind.i64.wrap 2 = 2 := by decide
        have w3 : IntKind.i64.wrap (1 + 1) = 2 := by decide
        have hb3 : (2 : Int) ≤ (pm.size : Int) := by omega
        have hb4 : pm.size = 2 := rfl
        have hz : ∀ c, Lib.indexByte ByteArray.empty.data.toList c = -1 := fun _ => rfl
        have HBq := Lib.hid (show Below wr.heap.size wr (wr.drewN nq) from below_drewN (Below.refl _ _) _)
        generalize wr.drewN nq = wq at *
        go_wp2_with fail
        go_quiet ((go_at_call 47; exact quiet_eq ((Tryd.strings_IndexByte _ _ _).mono fun _ _ ⟨a, b⟩ => ⟨a, b.symm⟩)))
        go_wp2
        go_ret
        exact ⟨rfl, by repeat (first | exact HBq.out | refine bl_drewN ?_ _)⟩
    · have hi : ¬ (rs.size : Int) - 1 < (pm.size : Int) := by omega
      clear HI hl
      go_enter Tryd.func34, Tryd.ntmps34
      go_wp2_with fail
      refine ((HV _).out).mono ?_
      rintro e w' ⟨rfl, rfl⟩
      go_wp2
      refine wp_scope_plain 1 rfl (fun _ _ _ h => h) ?_
      go_wp2_with fail
      go_loopw [9] (fun i wx => i = .int .i64 ((rs.size : Int) - 1) ∧ wx = w') (fun _ _ => 0)
      case atStart => exact ⟨rfl, rfl⟩
      case round =>
        obtain ⟨rfl, rfl⟩ := hrel
        go_wp2
        go_ret
        exact ⟨rfl, Below.refl _ _⟩
theorem pm_ascii : ∀ (j : Nat) b, pm.data.toList[j]? = some b → b.toNat < 128 := by
  intro j b h
  have hm : b ∈ [(43 : UInt8), 45] := List.mem_of_getElem? (l := [(43 : UInt8), 45]) h
  simp at hm
  rcases hm with rfl | rfl <;> decide
/-- at one letter of the text, whichever it is -/
theorem indexRune_pm (s : ByteArray) (i : Nat) (hi : i < s.size) (W : World) :
    Calls Tryd.prog 34 #[.string pm, .int .i32 ((Utf8.decode s i).1 : Int)] W fun e w' => e = .returned (.int .i64 (if (s[i]'hi).toNat < 128 then Lib.indexByte pm.data.toList (s[i]'hi) else -1)) ∧ Below W.heap.size W w' := by
  by_cases h : (s[i]'hi).toNat < 128
  · rw [if_pos h, decode_ascii s i hi h]
    refine (Tryd.strings_IndexRune_ascii pm ((s[i]'hi).toNat : Int) W (by omega) (by omega)).mono ?_
    rintro e w' ⟨rfl, rfl⟩
    exact ⟨by simp, Below.refl _ _⟩
  · rw [if_neg h]
    have a := decode_high s i hi (by omega)
    have b := decode_le s i
    exact indexRune_high _ (by omega) (by omega) W
def stepped (w : World) (b : Nat) (s : ByteArray) (p : Nat) : World := { w with heap := w.heap.setIfInBounds b (.stringIter s p) }
theorem run_next_at {P : Program} (w : World) (b : Nat) (s : ByteArray) (pos : Nat) (ty : TypeId) (hb : w.heap[b]? = some (.stringIter s pos)) (h : pos < s.size) :
    (Instr.next (.pointer (some ⟨b, 0, none⟩)) true ty).run P w = .ok (.tuple #[.bool true, .int .i64 pos, .int .i32 ((Utf8.decode s pos).1 : Int)]) (stepped w b s (pos + (Utf8.decode s pos).2)) := by
  simp only [Instr.next, getObj, setObj, Sem.run_bind, Sem.run, hb, Result.andThen, h, if_true]
  simp [goInt, stepped]
theorem run_next_at_end {P : Program} (w : World) (b : Nat) (s : ByteArray) (pos : Nat) (ty : TypeId) (hb : w.heap[b]? = some (.stringIter s pos)) (h : ¬ pos < s.size) :
    (Instr.next (.pointer (some ⟨b, 0, none⟩)) true ty).run P w = .ok (.tuple #[.bool false]) w := by
  simp [Instr.next, getObj, Sem.run, hb, h]
theorem stepped_at {w : World} {b : Nat} (h : b < w.heap.size) (s : ByteArray) (p : Nat) : (stepped w b s p).heap[b]? = some (.stringIter s p) := by
  simp [stepped, h]
theorem stepped_size (w : World) (b : Nat) (s : ByteArray) (p : Nat) : (stepped w b s p).heap.size = w.heap.size := by simp [stepped]
theorem stepped_below {w u : World} (hb : Below w.heap.size w u) (s : ByteArray) (p : Nat) : Below w.heap.size w (stepped u w.heap.size s p) :=
  ⟨hb.os, hb.tape, hb.output, by rw [stepped_size]; exact hb.size, fun i hi => by
    have := hb.block i hi
    simp only [stepped, Array.getElem?_setIfInBounds]
    rw [if_neg (by omega)]
    exact this⟩
set_option maxRecDepth 100000 in
set_option maxHeartbeats 4000000 in
theorem indexAny_short (s : ByteArray) (h8 : s.size ≤ 8) (w : World) :
    Calls Tryd.prog 26 #[.string s, .string pm] w fun e w' => e = .returned (.int .i64 (Lib.indexAny s.data.toList pm.data.toList)) ∧ Below w.heap.size w w' := by
  have s2 : (pm.size : Int) = 2 := rfl
  have hemp : pm.toList.isEmpty = false := by rw [Lib.toList_data]; rfl
  have h8z : decide ((8 : Int) < (s.size : Int)) = false := decide_eq_false (by omega)
  have HU := fun W => Lib.hid (Tryd.strings_shouldUseASCIISet (s.size : Int) W)
  rw [h8z] at HU
  clear h8z
  go_enter Tryd.func26, Tryd.ntmps26
  go_wp2_with fail
  refine ((HU _).out).mono ?_
  rintro e w0 ⟨rfl, rfl⟩
  go_wp2
  go_loopg [9, 10] s.size (fun g _ _ wx => ∃ i : Nat, i + g = s.size ∧ wx.heap[w0.heap.size]? = some (.stringIter s i) ∧ w0.heap.size < wx.heap.size ∧ Below w0.heap.size w0 wx ∧ Lib.NoAny s.data.toList pm.data.toList i)
  case atStart => exact ⟨0, by omega, World.iter_heap w0 s 0, by simp [World.iter], bl_alloc (Below.refl _ _) _, Lib.NoAny.zero _ _⟩
  case round =>
    obtain ⟨i, hig, hit, hlt, hbl, hno⟩ := hrel
    have HN := Lib.hid hno
    have HBL := Lib.hid hbl
    clear hno hbl
    by_cases hi : i < s.size
    · have hnx := fun ty => run_next_at (P := Tryd.prog) wr w0.heap.size s i ty hit hi
      have HIT := Lib.hid hit
      have HR := fun W => Lib.hid (indexRune_pm s i hi W)
      have hst := stepped_at hlt s (i + (Utf8.decode s i).2)
      have hsz := stepped_size wr w0.heap.size s (i + (Utf8.decode s i).2)
      have hsb := stepped_below HBL.out s (i + (Utf8.decode s i).2)
      obtain ⟨HW1, HW2⟩ : (1 ≤ (Utf8.decode s i).2 ∧ i + (Utf8.decode s i).2 ≤ s.size) ∧ (pm.data.toList.contains (s[i]'hi) = false → Lib.NoAny s.data.toList pm.data.toList (i + (Utf8.decode s i).2)) := by
        by_cases h : (s[i]'hi).toNat < 128
        · rw [decode_ascii s i hi h]
          exact ⟨⟨Nat.le_refl _, hi⟩, fun hc => HN.out.succ (Lib.data_getElem? s i hi) hc⟩
        · obtain ⟨q1, q2⟩ := noAny_far hi (by omega) HN.out
          exact ⟨⟨(decode_high s i hi (by omega)).2, q1⟩, fun _ => q2⟩
      have hcon := Lib.contains_iff_indexByte pm.data.toList (s[i]'hi)
      have HSL := Lib.hid (Lib.data_getElem? s i hi)
      have HW2 := Lib.hid HW2
      clear hit
      have hv : (if (s[i]'hi).toNat < 128 then Lib.indexByte pm.data.toList (s[i]'hi) else -1) < 0 ↔ pm.data.toList.contains (s[i]'hi) = false := by
        by_cases h : (s[i]'hi).toNat < 128
        · rw [if_pos h, hcon]
          simp
        · rw [if_neg h]
          exact ⟨fun _ => pm_high (by omega), fun _ => by omega⟩
      have HV := Lib.hid hv
      clear hv hcon
      generalize (if (s[i]'hi).toNat < 128 then Lib.indexByte pm.data.toList (s[i]'hi) else -1) = v at *
      generalize hx : s[i]'hi = x at *
      clear hx
      generalize hdd : Utf8.decode s i = dd at *
      obtain ⟨c, d⟩ := dd
      simp only at *
      generalize stepped wr w0.heap.size s (i + d) = wu at *
      clear hdd
      cases hin : pm.data.toList.contains x
      · have hv0 : ¬ 0 ≤ v := by have := HV.out.2 hin; omega
        have HIN := Lib.hid hin
        clear hin
        go_wp2_with fail
        refine ((HR _).out).mono ?_
        rintro e w5 ⟨rfl, hb5⟩
        have HB5 := Lib.hid hb5
        clear hb5
        go_wp2
        go_roundg (s.size - (i + d))
        case measure => omega
        case rel => exact ⟨i + d, by omega, by rw [HB5.out.block _ (by omega)]; exact hst, by have := HB5.out.size; omega, bl_trans HB5.out hsb, HW2.out HIN.out⟩
      · have hv0 : 0 ≤ v := by
          rcases Int.lt_or_le v 0 with h | h
          · have := HV.out.1 h; rw [hin] at this; cases this
          · exact h
        have HIN := Lib.hid hin
        clear hin
        go_wp2_with fail
        refine ((HR _).out).mono ?_
        rintro e w5 ⟨rfl, hb5⟩
        have HB5 := Lib.hid hb5
        clear hb5
        go_wp2
        go_ret
        exact ⟨by rw [Lib.indexAny_hit HN.out HSL.out HIN.out]; rfl, bl_trans HB5.out hsb⟩
    · have hnx := fun ty => run_next_at_end (P := Tryd.prog) wr w0.heap.size s i ty hit hi
      obtain rfl : i = s.size := by omega
      clear hit
      go_wp2
      go_ret
      exact ⟨by rw [Lib.indexAny_none (by rw [← Lib.size_eq]; exact HN.out)]; rfl, HBL.out⟩
theorem indexAny_pm (s : ByteArray) (hs : s.size ≤ 1048576) (w : World) :
    Calls Tryd.prog 26 #[.string s, .string pm] w fun e w' => e = .returned (.int .i64 (Lib.indexAny s.data.toList pm.data.toList)) ∧ Below w.heap.size w w' := by
  by_cases h8 : s.size ≤ 8
  · exact indexAny_short s h8 w
  · have hz := zero_of_info (P := Tryd.prog) (t := 52) (v := .agg (Array.replicate 256 (.bool false))) (n := 256) (by kernel_rfl)
    refine (Tryd.strings_IndexAny_long hz.1 s pm w (by decide) (by omega) (by omega) (by decide) pm_ascii).mono fun e w' ⟨h1, h2⟩ => ⟨h1, ?_⟩
    rw [h2]
    exact ((Below.refl _ _).alloc (Nat.le_refl _) _).alloc (by simp) _
end Go.Proofs.YtkcncjoekbbolaaDoor
