/- Texts: numbers in decimal. -/
import Derived.Test.YtohlbnfncllhoaaDoorC1
import Derived.Deep.RegionHeld3
import Derived.Deep.RegionWith
import Derived.Shelf.Strconv.Itoa3
import Derived.Laws.BytesArg
import Derived.Lib.ItoaLen
namespace Go.Proofs.YtohlbnfncllhoaaDoor
open Go.RowKit

/-- a number in decimal -/
def dec (n : Int) : ByteArray := ⟨(Lib.itoa n).toArray⟩
theorem dec_small (n : Nat) (h : n < 10) : dec n = ⟨#[UInt8.ofNat (48 + n)]⟩ := by
  have e : Lib.itoa (n : Int) = [UInt8.ofNat (48 + n)] := by
    unfold Lib.itoa
    rw [if_neg (by omega), Int.toNat_natCast, Lib.decDigits, dif_pos h]
  rw [dec, e]
theorem digit_one (n : Nat) : strOfNums [48 + (n : Int) % 10] = ⟨#[UInt8.ofNat (48 + n % 10)]⟩ := by
  have e : (48 + (n : Int) % 10).toNat = 48 + n % 10 := by omega
  simp [strOfNums, e]
theorem dec_great (n : Nat) (h : ¬ n < 10) : dec n = dec ((n : Int) / 10) ++ strOfNums [48 + (n : Int) % 10] := by
  have e : Lib.itoa (n : Int) = Lib.itoa ((n / 10 : Nat) : Int) ++ [UInt8.ofNat (48 + n % 10)] := by
    unfold Lib.itoa
    rw [if_neg (by omega), if_neg (by omega), Int.toNat_natCast, Int.toNat_natCast, Lib.decDigits, dif_neg h]
  have e2 : ((n : Int) / 10) = ((n / 10 : Nat) : Int) := by omega
  rw [digit_one, dec, e2, dec, e]
  apply ByteArray.ext
  simp

theorem bl_drew {w u : World} (h : Below w.heap.size w u) : Below w.heap.size w u.drew := h.drew
theorem dec_size (n : Int) (h0 : -9223372036854775808 ≤ n) (h1 : n ≤ 9223372036854775807) : (dec n).size ≤ 21 := by
  have := Lib.itoa_length_le n h0 h1
  simpa [dec, ByteArray.size] using this
theorem conv_one (W : World) (b : Nat) (x : Int) (hc : W.cell? ⟨b, 0, none⟩ = some (.int .u8 x)) :
    (convert 22 9 (.slice (some ⟨b, 0, none⟩) 1 1)).run Tryd.prog W = .ok (.string (strOfNums [x])) W :=
  run_convert_bytes_arg W 22 5 Tryd.underlying22 Tryd.underlying5 b 0 1 1 [x] rfl (fun i hi => by
    obtain rfl : i = 0 := by simpa using hi
    simpa [Addr.add] using hc) 9 Tryd.underlying9
set_option maxHeartbeats 1000000 in
theorem l1Num_nat : ∀ (m n : Nat), n ≤ m → n ≤ 4611686018427387904 → ∀ w : World,
    Calls Tryd.prog 59 #[.int .i64 n] w fun e w' => e = .returned (.string (dec n)) ∧ Below w.heap.size w w' := by
  intro m
  have hcv := conv_one
  have small : ∀ n : Nat, n < 10 → ∀ w : World, Calls Tryd.prog 59 #[.int .i64 n] w fun e w' => e = .returned (.string (dec n)) ∧ Below w.heap.size w w' := by
    intro n h w
    have h' : (n : Int) < 10 := by omega
    have D := Lib.hid (show dec n = strOfNums [48 + (n : Int)] by
      rw [dec_small n h]
      have e : (48 + (n : Int)).toNat = 48 + n := by omega
      simp [strOfNums, e])
    go_enter Tryd.func59, Tryd.ntmps59
    go_wp2
    go_ret
    exact ⟨by rw [D.out]; rfl, (by repeat (first | exact Below.refl _ _ | refine bl_alloc ?_ _ | refine bl_drewN ?_ _ | refine bl_drew ?_ | refine bl_trans (by assumption) ?_))⟩
  induction m with
  | zero => exact fun n h _ => small n (by omega)
  | succ m ih =>
    intro n h1 h2 w
    by_cases h : n < 10
    · exact small n h w
    · clear small
      have D := Lib.hid (dec_great n h)
      have e1 : IntKind.i64.wrap ((n : Int) / 10) = ((n / 10 : Nat) : Int) := by
        rw [IntWalk.i64_in _ (by omega)]; omega
      have IH : ∀ W, Hid (Calls Tryd.prog 59 #[.int .i64 (IntKind.i64.wrap ((n : Int) / 10))] W fun e w' => e = .returned (.string (dec (n / 10 : Nat))) ∧ Below W.heap.size W w') := fun W => by
        rw [e1]; exact ih (n / 10) (by omega) (by omega) W
      clear e1 ih
      have h' : ¬ (n : Int) < 10 := by omega
      have hs1 : (dec ((n : Int) / 10)).size ≤ 21 := dec_size _ (by omega) (by omega)
      have hs2 : ∀ x, (strOfNums [x]).size = 1 := fun x => by rw [strOfNums_size]; rfl
      go_enter Tryd.func59, Tryd.ntmps59
      go_wp2_with fail
      go_region_with (go_at_call 59; refine ((IH _).out).mono ?_; rintro e w2 ⟨rfl, hb2⟩; obtain ⟨hc, hf⟩ := bcell hb2; have hz := bsize hb2)
      all_goals
        go_wp2
        go_ret
        exact ⟨by rw [D.out]; rfl, (by repeat (first | exact Below.refl _ _ | refine bl_alloc ?_ _ | refine bl_drewN ?_ _ | refine bl_drew ?_ | refine bl_trans (by assumption) ?_))⟩
theorem l1Num_any (n : Int) (h0 : 0 ≤ n) (h1 : n ≤ 4611686018427387904) (w : World) :
    Calls Tryd.prog 59 #[.int .i64 n] w fun e w' => e = .returned (.string (dec n)) ∧ Below w.heap.size w w' := by
  obtain ⟨m, rfl⟩ := Int.eq_ofNat_of_zero_le h0
  exact l1Num_nat m m (Nat.le_refl _) (by omega) w
end Go.Proofs.YtohlbnfncllhoaaDoor
