/- Texts of ladders. -/
import Derived.Test.YtohlbnfncllhoaaDoorC2
import Derived.Test.YtohlbnfncllhoaaDoorC4
import Derived.Test.YtohlbnfncllhoaaDoorT1
import Derived.Test.YtohlbnfncllhoaaDoorShelf
namespace Go.Proofs.YtohlbnfncllhoaaDoor
open Go.RowKit

def Tab (w : World) : Prop := Lib.TabIs Tryd.prog w "internal/strconv.uint64pow10" .u64 Lib.pow10Tab
theorem Tab.below {w w' : World} (h : Tab w) (hb : Below w.heap.size w w') : Tab w' := by
  have hg : Tryd.prog.globalNamed "internal/strconv.uint64pow10" = some 1 := by kernel_rfl
  unfold Tab Lib.TabIs World.var? at h ⊢
  rw [hg] at h ⊢
  simp only [Option.bind_some] at h ⊢
  have hlt : 1 < w.heap.size := by
    by_cases c : 1 < w.heap.size
    · exact c
    · rw [Array.getElem?_eq_none (by omega)] at h
      simp at h
  rw [hb.block _ hlt]
  exact h
theorem below_grow {B : Nat} {a w : World} (h : Below B a w) (hB : B ≤ w.heap.size) (os : Array Obj) : Below B a (Sort.grow w os) :=
  ⟨h.os, h.tape, h.output, Nat.le_trans h.size (by simp), fun k hk => (Sort.heap_grow_old w os (by omega)).trans (h.block k hk)⟩
theorem itoa_any (n : Int) (h0 : -9223372036854775808 ≤ n) (h1 : n ≤ 9223372036854775807) {w0 w : World} (T : Tab w0) (hb : Below w0.heap.size w0 w) :
    Calls Tryd.prog 42 #[.int .i64 n] w fun e w' => e = .returned (.string (dec n)) ∧ Below w.heap.size w w' := by
  refine (Tryd.strconv_Itoa n h0 h1 w (T.below hb)).mono ?_
  rintro e w' ⟨rfl, k, os, rfl⟩
  exact ⟨rfl, below_grow (below_drewN (Below.refl _ _) k) (Nat.le_refl _) os⟩


theorem itoa_S3 {w u : World} {x y z : Value} (n : Int) (h0 : -9223372036854775808 ≤ n) (h1 : n ≤ 9223372036854775807) (T : Tab w) (h : u.cell? ⟨w.heap.size, 0, none⟩ = some x ∧ u.cell? ⟨w.heap.size, 1, none⟩ = some y ∧ u.cell? ⟨w.heap.size, 2, none⟩ = some z ∧ w.heap.size < u.heap.size ∧ Below w.heap.size w u) :
    Calls Tryd.prog 42 #[.int .i64 n] u fun e w' => e = .returned (.string (dec n)) ∧ Below u.heap.size u w' := itoa_any n h0 h1 T h.2.2.2.2
def txt (a b c : Int) : ByteArray := dec a ++ ⟨#[58]⟩ ++ dec b ++ ⟨#[47]⟩ ++ dec c
def LT (a b c : Int) : ByteArray := if okL a b c then txt a b c else ⟨#[]⟩

set_option maxHeartbeats 1000000 in
theorem clText_any (a b c : Int) (h : okL a b c = true) (w : World) :
    Calls Tryd.prog 43 #[.agg #[.int .i64 a, .int .i64 b, .int .i64 c]] w fun e w' => e = .returned (.string (txt a b c)) ∧ Below w.heap.size w w' := by
  obtain ⟨⟨a0, a1⟩, ⟨b0, b1⟩, c0, c1⟩ := okL_true h
  have s1 := dec_size a (by omega) (by omega)
  have s2 := dec_size b (by omega) (by omega)
  have s3 := dec_size c (by omega) (by omega)
  have n1 : ¬ 9223372036854775807 < (dec a).size + 1 := by omega
  have n2 : ¬ 9223372036854775807 < (dec a).size + 1 + (dec b).size := by omega
  have n3 : ¬ 9223372036854775807 < (dec a).size + 1 + (dec b).size + 1 := by omega
  have n4 : ¬ 9223372036854775807 < (dec a).size + 1 + (dec b).size + 1 + (dec c).size := by omega
  clear s1 s2 s3
  go_enter Tryd.func43, Tryd.ntmps43
  go_wp2
  have hS : (w.alloc (.cells #[.int .i64 a, .int .i64 b, .int .i64 c] 25)).cell? ⟨w.heap.size, 0, none⟩ = some (.int .i64 a) ∧ (w.alloc (.cells #[.int .i64 a, .int .i64 b, .int .i64 c] 25)).cell? ⟨w.heap.size, 1, none⟩ = some (.int .i64 b) ∧ (w.alloc (.cells #[.int .i64 a, .int .i64 b, .int .i64 c] 25)).cell? ⟨w.heap.size, 2, none⟩ = some (.int .i64 c) ∧ w.heap.size < (w.alloc (.cells #[.int .i64 a, .int .i64 b, .int .i64 c] 25)).heap.size ∧ Below w.heap.size w (w.alloc (.cells #[.int .i64 a, .int .i64 b, .int .i64 c] 25)) :=
    ⟨by simp, by simp, by simp, by simp, (Below.refl _ _).alloc (Nat.le_refl _) _⟩
  go_region_held3 (fun w' => w'.cell? ⟨w.heap.size, 0, none⟩ = some (.int .i64 a) ∧ w'.cell? ⟨w.heap.size, 1, none⟩ = some (.int .i64 b) ∧ w'.cell? ⟨w.heap.size, 2, none⟩ = some (.int .i64 c) ∧ w.heap.size < w'.heap.size ∧ Below w.heap.size w w') (first | exact S3_after hb2 (by assumption) | exact S3_after (below_drewN (Below.refl _ _) _) (by assumption) | exact S3_after (Below.drew (Below.refl _ _)) (by assumption) | assumption) (first | (go_at_call 59; refine (l1Num_any _ (by omega) (by omega) _).mono ?_; rintro e w2 ⟨rfl, hb2⟩))
  go_wp2
  go_ret
  exact ⟨rfl, (by repeat (first | exact Below.refl _ _ | refine bl_alloc ?_ _ | refine bl_drewN ?_ _ | refine bl_trans (by assumption) ?_ | refine bl_set ?_ (by first | omega | (simp; done) | (simp; omega)) _))⟩
set_option maxHeartbeats 400000 in
theorem spec_LaddersText (a b c : Int) (w : World) :
    Calls Tryd.prog 18 #[.agg #[.int .i64 a, .int .i64 b, .int .i64 c]] w fun e w' => e = .returned (.tuple #[.string (LT a b c), .bool (okL a b c)]) ∧ Below w.heap.size w w' := by
  cases h : okL a b c
  · go_enter Tryd.func18, Tryd.ntmps18
    go_wp2_with (go_at_call 39; refine (spec_clGood _ _ _ _).mono ?_; rintro e w1 ⟨rfl, hb⟩; obtain ⟨hc, hf⟩ := bcell hb; have hz := bsize hb; (try simp only [World.size_alloc] at hz); (try have hz0 : w.heap.size < w1.heap.size := by omega); rw [h])
    go_ret2
    exact ⟨by simp [LT, h], (by repeat (first | exact Below.refl _ _ | refine bl_alloc ?_ _ | refine bl_drewN ?_ _ | refine bl_trans (by assumption) ?_ | refine bl_set ?_ (by first | omega | (simp; done) | (simp; omega)) _))⟩
  · go_enter Tryd.func18, Tryd.ntmps18
    go_wp2_with (first | (go_at_call 39; refine (spec_clGood _ _ _ _).mono ?_; rintro e w1 ⟨rfl, hb⟩; obtain ⟨hc, hf⟩ := bcell hb; have hz := bsize hb; (try simp only [World.size_alloc] at hz); (try have hz0 : w.heap.size < w1.heap.size := by omega); rw [h]) | (go_at_call 43; refine (clText_any _ _ _ h _).mono ?_; rintro e w1 ⟨rfl, hb⟩; obtain ⟨hc, hf⟩ := bcell hb; have hz := bsize hb; (try simp only [World.size_alloc] at hz); (try have hz0 : w.heap.size < w1.heap.size := by omega)))
    go_ret2
    exact ⟨by simp [LT, h], (by repeat (first | exact Below.refl _ _ | refine bl_alloc ?_ _ | refine bl_drewN ?_ _ | refine bl_trans (by assumption) ?_ | refine bl_set ?_ (by first | omega | (simp; done) | (simp; omega)) _))⟩
set_option maxHeartbeats 1000000 in
theorem impl_LaddersText (a b c : Int) (w : World) (T : Tab w) :
    Calls Tryd.prog 17 #[.agg #[.int .i64 a, .int .i64 b, .int .i64 c]] w fun e w' => e = .returned (.tuple #[.string (LT a b c), .bool (okL a b c)]) ∧ Below w.heap.size w w' := by
  cases h : okL a b c
  · go_enter Tryd.func17, Tryd.ntmps17
    go_wp2_with (go_at_call 21; refine (impl_AreLadders _ _ _ _).mono ?_; rintro e w1 ⟨rfl, hb⟩; obtain ⟨hc, hf⟩ := bcell hb; have hz := bsize hb; (try simp only [World.size_alloc] at hz); (try have hz0 : w.heap.size < w1.heap.size := by omega); rw [h])
    go_ret2
    exact ⟨by simp [LT, h], (by repeat (first | exact Below.refl _ _ | refine bl_alloc ?_ _ | refine bl_drewN ?_ _ | refine bl_trans (by assumption) ?_ | refine bl_set ?_ (by first | omega | (simp; done) | (simp; omega)) _))⟩
  · obtain ⟨⟨a0, a1⟩, ⟨b0, b1⟩, c0, c1⟩ := okL_true h
    have s1 := dec_size a (by omega) (by omega)
    have s2 := dec_size b (by omega) (by omega)
    have s3 := dec_size c (by omega) (by omega)
    have n1 : ¬ 9223372036854775807 < (dec a).size + 1 := by omega
    have n2 : ¬ 9223372036854775807 < (dec a).size + 1 + (dec b).size := by omega
    have n3 : ¬ 9223372036854775807 < (dec a).size + 1 + (dec b).size + 1 := by omega
    have n4 : ¬ 9223372036854775807 < (dec a).size + 1 + (dec b).size + 1 + (dec c).size := by omega
    clear s1 s2 s3
    go_enter Tryd.func17, Tryd.ntmps17
    go_wp2_with (go_at_call 21; refine (impl_AreLadders _ _ _ _).mono ?_; rintro e w1 ⟨rfl, hb⟩; obtain ⟨hc, hf⟩ := bcell hb; have hz := bsize hb; (try simp only [World.size_alloc] at hz); (try have hz0 : w.heap.size < w1.heap.size := by omega); rw [h])
    have hS : w1.cell? ⟨w.heap.size, 0, none⟩ = some (.int .i64 a) ∧ w1.cell? ⟨w.heap.size, 1, none⟩ = some (.int .i64 b) ∧ w1.cell? ⟨w.heap.size, 2, none⟩ = some (.int .i64 c) ∧ w.heap.size < w1.heap.size ∧ Below w.heap.size w w1 :=
      ⟨by simp [*], by simp [*], by simp [*], hz0, (by repeat (first | exact Below.refl _ _ | refine bl_alloc ?_ _ | refine bl_drewN ?_ _ | refine bl_trans (by assumption) ?_ | refine bl_set ?_ (by first | omega | (simp; done) | (simp; omega)) _))⟩
    clear hc hf
    go_region_held3 (fun w' => w'.cell? ⟨w.heap.size, 0, none⟩ = some (.int .i64 a) ∧ w'.cell? ⟨w.heap.size, 1, none⟩ = some (.int .i64 b) ∧ w'.cell? ⟨w.heap.size, 2, none⟩ = some (.int .i64 c) ∧ w.heap.size < w'.heap.size ∧ Below w.heap.size w w') (first | exact S3_after hb2 (by assumption) | exact S3_after (below_drewN (Below.refl _ _) _) (by assumption) | exact S3_after (Below.drew (Below.refl _ _)) (by assumption) | assumption) (first | (go_at_call 42; refine (itoa_S3 _ (by omega) (by omega) T (by assumption)).mono ?_; rintro e w2 ⟨rfl, hb2⟩))
    go_wp2
    go_ret2
    exact ⟨by simp [LT, h]; rfl, (by repeat (first | exact Below.refl _ _ | refine bl_alloc ?_ _ | refine bl_drewN ?_ _ | refine bl_trans (by assumption) ?_ | refine bl_set ?_ (by first | omega | (simp; done) | (simp; omega)) _))⟩
end Go.Proofs.YtohlbnfncllhoaaDoor
