/- Texts of ladders. -/
import Derived.Test.YtahcfjpplkemdaaDoorT1
import Derived.Test.YtahcfjpplkemdaaDoorShelf
namespace Go.Proofs.YtahcfjpplkemdaaDoor
open Go.RowKit

def Tab (w : World) : Prop := Lib.TabIs Tryd.prog w "internal/strconv.uint64pow10" .u64 Lib.pow10Tab
theorem Tab.below {w w' : World} (h : Tab w) (hb : Below w.heap.size w w') : Tab w' := by
  have hg : Tryd.prog.globalNamed "internal/strconv.uint64pow10" = some 1 := by kernel_rfl
  unfold Tab Lib.TabIs World.var? at h ⊢
  rw [hg] at h ⊢
  simp only [Option.bind_some] at h ⊢
  have hlt : 1 < w.heap.size := by
    by_cases c : 1 < w.heap.size
    · exact c
    · rw [Array.getElem?_eq_none (by omega)] at h
      simp at h
  rw [hb.block _ hlt]
  exact h
theorem below_grow {B : Nat} {a w : World} (h : Below B a w) (hB : B ≤ w.heap.size) (os : Array Obj) : Below B a (Sort.grow w os) :=
  ⟨h.os, h.tape, h.output, Nat.le_trans h.size (by simp), fun k hk => (Sort.heap_grow_old w os (by omega)).trans (h.block k hk)⟩
theorem itoa_any (n : Int) (h0 : -9223372036854775808 ≤ n) (h1 : n ≤ 9223372036854775807) {w0 w : World} (T : Tab w0) (hb : Below w0.heap.size w0 w) :
    Calls Tryd.prog 19 #[.int .i64 n] w fun e w' => e = .returned (.string (dec n)) ∧ Below w.heap.size w w' := by
  refine (Tryd.strconv_Itoa n h0 h1 w (T.below hb)).mono ?_
  rintro e w' ⟨rfl, k, os, rfl⟩
  exact ⟨rfl, below_grow (below_drewN (Below.refl _ _) k) (Nat.le_refl _) os⟩

theorem cell_after {u v : World} (hb : Below u.heap.size u v) {n o : Nat} {x : Value} (hn : n < u.heap.size) (hu : u.cell? ⟨n, o, none⟩ = some x) : v.cell? ⟨n, o, none⟩ = some x := by
  rw [(bcell hb).1 _ _ hn]; exact hu
theorem size_after {u v : World} (hb : Below u.heap.size u v) {n : Nat} (hn : n < u.heap.size) : n < v.heap.size := Nat.lt_of_lt_of_le hn hb.size
theorem S3_after {w u v : World} {x y z : Value} (hb : Below u.heap.size u v) (h : u.cell? ⟨w.heap.size, 0, none⟩ = some x ∧ u.cell? ⟨w.heap.size, 1, none⟩ = some y ∧ u.cell? ⟨w.heap.size, 2, none⟩ = some z ∧ w.heap.size < u.heap.size ∧ Below w.heap.size w u) :
    v.cell? ⟨w.heap.size, 0, none⟩ = some x ∧ v.cell? ⟨w.heap.size, 1, none⟩ = some y ∧ v.cell? ⟨w.heap.size, 2, none⟩ = some z ∧ w.heap.size < v.heap.size ∧ Below w.heap.size w v :=
  ⟨cell_after hb h.2.2.2.1 h.1, cell_after hb h.2.2.2.1 h.2.1, cell_after hb h.2.2.2.1 h.2.2.1, size_after hb h.2.2.2.1, bl_trans hb h.2.2.2.2⟩

theorem itoa_S3 {w u : World} {x y z : Value} (n : Int) (h0 : -9223372036854775808 ≤ n) (h1 : n ≤ 9223372036854775807) (T : Tab w) (h : u.cell? ⟨w.heap.size, 0, none⟩ = some x ∧ u.cell? ⟨w.heap.size, 1, none⟩ = some y ∧ u.cell? ⟨w.heap.size, 2, none⟩ = some z ∧ w.heap.size < u.heap.size ∧ Below w.heap.size w u) :
    Calls Tryd.prog 19 #[.int .i64 n] u fun e w' => e = .returned (.string (dec n)) ∧ Below u.heap.size u w' := itoa_any n h0 h1 T h.2.2.2.2
def txt (a b c : Int) : ByteArray := dec a ++ ⟨#[58]⟩ ++ dec b ++ ⟨#[47]⟩ ++ dec c
def LT (a b c : Int) : ByteArray := if okL a b c then txt a b c else ⟨#[]⟩

end Go.Proofs.YtahcfjpplkemdaaDoor
