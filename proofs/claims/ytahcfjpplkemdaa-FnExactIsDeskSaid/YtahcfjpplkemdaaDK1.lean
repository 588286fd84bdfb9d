/- Desks. -/
import Derived.Test.YtahcfjpplkemdaaPL6
import Derived.Test.YtahcfjpplkemdaaPL3
import Derived.Test.YtahcfjpplkemdaaWK1
import Derived.Test.YtahcfjpplkemdaaHT3
import Derived.Test.YtahcfjpplkemdaaL3
import Derived.Test.YtahcfjpplkemdaaC2
import Derived.Deep.AppendLies
namespace Go.Proofs.Ytahcfjpplkemdaa
open Go.RowKit
set_option linter.unusedVariables false
set_option linter.unusedSimpArgs false
theorem drowsRow_low {w : World} {base size n : Nat} {e : TypeId} {v : Value} {xs : List Value} (h : w.ownsRow base e size v n xs) {p : Addr} (hp : p.block < base) (x : Value) : (w.setCell p x).ownsRow base e size v n xs := by
  refine ⟨h.1, ?_⟩
  rcases h.2 with hn | ⟨g, cap, cur, rfl, hb, hgg, rest⟩
  · exact .inl hn
  · refine .inr ⟨g, cap, cur, rfl, hb, ?_, rest⟩
    simp only [World.setCell, Array.getElem?_modify]
    rw [if_neg (by omega)]
    exact hgg
theorem ORow.low {w : World} {B n : Nat} {v : Value} {f : Nat → Int} (h : ORow w B v n f) {p : Addr} (hp : p.block < B) (x : Value) : ORow (w.setCell p x) B v n f := drowsRow_low h hp x
theorem ORow.lower {w : World} {B C n : Nat} {v : Value} {f : Nat → Int} (h : ORow w B v n f) (hb : C ≤ B) : ORow w C v n f := by
  obtain ⟨h1, h2⟩ := h
  refine ⟨h1, ?_⟩
  rcases h2 with h2 | ⟨g, cap, cur, e, hB, rest⟩
  · exact .inl h2
  · exact .inr ⟨g, cap, cur, e, Nat.le_trans hb hB, rest⟩
set_option maxRecDepth 8000 in
set_option maxHeartbeats 4000000 in
theorem toDesk_any (d0 d1 d2 d3 d4 d5 d6 d7 d8 d9 d10 : Int) (v : Value) (n : Nat) (f : Nat → Int) (w : World) (h : PRow w v n f) (hn : n ≤ 1048576) :
    Calls Try.prog 14 #[.agg #[.int .i64 d0, .int .i64 d1, .int .i64 d2, .int .i64 d3, v, .int .i64 d4, .int .i64 d5, .int .i64 d6, .int .i64 d7, .int .i64 d8, .int .i64 d9, .int .i64 d10]] w fun e w' => ∃ u, e = .returned (.agg #[.int .i64 d0, .int .i64 d1, .int .i64 d2, .int .i64 d3, u, .int .i64 d4, .int .i64 d5, .int .i64 d6, .int .i64 d7, .int .i64 d8, .int .i64 d9, .int .i64 d10]) ∧ ORow w' w.heap.size u n f ∧ Below w.heap.size w w' := by
  obtain ⟨a, c, rfl⟩ := h.shape
  have HH := Lib.hid h
  clear h
  go_enter Try.func14, Try.ntmps14
  go_wp2_with fail
  have y1_0_0 : (((w.alloc (.cells #[.int .i64 d0, .int .i64 d1, .int .i64 d2, .int .i64 d3, .slice a n c, .int .i64 d4, .int .i64 d5, .int .i64 d6, .int .i64 d7, .int .i64 d8, .int .i64 d9, .int .i64 d10] 40)).alloc (.cells #[.int .i64 0, .int .i64 0, .int .i64 0, .int .i64 0, .slice none 0 0, .int .i64 0, .int .i64 0, .int .i64 0, .int .i64 0, .int .i64 0, .int .i64 0, .int .i64 0] 30)).alloc (.cells #[.int .i64 0, .int .i64 0, .int .i64 0, .int .i64 0, .slice none 0 0, .int .i64 0, .int .i64 0, .int .i64 0, .int .i64 0, .int .i64 0, .int .i64 0, .int .i64 0] 30)).cell? ⟨w.heap.size, 0, none⟩ = some (.int .i64 d0) := by simp [go_sem]
  have y1_0_1 : (((w.alloc (.cells #[.int .i64 d0, .int .i64 d1, .int .i64 d2, .int .i64 d3, .slice a n c, .int .i64 d4, .int .i64 d5, .int .i64 d6, .int .i64 d7, .int .i64 d8, .int .i64 d9, .int .i64 d10] 40)).alloc (.cells #[.int .i64 0, .int .i64 0, .int .i64 0, .int .i64 0, .slice none 0 0, .int .i64 0, .int .i64 0, .int .i64 0, .int .i64 0, .int .i64 0, .int .i64 0, .int .i64 0] 30)).alloc (.cells #[.int .i64 0, .int .i64 0, .int .i64 0, .int .i64 0, .slice none 0 0, .int .i64 0, .int .i64 0, .int .i64 0, .int .i64 0, .int .i64 0, .int .i64 0, .int .i64 0] 30)).cell? ⟨w.heap.size, 1, none⟩ = some (.int .i64 d1) := by simp [go_sem]
  have y1_0_2 : (((w.alloc (.cells #[.int .i64 d0, .int .i64 d1, .int .i64 d2, .int .i64 d3, .slice a n c, .int .i64 d4, .int .i64 d5, .int .i64 d6, .int .i64 d7, .int .i64 d8, .int .i64 d9, .int .i64 d10] 40)).alloc (.cells #[.int .i64 0, .int .i64 0, .int .i64 0, .int .i64 0, .slice none 0 0, .int .i64 0, .int .i64 0, .int .i64 0, .int .i64 0, .int .i64 0, .int .i64 0, .int .i64 0] 30)).alloc (.cells #[.int .i64 0, .int .i64 0, .int .i64 0, .int .i64 0, .slice none 0 0, .int .i64 0, .int .i64 0, .int .i64 0, .int .i64 0, .int .i64 0, .int .i64 0, .int .i64 0] 30)).cell? ⟨w.heap.size, 2, none⟩ = some (.int .i64 d2) := by simp [go_sem]
  have y1_0_3 : (((w.alloc (.cells #[.int .i64 d0, .int .i64 d1, .int .i64 d2, .int .i64 d3, .slice a n c, .int .i64 d4, .int .i64 d5, .int .i64 d6, .int .i64 d7, .int .i64 d8, .int .i64 d9, .int .i64 d10] 40)).alloc (.cells #[.int .i64 0, .int .i64 0, .int .i64 0, .int .i64 0, .slice none 0 0, .int .i64 0, .int .i64 0, .int .i64 0, .int .i64 0, .int .i64 0, .int .i64 0, .int .i64 0] 30)).alloc (.cells #[.int .i64 0, .int .i64 0, .int .i64 0, .int .i64 0, .slice none 0 0, .int .i64 0, .int .i64 0, .int .i64 0, .int .i64 0, .int .i64 0, .int .i64 0, .int .i64 0] 30)).cell? ⟨w.heap.size, 3, none⟩ = some (.int .i64 d3) := by simp [go_sem]
  have y1_0_4 : (((w.alloc (.cells #[.int .i64 d0, .int .i64 d1, .int .i64 d2, .int .i64 d3, .slice a n c, .int .i64 d4, .int .i64 d5, .int .i64 d6, .int .i64 d7, .int .i64 d8, .int .i64 d9, .int .i64 d10] 40)).alloc (.cells #[.int .i64 0, .int .i64 0, .int .i64 0, .int .i64 0, .slice none 0 0, .int .i64 0, .int .i64 0, .int .i64 0, .int .i64 0, .int .i64 0, .int .i64 0, .int .i64 0] 30)).alloc (.cells #[.int .i64 0, .int .i64 0, .int .i64 0, .int .i64 0, .slice none 0 0, .int .i64 0, .int .i64 0, .int .i64 0, .int .i64 0, .int .i64 0, .int .i64 0, .int .i64 0] 30)).cell? ⟨w.heap.size, 4, none⟩ = some (.slice a n c) := by simp [go_sem]
  have y1_0_5 : (((w.alloc (.cells #[.int .i64 d0, .int .i64 d1, .int .i64 d2, .int .i64 d3, .slice a n c, .int .i64 d4, .int .i64 d5, .int .i64 d6, .int .i64 d7, .int .i64 d8, .int .i64 d9, .int .i64 d10] 40)).alloc (.cells #[.int .i64 0, .int .i64 0, .int .i64 0, .int .i64 0, .slice none 0 0, .int .i64 0, .int .i64 0, .int .i64 0, .int .i64 0, .int .i64 0, .int .i64 0, .int .i64 0] 30)).alloc (.cells #[.int .i64 0, .int .i64 0, .int .i64 0, .int .i64 0, .slice none 0 0, .int .i64 0, .int .i64 0, .int .i64 0, .int .i64 0, .int .i64 0, .int .i64 0, .int .i64 0] 30)).cell? ⟨w.heap.size, 5, none⟩ = some (.int .i64 d4) := by simp [go_sem]
  have y1_0_6 : (((w.alloc (.cells #[.int .i64 d0, .int .i64 d1, .int .i64 d2, .int .i64 d3, .slice a n c, .int .i64 d4, .int .i64 d5, .int .i64 d6, .int .i64 d7, .int .i64 d8, .int .i64 d9, .int .i64 d10] 40)).alloc (.cells #[.int .i64 0, .int .i64 0, .int .i64 0, .int .i64 0, .slice none 0 0, .int .i64 0, .int .i64 0, .int .i64 0, .int .i64 0, .int .i64 0, .int .i64 0, .int .i64 0] 30)).alloc (.cells #[.int .i64 0, .int .i64 0, .int .i64 0, .int .i64 0, .slice none 0 0, .int .i64 0, .int .i64 0, .int .i64 0, .int .i64 0, .int .i64 0, .int .i64 0, .int .i64 0] 30)).cell? ⟨w.heap.size, 6, none⟩ = some (.int .i64 d5) := by simp [go_sem]
  have y1_0_7 : (((w.alloc (.cells #[.int .i64 d0, .int .i64 d1, .int .i64 d2, .int .i64 d3, .slice a n c, .int .i64 d4, .int .i64 d5, .int .i64 d6, .int .i64 d7, .int .i64 d8, .int .i64 d9, .int .i64 d10] 40)).alloc (.cells #[.int .i64 0, .int .i64 0, .int .i64 0, .int .i64 0, .slice none 0 0, .int .i64 0, .int .i64 0, .int .i64 0, .int .i64 0, .int .i64 0, .int .i64 0, .int .i64 0] 30)).alloc (.cells #[.int .i64 0, .int .i64 0, .int .i64 0, .int .i64 0, .slice none 0 0, .int .i64 0, .int .i64 0, .int .i64 0, .int .i64 0, .int .i64 0, .int .i64 0, .int .i64 0] 30)).cell? ⟨w.heap.size, 7, none⟩ = some (.int .i64 d6) := by simp [go_sem]
  have y1_0_8 : (((w.alloc (.cells #[.int .i64 d0, .int .i64 d1, .int .i64 d2, .int .i64 d3, .slice a n c, .int .i64 d4, .int .i64 d5, .int .i64 d6, .int .i64 d7, .int .i64 d8, .int .i64 d9, .int .i64 d10] 40)).alloc (.cells #[.int .i64 0, .int .i64 0, .int .i64 0, .int .i64 0, .slice none 0 0, .int .i64 0, .int .i64 0, .int .i64 0, .int .i64 0, .int .i64 0, .int .i64 0, .int .i64 0] 30)).alloc (.cells #[.int .i64 0, .int .i64 0, .int .i64 0, .int .i64 0, .slice none 0 0, .int .i64 0, .int .i64 0, .int .i64 0, .int .i64 0, .int .i64 0, .int .i64 0, .int .i64 0] 30)).cell? ⟨w.heap.size, 8, none⟩ = some (.int .i64 d7) := by simp [go_sem]
  have y1_0_9 : (((w.alloc (.cells #[.int .i64 d0, .int .i64 d1, .int .i64 d2, .int .i64 d3, .slice a n c, .int .i64 d4, .int .i64 d5, .int .i64 d6, .int .i64 d7, .int .i64 d8, .int .i64 d9, .int .i64 d10] 40)).alloc (.cells #[.int .i64 0, .int .i64 0, .int .i64 0, .int .i64 0, .slice none 0 0, .int .i64 0, .int .i64 0, .int .i64 0, .int .i64 0, .int .i64 0, .int .i64 0, .int .i64 0] 30)).alloc (.cells #[.int .i64 0, .int .i64 0, .int .i64 0, .int .i64 0, .slice none 0 0, .int .i64 0, .int .i64 0, .int .i64 0, .int .i64 0, .int .i64 0, .int .i64 0, .int .i64 0] 30)).cell? ⟨w.heap.size, 9, none⟩ = some (.int .i64 d8) := by simp [go_sem]
  have y1_0_10 : (((w.alloc (.cells #[.int .i64 d0, .int .i64 d1, .int .i64 d2, .int .i64 d3, .slice a n c, .int .i64 d4, .int .i64 d5, .int .i64 d6, .int .i64 d7, .int .i64 d8, .int .i64 d9, .int .i64 d10] 40)).alloc (.cells #[.int .i64 0, .int .i64 0, .int .i64 0, .int .i64 0, .slice none 0 0, .int .i64 0, .int .i64 0, .int .i64 0, .int .i64 0, .int .i64 0, .int .i64 0, .int .i64 0] 30)).alloc (.cells #[.int .i64 0, .int .i64 0, .int .i64 0, .int .i64 0, .slice none 0 0, .int .i64 0, .int .i64 0, .int .i64 0, .int .i64 0, .int .i64 0, .int .i64 0, .int .i64 0] 30)).cell? ⟨w.heap.size, 10, none⟩ = some (.int .i64 d9) := by simp [go_sem]
  have y1_0_11 : (((w.alloc (.cells #[.int .i64 d0, .int .i64 d1, .int .i64 d2, .int .i64 d3, .slice a n c, .int .i64 d4, .int .i64 d5, .int .i64 d6, .int .i64 d7, .int .i64 d8, .int .i64 d9, .int .i64 d10] 40)).alloc (.cells #[.int .i64 0, .int .i64 0, .int .i64 0, .int .i64 0, .slice none 0 0, .int .i64 0, .int .i64 0, .int .i64 0, .int .i64 0, .int .i64 0, .int .i64 0, .int .i64 0] 30)).alloc (.cells #[.int .i64 0, .int .i64 0, .int .i64 0, .int .i64 0, .slice none 0 0, .int .i64 0, .int .i64 0, .int .i64 0, .int .i64 0, .int .i64 0, .int .i64 0, .int .i64 0] 30)).cell? ⟨w.heap.size, 11, none⟩ = some (.int .i64 d10) := by simp [go_sem]
  have z1_0 : w.heap.size < (((w.alloc (.cells #[.int .i64 d0, .int .i64 d1, .int .i64 d2, .int .i64 d3, .slice a n c, .int .i64 d4, .int .i64 d5, .int .i64 d6, .int .i64 d7, .int .i64 d8, .int .i64 d9, .int .i64 d10] 40)).alloc (.cells #[.int .i64 0, .int .i64 0, .int .i64 0, .int .i64 0, .slice none 0 0, .int .i64 0, .int .i64 0, .int .i64 0, .int .i64 0, .int .i64 0, .int .i64 0, .int .i64 0] 30)).alloc (.cells #[.int .i64 0, .int .i64 0, .int .i64 0, .int .i64 0, .slice none 0 0, .int .i64 0, .int .i64 0, .int .i64 0, .int .i64 0, .int .i64 0, .int .i64 0, .int .i64 0] 30)).heap.size := by first | assumption | omega | (simp; done) | (simp; omega)
  have y1_1_0 : (((w.alloc (.cells #[.int .i64 d0, .int .i64 d1, .int .i64 d2, .int .i64 d3, .slice a n c, .int .i64 d4, .int .i64 d5, .int .i64 d6, .int .i64 d7, .int .i64 d8, .int .i64 d9, .int .i64 d10] 40)).alloc (.cells #[.int .i64 0, .int .i64 0, .int .i64 0, .int .i64 0, .slice none 0 0, .int .i64 0, .int .i64 0, .int .i64 0, .int .i64 0, .int .i64 0, .int .i64 0, .int .i64 0] 30)).alloc (.cells #[.int .i64 0, .int .i64 0, .int .i64 0, .int .i64 0, .slice none 0 0, .int .i64 0, .int .i64 0, .int .i64 0, .int .i64 0, .int .i64 0, .int .i64 0, .int .i64 0] 30)).cell? ⟨w.heap.size + 1, 0, none⟩ = some (.int .i64 0) := by simp [go_sem]
  have g1_1_0 : (((w.alloc (.cells #[.int .i64 d0, .int .i64 d1, .int .i64 d2, .int .i64 d3, .slice a n c, .int .i64 d4, .int .i64 d5, .int .i64 d6, .int .i64 d7, .int .i64 d8, .int .i64 d9, .int .i64 d10] 40)).alloc (.cells #[.int .i64 0, .int .i64 0, .int .i64 0, .int .i64 0, .slice none 0 0, .int .i64 0, .int .i64 0, .int .i64 0, .int .i64 0, .int .i64 0, .int .i64 0, .int .i64 0] 30)).alloc (.cells #[.int .i64 0, .int .i64 0, .int .i64 0, .int .i64 0, .slice none 0 0, .int .i64 0, .int .i64 0, .int .i64 0, .int .i64 0, .int .i64 0, .int .i64 0, .int .i64 0] 30)).frozen? ⟨w.heap.size + 1, 0, none⟩ = false := by simp [go_sem]
  have y1_1_1 : (((w.alloc (.cells #[.int .i64 d0, .int .i64 d1, .int .i64 d2, .int .i64 d3, .slice a n c, .int .i64 d4, .int .i64 d5, .int .i64 d6, .int .i64 d7, .int .i64 d8, .int .i64 d9, .int .i64 d10] 40)).alloc (.cells #[.int .i64 0, .int .i64 0, .int .i64 0, .int .i64 0, .slice none 0 0, .int .i64 0, .int .i64 0, .int .i64 0, .int .i64 0, .int .i64 0, .int .i64 0, .int .i64 0] 30)).alloc (.cells #[.int .i64 0, .int .i64 0, .int .i64 0, .int .i64 0, .slice none 0 0, .int .i64 0, .int .i64 0, .int .i64 0, .int .i64 0, .int .i64 0, .int .i64 0, .int .i64 0] 30)).cell? ⟨w.heap.size + 1, 1, none⟩ = some (.int .i64 0) := by simp [go_sem]
  have g1_1_1 : (((w.alloc (.cells #[.int .i64 d0, .int .i64 d1, .int .i64 d2, .int .i64 d3, .slice a n c, .int .i64 d4, .int .i64 d5, .int .i64 d6, .int .i64 d7, .int .i64 d8, .int .i64 d9, .int .i64 d10] 40)).alloc (.cells #[.int .i64 0, .int .i64 0, .int .i64 0, .int .i64 0, .slice none 0 0, .int .i64 0, .int .i64 0, .int .i64 0, .int .i64 0, .int .i64 0, .int .i64 0, .int .i64 0] 30)).alloc (.cells #[.int .i64 0, .int .i64 0, .int .i64 0, .int .i64 0, .slice none 0 0, .int .i64 0, .int .i64 0, .int .i64 0, .int .i64 0, .int .i64 0, .int .i64 0, .int .i64 0] 30)).frozen? ⟨w.heap.size + 1, 1, none⟩ = false := by simp [go_sem]
  have y1_1_2 : (((w.alloc (.cells #[.int .i64 d0, .int .i64 d1, .int .i64 d2, .int .i64 d3, .slice a n c, .int .i64 d4, .int .i64 d5, .int .i64 d6, .int .i64 d7, .int .i64 d8, .int .i64 d9, .int .i64 d10] 40)).alloc (.cells #[.int .i64 0, .int .i64 0, .int .i64 0, .int .i64 0, .slice none 0 0, .int .i64 0, .int .i64 0, .int .i64 0, .int .i64 0, .int .i64 0, .int .i64 0, .int .i64 0] 30)).alloc (.cells #[.int .i64 0, .int .i64 0, .int .i64 0, .int .i64 0, .slice none 0 0, .int .i64 0, .int .i64 0, .int .i64 0, .int .i64 0, .int .i64 0, .int .i64 0, .int .i64 0] 30)).cell? ⟨w.heap.size + 1, 2, none⟩ = some (.int .i64 0) := by simp [go_sem]
  have g1_1_2 : (((w.alloc (.cells #[.int .i64 d0, .int .i64 d1, .int .i64 d2, .int .i64 d3, .slice a n c, .int .i64 d4, .int .i64 d5, .int .i64 d6, .int .i64 d7, .int .i64 d8, .int .i64 d9, .int .i64 d10] 40)).alloc (.cells #[.int .i64 0, .int .i64 0, .int .i64 0, .int .i64 0, .slice none 0 0, .int .i64 0, .int .i64 0, .int .i64 0, .int .i64 0, .int .i64 0, .int .i64 0, .int .i64 0] 30)).alloc (.cells #[.int .i64 0, .int .i64 0, .int .i64 0, .int .i64 0, .slice none 0 0, .int .i64 0, .int .i64 0, .int .i64 0, .int .i64 0, .int .i64 0, .int .i64 0, .int .i64 0] 30)).frozen? ⟨w.heap.size + 1, 2, none⟩ = false := by simp [go_sem]
  have y1_1_3 : (((w.alloc (.cells #[.int .i64 d0, .int .i64 d1, .int .i64 d2, .int .i64 d3, .slice a n c, .int .i64 d4, .int .i64 d5, .int .i64 d6, .int .i64 d7, .int .i64 d8, .int .i64 d9, .int .i64 d10] 40)).alloc (.cells #[.int .i64 0, .int .i64 0, .int .i64 0, .int .i64 0, .slice none 0 0, .int .i64 0, .int .i64 0, .int .i64 0, .int .i64 0, .int .i64 0, .int .i64 0, .int .i64 0] 30)).alloc (.cells #[.int .i64 0, .int .i64 0, .int .i64 0, .int .i64 0, .slice none 0 0, .int .i64 0, .int .i64 0, .int .i64 0, .int .i64 0, .int .i64 0, .int .i64 0, .int .i64 0] 30)).cell? ⟨w.heap.size + 1, 3, none⟩ = some (.int .i64 0) := by simp [go_sem]
  have g1_1_3 : (((w.alloc (.cells #[.int .i64 d0, .int .i64 d1, .int .i64 d2, .int .i64 d3, .slice a n c, .int .i64 d4, .int .i64 d5, .int .i64 d6, .int .i64 d7, .int .i64 d8, .int .i64 d9, .int .i64 d10] 40)).alloc (.cells #[.int .i64 0, .int .i64 0, .int .i64 0, .int .i64 0, .slice none 0 0, .int .i64 0, .int .i64 0, .int .i64 0, .int .i64 0, .int .i64 0, .int .i64 0, .int .i64 0] 30)).alloc (.cells #[.int .i64 0, .int .i64 0, .int .i64 0, .int .i64 0, .slice none 0 0, .int .i64 0, .int .i64 0, .int .i64 0, .int .i64 0, .int .i64 0, .int .i64 0, .int .i64 0] 30)).frozen? ⟨w.heap.size + 1, 3, none⟩ = false := by simp [go_sem]
  have y1_1_4 : (((w.alloc (.cells #[.int .i64 d0, .int .i64 d1, .int .i64 d2, .int .i64 d3, .slice a n c, .int .i64 d4, .int .i64 d5, .int .i64 d6, .int .i64 d7, .int .i64 d8, .int .i64 d9, .int .i64 d10] 40)).alloc (.cells #[.int .i64 0, .int .i64 0, .int .i64 0, .int .i64 0, .slice none 0 0, .int .i64 0, .int .i64 0, .int .i64 0, .int .i64 0, .int .i64 0, .int .i64 0, .int .i64 0] 30)).alloc (.cells #[.int .i64 0, .int .i64 0, .int .i64 0, .int .i64 0, .slice none 0 0, .int .i64 0, .int .i64 0, .int .i64 0, .int .i64 0, .int .i64 0, .int .i64 0, .int .i64 0] 30)).cell? ⟨w.heap.size + 1, 4, none⟩ = some (.slice none 0 0) := by simp [go_sem]
  have g1_1_4 : (((w.alloc (.cells #[.int .i64 d0, .int .i64 d1, .int .i64 d2, .int .i64 d3, .slice a n c, .int .i64 d4, .int .i64 d5, .int .i64 d6, .int .i64 d7, .int .i64 d8, .int .i64 d9, .int .i64 d10] 40)).alloc (.cells #[.int .i64 0, .int .i64 0, .int .i64 0, .int .i64 0, .slice none 0 0, .int .i64 0, .int .i64 0, .int .i64 0, .int .i64 0, .int .i64 0, .int .i64 0, .int .i64 0] 30)).alloc (.cells #[.int .i64 0, .int .i64 0, .int .i64 0, .int .i64 0, .slice none 0 0, .int .i64 0, .int .i64 0, .int .i64 0, .int .i64 0, .int .i64 0, .int .i64 0, .int .i64 0] 30)).frozen? ⟨w.heap.size + 1, 4, none⟩ = false := by simp [go_sem]
  have y1_1_5 : (((w.alloc (.cells #[.int .i64 d0, .int .i64 d1, .int .i64 d2, .int .i64 d3, .slice a n c, .int .i64 d4, .int .i64 d5, .int .i64 d6, .int .i64 d7, .int .i64 d8, .int .i64 d9, .int .i64 d10] 40)).alloc (.cells #[.int .i64 0, .int .i64 0, .int .i64 0, .int .i64 0, .slice none 0 0, .int .i64 0, .int .i64 0, .int .i64 0, .int .i64 0, .int .i64 0, .int .i64 0, .int .i64 0] 30)).alloc (.cells #[.int .i64 0, .int .i64 0, .int .i64 0, .int .i64 0, .slice none 0 0, .int .i64 0, .int .i64 0, .int .i64 0, .int .i64 0, .int .i64 0, .int .i64 0, .int .i64 0] 30)).cell? ⟨w.heap.size + 1, 5, none⟩ = some (.int .i64 0) := by simp [go_sem]
  have g1_1_5 : (((w.alloc (.cells #[.int .i64 d0, .int .i64 d1, .int .i64 d2, .int .i64 d3, .slice a n c, .int .i64 d4, .int .i64 d5, .int .i64 d6, .int .i64 d7, .int .i64 d8, .int .i64 d9, .int .i64 d10] 40)).alloc (.cells #[.int .i64 0, .int .i64 0, .int .i64 0, .int .i64 0, .slice none 0 0, .int .i64 0, .int .i64 0, .int .i64 0, .int .i64 0, .int .i64 0, .int .i64 0, .int .i64 0] 30)).alloc (.cells #[.int .i64 0, .int .i64 0, .int .i64 0, .int .i64 0, .slice none 0 0, .int .i64 0, .int .i64 0, .int .i64 0, .int .i64 0, .int .i64 0, .int .i64 0, .int .i64 0] 30)).frozen? ⟨w.heap.size + 1, 5, none⟩ = false := by simp [go_sem]
  have y1_1_6 : (((w.alloc (.cells #[.int .i64 d0, .int .i64 d1, .int .i64 d2, .int .i64 d3, .slice a n c, .int .i64 d4, .int .i64 d5, .int .i64 d6, .int .i64 d7, .int .i64 d8, .int .i64 d9, .int .i64 d10] 40)).alloc (.cells #[.int .i64 0, .int .i64 0, .int .i64 0, .int .i64 0, .slice none 0 0, .int .i64 0, .int .i64 0, .int .i64 0, .int .i64 0, .int .i64 0, .int .i64 0, .int .i64 0] 30)).alloc (.cells #[.int .i64 0, .int .i64 0, .int .i64 0, .int .i64 0, .slice none 0 0, .int .i64 0, .int .i64 0, .int .i64 0, .int .i64 0, .int .i64 0, .int .i64 0, .int .i64 0] 30)).cell? ⟨w.heap.size + 1, 6, none⟩ = some (.int .i64 0) := by simp [go_sem]
  have g1_1_6 : (((w.alloc (.cells #[.int .i64 d0, .int .i64 d1, .int .i64 d2, .int .i64 d3, .slice a n c, .int .i64 d4, .int .i64 d5, .int .i64 d6, .int .i64 d7, .int .i64 d8, .int .i64 d9, .int .i64 d10] 40)).alloc (.cells #[.int .i64 0, .int .i64 0, .int .i64 0, .int .i64 0, .slice none 0 0, .int .i64 0, .int .i64 0, .int .i64 0, .int .i64 0, .int .i64 0, .int .i64 0, .int .i64 0] 30)).alloc (.cells #[.int .i64 0, .int .i64 0, .int .i64 0, .int .i64 0, .slice none 0 0, .int .i64 0, .int .i64 0, .int .i64 0, .int .i64 0, .int .i64 0, .int .i64 0, .int .i64 0] 30)).frozen? ⟨w.heap.size + 1, 6, none⟩ = false := by simp [go_sem]
  have y1_1_7 : (((w.alloc (.cells #[.int .i64 d0, .int .i64 d1, .int .i64 d2, .int .i64 d3, .slice a n c, .int .i64 d4, .int .i64 d5, .int .i64 d6, .int .i64 d7, .int .i64 d8, .int .i64 d9, .int .i64 d10] 40)).alloc (.cells #[.int .i64 0, .int .i64 0, .int .i64 0, .int .i64 0, .slice none 0 0, .int .i64 0, .int .i64 0, .int .i64 0, .int .i64 0, .int .i64 0, .int .i64 0, .int .i64 0] 30)).alloc (.cells #[.int .i64 0, .int .i64 0, .int .i64 0, .int .i64 0, .slice none 0 0, .int .i64 0, .int .i64 0, .int .i64 0, .int .i64 0, .int .i64 0, .int .i64 0, .int .i64 0] 30)).cell? ⟨w.heap.size + 1, 7, none⟩ = some (.int .i64 0) := by simp [go_sem]
  have g1_1_7 : (((w.alloc (.cells #[.int .i64 d0, .int .i64 d1, .int .i64 d2, .int .i64 d3, .slice a n c, .int .i64 d4, .int .i64 d5, .int .i64 d6, .int .i64 d7, .int .i64 d8, .int .i64 d9, .int .i64 d10] 40)).alloc (.cells #[.int .i64 0, .int .i64 0, .int .i64 0, .int .i64 0, .slice none 0 0, .int .i64 0, .int .i64 0, .int .i64 0, .int .i64 0, .int .i64 0, .int .i64 0, .int .i64 0] 30)).alloc (.cells #[.int .i64 0, .int .i64 0, .int .i64 0, .int .i64 0, .slice none 0 0, .int .i64 0, .int .i64 0, .int .i64 0, .int .i64 0, .int .i64 0, .int .i64 0, .int .i64 0] 30)).frozen? ⟨w.heap.size + 1, 7, none⟩ = false := by simp [go_sem]
  have y1_1_8 : (((w.alloc (.cells #[.int .i64 d0, .int .i64 d1, .int .i64 d2, .int .i64 d3, .slice a n c, .int .i64 d4, .int .i64 d5, .int .i64 d6, .int .i64 d7, .int .i64 d8, .int .i64 d9, .int .i64 d10] 40)).alloc (.cells #[.int .i64 0, .int .i64 0, .int .i64 0, .int .i64 0, .slice none 0 0, .int .i64 0, .int .i64 0, .int .i64 0, .int .i64 0, .int .i64 0, .int .i64 0, .int .i64 0] 30)).alloc (.cells #[.int .i64 0, .int .i64 0, .int .i64 0, .int .i64 0, .slice none 0 0, .int .i64 0, .int .i64 0, .int .i64 0, .int .i64 0, .int .i64 0, .int .i64 0, .int .i64 0] 30)).cell? ⟨w.heap.size + 1, 8, none⟩ = some (.int .i64 0) := by simp [go_sem]
  have g1_1_8 : (((w.alloc (.cells #[.int .i64 d0, .int .i64 d1, .int .i64 d2, .int .i64 d3, .slice a n c, .int .i64 d4, .int .i64 d5, .int .i64 d6, .int .i64 d7, .int .i64 d8, .int .i64 d9, .int .i64 d10] 40)).alloc (.cells #[.int .i64 0, .int .i64 0, .int .i64 0, .int .i64 0, .slice none 0 0, .int .i64 0, .int .i64 0, .int .i64 0, .int .i64 0, .int .i64 0, .int .i64 0, .int .i64 0] 30)).alloc (.cells #[.int .i64 0, .int .i64 0, .int .i64 0, .int .i64 0, .slice none 0 0, .int .i64 0, .int .i64 0, .int .i64 0, .int .i64 0, .int .i64 0, .int .i64 0, .int .i64 0] 30)).frozen? ⟨w.heap.size + 1, 8, none⟩ = false := by simp [go_sem]
  have y1_1_9 : (((w.alloc (.cells #[.int .i64 d0, .int .i64 d1, .int .i64 d2, .int .i64 d3, .slice a n c, .int .i64 d4, .int .i64 d5, .int .i64 d6, .int .i64 d7, .int .i64 d8, .int .i64 d9, .int .i64 d10] 40)).alloc (.cells #[.int .i64 0, .int .i64 0, .int .i64 0, .int .i64 0, .slice none 0 0, .int .i64 0, .int .i64 0, .int .i64 0, .int .i64 0, .int .i64 0, .int .i64 0, .int .i64 0] 30)).alloc (.cells #[.int .i64 0, .int .i64 0, .int .i64 0, .int .i64 0, .slice none 0 0, .int .i64 0, .int .i64 0, .int .i64 0, .int .i64 0, .int .i64 0, .int .i64 0, .int .i64 0] 30)).cell? ⟨w.heap.size + 1, 9, none⟩ = some (.int .i64 0) := by simp [go_sem]
  have g1_1_9 : (((w.alloc (.cells #[.int .i64 d0, .int .i64 d1, .int .i64 d2, .int .i64 d3, .slice a n c, .int .i64 d4, .int .i64 d5, .int .i64 d6, .int .i64 d7, .int .i64 d8, .int .i64 d9, .int .i64 d10] 40)).alloc (.cells #[.int .i64 0, .int .i64 0, .int .i64 0, .int .i64 0, .slice none 0 0, .int .i64 0, .int .i64 0, .int .i64 0, .int .i64 0, .int .i64 0, .int .i64 0, .int .i64 0] 30)).alloc (.cells #[.int .i64 0, .int .i64 0, .int .i64 0, .int .i64 0, .slice none 0 0, .int .i64 0, .int .i64 0, .int .i64 0, .int .i64 0, .int .i64 0, .int .i64 0, .int .i64 0] 30)).frozen? ⟨w.heap.size + 1, 9, none⟩ = false := by simp [go_sem]
  have y1_1_10 : (((w.alloc (.cells #[.int .i64 d0, .int .i64 d1, .int .i64 d2, .int .i64 d3, .slice a n c, .int .i64 d4, .int .i64 d5, .int .i64 d6, .int .i64 d7, .int .i64 d8, .int .i64 d9, .int .i64 d10] 40)).alloc (.cells #[.int .i64 0, .int .i64 0, .int .i64 0, .int .i64 0, .slice none 0 0, .int .i64 0, .int .i64 0, .int .i64 0, .int .i64 0, .int .i64 0, .int .i64 0, .int .i64 0] 30)).alloc (.cells #[.int .i64 0, .int .i64 0, .int .i64 0, .int .i64 0, .slice none 0 0, .int .i64 0, .int .i64 0, .int .i64 0, .int .i64 0, .int .i64 0, .int .i64 0, .int .i64 0] 30)).cell? ⟨w.heap.size + 1, 10, none⟩ = some (.int .i64 0) := by simp [go_sem]
  have g1_1_10 : (((w.alloc (.cells #[.int .i64 d0, .int .i64 d1, .int .i64 d2, .int .i64 d3, .slice a n c, .int .i64 d4, .int .i64 d5, .int .i64 d6, .int .i64 d7, .int .i64 d8, .int .i64 d9, .int .i64 d10] 40)).alloc (.cells #[.int .i64 0, .int .i64 0, .int .i64 0, .int .i64 0, .slice none 0 0, .int .i64 0, .int .i64 0, .int .i64 0, .int .i64 0, .int .i64 0, .int .i64 0, .int .i64 0] 30)).alloc (.cells #[.int .i64 0, .int .i64 0, .int .i64 0, .int .i64 0, .slice none 0 0, .int .i64 0, .int .i64 0, .int .i64 0, .int .i64 0, .int .i64 0, .int .i64 0, .int .i64 0] 30)).frozen? ⟨w.heap.size + 1, 10, none⟩ = false := by simp [go_sem]
  have y1_1_11 : (((w.alloc (.cells #[.int .i64 d0, .int .i64 d1, .int .i64 d2, .int .i64 d3, .slice a n c, .int .i64 d4, .int .i64 d5, .int .i64 d6, .int .i64 d7, .int .i64 d8, .int .i64 d9, .int .i64 d10] 40)).alloc (.cells #[.int .i64 0, .int .i64 0, .int .i64 0, .int .i64 0, .slice none 0 0, .int .i64 0, .int .i64 0, .int .i64 0, .int .i64 0, .int .i64 0, .int .i64 0, .int .i64 0] 30)).alloc (.cells #[.int .i64 0, .int .i64 0, .int .i64 0, .int .i64 0, .slice none 0 0, .int .i64 0, .int .i64 0, .int .i64 0, .int .i64 0, .int .i64 0, .int .i64 0, .int .i64 0] 30)).cell? ⟨w.heap.size + 1, 11, none⟩ = some (.int .i64 0) := by simp [go_sem]
  have g1_1_11 : (((w.alloc (.cells #[.int .i64 d0, .int .i64 d1, .int .i64 d2, .int .i64 d3, .slice a n c, .int .i64 d4, .int .i64 d5, .int .i64 d6, .int .i64 d7, .int .i64 d8, .int .i64 d9, .int .i64 d10] 40)).alloc (.cells #[.int .i64 0, .int .i64 0, .int .i64 0, .int .i64 0, .slice none 0 0, .int .i64 0, .int .i64 0, .int .i64 0, .int .i64 0, .int .i64 0, .int .i64 0, .int .i64 0] 30)).alloc (.cells #[.int .i64 0, .int .i64 0, .int .i64 0, .int .i64 0, .slice none 0 0, .int .i64 0, .int .i64 0, .int .i64 0, .int .i64 0, .int .i64 0, .int .i64 0, .int .i64 0] 30)).frozen? ⟨w.heap.size + 1, 11, none⟩ = false := by simp [go_sem]
  have z1_1 : w.heap.size + 1 < (((w.alloc (.cells #[.int .i64 d0, .int .i64 d1, .int .i64 d2, .int .i64 d3, .slice a n c, .int .i64 d4, .int .i64 d5, .int .i64 d6, .int .i64 d7, .int .i64 d8, .int .i64 d9, .int .i64 d10] 40)).alloc (.cells #[.int .i64 0, .int .i64 0, .int .i64 0, .int .i64 0, .slice none 0 0, .int .i64 0, .int .i64 0, .int .i64 0, .int .i64 0, .int .i64 0, .int .i64 0, .int .i64 0] 30)).alloc (.cells #[.int .i64 0, .int .i64 0, .int .i64 0, .int .i64 0, .slice none 0 0, .int .i64 0, .int .i64 0, .int .i64 0, .int .i64 0, .int .i64 0, .int .i64 0, .int .i64 0] 30)).heap.size := by first | assumption | omega | (simp; done) | (simp; omega)
  have y1_2_0 : (((w.alloc (.cells #[.int .i64 d0, .int .i64 d1, .int .i64 d2, .int .i64 d3, .slice a n c, .int .i64 d4, .int .i64 d5, .int .i64 d6, .int .i64 d7, .int .i64 d8, .int .i64 d9, .int .i64 d10] 40)).alloc (.cells #[.int .i64 0, .int .i64 0, .int .i64 0, .int .i64 0, .slice none 0 0, .int .i64 0, .int .i64 0, .int .i64 0, .int .i64 0, .int .i64 0, .int .i64 0, .int .i64 0] 30)).alloc (.cells #[.int .i64 0, .int .i64 0, .int .i64 0, .int .i64 0, .slice none 0 0, .int .i64 0, .int .i64 0, .int .i64 0, .int .i64 0, .int .i64 0, .int .i64 0, .int .i64 0] 30)).cell? ⟨w.heap.size + 1 + 1, 0, none⟩ = some (.int .i64 0) := by simp [go_sem]
  have g1_2_0 : (((w.alloc (.cells #[.int .i64 d0, .int .i64 d1, .int .i64 d2, .int .i64 d3, .slice a n c, .int .i64 d4, .int .i64 d5, .int .i64 d6, .int .i64 d7, .int .i64 d8, .int .i64 d9, .int .i64 d10] 40)).alloc (.cells #[.int .i64 0, .int .i64 0, .int .i64 0, .int .i64 0, .slice none 0 0, .int .i64 0, .int .i64 0, .int .i64 0, .int .i64 0, .int .i64 0, .int .i64 0, .int .i64 0] 30)).alloc (.cells #[.int .i64 0, .int .i64 0, .int .i64 0, .int .i64 0, .slice none 0 0, .int .i64 0, .int .i64 0, .int .i64 0, .int .i64 0, .int .i64 0, .int .i64 0, .int .i64 0] 30)).frozen? ⟨w.heap.size + 1 + 1, 0, none⟩ = false := by simp [go_sem]
  have y1_2_1 : (((w.alloc (.cells #[.int .i64 d0, .int .i64 d1, .int .i64 d2, .int .i64 d3, .slice a n c, .int .i64 d4, .int .i64 d5, .int .i64 d6, .int .i64 d7, .int .i64 d8, .int .i64 d9, .int .i64 d10] 40)).alloc (.cells #[.int .i64 0, .int .i64 0, .int .i64 0, .int .i64 0, .slice none 0 0, .int .i64 0, .int .i64 0, .int .i64 0, .int .i64 0, .int .i64 0, .int .i64 0, .int .i64 0] 30)).alloc (.cells #[.int .i64 0, .int .i64 0, .int .i64 0, .int .i64 0, .slice none 0 0, .int .i64 0, .int .i64 0, .int .i64 0, .int .i64 0, .int .i64 0, .int .i64 0, .int .i64 0] 30)).cell? ⟨w.heap.size + 1 + 1, 1, none⟩ = some (.int .i64 0) := by simp [go_sem]
  have g1_2_1 : (((w.alloc (.cells #[.int .i64 d0, .int .i64 d1, .int .i64 d2, .int .i64 d3, .slice a n c, .int .i64 d4, .int .i64 d5, .int .i64 d6, .int .i64 d7, .int .i64 d8, .int .i64 d9, .int .i64 d10] 40)).alloc (.cells #[.int .i64 0, .int .i64 0, .int .i64 0, .int .i64 0, .slice none 0 0, .int .i64 0, .int .i64 0, .int .i64 0, .int .i64 0, .int .i64 0, .int .i64 0, .int .i64 0] 30)).alloc (.cells #[.int .i64 0, .int .i64 0, .int .i64 0, .int .i64 0, .slice none 0 0, .int .i64 0, .int .i64 0, .int .i64 0, .int .i64 0, .int .i64 0, .int .i64 0, .int .i64 0] 30)).frozen? ⟨w.heap.size + 1 + 1, 1, none⟩ = false := by simp [go_sem]
  have y1_2_2 : (((w.alloc (.cells #[.int .i64 d0, .int .i64 d1, .int .i64 d2, .int .i64 d3, .slice a n c, .int .i64 d4, .int .i64 d5, .int .i64 d6, .int .i64 d7, .int .i64 d8, .int .i64 d9, .int .i64 d10] 40)).alloc (.cells #[.int .i64 0, .int .i64 0, .int .i64 0, .int .i64 0, .slice none 0 0, .int .i64 0, .int .i64 0, .int .i64 0, .int .i64 0, .int .i64 0, .int .i64 0, .int .i64 0] 30)).alloc (.cells #[.int .i64 0, .int .i64 0, .int .i64 0, .int .i64 0, .slice none 0 0, .int .i64 0, .int .i64 0, .int .i64 0, .int .i64 0, .int .i64 0, .int .i64 0, .int .i64 0] 30)).cell? ⟨w.heap.size + 1 + 1, 2, none⟩ = some (.int .i64 0) := by simp [go_sem]
  have g1_2_2 : (((w.alloc (.cells #[.int .i64 d0, .int .i64 d1, .int .i64 d2, .int .i64 d3, .slice a n c, .int .i64 d4, .int .i64 d5, .int .i64 d6, .int .i64 d7, .int .i64 d8, .int .i64 d9, .int .i64 d10] 40)).alloc (.cells #[.int .i64 0, .int .i64 0, .int .i64 0, .int .i64 0, .slice none 0 0, .int .i64 0, .int .i64 0, .int .i64 0, .int .i64 0, .int .i64 0, .int .i64 0, .int .i64 0] 30)).alloc (.cells #[.int .i64 0, .int .i64 0, .int .i64 0, .int .i64 0, .slice none 0 0, .int .i64 0, .int .i64 0, .int .i64 0, .int .i64 0, .int .i64 0, .int .i64 0, .int .i64 0] 30)).frozen? ⟨w.heap.size + 1 + 1, 2, none⟩ = false := by simp [go_sem]
  have y1_2_3 : (((w.alloc (.cells #[.int .i64 d0, .int .i64 d1, .int .i64 d2, .int .i64 d3, .slice a n c, .int .i64 d4, .int .i64 d5, .int .i64 d6, .int .i64 d7, .int .i64 d8, .int .i64 d9, .int .i64 d10] 40)).alloc (.cells #[.int .i64 0, .int .i64 0, .int .i64 0, .int .i64 0, .slice none 0 0, .int .i64 0, .int .i64 0, .int .i64 0, .int .i64 0, .int .i64 0, .int .i64 0, .int .i64 0] 30)).alloc (.cells #[.int .i64 0, .int .i64 0, .int .i64 0, .int .i64 0, .slice none 0 0, .int .i64 0, .int .i64 0, .int .i64 0, .int .i64 0, .int .i64 0, .int .i64 0, .int .i64 0] 30)).cell? ⟨w.heap.size + 1 + 1, 3, none⟩ = some (.int .i64 0) := by simp [go_sem]
  have g1_2_3 : (((w.alloc (.cells #[.int .i64 d0, .int .i64 d1, .int .i64 d2, .int .i64 d3, .slice a n c, .int .i64 d4, .int .i64 d5, .int .i64 d6, .int .i64 d7, .int .i64 d8, .int .i64 d9, .int .i64 d10] 40)).alloc (.cells #[.int .i64 0, .int .i64 0, .int .i64 0, .int .i64 0, .slice none 0 0, .int .i64 0, .int .i64 0, .int .i64 0, .int .i64 0, .int .i64 0, .int .i64 0, .int .i64 0] 30)).alloc (.cells #[.int .i64 0, .int .i64 0, .int .i64 0, .int .i64 0, .slice none 0 0, .int .i64 0, .int .i64 0, .int .i64 0, .int .i64 0, .int .i64 0, .int .i64 0, .int .i64 0] 30)).frozen? ⟨w.heap.size + 1 + 1, 3, none⟩ = false := by simp [go_sem]
  have y1_2_4 : (((w.alloc (.cells #[.int .i64 d0, .int .i64 d1, .int .i64 d2, .int .i64 d3, .slice a n c, .int .i64 d4, .int .i64 d5, .int .i64 d6, .int .i64 d7, .int .i64 d8, .int .i64 d9, .int .i64 d10] 40)).alloc (.cells #[.int .i64 0, .int .i64 0, .int .i64 0, .int .i64 0, .slice none 0 0, .int .i64 0, .int .i64 0, .int .i64 0, .int .i64 0, .int .i64 0, .int .i64 0, .int .i64 0] 30)).alloc (.cells #[.int .i64 0, .int .i64 0, .int .i64 0, .int .i64 0, .slice none 0 0, .int .i64 0, .int .i64 0, .int .i64 0, .int .i64 0, .int .i64 0, .int .i64 0, .int .i64 0] 30)).cell? ⟨w.heap.size + 1 + 1, 4, none⟩ = some (.slice none 0 0) := by simp [go_sem]
  have g1_2_4 : (((w.alloc (.cells #[.int .i64 d0, .int .i64 d1, .int .i64 d2, .int .i64 d3, .slice a n c, .int .i64 d4, .int .i64 d5, .int .i64 d6, .int .i64 d7, .int .i64 d8, .int .i64 d9, .int .i64 d10] 40)).alloc (.cells #[.int .i64 0, .int .i64 0, .int .i64 0, .int .i64 0, .slice none 0 0, .int .i64 0, .int .i64 0, .int .i64 0, .int .i64 0, .int .i64 0, .int .i64 0, .int .i64 0] 30)).alloc (.cells #[.int .i64 0, .int .i64 0, .int .i64 0, .int .i64 0, .slice none 0 0, .int .i64 0, .int .i64 0, .int .i64 0, .int .i64 0, .int .i64 0, .int .i64 0, .int .i64 0] 30)).frozen? ⟨w.heap.size + 1 + 1, 4, none⟩ = false := by simp [go_sem]
  have y1_2_5 : (((w.alloc (.cells #[.int .i64 d0, .int .i64 d1, .int .i64 d2, .int .i64 d3, .slice a n c, .int .i64 d4, .int .i64 d5, .int .i64 d6, .int .i64 d7, .int .i64 d8, .int .i64 d9, .int .i64 d10] 40)).alloc (.cells #[.int .i64 0, .int .i64 0, .int .i64 0, .int .i64 0, .slice none 0 0, .int .i64 0, .int .i64 0, .int .i64 0, .int .i64 0, .int .i64 0, .int .i64 0, .int .i64 0] 30)).alloc (.cells #[.int .i64 0, .int .i64 0, .int .i64 0, .int .i64 0, .slice none 0 0, .int .i64 0, .int .i64 0, .int .i64 0, .int .i64 0, .int .i64 0, .int .i64 0, .int .i64 0] 30)).cell? ⟨w.heap.size + 1 + 1, 5, none⟩ = some (.int .i64 0) := by simp [go_sem]
  have g1_2_5 : (((w.alloc (.cells #[.int .i64 d0, .int .i64 d1, .int .i64 d2, .int .i64 d3, .slice a n c, .int .i64 d4, .int .i64 d5, .int .i64 d6, .int .i64 d7, .int .i64 d8, .int .i64 d9, .int .i64 d10] 40)).alloc (.cells #[.int .i64 0, .int .i64 0, .int .i64 0, .int .i64 0, .slice none 0 0, .int .i64 0, .int .i64 0, .int .i64 0, .int .i64 0, .int .i64 0, .int .i64 0, .int .i64 0] 30)).alloc (.cells #[.int .i64 0, .int .i64 0, .int .i64 0, .int .i64 0, .slice none 0 0, .int .i64 0, .int .i64 0, .int .i64 0, .int .i64 0, .int .i64 0, .int .i64 0, .int .i64 0] 30)).frozen? ⟨w.heap.size + 1 + 1, 5, none⟩ = false := by simp [go_sem]
  have y1_2_6 : (((w.alloc (.cells #[.int .i64 d0, .int .i64 d1, .int .i64 d2, .int .i64 d3, .slice a n c, .int .i64 d4, .int .i64 d5, .int .i64 d6, .int .i64 d7, .int .i64 d8, .int .i64 d9, .int .i64 d10] 40)).alloc (.cells #[.int .i64 0, .int .i64 0, .int .i64 0, .int .i64 0, .slice none 0 0, .int .i64 0, .int .i64 0, .int .i64 0, .int .i64 0, .int .i64 0, .int .i64 0, .int .i64 0] 30)).alloc (.cells #[.int .i64 0, .int .i64 0, .int .i64 0, .int .i64 0, .slice none 0 0, .int .i64 0, .int .i64 0, .int .i64 0, .int .i64 0, .int .i64 0, .int .i64 0, .int .i64 0] 30)).cell? ⟨w.heap.size + 1 + 1, 6, none⟩ = some (.int .i64 0) := by simp [go_sem]
  have g1_2_6 : (((w.alloc (.cells #[.int .i64 d0, .int .i64 d1, .int .i64 d2, .int .i64 d3, .slice a n c, .int .i64 d4, .int .i64 d5, .int .i64 d6, .int .i64 d7, .int .i64 d8, .int .i64 d9, .int .i64 d10] 40)).alloc (.cells #[.int .i64 0, .int .i64 0, .int .i64 0, .int .i64 0, .slice none 0 0, .int .i64 0, .int .i64 0, .int .i64 0, .int .i64 0, .int .i64 0, .int .i64 0, .int .i64 0] 30)).alloc (.cells #[.int .i64 0, .int .i64 0, .int .i64 0, .int .i64 0, .slice none 0 0, .int .i64 0, .int .i64 0, .int .i64 0, .int .i64 0, .int .i64 0, .int .i64 0, .int .i64 0] 30)).frozen? ⟨w.heap.size + 1 + 1, 6, none⟩ = false := by simp [go_sem]
  have y1_2_7 : (((w.alloc (.cells #[.int .i64 d0, .int .i64 d1, .int .i64 d2, .int .i64 d3, .slice a n c, .int .i64 d4, .int .i64 d5, .int .i64 d6, .int .i64 d7, .int .i64 d8, .int .i64 d9, .int .i64 d10] 40)).alloc (.cells #[.int .i64 0, .int .i64 0, .int .i64 0, .int .i64 0, .slice none 0 0, .int .i64 0, .int .i64 0, .int .i64 0, .int .i64 0, .int .i64 0, .int .i64 0, .int .i64 0] 30)).alloc (.cells #[.int .i64 0, .int .i64 0, .int .i64 0, .int .i64 0, .slice none 0 0, .int .i64 0, .int .i64 0, .int .i64 0, .int .i64 0, .int .i64 0, .int .i64 0, .int .i64 0] 30)).cell? ⟨w.heap.size + 1 + 1, 7, none⟩ = some (.int .i64 0) := by simp [go_sem]
  have g1_2_7 : (((w.alloc (.cells #[.int .i64 d0, .int .i64 d1, .int .i64 d2, .int .i64 d3, .slice a n c, .int .i64 d4, .int .i64 d5, .int .i64 d6, .int .i64 d7, .int .i64 d8, .int .i64 d9, .int .i64 d10] 40)).alloc (.cells #[.int .i64 0, .int .i64 0, .int .i64 0, .int .i64 0, .slice none 0 0, .int .i64 0, .int .i64 0, .int .i64 0, .int .i64 0, .int .i64 0, .int .i64 0, .int .i64 0] 30)).alloc (.cells #[.int .i64 0, .int .i64 0, .int .i64 0, .int .i64 0, .slice none 0 0, .int .i64 0, .int .i64 0, .int .i64 0, .int .i64 0, .int .i64 0, .int .i64 0, .int .i64 0] 30)).frozen? ⟨w.heap.size + 1 + 1, 7, none⟩ = false := by simp [go_sem]
  have y1_2_8 : (((w.alloc (.cells #[.int .i64 d0, .int .i64 d1, .int .i64 d2, .int .i64 d3, .slice a n c, .int .i64 d4, .int .i64 d5, .int .i64 d6, .int .i64 d7, .int .i64 d8, .int .i64 d9, .int .i64 d10] 40)).alloc (.cells #[.int .i64 0, .int .i64 0, .int .i64 0, .int .i64 0, .slice none 0 0, .int .i64 0, .int .i64 0, .int .i64 0, .int .i64 0, .int .i64 0, .int .i64 0, .int .i64 0] 30)).alloc (.cells #[.int .i64 0, .int .i64 0, .int .i64 0, .int .i64 0, .slice none 0 0, .int .i64 0, .int .i64 0, .int .i64 0, .int .i64 0, .int .i64 0, .int .i64 0, .int .i64 0] 30)).cell? ⟨w.heap.size + 1 + 1, 8, none⟩ = some (.int .i64 0) := by simp [go_sem]
  have g1_2_8 : (((w.alloc (.cells #[.int .i64 d0, .int .i64 d1, .int .i64 d2, .int .i64 d3, .slice a n c, .int .i64 d4, .int .i64 d5, .int .i64 d6, .int .i64 d7, .int .i64 d8, .int .i64 d9, .int .i64 d10] 40)).alloc (.cells #[.int .i64 0, .int .i64 0, .int .i64 0, .int .i64 0, .slice none 0 0, .int .i64 0, .int .i64 0, .int .i64 0, .int .i64 0, .int .i64 0, .int .i64 0, .int .i64 0] 30)).alloc (.cells #[.int .i64 0, .int .i64 0, .int .i64 0, .int .i64 0, .slice none 0 0, .int .i64 0, .int .i64 0, .int .i64 0, .int .i64 0, .int .i64 0, .int .i64 0, .int .i64 0] 30)).frozen? ⟨w.heap.size + 1 + 1, 8, none⟩ = false := by simp [go_sem]
  have y1_2_9 : (((w.alloc (.cells #[.int .i64 d0, .int .i64 d1, .int .i64 d2, .int .i64 d3, .slice a n c, .int .i64 d4, .int .i64 d5, .int .i64 d6, .int .i64 d7, .int .i64 d8, .int .i64 d9, .int .i64 d10] 40)).alloc (.cells #[.int .i64 0, .int .i64 0, .int .i64 0, .int .i64 0, .slice none 0 0, .int .i64 0, .int .i64 0, .int .i64 0, .int .i64 0, .int .i64 0, .int .i64 0, .int .i64 0] 30)).alloc (.cells #[.int .i64 0, .int .i64 0, .int .i64 0, .int .i64 0, .slice none 0 0, .int .i64 0, .int .i64 0, .int .i64 0, .int .i64 0, .int .i64 0, .int .i64 0, .int .i64 0] 30)).cell? ⟨w.heap.size + 1 + 1, 9, none⟩ = some (.int .i64 0) := by simp [go_sem]
  have g1_2_9 : (((w.alloc (.cells #[.int .i64 d0, .int .i64 d1, .int .i64 d2, .int .i64 d3, .slice a n c, .int .i64 d4, .int .i64 d5, .int .i64 d6, .int .i64 d7, .int .i64 d8, .int .i64 d9, .int .i64 d10] 40)).alloc (.cells #[.int .i64 0, .int .i64 0, .int .i64 0, .int .i64 0, .slice none 0 0, .int .i64 0, .int .i64 0, .int .i64 0, .int .i64 0, .int .i64 0, .int .i64 0, .int .i64 0] 30)).alloc (.cells #[.int .i64 0, .int .i64 0, .int .i64 0, .int .i64 0, .slice none 0 0, .int .i64 0, .int .i64 0, .int .i64 0, .int .i64 0, .int .i64 0, .int .i64 0, .int .i64 0] 30)).frozen? ⟨w.heap.size + 1 + 1, 9, none⟩ = false := by simp [go_sem]
  have y1_2_10 : (((w.alloc (.cells #[.int .i64 d0, .int .i64 d1, .int .i64 d2, .int .i64 d3, .slice a n c, .int .i64 d4, .int .i64 d5, .int .i64 d6, .int .i64 d7, .int .i64 d8, .int .i64 d9, .int .i64 d10] 40)).alloc (.cells #[.int .i64 0, .int .i64 0, .int .i64 0, .int .i64 0, .slice none 0 0, .int .i64 0, .int .i64 0, .int .i64 0, .int .i64 0, .int .i64 0, .int .i64 0, .int .i64 0] 30)).alloc (.cells #[.int .i64 0, .int .i64 0, .int .i64 0, .int .i64 0, .slice none 0 0, .int .i64 0, .int .i64 0, .int .i64 0, .int .i64 0, .int .i64 0, .int .i64 0, .int .i64 0] 30)).cell? ⟨w.heap.size + 1 + 1, 10, none⟩ = some (.int .i64 0) := by simp [go_sem]
  have g1_2_10 : (((w.alloc (.cells #[.int .i64 d0, .int .i64 d1, .int .i64 d2, .int .i64 d3, .slice a n c, .int .i64 d4, .int .i64 d5, .int .i64 d6, .int .i64 d7, .int .i64 d8, .int .i64 d9, .int .i64 d10] 40)).alloc (.cells #[.int .i64 0, .int .i64 0, .int .i64 0, .int .i64 0, .slice none 0 0, .int .i64 0, .int .i64 0, .int .i64 0, .int .i64 0, .int .i64 0, .int .i64 0, .int .i64 0] 30)).alloc (.cells #[.int .i64 0, .int .i64 0, .int .i64 0, .int .i64 0, .slice none 0 0, .int .i64 0, .int .i64 0, .int .i64 0, .int .i64 0, .int .i64 0, .int .i64 0, .int .i64 0] 30)).frozen? ⟨w.heap.size + 1 + 1, 10, none⟩ = false := by simp [go_sem]
  have y1_2_11 : (((w.alloc (.cells #[.int .i64 d0, .int .i64 d1, .int .i64 d2, .int .i64 d3, .slice a n c, .int .i64 d4, .int .i64 d5, .int .i64 d6, .int .i64 d7, .int .i64 d8, .int .i64 d9, .int .i64 d10] 40)).alloc (.cells #[.int .i64 0, .int .i64 0, .int .i64 0, .int .i64 0, .slice none 0 0, .int .i64 0, .int .i64 0, .int .i64 0, .int .i64 0, .int .i64 0, .int .i64 0, .int .i64 0] 30)).alloc (.cells #[.int .i64 0, .int .i64 0, .int .i64 0, .int .i64 0, .slice none 0 0, .int .i64 0, .int .i64 0, .int .i64 0, .int .i64 0, .int .i64 0, .int .i64 0, .int .i64 0] 30)).cell? ⟨w.heap.size + 1 + 1, 11, none⟩ = some (.int .i64 0) := by simp [go_sem]
  have g1_2_11 : (((w.alloc (.cells #[.int .i64 d0, .int .i64 d1, .int .i64 d2, .int .i64 d3, .slice a n c, .int .i64 d4, .int .i64 d5, .int .i64 d6, .int .i64 d7, .int .i64 d8, .int .i64 d9, .int .i64 d10] 40)).alloc (.cells #[.int .i64 0, .int .i64 0, .int .i64 0, .int .i64 0, .slice none 0 0, .int .i64 0, .int .i64 0, .int .i64 0, .int .i64 0, .int .i64 0, .int .i64 0, .int .i64 0] 30)).alloc (.cells #[.int .i64 0, .int .i64 0, .int .i64 0, .int .i64 0, .slice none 0 0, .int .i64 0, .int .i64 0, .int .i64 0, .int .i64 0, .int .i64 0, .int .i64 0, .int .i64 0] 30)).frozen? ⟨w.heap.size + 1 + 1, 11, none⟩ = false := by simp [go_sem]
  have z1_2 : w.heap.size + 1 + 1 < (((w.alloc (.cells #[.int .i64 d0, .int .i64 d1, .int .i64 d2, .int .i64 d3, .slice a n c, .int .i64 d4, .int .i64 d5, .int .i64 d6, .int .i64 d7, .int .i64 d8, .int .i64 d9, .int .i64 d10] 40)).alloc (.cells #[.int .i64 0, .int .i64 0, .int .i64 0, .int .i64 0, .slice none 0 0, .int .i64 0, .int .i64 0, .int .i64 0, .int .i64 0, .int .i64 0, .int .i64 0, .int .i64 0] 30)).alloc (.cells #[.int .i64 0, .int .i64 0, .int .i64 0, .int .i64 0, .slice none 0 0, .int .i64 0, .int .i64 0, .int .i64 0, .int .i64 0, .int .i64 0, .int .i64 0, .int .i64 0] 30)).heap.size := by first | assumption | omega | (simp; done) | (simp; omega)
  have HBy1 := Lib.hid (show Below w.heap.size w (((w.alloc (.cells #[.int .i64 d0, .int .i64 d1, .int .i64 d2, .int .i64 d3, .slice a n c, .int .i64 d4, .int .i64 d5, .int .i64 d6, .int .i64 d7, .int .i64 d8, .int .i64 d9, .int .i64 d10] 40)).alloc (.cells #[.int .i64 0, .int .i64 0, .int .i64 0, .int .i64 0, .slice none 0 0, .int .i64 0, .int .i64 0, .int .i64 0, .int .i64 0, .int .i64 0, .int .i64 0, .int .i64 0] 30)).alloc (.cells #[.int .i64 0, .int .i64 0, .int .i64 0, .int .i64 0, .slice none 0 0, .int .i64 0, .int .i64 0, .int .i64 0, .int .i64 0, .int .i64 0, .int .i64 0, .int .i64 0] 30)) by repeat (first | exact Below.refl _ _ | refine bl_alloc ?_ _ | refine bl_drewN ?_ _ | refine bl_trans (by assumption) ?_ | refine bl_set ?_ (by first | omega | (simp; done) | (simp; omega)) _))
  generalize (((w.alloc (.cells #[.int .i64 d0, .int .i64 d1, .int .i64 d2, .int .i64 d3, .slice a n c, .int .i64 d4, .int .i64 d5, .int .i64 d6, .int .i64 d7, .int .i64 d8, .int .i64 d9, .int .i64 d10] 40)).alloc (.cells #[.int .i64 0, .int .i64 0, .int .i64 0, .int .i64 0, .slice none 0 0, .int .i64 0, .int .i64 0, .int .i64 0, .int .i64 0, .int .i64 0, .int .i64 0, .int .i64 0] 30)).alloc (.cells #[.int .i64 0, .int .i64 0, .int .i64 0, .int .i64 0, .slice none 0 0, .int .i64 0, .int .i64 0, .int .i64 0, .int .i64 0, .int .i64 0, .int .i64 0, .int .i64 0] 30)) = wy1 at *
  go_wp2_with fail
  refine (toLadders_any _ _ _ _).mono ?_
  rintro e w1 ⟨rfl, hbw1⟩
  obtain ⟨hcw1, hfw1⟩ := bcell hbw1
  have hzw1 := bsize hbw1
  (try simp only [World.size_alloc, World.size_setCell] at hzw1)
  have hkw1 : Below wy1.heap.size wy1 w1 := (by repeat (first | exact Below.refl _ _ | refine bl_alloc ?_ _ | refine bl_drewN ?_ _ | refine bl_trans (by assumption) ?_ | refine bl_set ?_ (by first | omega | (simp; done) | (simp; omega)) _))
  have kw1_0_0 : w1.cell? ⟨w.heap.size, 0, none⟩ = some (.int .i64 d0) := cell_after hkw1 z1_0 y1_0_0
  have kw1_0_1 : w1.cell? ⟨w.heap.size, 1, none⟩ = some (.int .i64 d1) := cell_after hkw1 z1_0 y1_0_1
  have kw1_0_2 : w1.cell? ⟨w.heap.size, 2, none⟩ = some (.int .i64 d2) := cell_after hkw1 z1_0 y1_0_2
  have kw1_0_3 : w1.cell? ⟨w.heap.size, 3, none⟩ = some (.int .i64 d3) := cell_after hkw1 z1_0 y1_0_3
  have kw1_0_4 : w1.cell? ⟨w.heap.size, 4, none⟩ = some (.slice a n c) := cell_after hkw1 z1_0 y1_0_4
  have kw1_0_5 : w1.cell? ⟨w.heap.size, 5, none⟩ = some (.int .i64 d4) := cell_after hkw1 z1_0 y1_0_5
  have kw1_0_6 : w1.cell? ⟨w.heap.size, 6, none⟩ = some (.int .i64 d5) := cell_after hkw1 z1_0 y1_0_6
  have kw1_0_7 : w1.cell? ⟨w.heap.size, 7, none⟩ = some (.int .i64 d6) := cell_after hkw1 z1_0 y1_0_7
  have kw1_0_8 : w1.cell? ⟨w.heap.size, 8, none⟩ = some (.int .i64 d7) := cell_after hkw1 z1_0 y1_0_8
  have kw1_0_9 : w1.cell? ⟨w.heap.size, 9, none⟩ = some (.int .i64 d8) := cell_after hkw1 z1_0 y1_0_9
  have kw1_0_10 : w1.cell? ⟨w.heap.size, 10, none⟩ = some (.int .i64 d9) := cell_after hkw1 z1_0 y1_0_10
  have kw1_0_11 : w1.cell? ⟨w.heap.size, 11, none⟩ = some (.int .i64 d10) := cell_after hkw1 z1_0 y1_0_11
  have sw1_0 : w.heap.size < w1.heap.size := size_after hkw1 z1_0
  have kw1_1_0 : w1.cell? ⟨w.heap.size + 1, 0, none⟩ = some (.int .i64 0) := cell_after hkw1 z1_1 y1_1_0
  have fw1_1_0 : w1.frozen? ⟨w.heap.size + 1, 0, none⟩ = false := frozen_after hkw1 z1_1 g1_1_0
  have kw1_1_1 : w1.cell? ⟨w.heap.size + 1, 1, none⟩ = some (.int .i64 0) := cell_after hkw1 z1_1 y1_1_1
  have fw1_1_1 : w1.frozen? ⟨w.heap.size + 1, 1, none⟩ = false := frozen_after hkw1 z1_1 g1_1_1
  have kw1_1_2 : w1.cell? ⟨w.heap.size + 1, 2, none⟩ = some (.int .i64 0) := cell_after hkw1 z1_1 y1_1_2
  have fw1_1_2 : w1.frozen? ⟨w.heap.size + 1, 2, none⟩ = false := frozen_after hkw1 z1_1 g1_1_2
  have kw1_1_3 : w1.cell? ⟨w.heap.size + 1, 3, none⟩ = some (.int .i64 0) := cell_after hkw1 z1_1 y1_1_3
  have fw1_1_3 : w1.frozen? ⟨w.heap.size + 1, 3, none⟩ = false := frozen_after hkw1 z1_1 g1_1_3
  have kw1_1_4 : w1.cell? ⟨w.heap.size + 1, 4, none⟩ = some (.slice none 0 0) := cell_after hkw1 z1_1 y1_1_4
  have fw1_1_4 : w1.frozen? ⟨w.heap.size + 1, 4, none⟩ = false := frozen_after hkw1 z1_1 g1_1_4
  have kw1_1_5 : w1.cell? ⟨w.heap.size + 1, 5, none⟩ = some (.int .i64 0) := cell_after hkw1 z1_1 y1_1_5
  have fw1_1_5 : w1.frozen? ⟨w.heap.size + 1, 5, none⟩ = false := frozen_after hkw1 z1_1 g1_1_5
  have kw1_1_6 : w1.cell? ⟨w.heap.size + 1, 6, none⟩ = some (.int .i64 0) := cell_after hkw1 z1_1 y1_1_6
  have fw1_1_6 : w1.frozen? ⟨w.heap.size + 1, 6, none⟩ = false := frozen_after hkw1 z1_1 g1_1_6
  have kw1_1_7 : w1.cell? ⟨w.heap.size + 1, 7, none⟩ = some (.int .i64 0) := cell_after hkw1 z1_1 y1_1_7
  have fw1_1_7 : w1.frozen? ⟨w.heap.size + 1, 7, none⟩ = false := frozen_after hkw1 z1_1 g1_1_7
  have kw1_1_8 : w1.cell? ⟨w.heap.size + 1, 8, none⟩ = some (.int .i64 0) := cell_after hkw1 z1_1 y1_1_8
  have fw1_1_8 : w1.frozen? ⟨w.heap.size + 1, 8, none⟩ = false := frozen_after hkw1 z1_1 g1_1_8
  have kw1_1_9 : w1.cell? ⟨w.heap.size + 1, 9, none⟩ = some (.int .i64 0) := cell_after hkw1 z1_1 y1_1_9
  have fw1_1_9 : w1.frozen? ⟨w.heap.size + 1, 9, none⟩ = false := frozen_after hkw1 z1_1 g1_1_9
  have kw1_1_10 : w1.cell? ⟨w.heap.size + 1, 10, none⟩ = some (.int .i64 0) := cell_after hkw1 z1_1 y1_1_10
  have fw1_1_10 : w1.frozen? ⟨w.heap.size + 1, 10, none⟩ = false := frozen_after hkw1 z1_1 g1_1_10
  have kw1_1_11 : w1.cell? ⟨w.heap.size + 1, 11, none⟩ = some (.int .i64 0) := cell_after hkw1 z1_1 y1_1_11
  have fw1_1_11 : w1.frozen? ⟨w.heap.size + 1, 11, none⟩ = false := frozen_after hkw1 z1_1 g1_1_11
  have sw1_1 : w.heap.size + 1 < w1.heap.size := size_after hkw1 z1_1
  have kw1_2_0 : w1.cell? ⟨w.heap.size + 1 + 1, 0, none⟩ = some (.int .i64 0) := cell_after hkw1 z1_2 y1_2_0
  have fw1_2_0 : w1.frozen? ⟨w.heap.size + 1 + 1, 0, none⟩ = false := frozen_after hkw1 z1_2 g1_2_0
  have kw1_2_1 : w1.cell? ⟨w.heap.size + 1 + 1, 1, none⟩ = some (.int .i64 0) := cell_after hkw1 z1_2 y1_2_1
  have fw1_2_1 : w1.frozen? ⟨w.heap.size + 1 + 1, 1, none⟩ = false := frozen_after hkw1 z1_2 g1_2_1
  have kw1_2_2 : w1.cell? ⟨w.heap.size + 1 + 1, 2, none⟩ = some (.int .i64 0) := cell_after hkw1 z1_2 y1_2_2
  have fw1_2_2 : w1.frozen? ⟨w.heap.size + 1 + 1, 2, none⟩ = false := frozen_after hkw1 z1_2 g1_2_2
  have kw1_2_3 : w1.cell? ⟨w.heap.size + 1 + 1, 3, none⟩ = some (.int .i64 0) := cell_after hkw1 z1_2 y1_2_3
  have fw1_2_3 : w1.frozen? ⟨w.heap.size + 1 + 1, 3, none⟩ = false := frozen_after hkw1 z1_2 g1_2_3
  have kw1_2_4 : w1.cell? ⟨w.heap.size + 1 + 1, 4, none⟩ = some (.slice none 0 0) := cell_after hkw1 z1_2 y1_2_4
  have fw1_2_4 : w1.frozen? ⟨w.heap.size + 1 + 1, 4, none⟩ = false := frozen_after hkw1 z1_2 g1_2_4
  have kw1_2_5 : w1.cell? ⟨w.heap.size + 1 + 1, 5, none⟩ = some (.int .i64 0) := cell_after hkw1 z1_2 y1_2_5
  have fw1_2_5 : w1.frozen? ⟨w.heap.size + 1 + 1, 5, none⟩ = false := frozen_after hkw1 z1_2 g1_2_5
  have kw1_2_6 : w1.cell? ⟨w.heap.size + 1 + 1, 6, none⟩ = some (.int .i64 0) := cell_after hkw1 z1_2 y1_2_6
  have fw1_2_6 : w1.frozen? ⟨w.heap.size + 1 + 1, 6, none⟩ = false := frozen_after hkw1 z1_2 g1_2_6
  have kw1_2_7 : w1.cell? ⟨w.heap.size + 1 + 1, 7, none⟩ = some (.int .i64 0) := cell_after hkw1 z1_2 y1_2_7
  have fw1_2_7 : w1.frozen? ⟨w.heap.size + 1 + 1, 7, none⟩ = false := frozen_after hkw1 z1_2 g1_2_7
  have kw1_2_8 : w1.cell? ⟨w.heap.size + 1 + 1, 8, none⟩ = some (.int .i64 0) := cell_after hkw1 z1_2 y1_2_8
  have fw1_2_8 : w1.frozen? ⟨w.heap.size + 1 + 1, 8, none⟩ = false := frozen_after hkw1 z1_2 g1_2_8
  have kw1_2_9 : w1.cell? ⟨w.heap.size + 1 + 1, 9, none⟩ = some (.int .i64 0) := cell_after hkw1 z1_2 y1_2_9
  have fw1_2_9 : w1.frozen? ⟨w.heap.size + 1 + 1, 9, none⟩ = false := frozen_after hkw1 z1_2 g1_2_9
  have kw1_2_10 : w1.cell? ⟨w.heap.size + 1 + 1, 10, none⟩ = some (.int .i64 0) := cell_after hkw1 z1_2 y1_2_10
  have fw1_2_10 : w1.frozen? ⟨w.heap.size + 1 + 1, 10, none⟩ = false := frozen_after hkw1 z1_2 g1_2_10
  have kw1_2_11 : w1.cell? ⟨w.heap.size + 1 + 1, 11, none⟩ = some (.int .i64 0) := cell_after hkw1 z1_2 y1_2_11
  have fw1_2_11 : w1.frozen? ⟨w.heap.size + 1 + 1, 11, none⟩ = false := frozen_after hkw1 z1_2 g1_2_11
  have sw1_2 : w.heap.size + 1 + 1 < w1.heap.size := size_after hkw1 z1_2
  have hBw1 : Below w.heap.size w w1 := (by repeat (first | exact HBy1.out | exact Below.refl _ _ | refine bl_alloc ?_ _ | refine bl_drewN ?_ _ | refine bl_trans (by assumption) ?_ | refine bl_set ?_ (by first | omega | (simp; done) | (simp; omega)) _))
  have HBw1 := Lib.hid hBw1
  clear hBw1 hcw1 hfw1 hbw1 hkw1 y1_0_0 y1_0_1 y1_0_2 y1_0_3 y1_0_4 y1_0_5 y1_0_6 y1_0_7 y1_0_8 y1_0_9 y1_0_10 y1_0_11 z1_0 y1_1_0 y1_1_1 y1_1_2 y1_1_3 y1_1_4 y1_1_5 y1_1_6 y1_1_7 y1_1_8 y1_1_9 y1_1_10 y1_1_11 g1_1_0 g1_1_1 g1_1_2 g1_1_3 g1_1_4 g1_1_5 g1_1_6 g1_1_7 g1_1_8 g1_1_9 g1_1_10 g1_1_11 z1_1 y1_2_0 y1_2_1 y1_2_2 y1_2_3 y1_2_4 y1_2_5 y1_2_6 y1_2_7 y1_2_8 y1_2_9 y1_2_10 y1_2_11 g1_2_0 g1_2_1 g1_2_2 g1_2_3 g1_2_4 g1_2_5 g1_2_6 g1_2_7 g1_2_8 g1_2_9 g1_2_10 g1_2_11 z1_2
  go_wp2_with fail
  have y2_0_0 : ((((w1.setCell ⟨w.heap.size + 1 + 1, 0, none⟩ (.int .i64 d0)).setCell ⟨w.heap.size + 1 + 1, 1, none⟩ (.int .i64 d1)).setCell ⟨w.heap.size + 1 + 1, 2, none⟩ (.int .i64 d2)).setCell ⟨w.heap.size + 1 + 1, 3, none⟩ (.int .i64 d3)).cell? ⟨w.heap.size, 0, none⟩ = some (.int .i64 d0) := by simp [go_sem, kw1_0_0, kw1_0_1, kw1_0_2, kw1_0_3, kw1_0_4, kw1_0_5, kw1_0_6, kw1_0_7, kw1_0_8, kw1_0_9, kw1_0_10, kw1_0_11]
  have y2_0_1 : ((((w1.setCell ⟨w.heap.size + 1 + 1, 0, none⟩ (.int .i64 d0)).setCell ⟨w.heap.size + 1 + 1, 1, none⟩ (.int .i64 d1)).setCell ⟨w.heap.size + 1 + 1, 2, none⟩ (.int .i64 d2)).setCell ⟨w.heap.size + 1 + 1, 3, none⟩ (.int .i64 d3)).cell? ⟨w.heap.size, 1, none⟩ = some (.int .i64 d1) := by simp [go_sem, kw1_0_0, kw1_0_1, kw1_0_2, kw1_0_3, kw1_0_4, kw1_0_5, kw1_0_6, kw1_0_7, kw1_0_8, kw1_0_9, kw1_0_10, kw1_0_11]
  have y2_0_2 : ((((w1.setCell ⟨w.heap.size + 1 + 1, 0, none⟩ (.int .i64 d0)).setCell ⟨w.heap.size + 1 + 1, 1, none⟩ (.int .i64 d1)).setCell ⟨w.heap.size + 1 + 1, 2, none⟩ (.int .i64 d2)).setCell ⟨w.heap.size + 1 + 1, 3, none⟩ (.int .i64 d3)).cell? ⟨w.heap.size, 2, none⟩ = some (.int .i64 d2) := by simp [go_sem, kw1_0_0, kw1_0_1, kw1_0_2, kw1_0_3, kw1_0_4, kw1_0_5, kw1_0_6, kw1_0_7, kw1_0_8, kw1_0_9, kw1_0_10, kw1_0_11]
  have y2_0_3 : ((((w1.setCell ⟨w.heap.size + 1 + 1, 0, none⟩ (.int .i64 d0)).setCell ⟨w.heap.size + 1 + 1, 1, none⟩ (.int .i64 d1)).setCell ⟨w.heap.size + 1 + 1, 2, none⟩ (.int .i64 d2)).setCell ⟨w.heap.size + 1 + 1, 3, none⟩ (.int .i64 d3)).cell? ⟨w.heap.size, 3, none⟩ = some (.int .i64 d3) := by simp [go_sem, kw1_0_0, kw1_0_1, kw1_0_2, kw1_0_3, kw1_0_4, kw1_0_5, kw1_0_6, kw1_0_7, kw1_0_8, kw1_0_9, kw1_0_10, kw1_0_11]
  have y2_0_4 : ((((w1.setCell ⟨w.heap.size + 1 + 1, 0, none⟩ (.int .i64 d0)).setCell ⟨w.heap.size + 1 + 1, 1, none⟩ (.int .i64 d1)).setCell ⟨w.heap.size + 1 + 1, 2, none⟩ (.int .i64 d2)).setCell ⟨w.heap.size + 1 + 1, 3, none⟩ (.int .i64 d3)).cell? ⟨w.heap.size, 4, none⟩ = some (.slice a n c) := by simp [go_sem, kw1_0_0, kw1_0_1, kw1_0_2, kw1_0_3, kw1_0_4, kw1_0_5, kw1_0_6, kw1_0_7, kw1_0_8, kw1_0_9, kw1_0_10, kw1_0_11]
  have y2_0_5 : ((((w1.setCell ⟨w.heap.size + 1 + 1, 0, none⟩ (.int .i64 d0)).setCell ⟨w.heap.size + 1 + 1, 1, none⟩ (.int .i64 d1)).setCell ⟨w.heap.size + 1 + 1, 2, none⟩ (.int .i64 d2)).setCell ⟨w.heap.size + 1 + 1, 3, none⟩ (.int .i64 d3)).cell? ⟨w.heap.size, 5, none⟩ = some (.int .i64 d4) := by simp [go_sem, kw1_0_0, kw1_0_1, kw1_0_2, kw1_0_3, kw1_0_4, kw1_0_5, kw1_0_6, kw1_0_7, kw1_0_8, kw1_0_9, kw1_0_10, kw1_0_11]
  have y2_0_6 : ((((w1.setCell ⟨w.heap.size + 1 + 1, 0, none⟩ (.int .i64 d0)).setCell ⟨w.heap.size + 1 + 1, 1, none⟩ (.int .i64 d1)).setCell ⟨w.heap.size + 1 + 1, 2, none⟩ (.int .i64 d2)).setCell ⟨w.heap.size + 1 + 1, 3, none⟩ (.int .i64 d3)).cell? ⟨w.heap.size, 6, none⟩ = some (.int .i64 d5) := by simp [go_sem, kw1_0_0, kw1_0_1, kw1_0_2, kw1_0_3, kw1_0_4, kw1_0_5, kw1_0_6, kw1_0_7, kw1_0_8, kw1_0_9, kw1_0_10, kw1_0_11]
  have y2_0_7 : ((((w1.setCell ⟨w.heap.size + 1 + 1, 0, none⟩ (.int .i64 d0)).setCell ⟨w.heap.size + 1 + 1, 1, none⟩ (.int .i64 d1)).setCell ⟨w.heap.size + 1 + 1, 2, none⟩ (.int .i64 d2)).setCell ⟨w.heap.size + 1 + 1, 3, none⟩ (.int .i64 d3)).cell? ⟨w.heap.size, 7, none⟩ = some (.int .i64 d6) := by simp [go_sem, kw1_0_0, kw1_0_1, kw1_0_2, kw1_0_3, kw1_0_4, kw1_0_5, kw1_0_6, kw1_0_7, kw1_0_8, kw1_0_9, kw1_0_10, kw1_0_11]
  have y2_0_8 : ((((w1.setCell ⟨w.heap.size + 1 + 1, 0, none⟩ (.int .i64 d0)).setCell ⟨w.heap.size + 1 + 1, 1, none⟩ (.int .i64 d1)).setCell ⟨w.heap.size + 1 + 1, 2, none⟩ (.int .i64 d2)).setCell ⟨w.heap.size + 1 + 1, 3, none⟩ (.int .i64 d3)).cell? ⟨w.heap.size, 8, none⟩ = some (.int .i64 d7) := by simp [go_sem, kw1_0_0, kw1_0_1, kw1_0_2, kw1_0_3, kw1_0_4, kw1_0_5, kw1_0_6, kw1_0_7, kw1_0_8, kw1_0_9, kw1_0_10, kw1_0_11]
  have y2_0_9 : ((((w1.setCell ⟨w.heap.size + 1 + 1, 0, none⟩ (.int .i64 d0)).setCell ⟨w.heap.size + 1 + 1, 1, none⟩ (.int .i64 d1)).setCell ⟨w.heap.size + 1 + 1, 2, none⟩ (.int .i64 d2)).setCell ⟨w.heap.size + 1 + 1, 3, none⟩ (.int .i64 d3)).cell? ⟨w.heap.size, 9, none⟩ = some (.int .i64 d8) := by simp [go_sem, kw1_0_0, kw1_0_1, kw1_0_2, kw1_0_3, kw1_0_4, kw1_0_5, kw1_0_6, kw1_0_7, kw1_0_8, kw1_0_9, kw1_0_10, kw1_0_11]
  have y2_0_10 : ((((w1.setCell ⟨w.heap.size + 1 + 1, 0, none⟩ (.int .i64 d0)).setCell ⟨w.heap.size + 1 + 1, 1, none⟩ (.int .i64 d1)).setCell ⟨w.heap.size + 1 + 1, 2, none⟩ (.int .i64 d2)).setCell ⟨w.heap.size + 1 + 1, 3, none⟩ (.int .i64 d3)).cell? ⟨w.heap.size, 10, none⟩ = some (.int .i64 d9) := by simp [go_sem, kw1_0_0, kw1_0_1, kw1_0_2, kw1_0_3, kw1_0_4, kw1_0_5, kw1_0_6, kw1_0_7, kw1_0_8, kw1_0_9, kw1_0_10, kw1_0_11]
  have y2_0_11 : ((((w1.setCell ⟨w.heap.size + 1 + 1, 0, none⟩ (.int .i64 d0)).setCell ⟨w.heap.size + 1 + 1, 1, none⟩ (.int .i64 d1)).setCell ⟨w.heap.size + 1 + 1, 2, none⟩ (.int .i64 d2)).setCell ⟨w.heap.size + 1 + 1, 3, none⟩ (.int .i64 d3)).cell? ⟨w.heap.size, 11, none⟩ = some (.int .i64 d10) := by simp [go_sem, kw1_0_0, kw1_0_1, kw1_0_2, kw1_0_3, kw1_0_4, kw1_0_5, kw1_0_6, kw1_0_7, kw1_0_8, kw1_0_9, kw1_0_10, kw1_0_11]
  have z2_0 : w.heap.size < ((((w1.setCell ⟨w.heap.size + 1 + 1, 0, none⟩ (.int .i64 d0)).setCell ⟨w.heap.size + 1 + 1, 1, none⟩ (.int .i64 d1)).setCell ⟨w.heap.size + 1 + 1, 2, none⟩ (.int .i64 d2)).setCell ⟨w.heap.size + 1 + 1, 3, none⟩ (.int .i64 d3)).heap.size := by first | assumption | omega | (simp; done) | (simp; omega)
  have y2_1_0 : ((((w1.setCell ⟨w.heap.size + 1 + 1, 0, none⟩ (.int .i64 d0)).setCell ⟨w.heap.size + 1 + 1, 1, none⟩ (.int .i64 d1)).setCell ⟨w.heap.size + 1 + 1, 2, none⟩ (.int .i64 d2)).setCell ⟨w.heap.size + 1 + 1, 3, none⟩ (.int .i64 d3)).cell? ⟨w.heap.size + 1, 0, none⟩ = some (.int .i64 0) := by simp [go_sem, kw1_1_0, kw1_1_1, kw1_1_2, kw1_1_3, kw1_1_4, kw1_1_5, kw1_1_6, kw1_1_7, kw1_1_8, kw1_1_9, kw1_1_10, kw1_1_11, fw1_1_0, fw1_1_1, fw1_1_2, fw1_1_3, fw1_1_4, fw1_1_5, fw1_1_6, fw1_1_7, fw1_1_8, fw1_1_9, fw1_1_10, fw1_1_11]
  have g2_1_0 : ((((w1.setCell ⟨w.heap.size + 1 + 1, 0, none⟩ (.int .i64 d0)).setCell ⟨w.heap.size + 1 + 1, 1, none⟩ (.int .i64 d1)).setCell ⟨w.heap.size + 1 + 1, 2, none⟩ (.int .i64 d2)).setCell ⟨w.heap.size + 1 + 1, 3, none⟩ (.int .i64 d3)).frozen? ⟨w.heap.size + 1, 0, none⟩ = false := by simp [go_sem, kw1_1_0, kw1_1_1, kw1_1_2, kw1_1_3, kw1_1_4, kw1_1_5, kw1_1_6, kw1_1_7, kw1_1_8, kw1_1_9, kw1_1_10, kw1_1_11, fw1_1_0, fw1_1_1, fw1_1_2, fw1_1_3, fw1_1_4, fw1_1_5, fw1_1_6, fw1_1_7, fw1_1_8, fw1_1_9, fw1_1_10, fw1_1_11]
  have y2_1_1 : ((((w1.setCell ⟨w.heap.size + 1 + 1, 0, none⟩ (.int .i64 d0)).setCell ⟨w.heap.size + 1 + 1, 1, none⟩ (.int .i64 d1)).setCell ⟨w.heap.size + 1 + 1, 2, none⟩ (.int .i64 d2)).setCell ⟨w.heap.size + 1 + 1, 3, none⟩ (.int .i64 d3)).cell? ⟨w.heap.size + 1, 1, none⟩ = some (.int .i64 0) := by simp [go_sem, kw1_1_0, kw1_1_1, kw1_1_2, kw1_1_3, kw1_1_4, kw1_1_5, kw1_1_6, kw1_1_7, kw1_1_8, kw1_1_9, kw1_1_10, kw1_1_11, fw1_1_0, fw1_1_1, fw1_1_2, fw1_1_3, fw1_1_4, fw1_1_5, fw1_1_6, fw1_1_7, fw1_1_8, fw1_1_9, fw1_1_10, fw1_1_11]
  have g2_1_1 : ((((w1.setCell ⟨w.heap.size + 1 + 1, 0, none⟩ (.int .i64 d0)).setCell ⟨w.heap.size + 1 + 1, 1, none⟩ (.int .i64 d1)).setCell ⟨w.heap.size + 1 + 1, 2, none⟩ (.int .i64 d2)).setCell ⟨w.heap.size + 1 + 1, 3, none⟩ (.int .i64 d3)).frozen? ⟨w.heap.size + 1, 1, none⟩ = false := by simp [go_sem, kw1_1_0, kw1_1_1, kw1_1_2, kw1_1_3, kw1_1_4, kw1_1_5, kw1_1_6, kw1_1_7, kw1_1_8, kw1_1_9, kw1_1_10, kw1_1_11, fw1_1_0, fw1_1_1, fw1_1_2, fw1_1_3, fw1_1_4, fw1_1_5, fw1_1_6, fw1_1_7, fw1_1_8, fw1_1_9, fw1_1_10, fw1_1_11]
  have y2_1_2 : ((((w1.setCell ⟨w.heap.size + 1 + 1, 0, none⟩ (.int .i64 d0)).setCell ⟨w.heap.size + 1 + 1, 1, none⟩ (.int .i64 d1)).setCell ⟨w.heap.size + 1 + 1, 2, none⟩ (.int .i64 d2)).setCell ⟨w.heap.size + 1 + 1, 3, none⟩ (.int .i64 d3)).cell? ⟨w.heap.size + 1, 2, none⟩ = some (.int .i64 0) := by simp [go_sem, kw1_1_0, kw1_1_1, kw1_1_2, kw1_1_3, kw1_1_4, kw1_1_5, kw1_1_6, kw1_1_7, kw1_1_8, kw1_1_9, kw1_1_10, kw1_1_11, fw1_1_0, fw1_1_1, fw1_1_2, fw1_1_3, fw1_1_4, fw1_1_5, fw1_1_6, fw1_1_7, fw1_1_8, fw1_1_9, fw1_1_10, fw1_1_11]
  have g2_1_2 : ((((w1.setCell ⟨w.heap.size + 1 + 1, 0, none⟩ (.int .i64 d0)).setCell ⟨w.heap.size + 1 + 1, 1, none⟩ (.int .i64 d1)).setCell ⟨w.heap.size + 1 + 1, 2, none⟩ (.int .i64 d2)).setCell ⟨w.heap.size + 1 + 1, 3, none⟩ (.int .i64 d3)).frozen? ⟨w.heap.size + 1, 2, none⟩ = false := by simp [go_sem, kw1_1_0, kw1_1_1, kw1_1_2, kw1_1_3, kw1_1_4, kw1_1_5, kw1_1_6, kw1_1_7, kw1_1_8, kw1_1_9, kw1_1_10, kw1_1_11, fw1_1_0, fw1_1_1, fw1_1_2, fw1_1_3, fw1_1_4, fw1_1_5, fw1_1_6, fw1_1_7, fw1_1_8, fw1_1_9, fw1_1_10, fw1_1_11]
  have y2_1_3 : ((((w1.setCell ⟨w.heap.size + 1 + 1, 0, none⟩ (.int .i64 d0)).setCell ⟨w.heap.size + 1 + 1, 1, none⟩ (.int .i64 d1)).setCell ⟨w.heap.size + 1 + 1, 2, none⟩ (.int .i64 d2)).setCell ⟨w.heap.size + 1 + 1, 3, none⟩ (.int .i64 d3)).cell? ⟨w.heap.size + 1, 3, none⟩ = some (.int .i64 0) := by simp [go_sem, kw1_1_0, kw1_1_1, kw1_1_2, kw1_1_3, kw1_1_4, kw1_1_5, kw1_1_6, kw1_1_7, kw1_1_8, kw1_1_9, kw1_1_10, kw1_1_11, fw1_1_0, fw1_1_1, fw1_1_2, fw1_1_3, fw1_1_4, fw1_1_5, fw1_1_6, fw1_1_7, fw1_1_8, fw1_1_9, fw1_1_10, fw1_1_11]
  have g2_1_3 : ((((w1.setCell ⟨w.heap.size + 1 + 1, 0, none⟩ (.int .i64 d0)).setCell ⟨w.heap.size + 1 + 1, 1, none⟩ (.int .i64 d1)).setCell ⟨w.heap.size + 1 + 1, 2, none⟩ (.int .i64 d2)).setCell ⟨w.heap.size + 1 + 1, 3, none⟩ (.int .i64 d3)).frozen? ⟨w.heap.size + 1, 3, none⟩ = false := by simp [go_sem, kw1_1_0, kw1_1_1, kw1_1_2, kw1_1_3, kw1_1_4, kw1_1_5, kw1_1_6, kw1_1_7, kw1_1_8, kw1_1_9, kw1_1_10, kw1_1_11, fw1_1_0, fw1_1_1, fw1_1_2, fw1_1_3, fw1_1_4, fw1_1_5, fw1_1_6, fw1_1_7, fw1_1_8, fw1_1_9, fw1_1_10, fw1_1_11]
  have y2_1_4 : ((((w1.setCell ⟨w.heap.size + 1 + 1, 0, none⟩ (.int .i64 d0)).setCell ⟨w.heap.size + 1 + 1, 1, none⟩ (.int .i64 d1)).setCell ⟨w.heap.size + 1 + 1, 2, none⟩ (.int .i64 d2)).setCell ⟨w.heap.size + 1 + 1, 3, none⟩ (.int .i64 d3)).cell? ⟨w.heap.size + 1, 4, none⟩ = some (.slice none 0 0) := by simp [go_sem, kw1_1_0, kw1_1_1, kw1_1_2, kw1_1_3, kw1_1_4, kw1_1_5, kw1_1_6, kw1_1_7, kw1_1_8, kw1_1_9, kw1_1_10, kw1_1_11, fw1_1_0, fw1_1_1, fw1_1_2, fw1_1_3, fw1_1_4, fw1_1_5, fw1_1_6, fw1_1_7, fw1_1_8, fw1_1_9, fw1_1_10, fw1_1_11]
  have g2_1_4 : ((((w1.setCell ⟨w.heap.size + 1 + 1, 0, none⟩ (.int .i64 d0)).setCell ⟨w.heap.size + 1 + 1, 1, none⟩ (.int .i64 d1)).setCell ⟨w.heap.size + 1 + 1, 2, none⟩ (.int .i64 d2)).setCell ⟨w.heap.size + 1 + 1, 3, none⟩ (.int .i64 d3)).frozen? ⟨w.heap.size + 1, 4, none⟩ = false := by simp [go_sem, kw1_1_0, kw1_1_1, kw1_1_2, kw1_1_3, kw1_1_4, kw1_1_5, kw1_1_6, kw1_1_7, kw1_1_8, kw1_1_9, kw1_1_10, kw1_1_11, fw1_1_0, fw1_1_1, fw1_1_2, fw1_1_3, fw1_1_4, fw1_1_5, fw1_1_6, fw1_1_7, fw1_1_8, fw1_1_9, fw1_1_10, fw1_1_11]
  have y2_1_5 : ((((w1.setCell ⟨w.heap.size + 1 + 1, 0, none⟩ (.int .i64 d0)).setCell ⟨w.heap.size + 1 + 1, 1, none⟩ (.int .i64 d1)).setCell ⟨w.heap.size + 1 + 1, 2, none⟩ (.int .i64 d2)).setCell ⟨w.heap.size + 1 + 1, 3, none⟩ (.int .i64 d3)).cell? ⟨w.heap.size + 1, 5, none⟩ = some (.int .i64 0) := by simp [go_sem, kw1_1_0, kw1_1_1, kw1_1_2, kw1_1_3, kw1_1_4, kw1_1_5, kw1_1_6, kw1_1_7, kw1_1_8, kw1_1_9, kw1_1_10, kw1_1_11, fw1_1_0, fw1_1_1, fw1_1_2, fw1_1_3, fw1_1_4, fw1_1_5, fw1_1_6, fw1_1_7, fw1_1_8, fw1_1_9, fw1_1_10, fw1_1_11]
  have g2_1_5 : ((((w1.setCell ⟨w.heap.size + 1 + 1, 0, none⟩ (.int .i64 d0)).setCell ⟨w.heap.size + 1 + 1, 1, none⟩ (.int .i64 d1)).setCell ⟨w.heap.size + 1 + 1, 2, none⟩ (.int .i64 d2)).setCell ⟨w.heap.size + 1 + 1, 3, none⟩ (.int .i64 d3)).frozen? ⟨w.heap.size + 1, 5, none⟩ = false := by simp [go_sem, kw1_1_0, kw1_1_1, kw1_1_2, kw1_1_3, kw1_1_4, kw1_1_5, kw1_1_6, kw1_1_7, kw1_1_8, kw1_1_9, kw1_1_10, kw1_1_11, fw1_1_0, fw1_1_1, fw1_1_2, fw1_1_3, fw1_1_4, fw1_1_5, fw1_1_6, fw1_1_7, fw1_1_8, fw1_1_9, fw1_1_10, fw1_1_11]
  have y2_1_6 : ((((w1.setCell ⟨w.heap.size + 1 + 1, 0, none⟩ (.int .i64 d0)).setCell ⟨w.heap.size + 1 + 1, 1, none⟩ (.int .i64 d1)).setCell ⟨w.heap.size + 1 + 1, 2, none⟩ (.int .i64 d2)).setCell ⟨w.heap.size + 1 + 1, 3, none⟩ (.int .i64 d3)).cell? ⟨w.heap.size + 1, 6, none⟩ = some (.int .i64 0) := by simp [go_sem, kw1_1_0, kw1_1_1, kw1_1_2, kw1_1_3, kw1_1_4, kw1_1_5, kw1_1_6, kw1_1_7, kw1_1_8, kw1_1_9, kw1_1_10, kw1_1_11, fw1_1_0, fw1_1_1, fw1_1_2, fw1_1_3, fw1_1_4, fw1_1_5, fw1_1_6, fw1_1_7, fw1_1_8, fw1_1_9, fw1_1_10, fw1_1_11]
  have g2_1_6 : ((((w1.setCell ⟨w.heap.size + 1 + 1, 0, none⟩ (.int .i64 d0)).setCell ⟨w.heap.size + 1 + 1, 1, none⟩ (.int .i64 d1)).setCell ⟨w.heap.size + 1 + 1, 2, none⟩ (.int .i64 d2)).setCell ⟨w.heap.size + 1 + 1, 3, none⟩ (.int .i64 d3)).frozen? ⟨w.heap.size + 1, 6, none⟩ = false := by simp [go_sem, kw1_1_0, kw1_1_1, kw1_1_2, kw1_1_3, kw1_1_4, kw1_1_5, kw1_1_6, kw1_1_7, kw1_1_8, kw1_1_9, kw1_1_10, kw1_1_11, fw1_1_0, fw1_1_1, fw1_1_2, fw1_1_3, fw1_1_4, fw1_1_5, fw1_1_6, fw1_1_7, fw1_1_8, fw1_1_9, fw1_1_10, fw1_1_11]
  have y2_1_7 : ((((w1.setCell ⟨w.heap.size + 1 + 1, 0, none⟩ (.int .i64 d0)).setCell ⟨w.heap.size + 1 + 1, 1, none⟩ (.int .i64 d1)).setCell ⟨w.heap.size + 1 + 1, 2, none⟩ (.int .i64 d2)).setCell ⟨w.heap.size + 1 + 1, 3, none⟩ (.int .i64 d3)).cell? ⟨w.heap.size + 1, 7, none⟩ = some (.int .i64 0) := by simp [go_sem, kw1_1_0, kw1_1_1, kw1_1_2, kw1_1_3, kw1_1_4, kw1_1_5, kw1_1_6, kw1_1_7, kw1_1_8, kw1_1_9, kw1_1_10, kw1_1_11, fw1_1_0, fw1_1_1, fw1_1_2, fw1_1_3, fw1_1_4, fw1_1_5, fw1_1_6, fw1_1_7, fw1_1_8, fw1_1_9, fw1_1_10, fw1_1_11]
  have g2_1_7 : ((((w1.setCell ⟨w.heap.size + 1 + 1, 0, none⟩ (.int .i64 d0)).setCell ⟨w.heap.size + 1 + 1, 1, none⟩ (.int .i64 d1)).setCell ⟨w.heap.size + 1 + 1, 2, none⟩ (.int .i64 d2)).setCell ⟨w.heap.size + 1 + 1, 3, none⟩ (.int .i64 d3)).frozen? ⟨w.heap.size + 1, 7, none⟩ = false := by simp [go_sem, kw1_1_0, kw1_1_1, kw1_1_2, kw1_1_3, kw1_1_4, kw1_1_5, kw1_1_6, kw1_1_7, kw1_1_8, kw1_1_9, kw1_1_10, kw1_1_11, fw1_1_0, fw1_1_1, fw1_1_2, fw1_1_3, fw1_1_4, fw1_1_5, fw1_1_6, fw1_1_7, fw1_1_8, fw1_1_9, fw1_1_10, fw1_1_11]
  have y2_1_8 : ((((w1.setCell ⟨w.heap.size + 1 + 1, 0, none⟩ (.int .i64 d0)).setCell ⟨w.heap.size + 1 + 1, 1, none⟩ (.int .i64 d1)).setCell ⟨w.heap.size + 1 + 1, 2, none⟩ (.int .i64 d2)).setCell ⟨w.heap.size + 1 + 1, 3, none⟩ (.int .i64 d3)).cell? ⟨w.heap.size + 1, 8, none⟩ = some (.int .i64 0) := by simp [go_sem, kw1_1_0, kw1_1_1, kw1_1_2, kw1_1_3, kw1_1_4, kw1_1_5, kw1_1_6, kw1_1_7, kw1_1_8, kw1_1_9, kw1_1_10, kw1_1_11, fw1_1_0, fw1_1_1, fw1_1_2, fw1_1_3, fw1_1_4, fw1_1_5, fw1_1_6, fw1_1_7, fw1_1_8, fw1_1_9, fw1_1_10, fw1_1_11]
  have g2_1_8 : ((((w1.setCell ⟨w.heap.size + 1 + 1, 0, none⟩ (.int .i64 d0)).setCell ⟨w.heap.size + 1 + 1, 1, none⟩ (.int .i64 d1)).setCell ⟨w.heap.size + 1 + 1, 2, none⟩ (.int .i64 d2)).setCell ⟨w.heap.size + 1 + 1, 3, none⟩ (.int .i64 d3)).frozen? ⟨w.heap.size + 1, 8, none⟩ = false := by simp [go_sem, kw1_1_0, kw1_1_1, kw1_1_2, kw1_1_3, kw1_1_4, kw1_1_5, kw1_1_6, kw1_1_7, kw1_1_8, kw1_1_9, kw1_1_10, kw1_1_11, fw1_1_0, fw1_1_1, fw1_1_2, fw1_1_3, fw1_1_4, fw1_1_5, fw1_1_6, fw1_1_7, fw1_1_8, fw1_1_9, fw1_1_10, fw1_1_11]
  have y2_1_9 : ((((w1.setCell ⟨w.heap.size + 1 + 1, 0, none⟩ (.int .i64 d0)).setCell ⟨w.heap.size + 1 + 1, 1, none⟩ (.int .i64 d1)).setCell ⟨w.heap.size + 1 + 1, 2, none⟩ (.int .i64 d2)).setCell ⟨w.heap.size + 1 + 1, 3, none⟩ (.int .i64 d3)).cell? ⟨w.heap.size + 1, 9, none⟩ = some (.int .i64 0) := by simp [go_sem, kw1_1_0, kw1_1_1, kw1_1_2, kw1_1_3, kw1_1_4, kw1_1_5, kw1_1_6, kw1_1_7, kw1_1_8, kw1_1_9, kw1_1_10, kw1_1_11, fw1_1_0, fw1_1_1, fw1_1_2, fw1_1_3, fw1_1_4, fw1_1_5, fw1_1_6, fw1_1_7, fw1_1_8, fw1_1_9, fw1_1_10, fw1_1_11]
  have g2_1_9 : ((((w1.setCell ⟨w.heap.size + 1 + 1, 0, none⟩ (.int .i64 d0)).setCell ⟨w.heap.size + 1 + 1, 1, none⟩ (.int .i64 d1)).setCell ⟨w.heap.size + 1 + 1, 2, none⟩ (.int .i64 d2)).setCell ⟨w.heap.size + 1 + 1, 3, none⟩ (.int .i64 d3)).frozen? ⟨w.heap.size + 1, 9, none⟩ = false := by simp [go_sem, kw1_1_0, kw1_1_1, kw1_1_2, kw1_1_3, kw1_1_4, kw1_1_5, kw1_1_6, kw1_1_7, kw1_1_8, kw1_1_9, kw1_1_10, kw1_1_11, fw1_1_0, fw1_1_1, fw1_1_2, fw1_1_3, fw1_1_4, fw1_1_5, fw1_1_6, fw1_1_7, fw1_1_8, fw1_1_9, fw1_1_10, fw1_1_11]
  have y2_1_10 : ((((w1.setCell ⟨w.heap.size + 1 + 1, 0, none⟩ (.int .i64 d0)).setCell ⟨w.heap.size + 1 + 1, 1, none⟩ (.int .i64 d1)).setCell ⟨w.heap.size + 1 + 1, 2, none⟩ (.int .i64 d2)).setCell ⟨w.heap.size + 1 + 1, 3, none⟩ (.int .i64 d3)).cell? ⟨w.heap.size + 1, 10, none⟩ = some (.int .i64 0) := by simp [go_sem, kw1_1_0, kw1_1_1, kw1_1_2, kw1_1_3, kw1_1_4, kw1_1_5, kw1_1_6, kw1_1_7, kw1_1_8, kw1_1_9, kw1_1_10, kw1_1_11, fw1_1_0, fw1_1_1, fw1_1_2, fw1_1_3, fw1_1_4, fw1_1_5, fw1_1_6, fw1_1_7, fw1_1_8, fw1_1_9, fw1_1_10, fw1_1_11]
  have g2_1_10 : ((((w1.setCell ⟨w.heap.size + 1 + 1, 0, none⟩ (.int .i64 d0)).setCell ⟨w.heap.size + 1 + 1, 1, none⟩ (.int .i64 d1)).setCell ⟨w.heap.size + 1 + 1, 2, none⟩ (.int .i64 d2)).setCell ⟨w.heap.size + 1 + 1, 3, none⟩ (.int .i64 d3)).frozen? ⟨w.heap.size + 1, 10, none⟩ = false := by simp [go_sem, kw1_1_0, kw1_1_1, kw1_1_2, kw1_1_3, kw1_1_4, kw1_1_5, kw1_1_6, kw1_1_7, kw1_1_8, kw1_1_9, kw1_1_10, kw1_1_11, fw1_1_0, fw1_1_1, fw1_1_2, fw1_1_3, fw1_1_4, fw1_1_5, fw1_1_6, fw1_1_7, fw1_1_8, fw1_1_9, fw1_1_10, fw1_1_11]
  have y2_1_11 : ((((w1.setCell ⟨w.heap.size + 1 + 1, 0, none⟩ (.int .i64 d0)).setCell ⟨w.heap.size + 1 + 1, 1, none⟩ (.int .i64 d1)).setCell ⟨w.heap.size + 1 + 1, 2, none⟩ (.int .i64 d2)).setCell ⟨w.heap.size + 1 + 1, 3, none⟩ (.int .i64 d3)).cell? ⟨w.heap.size + 1, 11, none⟩ = some (.int .i64 0) := by simp [go_sem, kw1_1_0, kw1_1_1, kw1_1_2, kw1_1_3, kw1_1_4, kw1_1_5, kw1_1_6, kw1_1_7, kw1_1_8, kw1_1_9, kw1_1_10, kw1_1_11, fw1_1_0, fw1_1_1, fw1_1_2, fw1_1_3, fw1_1_4, fw1_1_5, fw1_1_6, fw1_1_7, fw1_1_8, fw1_1_9, fw1_1_10, fw1_1_11]
  have g2_1_11 : ((((w1.setCell ⟨w.heap.size + 1 + 1, 0, none⟩ (.int .i64 d0)).setCell ⟨w.heap.size + 1 + 1, 1, none⟩ (.int .i64 d1)).setCell ⟨w.heap.size + 1 + 1, 2, none⟩ (.int .i64 d2)).setCell ⟨w.heap.size + 1 + 1, 3, none⟩ (.int .i64 d3)).frozen? ⟨w.heap.size + 1, 11, none⟩ = false := by simp [go_sem, kw1_1_0, kw1_1_1, kw1_1_2, kw1_1_3, kw1_1_4, kw1_1_5, kw1_1_6, kw1_1_7, kw1_1_8, kw1_1_9, kw1_1_10, kw1_1_11, fw1_1_0, fw1_1_1, fw1_1_2, fw1_1_3, fw1_1_4, fw1_1_5, fw1_1_6, fw1_1_7, fw1_1_8, fw1_1_9, fw1_1_10, fw1_1_11]
  have z2_1 : w.heap.size + 1 < ((((w1.setCell ⟨w.heap.size + 1 + 1, 0, none⟩ (.int .i64 d0)).setCell ⟨w.heap.size + 1 + 1, 1, none⟩ (.int .i64 d1)).setCell ⟨w.heap.size + 1 + 1, 2, none⟩ (.int .i64 d2)).setCell ⟨w.heap.size + 1 + 1, 3, none⟩ (.int .i64 d3)).heap.size := by first | assumption | omega | (simp; done) | (simp; omega)
  have y2_2_0 : ((((w1.setCell ⟨w.heap.size + 1 + 1, 0, none⟩ (.int .i64 d0)).setCell ⟨w.heap.size + 1 + 1, 1, none⟩ (.int .i64 d1)).setCell ⟨w.heap.size + 1 + 1, 2, none⟩ (.int .i64 d2)).setCell ⟨w.heap.size + 1 + 1, 3, none⟩ (.int .i64 d3)).cell? ⟨w.heap.size + 1 + 1, 0, none⟩ = some (.int .i64 d0) := by simp [go_sem, kw1_2_0, kw1_2_1, kw1_2_2, kw1_2_3, kw1_2_4, kw1_2_5, kw1_2_6, kw1_2_7, kw1_2_8, kw1_2_9, kw1_2_10, kw1_2_11, fw1_2_0, fw1_2_1, fw1_2_2, fw1_2_3, fw1_2_4, fw1_2_5, fw1_2_6, fw1_2_7, fw1_2_8, fw1_2_9, fw1_2_10, fw1_2_11]
  have g2_2_0 : ((((w1.setCell ⟨w.heap.size + 1 + 1, 0, none⟩ (.int .i64 d0)).setCell ⟨w.heap.size + 1 + 1, 1, none⟩ (.int .i64 d1)).setCell ⟨w.heap.size + 1 + 1, 2, none⟩ (.int .i64 d2)).setCell ⟨w.heap.size + 1 + 1, 3, none⟩ (.int .i64 d3)).frozen? ⟨w.heap.size + 1 + 1, 0, none⟩ = false := by simp [go_sem, kw1_2_0, kw1_2_1, kw1_2_2, kw1_2_3, kw1_2_4, kw1_2_5, kw1_2_6, kw1_2_7, kw1_2_8, kw1_2_9, kw1_2_10, kw1_2_11, fw1_2_0, fw1_2_1, fw1_2_2, fw1_2_3, fw1_2_4, fw1_2_5, fw1_2_6, fw1_2_7, fw1_2_8, fw1_2_9, fw1_2_10, fw1_2_11]
  have y2_2_1 : ((((w1.setCell ⟨w.heap.size + 1 + 1, 0, none⟩ (.int .i64 d0)).setCell ⟨w.heap.size + 1 + 1, 1, none⟩ (.int .i64 d1)).setCell ⟨w.heap.size + 1 + 1, 2, none⟩ (.int .i64 d2)).setCell ⟨w.heap.size + 1 + 1, 3, none⟩ (.int .i64 d3)).cell? ⟨w.heap.size + 1 + 1, 1, none⟩ = some (.int .i64 d1) := by simp [go_sem, kw1_2_0, kw1_2_1, kw1_2_2, kw1_2_3, kw1_2_4, kw1_2_5, kw1_2_6, kw1_2_7, kw1_2_8, kw1_2_9, kw1_2_10, kw1_2_11, fw1_2_0, fw1_2_1, fw1_2_2, fw1_2_3, fw1_2_4, fw1_2_5, fw1_2_6, fw1_2_7, fw1_2_8, fw1_2_9, fw1_2_10, fw1_2_11]
  have g2_2_1 : ((((w1.setCell ⟨w.heap.size + 1 + 1, 0, none⟩ (.int .i64 d0)).setCell ⟨w.heap.size + 1 + 1, 1, none⟩ (.int .i64 d1)).setCell ⟨w.heap.size + 1 + 1, 2, none⟩ (.int .i64 d2)).setCell ⟨w.heap.size + 1 + 1, 3, none⟩ (.int .i64 d3)).frozen? ⟨w.heap.size + 1 + 1, 1, none⟩ = false := by simp [go_sem, kw1_2_0, kw1_2_1, kw1_2_2, kw1_2_3, kw1_2_4, kw1_2_5, kw1_2_6, kw1_2_7, kw1_2_8, kw1_2_9, kw1_2_10, kw1_2_11, fw1_2_0, fw1_2_1, fw1_2_2, fw1_2_3, fw1_2_4, fw1_2_5, fw1_2_6, fw1_2_7, fw1_2_8, fw1_2_9, fw1_2_10, fw1_2_11]
  have y2_2_2 : ((((w1.setCell ⟨w.heap.size + 1 + 1, 0, none⟩ (.int .i64 d0)).setCell ⟨w.heap.size + 1 + 1, 1, none⟩ (.int .i64 d1)).setCell ⟨w.heap.size + 1 + 1, 2, none⟩ (.int .i64 d2)).setCell ⟨w.heap.size + 1 + 1, 3, none⟩ (.int .i64 d3)).cell? ⟨w.heap.size + 1 + 1, 2, none⟩ = some (.int .i64 d2) := by simp [go_sem, kw1_2_0, kw1_2_1, kw1_2_2, kw1_2_3, kw1_2_4, kw1_2_5, kw1_2_6, kw1_2_7, kw1_2_8, kw1_2_9, kw1_2_10, kw1_2_11, fw1_2_0, fw1_2_1, fw1_2_2, fw1_2_3, fw1_2_4, fw1_2_5, fw1_2_6, fw1_2_7, fw1_2_8, fw1_2_9, fw1_2_10, fw1_2_11]
  have g2_2_2 : ((((w1.setCell ⟨w.heap.size + 1 + 1, 0, none⟩ (.int .i64 d0)).setCell ⟨w.heap.size + 1 + 1, 1, none⟩ (.int .i64 d1)).setCell ⟨w.heap.size + 1 + 1, 2, none⟩ (.int .i64 d2)).setCell ⟨w.heap.size + 1 + 1, 3, none⟩ (.int .i64 d3)).frozen? ⟨w.heap.size + 1 + 1, 2, none⟩ = false := by simp [go_sem, kw1_2_0, kw1_2_1, kw1_2_2, kw1_2_3, kw1_2_4, kw1_2_5, kw1_2_6, kw1_2_7, kw1_2_8, kw1_2_9, kw1_2_10, kw1_2_11, fw1_2_0, fw1_2_1, fw1_2_2, fw1_2_3, fw1_2_4, fw1_2_5, fw1_2_6, fw1_2_7, fw1_2_8, fw1_2_9, fw1_2_10, fw1_2_11]
  have y2_2_3 : ((((w1.setCell ⟨w.heap.size + 1 + 1, 0, none⟩ (.int .i64 d0)).setCell ⟨w.heap.size + 1 + 1, 1, none⟩ (.int .i64 d1)).setCell ⟨w.heap.size + 1 + 1, 2, none⟩ (.int .i64 d2)).setCell ⟨w.heap.size + 1 + 1, 3, none⟩ (.int .i64 d3)).cell? ⟨w.heap.size + 1 + 1, 3, none⟩ = some (.int .i64 d3) := by simp [go_sem, kw1_2_0, kw1_2_1, kw1_2_2, kw1_2_3, kw1_2_4, kw1_2_5, kw1_2_6, kw1_2_7, kw1_2_8, kw1_2_9, kw1_2_10, kw1_2_11, fw1_2_0, fw1_2_1, fw1_2_2, fw1_2_3, fw1_2_4, fw1_2_5, fw1_2_6, fw1_2_7, fw1_2_8, fw1_2_9, fw1_2_10, fw1_2_11]
  have g2_2_3 : ((((w1.setCell ⟨w.heap.size + 1 + 1, 0, none⟩ (.int .i64 d0)).setCell ⟨w.heap.size + 1 + 1, 1, none⟩ (.int .i64 d1)).setCell ⟨w.heap.size + 1 + 1, 2, none⟩ (.int .i64 d2)).setCell ⟨w.heap.size + 1 + 1, 3, none⟩ (.int .i64 d3)).frozen? ⟨w.heap.size + 1 + 1, 3, none⟩ = false := by simp [go_sem, kw1_2_0, kw1_2_1, kw1_2_2, kw1_2_3, kw1_2_4, kw1_2_5, kw1_2_6, kw1_2_7, kw1_2_8, kw1_2_9, kw1_2_10, kw1_2_11, fw1_2_0, fw1_2_1, fw1_2_2, fw1_2_3, fw1_2_4, fw1_2_5, fw1_2_6, fw1_2_7, fw1_2_8, fw1_2_9, fw1_2_10, fw1_2_11]
  have y2_2_4 : ((((w1.setCell ⟨w.heap.size + 1 + 1, 0, none⟩ (.int .i64 d0)).setCell ⟨w.heap.size + 1 + 1, 1, none⟩ (.int .i64 d1)).setCell ⟨w.heap.size + 1 + 1, 2, none⟩ (.int .i64 d2)).setCell ⟨w.heap.size + 1 + 1, 3, none⟩ (.int .i64 d3)).cell? ⟨w.heap.size + 1 + 1, 4, none⟩ = some (.slice none 0 0) := by simp [go_sem, kw1_2_0, kw1_2_1, kw1_2_2, kw1_2_3, kw1_2_4, kw1_2_5, kw1_2_6, kw1_2_7, kw1_2_8, kw1_2_9, kw1_2_10, kw1_2_11, fw1_2_0, fw1_2_1, fw1_2_2, fw1_2_3, fw1_2_4, fw1_2_5, fw1_2_6, fw1_2_7, fw1_2_8, fw1_2_9, fw1_2_10, fw1_2_11]
  have g2_2_4 : ((((w1.setCell ⟨w.heap.size + 1 + 1, 0, none⟩ (.int .i64 d0)).setCell ⟨w.heap.size + 1 + 1, 1, none⟩ (.int .i64 d1)).setCell ⟨w.heap.size + 1 + 1, 2, none⟩ (.int .i64 d2)).setCell ⟨w.heap.size + 1 + 1, 3, none⟩ (.int .i64 d3)).frozen? ⟨w.heap.size + 1 + 1, 4, none⟩ = false := by simp [go_sem, kw1_2_0, kw1_2_1, kw1_2_2, kw1_2_3, kw1_2_4, kw1_2_5, kw1_2_6, kw1_2_7, kw1_2_8, kw1_2_9, kw1_2_10, kw1_2_11, fw1_2_0, fw1_2_1, fw1_2_2, fw1_2_3, fw1_2_4, fw1_2_5, fw1_2_6, fw1_2_7, fw1_2_8, fw1_2_9, fw1_2_10, fw1_2_11]
  have y2_2_5 : ((((w1.setCell ⟨w.heap.size + 1 + 1, 0, none⟩ (.int .i64 d0)).setCell ⟨w.heap.size + 1 + 1, 1, none⟩ (.int .i64 d1)).setCell ⟨w.heap.size + 1 + 1, 2, none⟩ (.int .i64 d2)).setCell ⟨w.heap.size + 1 + 1, 3, none⟩ (.int .i64 d3)).cell? ⟨w.heap.size + 1 + 1, 5, none⟩ = some (.int .i64 0) := by simp [go_sem, kw1_2_0, kw1_2_1, kw1_2_2, kw1_2_3, kw1_2_4, kw1_2_5, kw1_2_6, kw1_2_7, kw1_2_8, kw1_2_9, kw1_2_10, kw1_2_11, fw1_2_0, fw1_2_1, fw1_2_2, fw1_2_3, fw1_2_4, fw1_2_5, fw1_2_6, fw1_2_7, fw1_2_8, fw1_2_9, fw1_2_10, fw1_2_11]
  have g2_2_5 : ((((w1.setCell ⟨w.heap.size + 1 + 1, 0, none⟩ (.int .i64 d0)).setCell ⟨w.heap.size + 1 + 1, 1, none⟩ (.int .i64 d1)).setCell ⟨w.heap.size + 1 + 1, 2, none⟩ (.int .i64 d2)).setCell ⟨w.heap.size + 1 + 1, 3, none⟩ (.int .i64 d3)).frozen? ⟨w.heap.size + 1 + 1, 5, none⟩ = false := by simp [go_sem, kw1_2_0, kw1_2_1, kw1_2_2, kw1_2_3, kw1_2_4, kw1_2_5, kw1_2_6, kw1_2_7, kw1_2_8, kw1_2_9, kw1_2_10, kw1_2_11, fw1_2_0, fw1_2_1, fw1_2_2, fw1_2_3, fw1_2_4, fw1_2_5, fw1_2_6, fw1_2_7, fw1_2_8, fw1_2_9, fw1_2_10, fw1_2_11]
  have y2_2_6 : ((((w1.setCell ⟨w.heap.size + 1 + 1, 0, none⟩ (.int .i64 d0)).setCell ⟨w.heap.size + 1 + 1, 1, none⟩ (.int .i64 d1)).setCell ⟨w.heap.size + 1 + 1, 2, none⟩ (.int .i64 d2)).setCell ⟨w.heap.size + 1 + 1, 3, none⟩ (.int .i64 d3)).cell? ⟨w.heap.size + 1 + 1, 6, none⟩ = some (.int .i64 0) := by simp [go_sem, kw1_2_0, kw1_2_1, kw1_2_2, kw1_2_3, kw1_2_4, kw1_2_5, kw1_2_6, kw1_2_7, kw1_2_8, kw1_2_9, kw1_2_10, kw1_2_11, fw1_2_0, fw1_2_1, fw1_2_2, fw1_2_3, fw1_2_4, fw1_2_5, fw1_2_6, fw1_2_7, fw1_2_8, fw1_2_9, fw1_2_10, fw1_2_11]
  have g2_2_6 : ((((w1.setCell ⟨w.heap.size + 1 + 1, 0, none⟩ (.int .i64 d0)).setCell ⟨w.heap.size + 1 + 1, 1, none⟩ (.int .i64 d1)).setCell ⟨w.heap.size + 1 + 1, 2, none⟩ (.int .i64 d2)).setCell ⟨w.heap.size + 1 + 1, 3, none⟩ (.int .i64 d3)).frozen? ⟨w.heap.size + 1 + 1, 6, none⟩ = false := by simp [go_sem, kw1_2_0, kw1_2_1, kw1_2_2, kw1_2_3, kw1_2_4, kw1_2_5, kw1_2_6, kw1_2_7, kw1_2_8, kw1_2_9, kw1_2_10, kw1_2_11, fw1_2_0, fw1_2_1, fw1_2_2, fw1_2_3, fw1_2_4, fw1_2_5, fw1_2_6, fw1_2_7, fw1_2_8, fw1_2_9, fw1_2_10, fw1_2_11]
  have y2_2_7 : ((((w1.setCell ⟨w.heap.size + 1 + 1, 0, none⟩ (.int .i64 d0)).setCell ⟨w.heap.size + 1 + 1, 1, none⟩ (.int .i64 d1)).setCell ⟨w.heap.size + 1 + 1, 2, none⟩ (.int .i64 d2)).setCell ⟨w.heap.size + 1 + 1, 3, none⟩ (.int .i64 d3)).cell? ⟨w.heap.size + 1 + 1, 7, none⟩ = some (.int .i64 0) := by simp [go_sem, kw1_2_0, kw1_2_1, kw1_2_2, kw1_2_3, kw1_2_4, kw1_2_5, kw1_2_6, kw1_2_7, kw1_2_8, kw1_2_9, kw1_2_10, kw1_2_11, fw1_2_0, fw1_2_1, fw1_2_2, fw1_2_3, fw1_2_4, fw1_2_5, fw1_2_6, fw1_2_7, fw1_2_8, fw1_2_9, fw1_2_10, fw1_2_11]
  have g2_2_7 : ((((w1.setCell ⟨w.heap.size + 1 + 1, 0, none⟩ (.int .i64 d0)).setCell ⟨w.heap.size + 1 + 1, 1, none⟩ (.int .i64 d1)).setCell ⟨w.heap.size + 1 + 1, 2, none⟩ (.int .i64 d2)).setCell ⟨w.heap.size + 1 + 1, 3, none⟩ (.int .i64 d3)).frozen? ⟨w.heap.size + 1 + 1, 7, none⟩ = false := by simp [go_sem, kw1_2_0, kw1_2_1, kw1_2_2, kw1_2_3, kw1_2_4, kw1_2_5, kw1_2_6, kw1_2_7, kw1_2_8, kw1_2_9, kw1_2_10, kw1_2_11, fw1_2_0, fw1_2_1, fw1_2_2, fw1_2_3, fw1_2_4, fw1_2_5, fw1_2_6, fw1_2_7, fw1_2_8, fw1_2_9, fw1_2_10, fw1_2_11]
  have y2_2_8 : ((((w1.setCell ⟨w.heap.size + 1 + 1, 0, none⟩ (.int .i64 d0)).setCell ⟨w.heap.size + 1 + 1, 1, none⟩ (.int .i64 d1)).setCell ⟨w.heap.size + 1 + 1, 2, none⟩ (.int .i64 d2)).setCell ⟨w.heap.size + 1 + 1, 3, none⟩ (.int .i64 d3)).cell? ⟨w.heap.size + 1 + 1, 8, none⟩ = some (.int .i64 0) := by simp [go_sem, kw1_2_0, kw1_2_1, kw1_2_2, kw1_2_3, kw1_2_4, kw1_2_5, kw1_2_6, kw1_2_7, kw1_2_8, kw1_2_9, kw1_2_10, kw1_2_11, fw1_2_0, fw1_2_1, fw1_2_2, fw1_2_3, fw1_2_4, fw1_2_5, fw1_2_6, fw1_2_7, fw1_2_8, fw1_2_9, fw1_2_10, fw1_2_11]
  have g2_2_8 : ((((w1.setCell ⟨w.heap.size + 1 + 1, 0, none⟩ (.int .i64 d0)).setCell ⟨w.heap.size + 1 + 1, 1, none⟩ (.int .i64 d1)).setCell ⟨w.heap.size + 1 + 1, 2, none⟩ (.int .i64 d2)).setCell ⟨w.heap.size + 1 + 1, 3, none⟩ (.int .i64 d3)).frozen? ⟨w.heap.size + 1 + 1, 8, none⟩ = false := by simp [go_sem, kw1_2_0, kw1_2_1, kw1_2_2, kw1_2_3, kw1_2_4, kw1_2_5, kw1_2_6, kw1_2_7, kw1_2_8, kw1_2_9, kw1_2_10, kw1_2_11, fw1_2_0, fw1_2_1, fw1_2_2, fw1_2_3, fw1_2_4, fw1_2_5, fw1_2_6, fw1_2_7, fw1_2_8, fw1_2_9, fw1_2_10, fw1_2_11]
  have y2_2_9 : ((((w1.setCell ⟨w.heap.size + 1 + 1, 0, none⟩ (.int .i64 d0)).setCell ⟨w.heap.size + 1 + 1, 1, none⟩ (.int .i64 d1)).setCell ⟨w.heap.size + 1 + 1, 2, none⟩ (.int .i64 d2)).setCell ⟨w.heap.size + 1 + 1, 3, none⟩ (.int .i64 d3)).cell? ⟨w.heap.size + 1 + 1, 9, none⟩ = some (.int .i64 0) := by simp [go_sem, kw1_2_0, kw1_2_1, kw1_2_2, kw1_2_3, kw1_2_4, kw1_2_5, kw1_2_6, kw1_2_7, kw1_2_8, kw1_2_9, kw1_2_10, kw1_2_11, fw1_2_0, fw1_2_1, fw1_2_2, fw1_2_3, fw1_2_4, fw1_2_5, fw1_2_6, fw1_2_7, fw1_2_8, fw1_2_9, fw1_2_10, fw1_2_11]
  have g2_2_9 : ((((w1.setCell ⟨w.heap.size + 1 + 1, 0, none⟩ (.int .i64 d0)).setCell ⟨w.heap.size + 1 + 1, 1, none⟩ (.int .i64 d1)).setCell ⟨w.heap.size + 1 + 1, 2, none⟩ (.int .i64 d2)).setCell ⟨w.heap.size + 1 + 1, 3, none⟩ (.int .i64 d3)).frozen? ⟨w.heap.size + 1 + 1, 9, none⟩ = false := by simp [go_sem, kw1_2_0, kw1_2_1, kw1_2_2, kw1_2_3, kw1_2_4, kw1_2_5, kw1_2_6, kw1_2_7, kw1_2_8, kw1_2_9, kw1_2_10, kw1_2_11, fw1_2_0, fw1_2_1, fw1_2_2, fw1_2_3, fw1_2_4, fw1_2_5, fw1_2_6, fw1_2_7, fw1_2_8, fw1_2_9, fw1_2_10, fw1_2_11]
  have y2_2_10 : ((((w1.setCell ⟨w.heap.size + 1 + 1, 0, none⟩ (.int .i64 d0)).setCell ⟨w.heap.size + 1 + 1, 1, none⟩ (.int .i64 d1)).setCell ⟨w.heap.size + 1 + 1, 2, none⟩ (.int .i64 d2)).setCell ⟨w.heap.size + 1 + 1, 3, none⟩ (.int .i64 d3)).cell? ⟨w.heap.size + 1 + 1, 10, none⟩ = some (.int .i64 0) := by simp [go_sem, kw1_2_0, kw1_2_1, kw1_2_2, kw1_2_3, kw1_2_4, kw1_2_5, kw1_2_6, kw1_2_7, kw1_2_8, kw1_2_9, kw1_2_10, kw1_2_11, fw1_2_0, fw1_2_1, fw1_2_2, fw1_2_3, fw1_2_4, fw1_2_5, fw1_2_6, fw1_2_7, fw1_2_8, fw1_2_9, fw1_2_10, fw1_2_11]
  have g2_2_10 : ((((w1.setCell ⟨w.heap.size + 1 + 1, 0, none⟩ (.int .i64 d0)).setCell ⟨w.heap.size + 1 + 1, 1, none⟩ (.int .i64 d1)).setCell ⟨w.heap.size + 1 + 1, 2, none⟩ (.int .i64 d2)).setCell ⟨w.heap.size + 1 + 1, 3, none⟩ (.int .i64 d3)).frozen? ⟨w.heap.size + 1 + 1, 10, none⟩ = false := by simp [go_sem, kw1_2_0, kw1_2_1, kw1_2_2, kw1_2_3, kw1_2_4, kw1_2_5, kw1_2_6, kw1_2_7, kw1_2_8, kw1_2_9, kw1_2_10, kw1_2_11, fw1_2_0, fw1_2_1, fw1_2_2, fw1_2_3, fw1_2_4, fw1_2_5, fw1_2_6, fw1_2_7, fw1_2_8, fw1_2_9, fw1_2_10, fw1_2_11]
  have y2_2_11 : ((((w1.setCell ⟨w.heap.size + 1 + 1, 0, none⟩ (.int .i64 d0)).setCell ⟨w.heap.size + 1 + 1, 1, none⟩ (.int .i64 d1)).setCell ⟨w.heap.size + 1 + 1, 2, none⟩ (.int .i64 d2)).setCell ⟨w.heap.size + 1 + 1, 3, none⟩ (.int .i64 d3)).cell? ⟨w.heap.size + 1 + 1, 11, none⟩ = some (.int .i64 0) := by simp [go_sem, kw1_2_0, kw1_2_1, kw1_2_2, kw1_2_3, kw1_2_4, kw1_2_5, kw1_2_6, kw1_2_7, kw1_2_8, kw1_2_9, kw1_2_10, kw1_2_11, fw1_2_0, fw1_2_1, fw1_2_2, fw1_2_3, fw1_2_4, fw1_2_5, fw1_2_6, fw1_2_7, fw1_2_8, fw1_2_9, fw1_2_10, fw1_2_11]
  have g2_2_11 : ((((w1.setCell ⟨w.heap.size + 1 + 1, 0, none⟩ (.int .i64 d0)).setCell ⟨w.heap.size + 1 + 1, 1, none⟩ (.int .i64 d1)).setCell ⟨w.heap.size + 1 + 1, 2, none⟩ (.int .i64 d2)).setCell ⟨w.heap.size + 1 + 1, 3, none⟩ (.int .i64 d3)).frozen? ⟨w.heap.size + 1 + 1, 11, none⟩ = false := by simp [go_sem, kw1_2_0, kw1_2_1, kw1_2_2, kw1_2_3, kw1_2_4, kw1_2_5, kw1_2_6, kw1_2_7, kw1_2_8, kw1_2_9, kw1_2_10, kw1_2_11, fw1_2_0, fw1_2_1, fw1_2_2, fw1_2_3, fw1_2_4, fw1_2_5, fw1_2_6, fw1_2_7, fw1_2_8, fw1_2_9, fw1_2_10, fw1_2_11]
  have z2_2 : w.heap.size + 1 + 1 < ((((w1.setCell ⟨w.heap.size + 1 + 1, 0, none⟩ (.int .i64 d0)).setCell ⟨w.heap.size + 1 + 1, 1, none⟩ (.int .i64 d1)).setCell ⟨w.heap.size + 1 + 1, 2, none⟩ (.int .i64 d2)).setCell ⟨w.heap.size + 1 + 1, 3, none⟩ (.int .i64 d3)).heap.size := by first | assumption | omega | (simp; done) | (simp; omega)
  have HBy2 := Lib.hid (show Below w.heap.size w ((((w1.setCell ⟨w.heap.size + 1 + 1, 0, none⟩ (.int .i64 d0)).setCell ⟨w.heap.size + 1 + 1, 1, none⟩ (.int .i64 d1)).setCell ⟨w.heap.size + 1 + 1, 2, none⟩ (.int .i64 d2)).setCell ⟨w.heap.size + 1 + 1, 3, none⟩ (.int .i64 d3)) by repeat (first | exact HBw1.out | exact Below.refl _ _ | refine bl_alloc ?_ _ | refine bl_drewN ?_ _ | refine bl_trans (by assumption) ?_ | refine bl_set ?_ (by first | omega | (simp; done) | (simp; omega)) _))
  clear kw1_0_0 kw1_0_1 kw1_0_2 kw1_0_3 kw1_0_4 kw1_0_5 kw1_0_6 kw1_0_7 kw1_0_8 kw1_0_9 kw1_0_10 kw1_0_11 sw1_0 kw1_1_0 kw1_1_1 kw1_1_2 kw1_1_3 kw1_1_4 kw1_1_5 kw1_1_6 kw1_1_7 kw1_1_8 kw1_1_9 kw1_1_10 kw1_1_11 fw1_1_0 fw1_1_1 fw1_1_2 fw1_1_3 fw1_1_4 fw1_1_5 fw1_1_6 fw1_1_7 fw1_1_8 fw1_1_9 fw1_1_10 fw1_1_11 sw1_1 kw1_2_0 kw1_2_1 kw1_2_2 kw1_2_3 kw1_2_4 kw1_2_5 kw1_2_6 kw1_2_7 kw1_2_8 kw1_2_9 kw1_2_10 kw1_2_11 fw1_2_0 fw1_2_1 fw1_2_2 fw1_2_3 fw1_2_4 fw1_2_5 fw1_2_6 fw1_2_7 fw1_2_8 fw1_2_9 fw1_2_10 fw1_2_11 sw1_2
  generalize ((((w1.setCell ⟨w.heap.size + 1 + 1, 0, none⟩ (.int .i64 d0)).setCell ⟨w.heap.size + 1 + 1, 1, none⟩ (.int .i64 d1)).setCell ⟨w.heap.size + 1 + 1, 2, none⟩ (.int .i64 d2)).setCell ⟨w.heap.size + 1 + 1, 3, none⟩ (.int .i64 d3)) = wy2 at *
  go_wp2_with fail
  refine (toPoleS_any _ n f _ (HH.out.keep (by repeat (first | exact HBw1.out | exact Below.refl _ _ | refine bl_alloc ?_ _ | refine bl_drewN ?_ _ | refine bl_trans (by assumption) ?_ | refine bl_set ?_ (by first | omega | (simp; done) | (simp; omega)) _))) hn).mono ?_
  rintro e w2 ⟨u, rfl, hO, hbw2⟩
  obtain ⟨hcw2, hfw2⟩ := bcell hbw2
  have hzw2 := bsize hbw2
  (try simp only [World.size_alloc, World.size_setCell] at hzw2)
  have hkw2 : Below wy2.heap.size wy2 w2 := (by repeat (first | exact Below.refl _ _ | refine bl_alloc ?_ _ | refine bl_drewN ?_ _ | refine bl_trans (by assumption) ?_ | refine bl_set ?_ (by first | omega | (simp; done) | (simp; omega)) _))
  have hO := hO.lower (C := w.heap.size + 1 + 1 + 1) (by first | omega | (simp; omega))
  obtain ⟨a1, c1, rfl⟩ := hO.toP.shape
  have HO := Lib.hid hO
  clear hO
  have kw2_0_0 : w2.cell? ⟨w.heap.size, 0, none⟩ = some (.int .i64 d0) := cell_after hkw2 z2_0 y2_0_0
  have kw2_0_1 : w2.cell? ⟨w.heap.size, 1, none⟩ = some (.int .i64 d1) := cell_after hkw2 z2_0 y2_0_1
  have kw2_0_2 : w2.cell? ⟨w.heap.size, 2, none⟩ = some (.int .i64 d2) := cell_after hkw2 z2_0 y2_0_2
  have kw2_0_3 : w2.cell? ⟨w.heap.size, 3, none⟩ = some (.int .i64 d3) := cell_after hkw2 z2_0 y2_0_3
  have kw2_0_4 : w2.cell? ⟨w.heap.size, 4, none⟩ = some (.slice a n c) := cell_after hkw2 z2_0 y2_0_4
  have kw2_0_5 : w2.cell? ⟨w.heap.size, 5, none⟩ = some (.int .i64 d4) := cell_after hkw2 z2_0 y2_0_5
  have kw2_0_6 : w2.cell? ⟨w.heap.size, 6, none⟩ = some (.int .i64 d5) := cell_after hkw2 z2_0 y2_0_6
  have kw2_0_7 : w2.cell? ⟨w.heap.size, 7, none⟩ = some (.int .i64 d6) := cell_after hkw2 z2_0 y2_0_7
  have kw2_0_8 : w2.cell? ⟨w.heap.size, 8, none⟩ = some (.int .i64 d7) := cell_after hkw2 z2_0 y2_0_8
  have kw2_0_9 : w2.cell? ⟨w.heap.size, 9, none⟩ = some (.int .i64 d8) := cell_after hkw2 z2_0 y2_0_9
  have kw2_0_10 : w2.cell? ⟨w.heap.size, 10, none⟩ = some (.int .i64 d9) := cell_after hkw2 z2_0 y2_0_10
  have kw2_0_11 : w2.cell? ⟨w.heap.size, 11, none⟩ = some (.int .i64 d10) := cell_after hkw2 z2_0 y2_0_11
  have sw2_0 : w.heap.size < w2.heap.size := size_after hkw2 z2_0
  have kw2_1_0 : w2.cell? ⟨w.heap.size + 1, 0, none⟩ = some (.int .i64 0) := cell_after hkw2 z2_1 y2_1_0
  have fw2_1_0 : w2.frozen? ⟨w.heap.size + 1, 0, none⟩ = false := frozen_after hkw2 z2_1 g2_1_0
  have kw2_1_1 : w2.cell? ⟨w.heap.size + 1, 1, none⟩ = some (.int .i64 0) := cell_after hkw2 z2_1 y2_1_1
  have fw2_1_1 : w2.frozen? ⟨w.heap.size + 1, 1, none⟩ = false := frozen_after hkw2 z2_1 g2_1_1
  have kw2_1_2 : w2.cell? ⟨w.heap.size + 1, 2, none⟩ = some (.int .i64 0) := cell_after hkw2 z2_1 y2_1_2
  have fw2_1_2 : w2.frozen? ⟨w.heap.size + 1, 2, none⟩ = false := frozen_after hkw2 z2_1 g2_1_2
  have kw2_1_3 : w2.cell? ⟨w.heap.size + 1, 3, none⟩ = some (.int .i64 0) := cell_after hkw2 z2_1 y2_1_3
  have fw2_1_3 : w2.frozen? ⟨w.heap.size + 1, 3, none⟩ = false := frozen_after hkw2 z2_1 g2_1_3
  have kw2_1_4 : w2.cell? ⟨w.heap.size + 1, 4, none⟩ = some (.slice none 0 0) := cell_after hkw2 z2_1 y2_1_4
  have fw2_1_4 : w2.frozen? ⟨w.heap.size + 1, 4, none⟩ = false := frozen_after hkw2 z2_1 g2_1_4
  have kw2_1_5 : w2.cell? ⟨w.heap.size + 1, 5, none⟩ = some (.int .i64 0) := cell_after hkw2 z2_1 y2_1_5
  have fw2_1_5 : w2.frozen? ⟨w.heap.size + 1, 5, none⟩ = false := frozen_after hkw2 z2_1 g2_1_5
  have kw2_1_6 : w2.cell? ⟨w.heap.size + 1, 6, none⟩ = some (.int .i64 0) := cell_after hkw2 z2_1 y2_1_6
  have fw2_1_6 : w2.frozen? ⟨w.heap.size + 1, 6, none⟩ = false := frozen_after hkw2 z2_1 g2_1_6
  have kw2_1_7 : w2.cell? ⟨w.heap.size + 1, 7, none⟩ = some (.int .i64 0) := cell_after hkw2 z2_1 y2_1_7
  have fw2_1_7 : w2.frozen? ⟨w.heap.size + 1, 7, none⟩ = false := frozen_after hkw2 z2_1 g2_1_7
  have kw2_1_8 : w2.cell? ⟨w.heap.size + 1, 8, none⟩ = some (.int .i64 0) := cell_after hkw2 z2_1 y2_1_8
  have fw2_1_8 : w2.frozen? ⟨w.heap.size + 1, 8, none⟩ = false := frozen_after hkw2 z2_1 g2_1_8
  have kw2_1_9 : w2.cell? ⟨w.heap.size + 1, 9, none⟩ = some (.int .i64 0) := cell_after hkw2 z2_1 y2_1_9
  have fw2_1_9 : w2.frozen? ⟨w.heap.size + 1, 9, none⟩ = false := frozen_after hkw2 z2_1 g2_1_9
  have kw2_1_10 : w2.cell? ⟨w.heap.size + 1, 10, none⟩ = some (.int .i64 0) := cell_after hkw2 z2_1 y2_1_10
  have fw2_1_10 : w2.frozen? ⟨w.heap.size + 1, 10, none⟩ = false := frozen_after hkw2 z2_1 g2_1_10
  have kw2_1_11 : w2.cell? ⟨w.heap.size + 1, 11, none⟩ = some (.int .i64 0) := cell_after hkw2 z2_1 y2_1_11
  have fw2_1_11 : w2.frozen? ⟨w.heap.size + 1, 11, none⟩ = false := frozen_after hkw2 z2_1 g2_1_11
  have sw2_1 : w.heap.size + 1 < w2.heap.size := size_after hkw2 z2_1
  have kw2_2_0 : w2.cell? ⟨w.heap.size + 1 + 1, 0, none⟩ = some (.int .i64 d0) := cell_after hkw2 z2_2 y2_2_0
  have fw2_2_0 : w2.frozen? ⟨w.heap.size + 1 + 1, 0, none⟩ = false := frozen_after hkw2 z2_2 g2_2_0
  have kw2_2_1 : w2.cell? ⟨w.heap.size + 1 + 1, 1, none⟩ = some (.int .i64 d1) := cell_after hkw2 z2_2 y2_2_1
  have fw2_2_1 : w2.frozen? ⟨w.heap.size + 1 + 1, 1, none⟩ = false := frozen_after hkw2 z2_2 g2_2_1
  have kw2_2_2 : w2.cell? ⟨w.heap.size + 1 + 1, 2, none⟩ = some (.int .i64 d2) := cell_after hkw2 z2_2 y2_2_2
  have fw2_2_2 : w2.frozen? ⟨w.heap.size + 1 + 1, 2, none⟩ = false := frozen_after hkw2 z2_2 g2_2_2
  have kw2_2_3 : w2.cell? ⟨w.heap.size + 1 + 1, 3, none⟩ = some (.int .i64 d3) := cell_after hkw2 z2_2 y2_2_3
  have fw2_2_3 : w2.frozen? ⟨w.heap.size + 1 + 1, 3, none⟩ = false := frozen_after hkw2 z2_2 g2_2_3
  have kw2_2_4 : w2.cell? ⟨w.heap.size + 1 + 1, 4, none⟩ = some (.slice none 0 0) := cell_after hkw2 z2_2 y2_2_4
  have fw2_2_4 : w2.frozen? ⟨w.heap.size + 1 + 1, 4, none⟩ = false := frozen_after hkw2 z2_2 g2_2_4
  have kw2_2_5 : w2.cell? ⟨w.heap.size + 1 + 1, 5, none⟩ = some (.int .i64 0) := cell_after hkw2 z2_2 y2_2_5
  have fw2_2_5 : w2.frozen? ⟨w.heap.size + 1 + 1, 5, none⟩ = false := frozen_after hkw2 z2_2 g2_2_5
  have kw2_2_6 : w2.cell? ⟨w.heap.size + 1 + 1, 6, none⟩ = some (.int .i64 0) := cell_after hkw2 z2_2 y2_2_6
  have fw2_2_6 : w2.frozen? ⟨w.heap.size + 1 + 1, 6, none⟩ = false := frozen_after hkw2 z2_2 g2_2_6
  have kw2_2_7 : w2.cell? ⟨w.heap.size + 1 + 1, 7, none⟩ = some (.int .i64 0) := cell_after hkw2 z2_2 y2_2_7
  have fw2_2_7 : w2.frozen? ⟨w.heap.size + 1 + 1, 7, none⟩ = false := frozen_after hkw2 z2_2 g2_2_7
  have kw2_2_8 : w2.cell? ⟨w.heap.size + 1 + 1, 8, none⟩ = some (.int .i64 0) := cell_after hkw2 z2_2 y2_2_8
  have fw2_2_8 : w2.frozen? ⟨w.heap.size + 1 + 1, 8, none⟩ = false := frozen_after hkw2 z2_2 g2_2_8
  have kw2_2_9 : w2.cell? ⟨w.heap.size + 1 + 1, 9, none⟩ = some (.int .i64 0) := cell_after hkw2 z2_2 y2_2_9
  have fw2_2_9 : w2.frozen? ⟨w.heap.size + 1 + 1, 9, none⟩ = false := frozen_after hkw2 z2_2 g2_2_9
  have kw2_2_10 : w2.cell? ⟨w.heap.size + 1 + 1, 10, none⟩ = some (.int .i64 0) := cell_after hkw2 z2_2 y2_2_10
  have fw2_2_10 : w2.frozen? ⟨w.heap.size + 1 + 1, 10, none⟩ = false := frozen_after hkw2 z2_2 g2_2_10
  have kw2_2_11 : w2.cell? ⟨w.heap.size + 1 + 1, 11, none⟩ = some (.int .i64 0) := cell_after hkw2 z2_2 y2_2_11
  have fw2_2_11 : w2.frozen? ⟨w.heap.size + 1 + 1, 11, none⟩ = false := frozen_after hkw2 z2_2 g2_2_11
  have sw2_2 : w.heap.size + 1 + 1 < w2.heap.size := size_after hkw2 z2_2
  have hBw2 : Below w.heap.size w w2 := (by repeat (first | exact HBy2.out | exact Below.refl _ _ | refine bl_alloc ?_ _ | refine bl_drewN ?_ _ | refine bl_trans (by assumption) ?_ | refine bl_set ?_ (by first | omega | (simp; done) | (simp; omega)) _))
  have HBw2 := Lib.hid hBw2
  clear hBw2 hcw2 hfw2 hbw2 hkw2 y2_0_0 y2_0_1 y2_0_2 y2_0_3 y2_0_4 y2_0_5 y2_0_6 y2_0_7 y2_0_8 y2_0_9 y2_0_10 y2_0_11 z2_0 y2_1_0 y2_1_1 y2_1_2 y2_1_3 y2_1_4 y2_1_5 y2_1_6 y2_1_7 y2_1_8 y2_1_9 y2_1_10 y2_1_11 g2_1_0 g2_1_1 g2_1_2 g2_1_3 g2_1_4 g2_1_5 g2_1_6 g2_1_7 g2_1_8 g2_1_9 g2_1_10 g2_1_11 z2_1 y2_2_0 y2_2_1 y2_2_2 y2_2_3 y2_2_4 y2_2_5 y2_2_6 y2_2_7 y2_2_8 y2_2_9 y2_2_10 y2_2_11 g2_2_0 g2_2_1 g2_2_2 g2_2_3 g2_2_4 g2_2_5 g2_2_6 g2_2_7 g2_2_8 g2_2_9 g2_2_10 g2_2_11 z2_2
  go_wp2_with fail
  have y3_0_0 : (w2.setCell ⟨w.heap.size + 1 + 1, 4, none⟩ (.slice a1 n c1)).cell? ⟨w.heap.size, 0, none⟩ = some (.int .i64 d0) := by simp [go_sem, kw2_0_0, kw2_0_1, kw2_0_2, kw2_0_3, kw2_0_4, kw2_0_5, kw2_0_6, kw2_0_7, kw2_0_8, kw2_0_9, kw2_0_10, kw2_0_11]
  have y3_0_1 : (w2.setCell ⟨w.heap.size + 1 + 1, 4, none⟩ (.slice a1 n c1)).cell? ⟨w.heap.size, 1, none⟩ = some (.int .i64 d1) := by simp [go_sem, kw2_0_0, kw2_0_1, kw2_0_2, kw2_0_3, kw2_0_4, kw2_0_5, kw2_0_6, kw2_0_7, kw2_0_8, kw2_0_9, kw2_0_10, kw2_0_11]
  have y3_0_2 : (w2.setCell ⟨w.heap.size + 1 + 1, 4, none⟩ (.slice a1 n c1)).cell? ⟨w.heap.size, 2, none⟩ = some (.int .i64 d2) := by simp [go_sem, kw2_0_0, kw2_0_1, kw2_0_2, kw2_0_3, kw2_0_4, kw2_0_5, kw2_0_6, kw2_0_7, kw2_0_8, kw2_0_9, kw2_0_10, kw2_0_11]
  have y3_0_3 : (w2.setCell ⟨w.heap.size + 1 + 1, 4, none⟩ (.slice a1 n c1)).cell? ⟨w.heap.size, 3, none⟩ = some (.int .i64 d3) := by simp [go_sem, kw2_0_0, kw2_0_1, kw2_0_2, kw2_0_3, kw2_0_4, kw2_0_5, kw2_0_6, kw2_0_7, kw2_0_8, kw2_0_9, kw2_0_10, kw2_0_11]
  have y3_0_4 : (w2.setCell ⟨w.heap.size + 1 + 1, 4, none⟩ (.slice a1 n c1)).cell? ⟨w.heap.size, 4, none⟩ = some (.slice a n c) := by simp [go_sem, kw2_0_0, kw2_0_1, kw2_0_2, kw2_0_3, kw2_0_4, kw2_0_5, kw2_0_6, kw2_0_7, kw2_0_8, kw2_0_9, kw2_0_10, kw2_0_11]
  have y3_0_5 : (w2.setCell ⟨w.heap.size + 1 + 1, 4, none⟩ (.slice a1 n c1)).cell? ⟨w.heap.size, 5, none⟩ = some (.int .i64 d4) := by simp [go_sem, kw2_0_0, kw2_0_1, kw2_0_2, kw2_0_3, kw2_0_4, kw2_0_5, kw2_0_6, kw2_0_7, kw2_0_8, kw2_0_9, kw2_0_10, kw2_0_11]
  have y3_0_6 : (w2.setCell ⟨w.heap.size + 1 + 1, 4, none⟩ (.slice a1 n c1)).cell? ⟨w.heap.size, 6, none⟩ = some (.int .i64 d5) := by simp [go_sem, kw2_0_0, kw2_0_1, kw2_0_2, kw2_0_3, kw2_0_4, kw2_0_5, kw2_0_6, kw2_0_7, kw2_0_8, kw2_0_9, kw2_0_10, kw2_0_11]
  have y3_0_7 : (w2.setCell ⟨w.heap.size + 1 + 1, 4, none⟩ (.slice a1 n c1)).cell? ⟨w.heap.size, 7, none⟩ = some (.int .i64 d6) := by simp [go_sem, kw2_0_0, kw2_0_1, kw2_0_2, kw2_0_3, kw2_0_4, kw2_0_5, kw2_0_6, kw2_0_7, kw2_0_8, kw2_0_9, kw2_0_10, kw2_0_11]
  have y3_0_8 : (w2.setCell ⟨w.heap.size + 1 + 1, 4, none⟩ (.slice a1 n c1)).cell? ⟨w.heap.size, 8, none⟩ = some (.int .i64 d7) := by simp [go_sem, kw2_0_0, kw2_0_1, kw2_0_2, kw2_0_3, kw2_0_4, kw2_0_5, kw2_0_6, kw2_0_7, kw2_0_8, kw2_0_9, kw2_0_10, kw2_0_11]
  have y3_0_9 : (w2.setCell ⟨w.heap.size + 1 + 1, 4, none⟩ (.slice a1 n c1)).cell? ⟨w.heap.size, 9, none⟩ = some (.int .i64 d8) := by simp [go_sem, kw2_0_0, kw2_0_1, kw2_0_2, kw2_0_3, kw2_0_4, kw2_0_5, kw2_0_6, kw2_0_7, kw2_0_8, kw2_0_9, kw2_0_10, kw2_0_11]
  have y3_0_10 : (w2.setCell ⟨w.heap.size + 1 + 1, 4, none⟩ (.slice a1 n c1)).cell? ⟨w.heap.size, 10, none⟩ = some (.int .i64 d9) := by simp [go_sem, kw2_0_0, kw2_0_1, kw2_0_2, kw2_0_3, kw2_0_4, kw2_0_5, kw2_0_6, kw2_0_7, kw2_0_8, kw2_0_9, kw2_0_10, kw2_0_11]
  have y3_0_11 : (w2.setCell ⟨w.heap.size + 1 + 1, 4, none⟩ (.slice a1 n c1)).cell? ⟨w.heap.size, 11, none⟩ = some (.int .i64 d10) := by simp [go_sem, kw2_0_0, kw2_0_1, kw2_0_2, kw2_0_3, kw2_0_4, kw2_0_5, kw2_0_6, kw2_0_7, kw2_0_8, kw2_0_9, kw2_0_10, kw2_0_11]
  have z3_0 : w.heap.size < (w2.setCell ⟨w.heap.size + 1 + 1, 4, none⟩ (.slice a1 n c1)).heap.size := by first | assumption | omega | (simp; done) | (simp; omega)
  have y3_1_0 : (w2.setCell ⟨w.heap.size + 1 + 1, 4, none⟩ (.slice a1 n c1)).cell? ⟨w.heap.size + 1, 0, none⟩ = some (.int .i64 0) := by simp [go_sem, kw2_1_0, kw2_1_1, kw2_1_2, kw2_1_3, kw2_1_4, kw2_1_5, kw2_1_6, kw2_1_7, kw2_1_8, kw2_1_9, kw2_1_10, kw2_1_11, fw2_1_0, fw2_1_1, fw2_1_2, fw2_1_3, fw2_1_4, fw2_1_5, fw2_1_6, fw2_1_7, fw2_1_8, fw2_1_9, fw2_1_10, fw2_1_11]
  have g3_1_0 : (w2.setCell ⟨w.heap.size + 1 + 1, 4, none⟩ (.slice a1 n c1)).frozen? ⟨w.heap.size + 1, 0, none⟩ = false := by simp [go_sem, kw2_1_0, kw2_1_1, kw2_1_2, kw2_1_3, kw2_1_4, kw2_1_5, kw2_1_6, kw2_1_7, kw2_1_8, kw2_1_9, kw2_1_10, kw2_1_11, fw2_1_0, fw2_1_1, fw2_1_2, fw2_1_3, fw2_1_4, fw2_1_5, fw2_1_6, fw2_1_7, fw2_1_8, fw2_1_9, fw2_1_10, fw2_1_11]
  have y3_1_1 : (w2.setCell ⟨w.heap.size + 1 + 1, 4, none⟩ (.slice a1 n c1)).cell? ⟨w.heap.size + 1, 1, none⟩ = some (.int .i64 0) := by simp [go_sem, kw2_1_0, kw2_1_1, kw2_1_2, kw2_1_3, kw2_1_4, kw2_1_5, kw2_1_6, kw2_1_7, kw2_1_8, kw2_1_9, kw2_1_10, kw2_1_11, fw2_1_0, fw2_1_1, fw2_1_2, fw2_1_3, fw2_1_4, fw2_1_5, fw2_1_6, fw2_1_7, fw2_1_8, fw2_1_9, fw2_1_10, fw2_1_11]
  have g3_1_1 : (w2.setCell ⟨w.heap.size + 1 + 1, 4, none⟩ (.slice a1 n c1)).frozen? ⟨w.heap.size + 1, 1, none⟩ = false := by simp [go_sem, kw2_1_0, kw2_1_1, kw2_1_2, kw2_1_3, kw2_1_4, kw2_1_5, kw2_1_6, kw2_1_7, kw2_1_8, kw2_1_9, kw2_1_10, kw2_1_11, fw2_1_0, fw2_1_1, fw2_1_2, fw2_1_3, fw2_1_4, fw2_1_5, fw2_1_6, fw2_1_7, fw2_1_8, fw2_1_9, fw2_1_10, fw2_1_11]
  have y3_1_2 : (w2.setCell ⟨w.heap.size + 1 + 1, 4, none⟩ (.slice a1 n c1)).cell? ⟨w.heap.size + 1, 2, none⟩ = some (.int .i64 0) := by simp [go_sem, kw2_1_0, kw2_1_1, kw2_1_2, kw2_1_3, kw2_1_4, kw2_1_5, kw2_1_6, kw2_1_7, kw2_1_8, kw2_1_9, kw2_1_10, kw2_1_11, fw2_1_0, fw2_1_1, fw2_1_2, fw2_1_3, fw2_1_4, fw2_1_5, fw2_1_6, fw2_1_7, fw2_1_8, fw2_1_9, fw2_1_10, fw2_1_11]
  have g3_1_2 : (w2.setCell ⟨w.heap.size + 1 + 1, 4, none⟩ (.slice a1 n c1)).frozen? ⟨w.heap.size + 1, 2, none⟩ = false := by simp [go_sem, kw2_1_0, kw2_1_1, kw2_1_2, kw2_1_3, kw2_1_4, kw2_1_5, kw2_1_6, kw2_1_7, kw2_1_8, kw2_1_9, kw2_1_10, kw2_1_11, fw2_1_0, fw2_1_1, fw2_1_2, fw2_1_3, fw2_1_4, fw2_1_5, fw2_1_6, fw2_1_7, fw2_1_8, fw2_1_9, fw2_1_10, fw2_1_11]
  have y3_1_3 : (w2.setCell ⟨w.heap.size + 1 + 1, 4, none⟩ (.slice a1 n c1)).cell? ⟨w.heap.size + 1, 3, none⟩ = some (.int .i64 0) := by simp [go_sem, kw2_1_0, kw2_1_1, kw2_1_2, kw2_1_3, kw2_1_4, kw2_1_5, kw2_1_6, kw2_1_7, kw2_1_8, kw2_1_9, kw2_1_10, kw2_1_11, fw2_1_0, fw2_1_1, fw2_1_2, fw2_1_3, fw2_1_4, fw2_1_5, fw2_1_6, fw2_1_7, fw2_1_8, fw2_1_9, fw2_1_10, fw2_1_11]
  have g3_1_3 : (w2.setCell ⟨w.heap.size + 1 + 1, 4, none⟩ (.slice a1 n c1)).frozen? ⟨w.heap.size + 1, 3, none⟩ = false := by simp [go_sem, kw2_1_0, kw2_1_1, kw2_1_2, kw2_1_3, kw2_1_4, kw2_1_5, kw2_1_6, kw2_1_7, kw2_1_8, kw2_1_9, kw2_1_10, kw2_1_11, fw2_1_0, fw2_1_1, fw2_1_2, fw2_1_3, fw2_1_4, fw2_1_5, fw2_1_6, fw2_1_7, fw2_1_8, fw2_1_9, fw2_1_10, fw2_1_11]
  have y3_1_4 : (w2.setCell ⟨w.heap.size + 1 + 1, 4, none⟩ (.slice a1 n c1)).cell? ⟨w.heap.size + 1, 4, none⟩ = some (.slice none 0 0) := by simp [go_sem, kw2_1_0, kw2_1_1, kw2_1_2, kw2_1_3, kw2_1_4, kw2_1_5, kw2_1_6, kw2_1_7, kw2_1_8, kw2_1_9, kw2_1_10, kw2_1_11, fw2_1_0, fw2_1_1, fw2_1_2, fw2_1_3, fw2_1_4, fw2_1_5, fw2_1_6, fw2_1_7, fw2_1_8, fw2_1_9, fw2_1_10, fw2_1_11]
  have g3_1_4 : (w2.setCell ⟨w.heap.size + 1 + 1, 4, none⟩ (.slice a1 n c1)).frozen? ⟨w.heap.size + 1, 4, none⟩ = false := by simp [go_sem, kw2_1_0, kw2_1_1, kw2_1_2, kw2_1_3, kw2_1_4, kw2_1_5, kw2_1_6, kw2_1_7, kw2_1_8, kw2_1_9, kw2_1_10, kw2_1_11, fw2_1_0, fw2_1_1, fw2_1_2, fw2_1_3, fw2_1_4, fw2_1_5, fw2_1_6, fw2_1_7, fw2_1_8, fw2_1_9, fw2_1_10, fw2_1_11]
  have y3_1_5 : (w2.setCell ⟨w.heap.size + 1 + 1, 4, none⟩ (.slice a1 n c1)).cell? ⟨w.heap.size + 1, 5, none⟩ = some (.int .i64 0) := by simp [go_sem, kw2_1_0, kw2_1_1, kw2_1_2, kw2_1_3, kw2_1_4, kw2_1_5, kw2_1_6, kw2_1_7, kw2_1_8, kw2_1_9, kw2_1_10, kw2_1_11, fw2_1_0, fw2_1_1, fw2_1_2, fw2_1_3, fw2_1_4, fw2_1_5, fw2_1_6, fw2_1_7, fw2_1_8, fw2_1_9, fw2_1_10, fw2_1_11]
  have g3_1_5 : (w2.setCell ⟨w.heap.size + 1 + 1, 4, none⟩ (.slice a1 n c1)).frozen? ⟨w.heap.size + 1, 5, none⟩ = false := by simp [go_sem, kw2_1_0, kw2_1_1, kw2_1_2, kw2_1_3, kw2_1_4, kw2_1_5, kw2_1_6, kw2_1_7, kw2_1_8, kw2_1_9, kw2_1_10, kw2_1_11, fw2_1_0, fw2_1_1, fw2_1_2, fw2_1_3, fw2_1_4, fw2_1_5, fw2_1_6, fw2_1_7, fw2_1_8, fw2_1_9, fw2_1_10, fw2_1_11]
  have y3_1_6 : (w2.setCell ⟨w.heap.size + 1 + 1, 4, none⟩ (.slice a1 n c1)).cell? ⟨w.heap.size + 1, 6, none⟩ = some (.int .i64 0) := by simp [go_sem, kw2_1_0, kw2_1_1, kw2_1_2, kw2_1_3, kw2_1_4, kw2_1_5, kw2_1_6, kw2_1_7, kw2_1_8, kw2_1_9, kw2_1_10, kw2_1_11, fw2_1_0, fw2_1_1, fw2_1_2, fw2_1_3, fw2_1_4, fw2_1_5, fw2_1_6, fw2_1_7, fw2_1_8, fw2_1_9, fw2_1_10, fw2_1_11]
  have g3_1_6 : (w2.setCell ⟨w.heap.size + 1 + 1, 4, none⟩ (.slice a1 n c1)).frozen? ⟨w.heap.size + 1, 6, none⟩ = false := by simp [go_sem, kw2_1_0, kw2_1_1, kw2_1_2, kw2_1_3, kw2_1_4, kw2_1_5, kw2_1_6, kw2_1_7, kw2_1_8, kw2_1_9, kw2_1_10, kw2_1_11, fw2_1_0, fw2_1_1, fw2_1_2, fw2_1_3, fw2_1_4, fw2_1_5, fw2_1_6, fw2_1_7, fw2_1_8, fw2_1_9, fw2_1_10, fw2_1_11]
  have y3_1_7 : (w2.setCell ⟨w.heap.size + 1 + 1, 4, none⟩ (.slice a1 n c1)).cell? ⟨w.heap.size + 1, 7, none⟩ = some (.int .i64 0) := by simp [go_sem, kw2_1_0, kw2_1_1, kw2_1_2, kw2_1_3, kw2_1_4, kw2_1_5, kw2_1_6, kw2_1_7, kw2_1_8, kw2_1_9, kw2_1_10, kw2_1_11, fw2_1_0, fw2_1_1, fw2_1_2, fw2_1_3, fw2_1_4, fw2_1_5, fw2_1_6, fw2_1_7, fw2_1_8, fw2_1_9, fw2_1_10, fw2_1_11]
  have g3_1_7 : (w2.setCell ⟨w.heap.size + 1 + 1, 4, none⟩ (.slice a1 n c1)).frozen? ⟨w.heap.size + 1, 7, none⟩ = false := by simp [go_sem, kw2_1_0, kw2_1_1, kw2_1_2, kw2_1_3, kw2_1_4, kw2_1_5, kw2_1_6, kw2_1_7, kw2_1_8, kw2_1_9, kw2_1_10, kw2_1_11, fw2_1_0, fw2_1_1, fw2_1_2, fw2_1_3, fw2_1_4, fw2_1_5, fw2_1_6, fw2_1_7, fw2_1_8, fw2_1_9, fw2_1_10, fw2_1_11]
  have y3_1_8 : (w2.setCell ⟨w.heap.size + 1 + 1, 4, none⟩ (.slice a1 n c1)).cell? ⟨w.heap.size + 1, 8, none⟩ = some (.int .i64 0) := by simp [go_sem, kw2_1_0, kw2_1_1, kw2_1_2, kw2_1_3, kw2_1_4, kw2_1_5, kw2_1_6, kw2_1_7, kw2_1_8, kw2_1_9, kw2_1_10, kw2_1_11, fw2_1_0, fw2_1_1, fw2_1_2, fw2_1_3, fw2_1_4, fw2_1_5, fw2_1_6, fw2_1_7, fw2_1_8, fw2_1_9, fw2_1_10, fw2_1_11]
  have g3_1_8 : (w2.setCell ⟨w.heap.size + 1 + 1, 4, none⟩ (.slice a1 n c1)).frozen? ⟨w.heap.size + 1, 8, none⟩ = false := by simp [go_sem, kw2_1_0, kw2_1_1, kw2_1_2, kw2_1_3, kw2_1_4, kw2_1_5, kw2_1_6, kw2_1_7, kw2_1_8, kw2_1_9, kw2_1_10, kw2_1_11, fw2_1_0, fw2_1_1, fw2_1_2, fw2_1_3, fw2_1_4, fw2_1_5, fw2_1_6, fw2_1_7, fw2_1_8, fw2_1_9, fw2_1_10, fw2_1_11]
  have y3_1_9 : (w2.setCell ⟨w.heap.size + 1 + 1, 4, none⟩ (.slice a1 n c1)).cell? ⟨w.heap.size + 1, 9, none⟩ = some (.int .i64 0) := by simp [go_sem, kw2_1_0, kw2_1_1, kw2_1_2, kw2_1_3, kw2_1_4, kw2_1_5, kw2_1_6, kw2_1_7, kw2_1_8, kw2_1_9, kw2_1_10, kw2_1_11, fw2_1_0, fw2_1_1, fw2_1_2, fw2_1_3, fw2_1_4, fw2_1_5, fw2_1_6, fw2_1_7, fw2_1_8, fw2_1_9, fw2_1_10, fw2_1_11]
  have g3_1_9 : (w2.setCell ⟨w.heap.size + 1 + 1, 4, none⟩ (.slice a1 n c1)).frozen? ⟨w.heap.size + 1, 9, none⟩ = false := by simp [go_sem, kw2_1_0, kw2_1_1, kw2_1_2, kw2_1_3, kw2_1_4, kw2_1_5, kw2_1_6, kw2_1_7, kw2_1_8, kw2_1_9, kw2_1_10, kw2_1_11, fw2_1_0, fw2_1_1, fw2_1_2, fw2_1_3, fw2_1_4, fw2_1_5, fw2_1_6, fw2_1_7, fw2_1_8, fw2_1_9, fw2_1_10, fw2_1_11]
  have y3_1_10 : (w2.setCell ⟨w.heap.size + 1 + 1, 4, none⟩ (.slice a1 n c1)).cell? ⟨w.heap.size + 1, 10, none⟩ = some (.int .i64 0) := by simp [go_sem, kw2_1_0, kw2_1_1, kw2_1_2, kw2_1_3, kw2_1_4, kw2_1_5, kw2_1_6, kw2_1_7, kw2_1_8, kw2_1_9, kw2_1_10, kw2_1_11, fw2_1_0, fw2_1_1, fw2_1_2, fw2_1_3, fw2_1_4, fw2_1_5, fw2_1_6, fw2_1_7, fw2_1_8, fw2_1_9, fw2_1_10, fw2_1_11]
  have g3_1_10 : (w2.setCell ⟨w.heap.size + 1 + 1, 4, none⟩ (.slice a1 n c1)).frozen? ⟨w.heap.size + 1, 10, none⟩ = false := by simp [go_sem, kw2_1_0, kw2_1_1, kw2_1_2, kw2_1_3, kw2_1_4, kw2_1_5, kw2_1_6, kw2_1_7, kw2_1_8, kw2_1_9, kw2_1_10, kw2_1_11, fw2_1_0, fw2_1_1, fw2_1_2, fw2_1_3, fw2_1_4, fw2_1_5, fw2_1_6, fw2_1_7, fw2_1_8, fw2_1_9, fw2_1_10, fw2_1_11]
  have y3_1_11 : (w2.setCell ⟨w.heap.size + 1 + 1, 4, none⟩ (.slice a1 n c1)).cell? ⟨w.heap.size + 1, 11, none⟩ = some (.int .i64 0) := by simp [go_sem, kw2_1_0, kw2_1_1, kw2_1_2, kw2_1_3, kw2_1_4, kw2_1_5, kw2_1_6, kw2_1_7, kw2_1_8, kw2_1_9, kw2_1_10, kw2_1_11, fw2_1_0, fw2_1_1, fw2_1_2, fw2_1_3, fw2_1_4, fw2_1_5, fw2_1_6, fw2_1_7, fw2_1_8, fw2_1_9, fw2_1_10, fw2_1_11]
  have g3_1_11 : (w2.setCell ⟨w.heap.size + 1 + 1, 4, none⟩ (.slice a1 n c1)).frozen? ⟨w.heap.size + 1, 11, none⟩ = false := by simp [go_sem, kw2_1_0, kw2_1_1, kw2_1_2, kw2_1_3, kw2_1_4, kw2_1_5, kw2_1_6, kw2_1_7, kw2_1_8, kw2_1_9, kw2_1_10, kw2_1_11, fw2_1_0, fw2_1_1, fw2_1_2, fw2_1_3, fw2_1_4, fw2_1_5, fw2_1_6, fw2_1_7, fw2_1_8, fw2_1_9, fw2_1_10, fw2_1_11]
  have z3_1 : w.heap.size + 1 < (w2.setCell ⟨w.heap.size + 1 + 1, 4, none⟩ (.slice a1 n c1)).heap.size := by first | assumption | omega | (simp; done) | (simp; omega)
  have y3_2_0 : (w2.setCell ⟨w.heap.size + 1 + 1, 4, none⟩ (.slice a1 n c1)).cell? ⟨w.heap.size + 1 + 1, 0, none⟩ = some (.int .i64 d0) := by simp [go_sem, kw2_2_0, kw2_2_1, kw2_2_2, kw2_2_3, kw2_2_4, kw2_2_5, kw2_2_6, kw2_2_7, kw2_2_8, kw2_2_9, kw2_2_10, kw2_2_11, fw2_2_0, fw2_2_1, fw2_2_2, fw2_2_3, fw2_2_4, fw2_2_5, fw2_2_6, fw2_2_7, fw2_2_8, fw2_2_9, fw2_2_10, fw2_2_11]
  have g3_2_0 : (w2.setCell ⟨w.heap.size + 1 + 1, 4, none⟩ (.slice a1 n c1)).frozen? ⟨w.heap.size + 1 + 1, 0, none⟩ = false := by simp [go_sem, kw2_2_0, kw2_2_1, kw2_2_2, kw2_2_3, kw2_2_4, kw2_2_5, kw2_2_6, kw2_2_7, kw2_2_8, kw2_2_9, kw2_2_10, kw2_2_11, fw2_2_0, fw2_2_1, fw2_2_2, fw2_2_3, fw2_2_4, fw2_2_5, fw2_2_6, fw2_2_7, fw2_2_8, fw2_2_9, fw2_2_10, fw2_2_11]
  have y3_2_1 : (w2.setCell ⟨w.heap.size + 1 + 1, 4, none⟩ (.slice a1 n c1)).cell? ⟨w.heap.size + 1 + 1, 1, none⟩ = some (.int .i64 d1) := by simp [go_sem, kw2_2_0, kw2_2_1, kw2_2_2, kw2_2_3, kw2_2_4, kw2_2_5, kw2_2_6, kw2_2_7, kw2_2_8, kw2_2_9, kw2_2_10, kw2_2_11, fw2_2_0, fw2_2_1, fw2_2_2, fw2_2_3, fw2_2_4, fw2_2_5, fw2_2_6, fw2_2_7, fw2_2_8, fw2_2_9, fw2_2_10, fw2_2_11]
  have g3_2_1 : (w2.setCell ⟨w.heap.size + 1 + 1, 4, none⟩ (.slice a1 n c1)).frozen? ⟨w.heap.size + 1 + 1, 1, none⟩ = false := by simp [go_sem, kw2_2_0, kw2_2_1, kw2_2_2, kw2_2_3, kw2_2_4, kw2_2_5, kw2_2_6, kw2_2_7, kw2_2_8, kw2_2_9, kw2_2_10, kw2_2_11, fw2_2_0, fw2_2_1, fw2_2_2, fw2_2_3, fw2_2_4, fw2_2_5, fw2_2_6, fw2_2_7, fw2_2_8, fw2_2_9, fw2_2_10, fw2_2_11]
  have y3_2_2 : (w2.setCell ⟨w.heap.size + 1 + 1, 4, none⟩ (.slice a1 n c1)).cell? ⟨w.heap.size + 1 + 1, 2, none⟩ = some (.int .i64 d2) := by simp [go_sem, kw2_2_0, kw2_2_1, kw2_2_2, kw2_2_3, kw2_2_4, kw2_2_5, kw2_2_6, kw2_2_7, kw2_2_8, kw2_2_9, kw2_2_10, kw2_2_11, fw2_2_0, fw2_2_1, fw2_2_2, fw2_2_3, fw2_2_4, fw2_2_5, fw2_2_6, fw2_2_7, fw2_2_8, fw2_2_9, fw2_2_10, fw2_2_11]
  have g3_2_2 : (w2.setCell ⟨w.heap.size + 1 + 1, 4, none⟩ (.slice a1 n c1)).frozen? ⟨w.heap.size + 1 + 1, 2, none⟩ = false := by simp [go_sem, kw2_2_0, kw2_2_1, kw2_2_2, kw2_2_3, kw2_2_4, kw2_2_5, kw2_2_6, kw2_2_7, kw2_2_8, kw2_2_9, kw2_2_10, kw2_2_11, fw2_2_0, fw2_2_1, fw2_2_2, fw2_2_3, fw2_2_4, fw2_2_5, fw2_2_6, fw2_2_7, fw2_2_8, fw2_2_9, fw2_2_10, fw2_2_11]
  have y3_2_3 : (w2.setCell ⟨w.heap.size + 1 + 1, 4, none⟩ (.slice a1 n c1)).cell? ⟨w.heap.size + 1 + 1, 3, none⟩ = some (.int .i64 d3) := by simp [go_sem, kw2_2_0, kw2_2_1, kw2_2_2, kw2_2_3, kw2_2_4, kw2_2_5, kw2_2_6, kw2_2_7, kw2_2_8, kw2_2_9, kw2_2_10, kw2_2_11, fw2_2_0, fw2_2_1, fw2_2_2, fw2_2_3, fw2_2_4, fw2_2_5, fw2_2_6, fw2_2_7, fw2_2_8, fw2_2_9, fw2_2_10, fw2_2_11]
  have g3_2_3 : (w2.setCell ⟨w.heap.size + 1 + 1, 4, none⟩ (.slice a1 n c1)).frozen? ⟨w.heap.size + 1 + 1, 3, none⟩ = false := by simp [go_sem, kw2_2_0, kw2_2_1, kw2_2_2, kw2_2_3, kw2_2_4, kw2_2_5, kw2_2_6, kw2_2_7, kw2_2_8, kw2_2_9, kw2_2_10, kw2_2_11, fw2_2_0, fw2_2_1, fw2_2_2, fw2_2_3, fw2_2_4, fw2_2_5, fw2_2_6, fw2_2_7, fw2_2_8, fw2_2_9, fw2_2_10, fw2_2_11]
  have y3_2_4 : (w2.setCell ⟨w.heap.size + 1 + 1, 4, none⟩ (.slice a1 n c1)).cell? ⟨w.heap.size + 1 + 1, 4, none⟩ = some (.slice a1 n c1) := by simp [go_sem, kw2_2_0, kw2_2_1, kw2_2_2, kw2_2_3, kw2_2_4, kw2_2_5, kw2_2_6, kw2_2_7, kw2_2_8, kw2_2_9, kw2_2_10, kw2_2_11, fw2_2_0, fw2_2_1, fw2_2_2, fw2_2_3, fw2_2_4, fw2_2_5, fw2_2_6, fw2_2_7, fw2_2_8, fw2_2_9, fw2_2_10, fw2_2_11]
  have g3_2_4 : (w2.setCell ⟨w.heap.size + 1 + 1, 4, none⟩ (.slice a1 n c1)).frozen? ⟨w.heap.size + 1 + 1, 4, none⟩ = false := by simp [go_sem, kw2_2_0, kw2_2_1, kw2_2_2, kw2_2_3, kw2_2_4, kw2_2_5, kw2_2_6, kw2_2_7, kw2_2_8, kw2_2_9, kw2_2_10, kw2_2_11, fw2_2_0, fw2_2_1, fw2_2_2, fw2_2_3, fw2_2_4, fw2_2_5, fw2_2_6, fw2_2_7, fw2_2_8, fw2_2_9, fw2_2_10, fw2_2_11]
  have y3_2_5 : (w2.setCell ⟨w.heap.size + 1 + 1, 4, none⟩ (.slice a1 n c1)).cell? ⟨w.heap.size + 1 + 1, 5, none⟩ = some (.int .i64 0) := by simp [go_sem, kw2_2_0, kw2_2_1, kw2_2_2, kw2_2_3, kw2_2_4, kw2_2_5, kw2_2_6, kw2_2_7, kw2_2_8, kw2_2_9, kw2_2_10, kw2_2_11, fw2_2_0, fw2_2_1, fw2_2_2, fw2_2_3, fw2_2_4, fw2_2_5, fw2_2_6, fw2_2_7, fw2_2_8, fw2_2_9, fw2_2_10, fw2_2_11]
  have g3_2_5 : (w2.setCell ⟨w.heap.size + 1 + 1, 4, none⟩ (.slice a1 n c1)).frozen? ⟨w.heap.size + 1 + 1, 5, none⟩ = false := by simp [go_sem, kw2_2_0, kw2_2_1, kw2_2_2, kw2_2_3, kw2_2_4, kw2_2_5, kw2_2_6, kw2_2_7, kw2_2_8, kw2_2_9, kw2_2_10, kw2_2_11, fw2_2_0, fw2_2_1, fw2_2_2, fw2_2_3, fw2_2_4, fw2_2_5, fw2_2_6, fw2_2_7, fw2_2_8, fw2_2_9, fw2_2_10, fw2_2_11]
  have y3_2_6 : (w2.setCell ⟨w.heap.size + 1 + 1, 4, none⟩ (.slice a1 n c1)).cell? ⟨w.heap.size + 1 + 1, 6, none⟩ = some (.int .i64 0) := by simp [go_sem, kw2_2_0, kw2_2_1, kw2_2_2, kw2_2_3, kw2_2_4, kw2_2_5, kw2_2_6, kw2_2_7, kw2_2_8, kw2_2_9, kw2_2_10, kw2_2_11, fw2_2_0, fw2_2_1, fw2_2_2, fw2_2_3, fw2_2_4, fw2_2_5, fw2_2_6, fw2_2_7, fw2_2_8, fw2_2_9, fw2_2_10, fw2_2_11]
  have g3_2_6 : (w2.setCell ⟨w.heap.size + 1 + 1, 4, none⟩ (.slice a1 n c1)).frozen? ⟨w.heap.size + 1 + 1, 6, none⟩ = false := by simp [go_sem, kw2_2_0, kw2_2_1, kw2_2_2, kw2_2_3, kw2_2_4, kw2_2_5, kw2_2_6, kw2_2_7, kw2_2_8, kw2_2_9, kw2_2_10, kw2_2_11, fw2_2_0, fw2_2_1, fw2_2_2, fw2_2_3, fw2_2_4, fw2_2_5, fw2_2_6, fw2_2_7, fw2_2_8, fw2_2_9, fw2_2_10, fw2_2_11]
  have y3_2_7 : (w2.setCell ⟨w.heap.size + 1 + 1, 4, none⟩ (.slice a1 n c1)).cell? ⟨w.heap.size + 1 + 1, 7, none⟩ = some (.int .i64 0) := by simp [go_sem, kw2_2_0, kw2_2_1, kw2_2_2, kw2_2_3, kw2_2_4, kw2_2_5, kw2_2_6, kw2_2_7, kw2_2_8, kw2_2_9, kw2_2_10, kw2_2_11, fw2_2_0, fw2_2_1, fw2_2_2, fw2_2_3, fw2_2_4, fw2_2_5, fw2_2_6, fw2_2_7, fw2_2_8, fw2_2_9, fw2_2_10, fw2_2_11]
  have g3_2_7 : (w2.setCell ⟨w.heap.size + 1 + 1, 4, none⟩ (.slice a1 n c1)).frozen? ⟨w.heap.size + 1 + 1, 7, none⟩ = false := by simp [go_sem, kw2_2_0, kw2_2_1, kw2_2_2, kw2_2_3, kw2_2_4, kw2_2_5, kw2_2_6, kw2_2_7, kw2_2_8, kw2_2_9, kw2_2_10, kw2_2_11, fw2_2_0, fw2_2_1, fw2_2_2, fw2_2_3, fw2_2_4, fw2_2_5, fw2_2_6, fw2_2_7, fw2_2_8, fw2_2_9, fw2_2_10, fw2_2_11]
  have y3_2_8 : (w2.setCell ⟨w.heap.size + 1 + 1, 4, none⟩ (.slice a1 n c1)).cell? ⟨w.heap.size + 1 + 1, 8, none⟩ = some (.int .i64 0) := by simp [go_sem, kw2_2_0, kw2_2_1, kw2_2_2, kw2_2_3, kw2_2_4, kw2_2_5, kw2_2_6, kw2_2_7, kw2_2_8, kw2_2_9, kw2_2_10, kw2_2_11, fw2_2_0, fw2_2_1, fw2_2_2, fw2_2_3, fw2_2_4, fw2_2_5, fw2_2_6, fw2_2_7, fw2_2_8, fw2_2_9, fw2_2_10, fw2_2_11]
  have g3_2_8 : (w2.setCell ⟨w.heap.size + 1 + 1, 4, none⟩ (.slice a1 n c1)).frozen? ⟨w.heap.size + 1 + 1, 8, none⟩ = false := by simp [go_sem, kw2_2_0, kw2_2_1, kw2_2_2, kw2_2_3, kw2_2_4, kw2_2_5, kw2_2_6, kw2_2_7, kw2_2_8, kw2_2_9, kw2_2_10, kw2_2_11, fw2_2_0, fw2_2_1, fw2_2_2, fw2_2_3, fw2_2_4, fw2_2_5, fw2_2_6, fw2_2_7, fw2_2_8, fw2_2_9, fw2_2_10, fw2_2_11]
  have y3_2_9 : (w2.setCell ⟨w.heap.size + 1 + 1, 4, none⟩ (.slice a1 n c1)).cell? ⟨w.heap.size + 1 + 1, 9, none⟩ = some (.int .i64 0) := by simp [go_sem, kw2_2_0, kw2_2_1, kw2_2_2, kw2_2_3, kw2_2_4, kw2_2_5, kw2_2_6, kw2_2_7, kw2_2_8, kw2_2_9, kw2_2_10, kw2_2_11, fw2_2_0, fw2_2_1, fw2_2_2, fw2_2_3, fw2_2_4, fw2_2_5, fw2_2_6, fw2_2_7, fw2_2_8, fw2_2_9, fw2_2_10, fw2_2_11]
  have g3_2_9 : (w2.setCell ⟨w.heap.size + 1 + 1, 4, none⟩ (.slice a1 n c1)).frozen? ⟨w.heap.size + 1 + 1, 9, none⟩ = false := by simp [go_sem, kw2_2_0, kw2_2_1, kw2_2_2, kw2_2_3, kw2_2_4, kw2_2_5, kw2_2_6, kw2_2_7, kw2_2_8, kw2_2_9, kw2_2_10, kw2_2_11, fw2_2_0, fw2_2_1, fw2_2_2, fw2_2_3, fw2_2_4, fw2_2_5, fw2_2_6, fw2_2_7, fw2_2_8, fw2_2_9, fw2_2_10, fw2_2_11]
  have y3_2_10 : (w2.setCell ⟨w.heap.size + 1 + 1, 4, none⟩ (.slice a1 n c1)).cell? ⟨w.heap.size + 1 + 1, 10, none⟩ = some (.int .i64 0) := by simp [go_sem, kw2_2_0, kw2_2_1, kw2_2_2, kw2_2_3, kw2_2_4, kw2_2_5, kw2_2_6, kw2_2_7, kw2_2_8, kw2_2_9, kw2_2_10, kw2_2_11, fw2_2_0, fw2_2_1, fw2_2_2, fw2_2_3, fw2_2_4, fw2_2_5, fw2_2_6, fw2_2_7, fw2_2_8, fw2_2_9, fw2_2_10, fw2_2_11]
  have g3_2_10 : (w2.setCell ⟨w.heap.size + 1 + 1, 4, none⟩ (.slice a1 n c1)).frozen? ⟨w.heap.size + 1 + 1, 10, none⟩ = false := by simp [go_sem, kw2_2_0, kw2_2_1, kw2_2_2, kw2_2_3, kw2_2_4, kw2_2_5, kw2_2_6, kw2_2_7, kw2_2_8, kw2_2_9, kw2_2_10, kw2_2_11, fw2_2_0, fw2_2_1, fw2_2_2, fw2_2_3, fw2_2_4, fw2_2_5, fw2_2_6, fw2_2_7, fw2_2_8, fw2_2_9, fw2_2_10, fw2_2_11]
  have y3_2_11 : (w2.setCell ⟨w.heap.size + 1 + 1, 4, none⟩ (.slice a1 n c1)).cell? ⟨w.heap.size + 1 + 1, 11, none⟩ = some (.int .i64 0) := by simp [go_sem, kw2_2_0, kw2_2_1, kw2_2_2, kw2_2_3, kw2_2_4, kw2_2_5, kw2_2_6, kw2_2_7, kw2_2_8, kw2_2_9, kw2_2_10, kw2_2_11, fw2_2_0, fw2_2_1, fw2_2_2, fw2_2_3, fw2_2_4, fw2_2_5, fw2_2_6, fw2_2_7, fw2_2_8, fw2_2_9, fw2_2_10, fw2_2_11]
  have g3_2_11 : (w2.setCell ⟨w.heap.size + 1 + 1, 4, none⟩ (.slice a1 n c1)).frozen? ⟨w.heap.size + 1 + 1, 11, none⟩ = false := by simp [go_sem, kw2_2_0, kw2_2_1, kw2_2_2, kw2_2_3, kw2_2_4, kw2_2_5, kw2_2_6, kw2_2_7, kw2_2_8, kw2_2_9, kw2_2_10, kw2_2_11, fw2_2_0, fw2_2_1, fw2_2_2, fw2_2_3, fw2_2_4, fw2_2_5, fw2_2_6, fw2_2_7, fw2_2_8, fw2_2_9, fw2_2_10, fw2_2_11]
  have z3_2 : w.heap.size + 1 + 1 < (w2.setCell ⟨w.heap.size + 1 + 1, 4, none⟩ (.slice a1 n c1)).heap.size := by first | assumption | omega | (simp; done) | (simp; omega)
  have HBy3 := Lib.hid (show Below w.heap.size w (w2.setCell ⟨w.heap.size + 1 + 1, 4, none⟩ (.slice a1 n c1)) by repeat (first | exact HBw2.out | exact Below.refl _ _ | refine bl_alloc ?_ _ | refine bl_drewN ?_ _ | refine bl_trans (by assumption) ?_ | refine bl_set ?_ (by first | omega | (simp; done) | (simp; omega)) _))
  have HO := Lib.hid (show ORow (w2.setCell ⟨w.heap.size + 1 + 1, 4, none⟩ (.slice a1 n c1)) (w.heap.size + 1 + 1 + 1) (.slice a1 n c1) n f from (HO.out).low (p := ⟨w.heap.size + 1 + 1, 4, none⟩) (by simp) (.slice a1 n c1))
  clear kw2_0_0 kw2_0_1 kw2_0_2 kw2_0_3 kw2_0_4 kw2_0_5 kw2_0_6 kw2_0_7 kw2_0_8 kw2_0_9 kw2_0_10 kw2_0_11 sw2_0 kw2_1_0 kw2_1_1 kw2_1_2 kw2_1_3 kw2_1_4 kw2_1_5 kw2_1_6 kw2_1_7 kw2_1_8 kw2_1_9 kw2_1_10 kw2_1_11 fw2_1_0 fw2_1_1 fw2_1_2 fw2_1_3 fw2_1_4 fw2_1_5 fw2_1_6 fw2_1_7 fw2_1_8 fw2_1_9 fw2_1_10 fw2_1_11 sw2_1 kw2_2_0 kw2_2_1 kw2_2_2 kw2_2_3 kw2_2_4 kw2_2_5 kw2_2_6 kw2_2_7 kw2_2_8 kw2_2_9 kw2_2_10 kw2_2_11 fw2_2_0 fw2_2_1 fw2_2_2 fw2_2_3 fw2_2_4 fw2_2_5 fw2_2_6 fw2_2_7 fw2_2_8 fw2_2_9 fw2_2_10 fw2_2_11 sw2_2
  generalize (w2.setCell ⟨w.heap.size + 1 + 1, 4, none⟩ (.slice a1 n c1)) = wy3 at *
  go_wp2_with fail
  refine (toWalker_any _ _ _ _).mono ?_
  rintro e w3 ⟨rfl, hbw3⟩
  obtain ⟨hcw3, hfw3⟩ := bcell hbw3
  have hzw3 := bsize hbw3
  (try simp only [World.size_alloc, World.size_setCell] at hzw3)
  have hkw3 : Below wy3.heap.size wy3 w3 := (by repeat (first | exact Below.refl _ _ | refine bl_alloc ?_ _ | refine bl_drewN ?_ _ | refine bl_trans (by assumption) ?_ | refine bl_set ?_ (by first | omega | (simp; done) | (simp; omega)) _))
  have HO := Lib.hid (HO.out.keep hbw3)
  have kw3_0_0 : w3.cell? ⟨w.heap.size, 0, none⟩ = some (.int .i64 d0) := cell_after hkw3 z3_0 y3_0_0
  have kw3_0_1 : w3.cell? ⟨w.heap.size, 1, none⟩ = some (.int .i64 d1) := cell_after hkw3 z3_0 y3_0_1
  have kw3_0_2 : w3.cell? ⟨w.heap.size, 2, none⟩ = some (.int .i64 d2) := cell_after hkw3 z3_0 y3_0_2
  have kw3_0_3 : w3.cell? ⟨w.heap.size, 3, none⟩ = some (.int .i64 d3) := cell_after hkw3 z3_0 y3_0_3
  have kw3_0_4 : w3.cell? ⟨w.heap.size, 4, none⟩ = some (.slice a n c) := cell_after hkw3 z3_0 y3_0_4
  have kw3_0_5 : w3.cell? ⟨w.heap.size, 5, none⟩ = some (.int .i64 d4) := cell_after hkw3 z3_0 y3_0_5
  have kw3_0_6 : w3.cell? ⟨w.heap.size, 6, none⟩ = some (.int .i64 d5) := cell_after hkw3 z3_0 y3_0_6
  have kw3_0_7 : w3.cell? ⟨w.heap.size, 7, none⟩ = some (.int .i64 d6) := cell_after hkw3 z3_0 y3_0_7
  have kw3_0_8 : w3.cell? ⟨w.heap.size, 8, none⟩ = some (.int .i64 d7) := cell_after hkw3 z3_0 y3_0_8
  have kw3_0_9 : w3.cell? ⟨w.heap.size, 9, none⟩ = some (.int .i64 d8) := cell_after hkw3 z3_0 y3_0_9
  have kw3_0_10 : w3.cell? ⟨w.heap.size, 10, none⟩ = some (.int .i64 d9) := cell_after hkw3 z3_0 y3_0_10
  have kw3_0_11 : w3.cell? ⟨w.heap.size, 11, none⟩ = some (.int .i64 d10) := cell_after hkw3 z3_0 y3_0_11
  have sw3_0 : w.heap.size < w3.heap.size := size_after hkw3 z3_0
  have kw3_1_0 : w3.cell? ⟨w.heap.size + 1, 0, none⟩ = some (.int .i64 0) := cell_after hkw3 z3_1 y3_1_0
  have fw3_1_0 : w3.frozen? ⟨w.heap.size + 1, 0, none⟩ = false := frozen_after hkw3 z3_1 g3_1_0
  have kw3_1_1 : w3.cell? ⟨w.heap.size + 1, 1, none⟩ = some (.int .i64 0) := cell_after hkw3 z3_1 y3_1_1
  have fw3_1_1 : w3.frozen? ⟨w.heap.size + 1, 1, none⟩ = false := frozen_after hkw3 z3_1 g3_1_1
  have kw3_1_2 : w3.cell? ⟨w.heap.size + 1, 2, none⟩ = some (.int .i64 0) := cell_after hkw3 z3_1 y3_1_2
  have fw3_1_2 : w3.frozen? ⟨w.heap.size + 1, 2, none⟩ = false := frozen_after hkw3 z3_1 g3_1_2
  have kw3_1_3 : w3.cell? ⟨w.heap.size + 1, 3, none⟩ = some (.int .i64 0) := cell_after hkw3 z3_1 y3_1_3
  have fw3_1_3 : w3.frozen? ⟨w.heap.size + 1, 3, none⟩ = false := frozen_after hkw3 z3_1 g3_1_3
  have kw3_1_4 : w3.cell? ⟨w.heap.size + 1, 4, none⟩ = some (.slice none 0 0) := cell_after hkw3 z3_1 y3_1_4
  have fw3_1_4 : w3.frozen? ⟨w.heap.size + 1, 4, none⟩ = false := frozen_after hkw3 z3_1 g3_1_4
  have kw3_1_5 : w3.cell? ⟨w.heap.size + 1, 5, none⟩ = some (.int .i64 0) := cell_after hkw3 z3_1 y3_1_5
  have fw3_1_5 : w3.frozen? ⟨w.heap.size + 1, 5, none⟩ = false := frozen_after hkw3 z3_1 g3_1_5
  have kw3_1_6 : w3.cell? ⟨w.heap.size + 1, 6, none⟩ = some (.int .i64 0) := cell_after hkw3 z3_1 y3_1_6
  have fw3_1_6 : w3.frozen? ⟨w.heap.size + 1, 6, none⟩ = false := frozen_after hkw3 z3_1 g3_1_6
  have kw3_1_7 : w3.cell? ⟨w.heap.size + 1, 7, none⟩ = some (.int .i64 0) := cell_after hkw3 z3_1 y3_1_7
  have fw3_1_7 : w3.frozen? ⟨w.heap.size + 1, 7, none⟩ = false := frozen_after hkw3 z3_1 g3_1_7
  have kw3_1_8 : w3.cell? ⟨w.heap.size + 1, 8, none⟩ = some (.int .i64 0) := cell_after hkw3 z3_1 y3_1_8
  have fw3_1_8 : w3.frozen? ⟨w.heap.size + 1, 8, none⟩ = false := frozen_after hkw3 z3_1 g3_1_8
  have kw3_1_9 : w3.cell? ⟨w.heap.size + 1, 9, none⟩ = some (.int .i64 0) := cell_after hkw3 z3_1 y3_1_9
  have fw3_1_9 : w3.frozen? ⟨w.heap.size + 1, 9, none⟩ = false := frozen_after hkw3 z3_1 g3_1_9
  have kw3_1_10 : w3.cell? ⟨w.heap.size + 1, 10, none⟩ = some (.int .i64 0) := cell_after hkw3 z3_1 y3_1_10
  have fw3_1_10 : w3.frozen? ⟨w.heap.size + 1, 10, none⟩ = false := frozen_after hkw3 z3_1 g3_1_10
  have kw3_1_11 : w3.cell? ⟨w.heap.size + 1, 11, none⟩ = some (.int .i64 0) := cell_after hkw3 z3_1 y3_1_11
  have fw3_1_11 : w3.frozen? ⟨w.heap.size + 1, 11, none⟩ = false := frozen_after hkw3 z3_1 g3_1_11
  have sw3_1 : w.heap.size + 1 < w3.heap.size := size_after hkw3 z3_1
  have kw3_2_0 : w3.cell? ⟨w.heap.size + 1 + 1, 0, none⟩ = some (.int .i64 d0) := cell_after hkw3 z3_2 y3_2_0
  have fw3_2_0 : w3.frozen? ⟨w.heap.size + 1 + 1, 0, none⟩ = false := frozen_after hkw3 z3_2 g3_2_0
  have kw3_2_1 : w3.cell? ⟨w.heap.size + 1 + 1, 1, none⟩ = some (.int .i64 d1) := cell_after hkw3 z3_2 y3_2_1
  have fw3_2_1 : w3.frozen? ⟨w.heap.size + 1 + 1, 1, none⟩ = false := frozen_after hkw3 z3_2 g3_2_1
  have kw3_2_2 : w3.cell? ⟨w.heap.size + 1 + 1, 2, none⟩ = some (.int .i64 d2) := cell_after hkw3 z3_2 y3_2_2
  have fw3_2_2 : w3.frozen? ⟨w.heap.size + 1 + 1, 2, none⟩ = false := frozen_after hkw3 z3_2 g3_2_2
  have kw3_2_3 : w3.cell? ⟨w.heap.size + 1 + 1, 3, none⟩ = some (.int .i64 d3) := cell_after hkw3 z3_2 y3_2_3
  have fw3_2_3 : w3.frozen? ⟨w.heap.size + 1 + 1, 3, none⟩ = false := frozen_after hkw3 z3_2 g3_2_3
  have kw3_2_4 : w3.cell? ⟨w.heap.size + 1 + 1, 4, none⟩ = some (.slice a1 n c1) := cell_after hkw3 z3_2 y3_2_4
  have fw3_2_4 : w3.frozen? ⟨w.heap.size + 1 + 1, 4, none⟩ = false := frozen_after hkw3 z3_2 g3_2_4
  have kw3_2_5 : w3.cell? ⟨w.heap.size + 1 + 1, 5, none⟩ = some (.int .i64 0) := cell_after hkw3 z3_2 y3_2_5
  have fw3_2_5 : w3.frozen? ⟨w.heap.size + 1 + 1, 5, none⟩ = false := frozen_after hkw3 z3_2 g3_2_5
  have kw3_2_6 : w3.cell? ⟨w.heap.size + 1 + 1, 6, none⟩ = some (.int .i64 0) := cell_after hkw3 z3_2 y3_2_6
  have fw3_2_6 : w3.frozen? ⟨w.heap.size + 1 + 1, 6, none⟩ = false := frozen_after hkw3 z3_2 g3_2_6
  have kw3_2_7 : w3.cell? ⟨w.heap.size + 1 + 1, 7, none⟩ = some (.int .i64 0) := cell_after hkw3 z3_2 y3_2_7
  have fw3_2_7 : w3.frozen? ⟨w.heap.size + 1 + 1, 7, none⟩ = false := frozen_after hkw3 z3_2 g3_2_7
  have kw3_2_8 : w3.cell? ⟨w.heap.size + 1 + 1, 8, none⟩ = some (.int .i64 0) := cell_after hkw3 z3_2 y3_2_8
  have fw3_2_8 : w3.frozen? ⟨w.heap.size + 1 + 1, 8, none⟩ = false := frozen_after hkw3 z3_2 g3_2_8
  have kw3_2_9 : w3.cell? ⟨w.heap.size + 1 + 1, 9, none⟩ = some (.int .i64 0) := cell_after hkw3 z3_2 y3_2_9
  have fw3_2_9 : w3.frozen? ⟨w.heap.size + 1 + 1, 9, none⟩ = false := frozen_after hkw3 z3_2 g3_2_9
  have kw3_2_10 : w3.cell? ⟨w.heap.size + 1 + 1, 10, none⟩ = some (.int .i64 0) := cell_after hkw3 z3_2 y3_2_10
  have fw3_2_10 : w3.frozen? ⟨w.heap.size + 1 + 1, 10, none⟩ = false := frozen_after hkw3 z3_2 g3_2_10
  have kw3_2_11 : w3.cell? ⟨w.heap.size + 1 + 1, 11, none⟩ = some (.int .i64 0) := cell_after hkw3 z3_2 y3_2_11
  have fw3_2_11 : w3.frozen? ⟨w.heap.size + 1 + 1, 11, none⟩ = false := frozen_after hkw3 z3_2 g3_2_11
  have sw3_2 : w.heap.size + 1 + 1 < w3.heap.size := size_after hkw3 z3_2
  have hBw3 : Below w.heap.size w w3 := (by repeat (first | exact HBy3.out | exact Below.refl _ _ | refine bl_alloc ?_ _ | refine bl_drewN ?_ _ | refine bl_trans (by assumption) ?_ | refine bl_set ?_ (by first | omega | (simp; done) | (simp; omega)) _))
  have HBw3 := Lib.hid hBw3
  clear hBw3 hcw3 hfw3 hbw3 hkw3 y3_0_0 y3_0_1 y3_0_2 y3_0_3 y3_0_4 y3_0_5 y3_0_6 y3_0_7 y3_0_8 y3_0_9 y3_0_10 y3_0_11 z3_0 y3_1_0 y3_1_1 y3_1_2 y3_1_3 y3_1_4 y3_1_5 y3_1_6 y3_1_7 y3_1_8 y3_1_9 y3_1_10 y3_1_11 g3_1_0 g3_1_1 g3_1_2 g3_1_3 g3_1_4 g3_1_5 g3_1_6 g3_1_7 g3_1_8 g3_1_9 g3_1_10 g3_1_11 z3_1 y3_2_0 y3_2_1 y3_2_2 y3_2_3 y3_2_4 y3_2_5 y3_2_6 y3_2_7 y3_2_8 y3_2_9 y3_2_10 y3_2_11 g3_2_0 g3_2_1 g3_2_2 g3_2_3 g3_2_4 g3_2_5 g3_2_6 g3_2_7 g3_2_8 g3_2_9 g3_2_10 g3_2_11 z3_2
  go_wp2_with fail
  have y4_0_0 : (((w3.setCell ⟨w.heap.size + 1 + 1, 5, none⟩ (.int .i64 d4)).setCell ⟨w.heap.size + 1 + 1, 6, none⟩ (.int .i64 d5)).setCell ⟨w.heap.size + 1 + 1, 7, none⟩ (.int .i64 d6)).cell? ⟨w.heap.size, 0, none⟩ = some (.int .i64 d0) := by simp [go_sem, kw3_0_0, kw3_0_1, kw3_0_2, kw3_0_3, kw3_0_4, kw3_0_5, kw3_0_6, kw3_0_7, kw3_0_8, kw3_0_9, kw3_0_10, kw3_0_11]
  have y4_0_1 : (((w3.setCell ⟨w.heap.size + 1 + 1, 5, none⟩ (.int .i64 d4)).setCell ⟨w.heap.size + 1 + 1, 6, none⟩ (.int .i64 d5)).setCell ⟨w.heap.size + 1 + 1, 7, none⟩ (.int .i64 d6)).cell? ⟨w.heap.size, 1, none⟩ = some (.int .i64 d1) := by simp [go_sem, kw3_0_0, kw3_0_1, kw3_0_2, kw3_0_3, kw3_0_4, kw3_0_5, kw3_0_6, kw3_0_7, kw3_0_8, kw3_0_9, kw3_0_10, kw3_0_11]
  have y4_0_2 : (((w3.setCell ⟨w.heap.size + 1 + 1, 5, none⟩ (.int .i64 d4)).setCell ⟨w.heap.size + 1 + 1, 6, none⟩ (.int .i64 d5)).setCell ⟨w.heap.size + 1 + 1, 7, none⟩ (.int .i64 d6)).cell? ⟨w.heap.size, 2, none⟩ = some (.int .i64 d2) := by simp [go_sem, kw3_0_0, kw3_0_1, kw3_0_2, kw3_0_3, kw3_0_4, kw3_0_5, kw3_0_6, kw3_0_7, kw3_0_8, kw3_0_9, kw3_0_10, kw3_0_11]
  have y4_0_3 : (((w3.setCell ⟨w.heap.size + 1 + 1, 5, none⟩ (.int .i64 d4)).setCell ⟨w.heap.size + 1 + 1, 6, none⟩ (.int .i64 d5)).setCell ⟨w.heap.size + 1 + 1, 7, none⟩ (.int .i64 d6)).cell? ⟨w.heap.size, 3, none⟩ = some (.int .i64 d3) := by simp [go_sem, kw3_0_0, kw3_0_1, kw3_0_2, kw3_0_3, kw3_0_4, kw3_0_5, kw3_0_6, kw3_0_7, kw3_0_8, kw3_0_9, kw3_0_10, kw3_0_11]
  have y4_0_4 : (((w3.setCell ⟨w.heap.size + 1 + 1, 5, none⟩ (.int .i64 d4)).setCell ⟨w.heap.size + 1 + 1, 6, none⟩ (.int .i64 d5)).setCell ⟨w.heap.size + 1 + 1, 7, none⟩ (.int .i64 d6)).cell? ⟨w.heap.size, 4, none⟩ = some (.slice a n c) := by simp [go_sem, kw3_0_0, kw3_0_1, kw3_0_2, kw3_0_3, kw3_0_4, kw3_0_5, kw3_0_6, kw3_0_7, kw3_0_8, kw3_0_9, kw3_0_10, kw3_0_11]
  have y4_0_5 : (((w3.setCell ⟨w.heap.size + 1 + 1, 5, none⟩ (.int .i64 d4)).setCell ⟨w.heap.size + 1 + 1, 6, none⟩ (.int .i64 d5)).setCell ⟨w.heap.size + 1 + 1, 7, none⟩ (.int .i64 d6)).cell? ⟨w.heap.size, 5, none⟩ = some (.int .i64 d4) := by simp [go_sem, kw3_0_0, kw3_0_1, kw3_0_2, kw3_0_3, kw3_0_4, kw3_0_5, kw3_0_6, kw3_0_7, kw3_0_8, kw3_0_9, kw3_0_10, kw3_0_11]
  have y4_0_6 : (((w3.setCell ⟨w.heap.size + 1 + 1, 5, none⟩ (.int .i64 d4)).setCell ⟨w.heap.size + 1 + 1, 6, none⟩ (.int .i64 d5)).setCell ⟨w.heap.size + 1 + 1, 7, none⟩ (.int .i64 d6)).cell? ⟨w.heap.size, 6, none⟩ = some (.int .i64 d5) := by simp [go_sem, kw3_0_0, kw3_0_1, kw3_0_2, kw3_0_3, kw3_0_4, kw3_0_5, kw3_0_6, kw3_0_7, kw3_0_8, kw3_0_9, kw3_0_10, kw3_0_11]
  have y4_0_7 : (((w3.setCell ⟨w.heap.size + 1 + 1, 5, none⟩ (.int .i64 d4)).setCell ⟨w.heap.size + 1 + 1, 6, none⟩ (.int .i64 d5)).setCell ⟨w.heap.size + 1 + 1, 7, none⟩ (.int .i64 d6)).cell? ⟨w.heap.size, 7, none⟩ = some (.int .i64 d6) := by simp [go_sem, kw3_0_0, kw3_0_1, kw3_0_2, kw3_0_3, kw3_0_4, kw3_0_5, kw3_0_6, kw3_0_7, kw3_0_8, kw3_0_9, kw3_0_10, kw3_0_11]
  have y4_0_8 : (((w3.setCell ⟨w.heap.size + 1 + 1, 5, none⟩ (.int .i64 d4)).setCell ⟨w.heap.size + 1 + 1, 6, none⟩ (.int .i64 d5)).setCell ⟨w.heap.size + 1 + 1, 7, none⟩ (.int .i64 d6)).cell? ⟨w.heap.size, 8, none⟩ = some (.int .i64 d7) := by simp [go_sem, kw3_0_0, kw3_0_1, kw3_0_2, kw3_0_3, kw3_0_4, kw3_0_5, kw3_0_6, kw3_0_7, kw3_0_8, kw3_0_9, kw3_0_10, kw3_0_11]
  have y4_0_9 : (((w3.setCell ⟨w.heap.size + 1 + 1, 5, none⟩ (.int .i64 d4)).setCell ⟨w.heap.size + 1 + 1, 6, none⟩ (.int .i64 d5)).setCell ⟨w.heap.size + 1 + 1, 7, none⟩ (.int .i64 d6)).cell? ⟨w.heap.size, 9, none⟩ = some (.int .i64 d8) := by simp [go_sem, kw3_0_0, kw3_0_1, kw3_0_2, kw3_0_3, kw3_0_4, kw3_0_5, kw3_0_6, kw3_0_7, kw3_0_8, kw3_0_9, kw3_0_10, kw3_0_11]
  have y4_0_10 : (((w3.setCell ⟨w.heap.size + 1 + 1, 5, none⟩ (.int .i64 d4)).setCell ⟨w.heap.size + 1 + 1, 6, none⟩ (.int .i64 d5)).setCell ⟨w.heap.size + 1 + 1, 7, none⟩ (.int .i64 d6)).cell? ⟨w.heap.size, 10, none⟩ = some (.int .i64 d9) := by simp [go_sem, kw3_0_0, kw3_0_1, kw3_0_2, kw3_0_3, kw3_0_4, kw3_0_5, kw3_0_6, kw3_0_7, kw3_0_8, kw3_0_9, kw3_0_10, kw3_0_11]
  have y4_0_11 : (((w3.setCell ⟨w.heap.size + 1 + 1, 5, none⟩ (.int .i64 d4)).setCell ⟨w.heap.size + 1 + 1, 6, none⟩ (.int .i64 d5)).setCell ⟨w.heap.size + 1 + 1, 7, none⟩ (.int .i64 d6)).cell? ⟨w.heap.size, 11, none⟩ = some (.int .i64 d10) := by simp [go_sem, kw3_0_0, kw3_0_1, kw3_0_2, kw3_0_3, kw3_0_4, kw3_0_5, kw3_0_6, kw3_0_7, kw3_0_8, kw3_0_9, kw3_0_10, kw3_0_11]
  have z4_0 : w.heap.size < (((w3.setCell ⟨w.heap.size + 1 + 1, 5, none⟩ (.int .i64 d4)).setCell ⟨w.heap.size + 1 + 1, 6, none⟩ (.int .i64 d5)).setCell ⟨w.heap.size + 1 + 1, 7, none⟩ (.int .i64 d6)).heap.size := by first | assumption | omega | (simp; done) | (simp; omega)
  have y4_1_0 : (((w3.setCell ⟨w.heap.size + 1 + 1, 5, none⟩ (.int .i64 d4)).setCell ⟨w.heap.size + 1 + 1, 6, none⟩ (.int .i64 d5)).setCell ⟨w.heap.size + 1 + 1, 7, none⟩ (.int .i64 d6)).cell? ⟨w.heap.size + 1, 0, none⟩ = some (.int .i64 0) := by simp [go_sem, kw3_1_0, kw3_1_1, kw3_1_2, kw3_1_3, kw3_1_4, kw3_1_5, kw3_1_6, kw3_1_7, kw3_1_8, kw3_1_9, kw3_1_10, kw3_1_11, fw3_1_0, fw3_1_1, fw3_1_2, fw3_1_3, fw3_1_4, fw3_1_5, fw3_1_6, fw3_1_7, fw3_1_8, fw3_1_9, fw3_1_10, fw3_1_11]
  have g4_1_0 : (((w3.setCell ⟨w.heap.size + 1 + 1, 5, none⟩ (.int .i64 d4)).setCell ⟨w.heap.size + 1 + 1, 6, none⟩ (.int .i64 d5)).setCell ⟨w.heap.size + 1 + 1, 7, none⟩ (.int .i64 d6)).frozen? ⟨w.heap.size + 1, 0, none⟩ = false := by simp [go_sem, kw3_1_0, kw3_1_1, kw3_1_2, kw3_1_3, kw3_1_4, kw3_1_5, kw3_1_6, kw3_1_7, kw3_1_8, kw3_1_9, kw3_1_10, kw3_1_11, fw3_1_0, fw3_1_1, fw3_1_2, fw3_1_3, fw3_1_4, fw3_1_5, fw3_1_6, fw3_1_7, fw3_1_8, fw3_1_9, fw3_1_10, fw3_1_11]
  have y4_1_1 : (((w3.setCell ⟨w.heap.size + 1 + 1, 5, none⟩ (.int .i64 d4)).setCell ⟨w.heap.size + 1 + 1, 6, none⟩ (.int .i64 d5)).setCell ⟨w.heap.size + 1 + 1, 7, none⟩ (.int .i64 d6)).cell? ⟨w.heap.size + 1, 1, none⟩ = some (.int .i64 0) := by simp [go_sem, kw3_1_0, kw3_1_1, kw3_1_2, kw3_1_3, kw3_1_4, kw3_1_5, kw3_1_6, kw3_1_7, kw3_1_8, kw3_1_9, kw3_1_10, kw3_1_11, fw3_1_0, fw3_1_1, fw3_1_2, fw3_1_3, fw3_1_4, fw3_1_5, fw3_1_6, fw3_1_7, fw3_1_8, fw3_1_9, fw3_1_10, fw3_1_11]
  have g4_1_1 : (((w3.setCell ⟨w.heap.size + 1 + 1, 5, none⟩ (.int .i64 d4)).setCell ⟨w.heap.size + 1 + 1, 6, none⟩ (.int .i64 d5)).setCell ⟨w.heap.size + 1 + 1, 7, none⟩ (.int .i64 d6)).frozen? ⟨w.heap.size + 1, 1, none⟩ = false := by simp [go_sem, kw3_1_0, kw3_1_1, kw3_1_2, kw3_1_3, kw3_1_4, kw3_1_5, kw3_1_6, kw3_1_7, kw3_1_8, kw3_1_9, kw3_1_10, kw3_1_11, fw3_1_0, fw3_1_1, fw3_1_2, fw3_1_3, fw3_1_4, fw3_1_5, fw3_1_6, fw3_1_7, fw3_1_8, fw3_1_9, fw3_1_10, fw3_1_11]
  have y4_1_2 : (((w3.setCell ⟨w.heap.size + 1 + 1, 5, none⟩ (.int .i64 d4)).setCell ⟨w.heap.size + 1 + 1, 6, none⟩ (.int .i64 d5)).setCell ⟨w.heap.size + 1 + 1, 7, none⟩ (.int .i64 d6)).cell? ⟨w.heap.size + 1, 2, none⟩ = some (.int .i64 0) := by simp [go_sem, kw3_1_0, kw3_1_1, kw3_1_2, kw3_1_3, kw3_1_4, kw3_1_5, kw3_1_6, kw3_1_7, kw3_1_8, kw3_1_9, kw3_1_10, kw3_1_11, fw3_1_0, fw3_1_1, fw3_1_2, fw3_1_3, fw3_1_4, fw3_1_5, fw3_1_6, fw3_1_7, fw3_1_8, fw3_1_9, fw3_1_10, fw3_1_11]
  have g4_1_2 : (((w3.setCell ⟨w.heap.size + 1 + 1, 5, none⟩ (.int .i64 d4)).setCell ⟨w.heap.size + 1 + 1, 6, none⟩ (.int .i64 d5)).setCell ⟨w.heap.size + 1 + 1, 7, none⟩ (.int .i64 d6)).frozen? ⟨w.heap.size + 1, 2, none⟩ = false := by simp [go_sem, kw3_1_0, kw3_1_1, kw3_1_2, kw3_1_3, kw3_1_4, kw3_1_5, kw3_1_6, kw3_1_7, kw3_1_8, kw3_1_9, kw3_1_10, kw3_1_11, fw3_1_0, fw3_1_1, fw3_1_2, fw3_1_3, fw3_1_4, fw3_1_5, fw3_1_6, fw3_1_7, fw3_1_8, fw3_1_9, fw3_1_10, fw3_1_11]
  have y4_1_3 : (((w3.setCell ⟨w.heap.size + 1 + 1, 5, none⟩ (.int .i64 d4)).setCell ⟨w.heap.size + 1 + 1, 6, none⟩ (.int .i64 d5)).setCell ⟨w.heap.size + 1 + 1, 7, none⟩ (.int .i64 d6)).cell? ⟨w.heap.size + 1, 3, none⟩ = some (.int .i64 0) := by simp [go_sem, kw3_1_0, kw3_1_1, kw3_1_2, kw3_1_3, kw3_1_4, kw3_1_5, kw3_1_6, kw3_1_7, kw3_1_8, kw3_1_9, kw3_1_10, kw3_1_11, fw3_1_0, fw3_1_1, fw3_1_2, fw3_1_3, fw3_1_4, fw3_1_5, fw3_1_6, fw3_1_7, fw3_1_8, fw3_1_9, fw3_1_10, fw3_1_11]
  have g4_1_3 : (((w3.setCell ⟨w.heap.size + 1 + 1, 5, none⟩ (.int .i64 d4)).setCell ⟨w.heap.size + 1 + 1, 6, none⟩ (.int .i64 d5)).setCell ⟨w.heap.size + 1 + 1, 7, none⟩ (.int .i64 d6)).frozen? ⟨w.heap.size + 1, 3, none⟩ = false := by simp [go_sem, kw3_1_0, kw3_1_1, kw3_1_2, kw3_1_3, kw3_1_4, kw3_1_5, kw3_1_6, kw3_1_7, kw3_1_8, kw3_1_9, kw3_1_10, kw3_1_11, fw3_1_0, fw3_1_1, fw3_1_2, fw3_1_3, fw3_1_4, fw3_1_5, fw3_1_6, fw3_1_7, fw3_1_8, fw3_1_9, fw3_1_10, fw3_1_11]
  have y4_1_4 : (((w3.setCell ⟨w.heap.size + 1 + 1, 5, none⟩ (.int .i64 d4)).setCell ⟨w.heap.size + 1 + 1, 6, none⟩ (.int .i64 d5)).setCell ⟨w.heap.size + 1 + 1, 7, none⟩ (.int .i64 d6)).cell? ⟨w.heap.size + 1, 4, none⟩ = some (.slice none 0 0) := by simp [go_sem, kw3_1_0, kw3_1_1, kw3_1_2, kw3_1_3, kw3_1_4, kw3_1_5, kw3_1_6, kw3_1_7, kw3_1_8, kw3_1_9, kw3_1_10, kw3_1_11, fw3_1_0, fw3_1_1, fw3_1_2, fw3_1_3, fw3_1_4, fw3_1_5, fw3_1_6, fw3_1_7, fw3_1_8, fw3_1_9, fw3_1_10, fw3_1_11]
  have g4_1_4 : (((w3.setCell ⟨w.heap.size + 1 + 1, 5, none⟩ (.int .i64 d4)).setCell ⟨w.heap.size + 1 + 1, 6, none⟩ (.int .i64 d5)).setCell ⟨w.heap.size + 1 + 1, 7, none⟩ (.int .i64 d6)).frozen? ⟨w.heap.size + 1, 4, none⟩ = false := by simp [go_sem, kw3_1_0, kw3_1_1, kw3_1_2, kw3_1_3, kw3_1_4, kw3_1_5, kw3_1_6, kw3_1_7, kw3_1_8, kw3_1_9, kw3_1_10, kw3_1_11, fw3_1_0, fw3_1_1, fw3_1_2, fw3_1_3, fw3_1_4, fw3_1_5, fw3_1_6, fw3_1_7, fw3_1_8, fw3_1_9, fw3_1_10, fw3_1_11]
  have y4_1_5 : (((w3.setCell ⟨w.heap.size + 1 + 1, 5, none⟩ (.int .i64 d4)).setCell ⟨w.heap.size + 1 + 1, 6, none⟩ (.int .i64 d5)).setCell ⟨w.heap.size + 1 + 1, 7, none⟩ (.int .i64 d6)).cell? ⟨w.heap.size + 1, 5, none⟩ = some (.int .i64 0) := by simp [go_sem, kw3_1_0, kw3_1_1, kw3_1_2, kw3_1_3, kw3_1_4, kw3_1_5, kw3_1_6, kw3_1_7, kw3_1_8, kw3_1_9, kw3_1_10, kw3_1_11, fw3_1_0, fw3_1_1, fw3_1_2, fw3_1_3, fw3_1_4, fw3_1_5, fw3_1_6, fw3_1_7, fw3_1_8, fw3_1_9, fw3_1_10, fw3_1_11]
  have g4_1_5 : (((w3.setCell ⟨w.heap.size + 1 + 1, 5, none⟩ (.int .i64 d4)).setCell ⟨w.heap.size + 1 + 1, 6, none⟩ (.int .i64 d5)).setCell ⟨w.heap.size + 1 + 1, 7, none⟩ (.int .i64 d6)).frozen? ⟨w.heap.size + 1, 5, none⟩ = false := by simp [go_sem, kw3_1_0, kw3_1_1, kw3_1_2, kw3_1_3, kw3_1_4, kw3_1_5, kw3_1_6, kw3_1_7, kw3_1_8, kw3_1_9, kw3_1_10, kw3_1_11, fw3_1_0, fw3_1_1, fw3_1_2, fw3_1_3, fw3_1_4, fw3_1_5, fw3_1_6, fw3_1_7, fw3_1_8, fw3_1_9, fw3_1_10, fw3_1_11]
  have y4_1_6 : (((w3.setCell ⟨w.heap.size + 1 + 1, 5, none⟩ (.int .i64 d4)).setCell ⟨w.heap.size + 1 + 1, 6, none⟩ (.int .i64 d5)).setCell ⟨w.heap.size + 1 + 1, 7, none⟩ (.int .i64 d6)).cell? ⟨w.heap.size + 1, 6, none⟩ = some (.int .i64 0) := by simp [go_sem, kw3_1_0, kw3_1_1, kw3_1_2, kw3_1_3, kw3_1_4, kw3_1_5, kw3_1_6, kw3_1_7, kw3_1_8, kw3_1_9, kw3_1_10, kw3_1_11, fw3_1_0, fw3_1_1, fw3_1_2, fw3_1_3, fw3_1_4, fw3_1_5, fw3_1_6, fw3_1_7, fw3_1_8, fw3_1_9, fw3_1_10, fw3_1_11]
  have g4_1_6 : (((w3.setCell ⟨w.heap.size + 1 + 1, 5, none⟩ (.int .i64 d4)).setCell ⟨w.heap.size + 1 + 1, 6, none⟩ (.int .i64 d5)).setCell ⟨w.heap.size + 1 + 1, 7, none⟩ (.int .i64 d6)).frozen? ⟨w.heap.size + 1, 6, none⟩ = false := by simp [go_sem, kw3_1_0, kw3_1_1, kw3_1_2, kw3_1_3, kw3_1_4, kw3_1_5, kw3_1_6, kw3_1_7, kw3_1_8, kw3_1_9, kw3_1_10, kw3_1_11, fw3_1_0, fw3_1_1, fw3_1_2, fw3_1_3, fw3_1_4, fw3_1_5, fw3_1_6, fw3_1_7, fw3_1_8, fw3_1_9, fw3_1_10, fw3_1_11]
  have y4_1_7 : (((w3.setCell ⟨w.heap.size + 1 + 1, 5, none⟩ (.int .i64 d4)).setCell ⟨w.heap.size + 1 + 1, 6, none⟩ (.int .i64 d5)).setCell ⟨w.heap.size + 1 + 1, 7, none⟩ (.int .i64 d6)).cell? ⟨w.heap.size + 1, 7, none⟩ = some (.int .i64 0) := by simp [go_sem, kw3_1_0, kw3_1_1, kw3_1_2, kw3_1_3, kw3_1_4, kw3_1_5, kw3_1_6, kw3_1_7, kw3_1_8, kw3_1_9, kw3_1_10, kw3_1_11, fw3_1_0, fw3_1_1, fw3_1_2, fw3_1_3, fw3_1_4, fw3_1_5, fw3_1_6, fw3_1_7, fw3_1_8, fw3_1_9, fw3_1_10, fw3_1_11]
  have g4_1_7 : (((w3.setCell ⟨w.heap.size + 1 + 1, 5, none⟩ (.int .i64 d4)).setCell ⟨w.heap.size + 1 + 1, 6, none⟩ (.int .i64 d5)).setCell ⟨w.heap.size + 1 + 1, 7, none⟩ (.int .i64 d6)).frozen? ⟨w.heap.size + 1, 7, none⟩ = false := by simp [go_sem, kw3_1_0, kw3_1_1, kw3_1_2, kw3_1_3, kw3_1_4, kw3_1_5, kw3_1_6, kw3_1_7, kw3_1_8, kw3_1_9, kw3_1_10, kw3_1_11, fw3_1_0, fw3_1_1, fw3_1_2, fw3_1_3, fw3_1_4, fw3_1_5, fw3_1_6, fw3_1_7, fw3_1_8, fw3_1_9, fw3_1_10, fw3_1_11]
  have y4_1_8 : (((w3.setCell ⟨w.heap.size + 1 + 1, 5, none⟩ (.int .i64 d4)).setCell ⟨w.heap.size + 1 + 1, 6, none⟩ (.int .i64 d5)).setCell ⟨w.heap.size + 1 + 1, 7, none⟩ (.int .i64 d6)).cell? ⟨w.heap.size + 1, 8, none⟩ = some (.int .i64 0) := by simp [go_sem, kw3_1_0, kw3_1_1, kw3_1_2, kw3_1_3, kw3_1_4, kw3_1_5, kw3_1_6, kw3_1_7, kw3_1_8, kw3_1_9, kw3_1_10, kw3_1_11, fw3_1_0, fw3_1_1, fw3_1_2, fw3_1_3, fw3_1_4, fw3_1_5, fw3_1_6, fw3_1_7, fw3_1_8, fw3_1_9, fw3_1_10, fw3_1_11]
  have g4_1_8 : (((w3.setCell ⟨w.heap.size + 1 + 1, 5, none⟩ (.int .i64 d4)).setCell ⟨w.heap.size + 1 + 1, 6, none⟩ (.int .i64 d5)).setCell ⟨w.heap.size + 1 + 1, 7, none⟩ (.int .i64 d6)).frozen? ⟨w.heap.size + 1, 8, none⟩ = false := by simp [go_sem, kw3_1_0, kw3_1_1, kw3_1_2, kw3_1_3, kw3_1_4, kw3_1_5, kw3_1_6, kw3_1_7, kw3_1_8, kw3_1_9, kw3_1_10, kw3_1_11, fw3_1_0, fw3_1_1, fw3_1_2, fw3_1_3, fw3_1_4, fw3_1_5, fw3_1_6, fw3_1_7, fw3_1_8, fw3_1_9, fw3_1_10, fw3_1_11]
  have y4_1_9 : (((w3.setCell ⟨w.heap.size + 1 + 1, 5, none⟩ (.int .i64 d4)).setCell ⟨w.heap.size + 1 + 1, 6, none⟩ (.int .i64 d5)).setCell ⟨w.heap.size + 1 + 1, 7, none⟩ (.int .i64 d6)).cell? ⟨w.heap.size + 1, 9, none⟩ = some (.int .i64 0) := by simp [go_sem, kw3_1_0, kw3_1_1, kw3_1_2, kw3_1_3, kw3_1_4, kw3_1_5, kw3_1_6, kw3_1_7, kw3_1_8, kw3_1_9, kw3_1_10, kw3_1_11, fw3_1_0, fw3_1_1, fw3_1_2, fw3_1_3, fw3_1_4, fw3_1_5, fw3_1_6, fw3_1_7, fw3_1_8, fw3_1_9, fw3_1_10, fw3_1_11]
  have g4_1_9 : (((w3.setCell ⟨w.heap.size + 1 + 1, 5, none⟩ (.int .i64 d4)).setCell ⟨w.heap.size + 1 + 1, 6, none⟩ (.int .i64 d5)).setCell ⟨w.heap.size + 1 + 1, 7, none⟩ (.int .i64 d6)).frozen? ⟨w.heap.size + 1, 9, none⟩ = false := by simp [go_sem, kw3_1_0, kw3_1_1, kw3_1_2, kw3_1_3, kw3_1_4, kw3_1_5, kw3_1_6, kw3_1_7, kw3_1_8, kw3_1_9, kw3_1_10, kw3_1_11, fw3_1_0, fw3_1_1, fw3_1_2, fw3_1_3, fw3_1_4, fw3_1_5, fw3_1_6, fw3_1_7, fw3_1_8, fw3_1_9, fw3_1_10, fw3_1_11]
  have y4_1_10 : (((w3.setCell ⟨w.heap.size + 1 + 1, 5, none⟩ (.int .i64 d4)).setCell ⟨w.heap.size + 1 + 1, 6, none⟩ (.int .i64 d5)).setCell ⟨w.heap.size + 1 + 1, 7, none⟩ (.int .i64 d6)).cell? ⟨w.heap.size + 1, 10, none⟩ = some (.int .i64 0) := by simp [go_sem, kw3_1_0, kw3_1_1, kw3_1_2, kw3_1_3, kw3_1_4, kw3_1_5, kw3_1_6, kw3_1_7, kw3_1_8, kw3_1_9, kw3_1_10, kw3_1_11, fw3_1_0, fw3_1_1, fw3_1_2, fw3_1_3, fw3_1_4, fw3_1_5, fw3_1_6, fw3_1_7, fw3_1_8, fw3_1_9, fw3_1_10, fw3_1_11]
  have g4_1_10 : (((w3.setCell ⟨w.heap.size + 1 + 1, 5, none⟩ (.int .i64 d4)).setCell ⟨w.heap.size + 1 + 1, 6, none⟩ (.int .i64 d5)).setCell ⟨w.heap.size + 1 + 1, 7, none⟩ (.int .i64 d6)).frozen? ⟨w.heap.size + 1, 10, none⟩ = false := by simp [go_sem, kw3_1_0, kw3_1_1, kw3_1_2, kw3_1_3, kw3_1_4, kw3_1_5, kw3_1_6, kw3_1_7, kw3_1_8, kw3_1_9, kw3_1_10, kw3_1_11, fw3_1_0, fw3_1_1, fw3_1_2, fw3_1_3, fw3_1_4, fw3_1_5, fw3_1_6, fw3_1_7, fw3_1_8, fw3_1_9, fw3_1_10, fw3_1_11]
  have y4_1_11 : (((w3.setCell ⟨w.heap.size + 1 + 1, 5, none⟩ (.int .i64 d4)).setCell ⟨w.heap.size + 1 + 1, 6, none⟩ (.int .i64 d5)).setCell ⟨w.heap.size + 1 + 1, 7, none⟩ (.int .i64 d6)).cell? ⟨w.heap.size + 1, 11, none⟩ = some (.int .i64 0) := by simp [go_sem, kw3_1_0, kw3_1_1, kw3_1_2, kw3_1_3, kw3_1_4, kw3_1_5, kw3_1_6, kw3_1_7, kw3_1_8, kw3_1_9, kw3_1_10, kw3_1_11, fw3_1_0, fw3_1_1, fw3_1_2, fw3_1_3, fw3_1_4, fw3_1_5, fw3_1_6, fw3_1_7, fw3_1_8, fw3_1_9, fw3_1_10, fw3_1_11]
  have g4_1_11 : (((w3.setCell ⟨w.heap.size + 1 + 1, 5, none⟩ (.int .i64 d4)).setCell ⟨w.heap.size + 1 + 1, 6, none⟩ (.int .i64 d5)).setCell ⟨w.heap.size + 1 + 1, 7, none⟩ (.int .i64 d6)).frozen? ⟨w.heap.size + 1, 11, none⟩ = false := by simp [go_sem, kw3_1_0, kw3_1_1, kw3_1_2, kw3_1_3, kw3_1_4, kw3_1_5, kw3_1_6, kw3_1_7, kw3_1_8, kw3_1_9, kw3_1_10, kw3_1_11, fw3_1_0, fw3_1_1, fw3_1_2, fw3_1_3, fw3_1_4, fw3_1_5, fw3_1_6, fw3_1_7, fw3_1_8, fw3_1_9, fw3_1_10, fw3_1_11]
  have z4_1 : w.heap.size + 1 < (((w3.setCell ⟨w.heap.size + 1 + 1, 5, none⟩ (.int .i64 d4)).setCell ⟨w.heap.size + 1 + 1, 6, none⟩ (.int .i64 d5)).setCell ⟨w.heap.size + 1 + 1, 7, none⟩ (.int .i64 d6)).heap.size := by first | assumption | omega | (simp; done) | (simp; omega)
  have y4_2_0 : (((w3.setCell ⟨w.heap.size + 1 + 1, 5, none⟩ (.int .i64 d4)).setCell ⟨w.heap.size + 1 + 1, 6, none⟩ (.int .i64 d5)).setCell ⟨w.heap.size + 1 + 1, 7, none⟩ (.int .i64 d6)).cell? ⟨w.heap.size + 1 + 1, 0, none⟩ = some (.int .i64 d0) := by simp [go_sem, kw3_2_0, kw3_2_1, kw3_2_2, kw3_2_3, kw3_2_4, kw3_2_5, kw3_2_6, kw3_2_7, kw3_2_8, kw3_2_9, kw3_2_10, kw3_2_11, fw3_2_0, fw3_2_1, fw3_2_2, fw3_2_3, fw3_2_4, fw3_2_5, fw3_2_6, fw3_2_7, fw3_2_8, fw3_2_9, fw3_2_10, fw3_2_11]
  have g4_2_0 : (((w3.setCell ⟨w.heap.size + 1 + 1, 5, none⟩ (.int .i64 d4)).setCell ⟨w.heap.size + 1 + 1, 6, none⟩ (.int .i64 d5)).setCell ⟨w.heap.size + 1 + 1, 7, none⟩ (.int .i64 d6)).frozen? ⟨w.heap.size + 1 + 1, 0, none⟩ = false := by simp [go_sem, kw3_2_0, kw3_2_1, kw3_2_2, kw3_2_3, kw3_2_4, kw3_2_5, kw3_2_6, kw3_2_7, kw3_2_8, kw3_2_9, kw3_2_10, kw3_2_11, fw3_2_0, fw3_2_1, fw3_2_2, fw3_2_3, fw3_2_4, fw3_2_5, fw3_2_6, fw3_2_7, fw3_2_8, fw3_2_9, fw3_2_10, fw3_2_11]
  have y4_2_1 : (((w3.setCell ⟨w.heap.size + 1 + 1, 5, none⟩ (.int .i64 d4)).setCell ⟨w.heap.size + 1 + 1, 6, none⟩ (.int .i64 d5)).setCell ⟨w.heap.size + 1 + 1, 7, none⟩ (.int .i64 d6)).cell? ⟨w.heap.size + 1 + 1, 1, none⟩ = some (.int .i64 d1) := by simp [go_sem, kw3_2_0, kw3_2_1, kw3_2_2, kw3_2_3, kw3_2_4, kw3_2_5, kw3_2_6, kw3_2_7, kw3_2_8, kw3_2_9, kw3_2_10, kw3_2_11, fw3_2_0, fw3_2_1, fw3_2_2, fw3_2_3, fw3_2_4, fw3_2_5, fw3_2_6, fw3_2_7, fw3_2_8, fw3_2_9, fw3_2_10, fw3_2_11]
  have g4_2_1 : (((w3.setCell ⟨w.heap.size + 1 + 1, 5, none⟩ (.int .i64 d4)).setCell ⟨w.heap.size + 1 + 1, 6, none⟩ (.int .i64 d5)).setCell ⟨w.heap.size + 1 + 1, 7, none⟩ (.int .i64 d6)).frozen? ⟨w.heap.size + 1 + 1, 1, none⟩ = false := by simp [go_sem, kw3_2_0, kw3_2_1, kw3_2_2, kw3_2_3, kw3_2_4, kw3_2_5, kw3_2_6, kw3_2_7, kw3_2_8, kw3_2_9, kw3_2_10, kw3_2_11, fw3_2_0, fw3_2_1, fw3_2_2, fw3_2_3, fw3_2_4, fw3_2_5, fw3_2_6, fw3_2_7, fw3_2_8, fw3_2_9, fw3_2_10, fw3_2_11]
  have y4_2_2 : (((w3.setCell ⟨w.heap.size + 1 + 1, 5, none⟩ (.int .i64 d4)).setCell ⟨w.heap.size + 1 + 1, 6, none⟩ (.int .i64 d5)).setCell ⟨w.heap.size + 1 + 1, 7, none⟩ (.int .i64 d6)).cell? ⟨w.heap.size + 1 + 1, 2, none⟩ = some (.int .i64 d2) := by simp [go_sem, kw3_2_0, kw3_2_1, kw3_2_2, kw3_2_3, kw3_2_4, kw3_2_5, kw3_2_6, kw3_2_7, kw3_2_8, kw3_2_9, kw3_2_10, kw3_2_11, fw3_2_0, fw3_2_1, fw3_2_2, fw3_2_3, fw3_2_4, fw3_2_5, fw3_2_6, fw3_2_7, fw3_2_8, fw3_2_9, fw3_2_10, fw3_2_11]
  have g4_2_2 : (((w3.setCell ⟨w.heap.size + 1 + 1, 5, none⟩ (.int .i64 d4)).setCell ⟨w.heap.size + 1 + 1, 6, none⟩ (.int .i64 d5)).setCell ⟨w.heap.size + 1 + 1, 7, none⟩ (.int .i64 d6)).frozen? ⟨w.heap.size + 1 + 1, 2, none⟩ = false := by simp [go_sem, kw3_2_0, kw3_2_1, kw3_2_2, kw3_2_3, kw3_2_4, kw3_2_5, kw3_2_6, kw3_2_7, kw3_2_8, kw3_2_9, kw3_2_10, kw3_2_11, fw3_2_0, fw3_2_1, fw3_2_2, fw3_2_3, fw3_2_4, fw3_2_5, fw3_2_6, fw3_2_7, fw3_2_8, fw3_2_9, fw3_2_10, fw3_2_11]
  have y4_2_3 : (((w3.setCell ⟨w.heap.size + 1 + 1, 5, none⟩ (.int .i64 d4)).setCell ⟨w.heap.size + 1 + 1, 6, none⟩ (.int .i64 d5)).setCell ⟨w.heap.size + 1 + 1, 7, none⟩ (.int .i64 d6)).cell? ⟨w.heap.size + 1 + 1, 3, none⟩ = some (.int .i64 d3) := by simp [go_sem, kw3_2_0, kw3_2_1, kw3_2_2, kw3_2_3, kw3_2_4, kw3_2_5, kw3_2_6, kw3_2_7, kw3_2_8, kw3_2_9, kw3_2_10, kw3_2_11, fw3_2_0, fw3_2_1, fw3_2_2, fw3_2_3, fw3_2_4, fw3_2_5, fw3_2_6, fw3_2_7, fw3_2_8, fw3_2_9, fw3_2_10, fw3_2_11]
  have g4_2_3 : (((w3.setCell ⟨w.heap.size + 1 + 1, 5, none⟩ (.int .i64 d4)).setCell ⟨w.heap.size + 1 + 1, 6, none⟩ (.int .i64 d5)).setCell ⟨w.heap.size + 1 + 1, 7, none⟩ (.int .i64 d6)).frozen? ⟨w.heap.size + 1 + 1, 3, none⟩ = false := by simp [go_sem, kw3_2_0, kw3_2_1, kw3_2_2, kw3_2_3, kw3_2_4, kw3_2_5, kw3_2_6, kw3_2_7, kw3_2_8, kw3_2_9, kw3_2_10, kw3_2_11, fw3_2_0, fw3_2_1, fw3_2_2, fw3_2_3, fw3_2_4, fw3_2_5, fw3_2_6, fw3_2_7, fw3_2_8, fw3_2_9, fw3_2_10, fw3_2_11]
  have y4_2_4 : (((w3.setCell ⟨w.heap.size + 1 + 1, 5, none⟩ (.int .i64 d4)).setCell ⟨w.heap.size + 1 + 1, 6, none⟩ (.int .i64 d5)).setCell ⟨w.heap.size + 1 + 1, 7, none⟩ (.int .i64 d6)).cell? ⟨w.heap.size + 1 + 1, 4, none⟩ = some (.slice a1 n c1) := by simp [go_sem, kw3_2_0, kw3_2_1, kw3_2_2, kw3_2_3, kw3_2_4, kw3_2_5, kw3_2_6, kw3_2_7, kw3_2_8, kw3_2_9, kw3_2_10, kw3_2_11, fw3_2_0, fw3_2_1, fw3_2_2, fw3_2_3, fw3_2_4, fw3_2_5, fw3_2_6, fw3_2_7, fw3_2_8, fw3_2_9, fw3_2_10, fw3_2_11]
  have g4_2_4 : (((w3.setCell ⟨w.heap.size + 1 + 1, 5, none⟩ (.int .i64 d4)).setCell ⟨w.heap.size + 1 + 1, 6, none⟩ (.int .i64 d5)).setCell ⟨w.heap.size + 1 + 1, 7, none⟩ (.int .i64 d6)).frozen? ⟨w.heap.size + 1 + 1, 4, none⟩ = false := by simp [go_sem, kw3_2_0, kw3_2_1, kw3_2_2, kw3_2_3, kw3_2_4, kw3_2_5, kw3_2_6, kw3_2_7, kw3_2_8, kw3_2_9, kw3_2_10, kw3_2_11, fw3_2_0, fw3_2_1, fw3_2_2, fw3_2_3, fw3_2_4, fw3_2_5, fw3_2_6, fw3_2_7, fw3_2_8, fw3_2_9, fw3_2_10, fw3_2_11]
  have y4_2_5 : (((w3.setCell ⟨w.heap.size + 1 + 1, 5, none⟩ (.int .i64 d4)).setCell ⟨w.heap.size + 1 + 1, 6, none⟩ (.int .i64 d5)).setCell ⟨w.heap.size + 1 + 1, 7, none⟩ (.int .i64 d6)).cell? ⟨w.heap.size + 1 + 1, 5, none⟩ = some (.int .i64 d4) := by simp [go_sem, kw3_2_0, kw3_2_1, kw3_2_2, kw3_2_3, kw3_2_4, kw3_2_5, kw3_2_6, kw3_2_7, kw3_2_8, kw3_2_9, kw3_2_10, kw3_2_11, fw3_2_0, fw3_2_1, fw3_2_2, fw3_2_3, fw3_2_4, fw3_2_5, fw3_2_6, fw3_2_7, fw3_2_8, fw3_2_9, fw3_2_10, fw3_2_11]
  have g4_2_5 : (((w3.setCell ⟨w.heap.size + 1 + 1, 5, none⟩ (.int .i64 d4)).setCell ⟨w.heap.size + 1 + 1, 6, none⟩ (.int .i64 d5)).setCell ⟨w.heap.size + 1 + 1, 7, none⟩ (.int .i64 d6)).frozen? ⟨w.heap.size + 1 + 1, 5, none⟩ = false := by simp [go_sem, kw3_2_0, kw3_2_1, kw3_2_2, kw3_2_3, kw3_2_4, kw3_2_5, kw3_2_6, kw3_2_7, kw3_2_8, kw3_2_9, kw3_2_10, kw3_2_11, fw3_2_0, fw3_2_1, fw3_2_2, fw3_2_3, fw3_2_4, fw3_2_5, fw3_2_6, fw3_2_7, fw3_2_8, fw3_2_9, fw3_2_10, fw3_2_11]
  have y4_2_6 : (((w3.setCell ⟨w.heap.size + 1 + 1, 5, none⟩ (.int .i64 d4)).setCell ⟨w.heap.size + 1 + 1, 6, none⟩ (.int .i64 d5)).setCell ⟨w.heap.size + 1 + 1, 7, none⟩ (.int .i64 d6)).cell? ⟨w.heap.size + 1 + 1, 6, none⟩ = some (.int .i64 d5) := by simp [go_sem, kw3_2_0, kw3_2_1, kw3_2_2, kw3_2_3, kw3_2_4, kw3_2_5, kw3_2_6, kw3_2_7, kw3_2_8, kw3_2_9, kw3_2_10, kw3_2_11, fw3_2_0, fw3_2_1, fw3_2_2, fw3_2_3, fw3_2_4, fw3_2_5, fw3_2_6, fw3_2_7, fw3_2_8, fw3_2_9, fw3_2_10, fw3_2_11]
  have g4_2_6 : (((w3.setCell ⟨w.heap.size + 1 + 1, 5, none⟩ (.int .i64 d4)).setCell ⟨w.heap.size + 1 + 1, 6, none⟩ (.int .i64 d5)).setCell ⟨w.heap.size + 1 + 1, 7, none⟩ (.int .i64 d6)).frozen? ⟨w.heap.size + 1 + 1, 6, none⟩ = false := by simp [go_sem, kw3_2_0, kw3_2_1, kw3_2_2, kw3_2_3, kw3_2_4, kw3_2_5, kw3_2_6, kw3_2_7, kw3_2_8, kw3_2_9, kw3_2_10, kw3_2_11, fw3_2_0, fw3_2_1, fw3_2_2, fw3_2_3, fw3_2_4, fw3_2_5, fw3_2_6, fw3_2_7, fw3_2_8, fw3_2_9, fw3_2_10, fw3_2_11]
  have y4_2_7 : (((w3.setCell ⟨w.heap.size + 1 + 1, 5, none⟩ (.int .i64 d4)).setCell ⟨w.heap.size + 1 + 1, 6, none⟩ (.int .i64 d5)).setCell ⟨w.heap.size + 1 + 1, 7, none⟩ (.int .i64 d6)).cell? ⟨w.heap.size + 1 + 1, 7, none⟩ = some (.int .i64 d6) := by simp [go_sem, kw3_2_0, kw3_2_1, kw3_2_2, kw3_2_3, kw3_2_4, kw3_2_5, kw3_2_6, kw3_2_7, kw3_2_8, kw3_2_9, kw3_2_10, kw3_2_11, fw3_2_0, fw3_2_1, fw3_2_2, fw3_2_3, fw3_2_4, fw3_2_5, fw3_2_6, fw3_2_7, fw3_2_8, fw3_2_9, fw3_2_10, fw3_2_11]
  have g4_2_7 : (((w3.setCell ⟨w.heap.size + 1 + 1, 5, none⟩ (.int .i64 d4)).setCell ⟨w.heap.size + 1 + 1, 6, none⟩ (.int .i64 d5)).setCell ⟨w.heap.size + 1 + 1, 7, none⟩ (.int .i64 d6)).frozen? ⟨w.heap.size + 1 + 1, 7, none⟩ = false := by simp [go_sem, kw3_2_0, kw3_2_1, kw3_2_2, kw3_2_3, kw3_2_4, kw3_2_5, kw3_2_6, kw3_2_7, kw3_2_8, kw3_2_9, kw3_2_10, kw3_2_11, fw3_2_0, fw3_2_1, fw3_2_2, fw3_2_3, fw3_2_4, fw3_2_5, fw3_2_6, fw3_2_7, fw3_2_8, fw3_2_9, fw3_2_10, fw3_2_11]
  have y4_2_8 : (((w3.setCell ⟨w.heap.size + 1 + 1, 5, none⟩ (.int .i64 d4)).setCell ⟨w.heap.size + 1 + 1, 6, none⟩ (.int .i64 d5)).setCell ⟨w.heap.size + 1 + 1, 7, none⟩ (.int .i64 d6)).cell? ⟨w.heap.size + 1 + 1, 8, none⟩ = some (.int .i64 0) := by simp [go_sem, kw3_2_0, kw3_2_1, kw3_2_2, kw3_2_3, kw3_2_4, kw3_2_5, kw3_2_6, kw3_2_7, kw3_2_8, kw3_2_9, kw3_2_10, kw3_2_11, fw3_2_0, fw3_2_1, fw3_2_2, fw3_2_3, fw3_2_4, fw3_2_5, fw3_2_6, fw3_2_7, fw3_2_8, fw3_2_9, fw3_2_10, fw3_2_11]
  have g4_2_8 : (((w3.setCell ⟨w.heap.size + 1 + 1, 5, none⟩ (.int .i64 d4)).setCell ⟨w.heap.size + 1 + 1, 6, none⟩ (.int .i64 d5)).setCell ⟨w.heap.size + 1 + 1, 7, none⟩ (.int .i64 d6)).frozen? ⟨w.heap.size + 1 + 1, 8, none⟩ = false := by simp [go_sem, kw3_2_0, kw3_2_1, kw3_2_2, kw3_2_3, kw3_2_4, kw3_2_5, kw3_2_6, kw3_2_7, kw3_2_8, kw3_2_9, kw3_2_10, kw3_2_11, fw3_2_0, fw3_2_1, fw3_2_2, fw3_2_3, fw3_2_4, fw3_2_5, fw3_2_6, fw3_2_7, fw3_2_8, fw3_2_9, fw3_2_10, fw3_2_11]
  have y4_2_9 : (((w3.setCell ⟨w.heap.size + 1 + 1, 5, none⟩ (.int .i64 d4)).setCell ⟨w.heap.size + 1 + 1, 6, none⟩ (.int .i64 d5)).setCell ⟨w.heap.size + 1 + 1, 7, none⟩ (.int .i64 d6)).cell? ⟨w.heap.size + 1 + 1, 9, none⟩ = some (.int .i64 0) := by simp [go_sem, kw3_2_0, kw3_2_1, kw3_2_2, kw3_2_3, kw3_2_4, kw3_2_5, kw3_2_6, kw3_2_7, kw3_2_8, kw3_2_9, kw3_2_10, kw3_2_11, fw3_2_0, fw3_2_1, fw3_2_2, fw3_2_3, fw3_2_4, fw3_2_5, fw3_2_6, fw3_2_7, fw3_2_8, fw3_2_9, fw3_2_10, fw3_2_11]
  have g4_2_9 : (((w3.setCell ⟨w.heap.size + 1 + 1, 5, none⟩ (.int .i64 d4)).setCell ⟨w.heap.size + 1 + 1, 6, none⟩ (.int .i64 d5)).setCell ⟨w.heap.size + 1 + 1, 7, none⟩ (.int .i64 d6)).frozen? ⟨w.heap.size + 1 + 1, 9, none⟩ = false := by simp [go_sem, kw3_2_0, kw3_2_1, kw3_2_2, kw3_2_3, kw3_2_4, kw3_2_5, kw3_2_6, kw3_2_7, kw3_2_8, kw3_2_9, kw3_2_10, kw3_2_11, fw3_2_0, fw3_2_1, fw3_2_2, fw3_2_3, fw3_2_4, fw3_2_5, fw3_2_6, fw3_2_7, fw3_2_8, fw3_2_9, fw3_2_10, fw3_2_11]
  have y4_2_10 : (((w3.setCell ⟨w.heap.size + 1 + 1, 5, none⟩ (.int .i64 d4)).setCell ⟨w.heap.size + 1 + 1, 6, none⟩ (.int .i64 d5)).setCell ⟨w.heap.size + 1 + 1, 7, none⟩ (.int .i64 d6)).cell? ⟨w.heap.size + 1 + 1, 10, none⟩ = some (.int .i64 0) := by simp [go_sem, kw3_2_0, kw3_2_1, kw3_2_2, kw3_2_3, kw3_2_4, kw3_2_5, kw3_2_6, kw3_2_7, kw3_2_8, kw3_2_9, kw3_2_10, kw3_2_11, fw3_2_0, fw3_2_1, fw3_2_2, fw3_2_3, fw3_2_4, fw3_2_5, fw3_2_6, fw3_2_7, fw3_2_8, fw3_2_9, fw3_2_10, fw3_2_11]
  have g4_2_10 : (((w3.setCell ⟨w.heap.size + 1 + 1, 5, none⟩ (.int .i64 d4)).setCell ⟨w.heap.size + 1 + 1, 6, none⟩ (.int .i64 d5)).setCell ⟨w.heap.size + 1 + 1, 7, none⟩ (.int .i64 d6)).frozen? ⟨w.heap.size + 1 + 1, 10, none⟩ = false := by simp [go_sem, kw3_2_0, kw3_2_1, kw3_2_2, kw3_2_3, kw3_2_4, kw3_2_5, kw3_2_6, kw3_2_7, kw3_2_8, kw3_2_9, kw3_2_10, kw3_2_11, fw3_2_0, fw3_2_1, fw3_2_2, fw3_2_3, fw3_2_4, fw3_2_5, fw3_2_6, fw3_2_7, fw3_2_8, fw3_2_9, fw3_2_10, fw3_2_11]
  have y4_2_11 : (((w3.setCell ⟨w.heap.size + 1 + 1, 5, none⟩ (.int .i64 d4)).setCell ⟨w.heap.size + 1 + 1, 6, none⟩ (.int .i64 d5)).setCell ⟨w.heap.size + 1 + 1, 7, none⟩ (.int .i64 d6)).cell? ⟨w.heap.size + 1 + 1, 11, none⟩ = some (.int .i64 0) := by simp [go_sem, kw3_2_0, kw3_2_1, kw3_2_2, kw3_2_3, kw3_2_4, kw3_2_5, kw3_2_6, kw3_2_7, kw3_2_8, kw3_2_9, kw3_2_10, kw3_2_11, fw3_2_0, fw3_2_1, fw3_2_2, fw3_2_3, fw3_2_4, fw3_2_5, fw3_2_6, fw3_2_7, fw3_2_8, fw3_2_9, fw3_2_10, fw3_2_11]
  have g4_2_11 : (((w3.setCell ⟨w.heap.size + 1 + 1, 5, none⟩ (.int .i64 d4)).setCell ⟨w.heap.size + 1 + 1, 6, none⟩ (.int .i64 d5)).setCell ⟨w.heap.size + 1 + 1, 7, none⟩ (.int .i64 d6)).frozen? ⟨w.heap.size + 1 + 1, 11, none⟩ = false := by simp [go_sem, kw3_2_0, kw3_2_1, kw3_2_2, kw3_2_3, kw3_2_4, kw3_2_5, kw3_2_6, kw3_2_7, kw3_2_8, kw3_2_9, kw3_2_10, kw3_2_11, fw3_2_0, fw3_2_1, fw3_2_2, fw3_2_3, fw3_2_4, fw3_2_5, fw3_2_6, fw3_2_7, fw3_2_8, fw3_2_9, fw3_2_10, fw3_2_11]
  have z4_2 : w.heap.size + 1 + 1 < (((w3.setCell ⟨w.heap.size + 1 + 1, 5, none⟩ (.int .i64 d4)).setCell ⟨w.heap.size + 1 + 1, 6, none⟩ (.int .i64 d5)).setCell ⟨w.heap.size + 1 + 1, 7, none⟩ (.int .i64 d6)).heap.size := by first | assumption | omega | (simp; done) | (simp; omega)
  have HBy4 := Lib.hid (show Below w.heap.size w (((w3.setCell ⟨w.heap.size + 1 + 1, 5, none⟩ (.int .i64 d4)).setCell ⟨w.heap.size + 1 + 1, 6, none⟩ (.int .i64 d5)).setCell ⟨w.heap.size + 1 + 1, 7, none⟩ (.int .i64 d6)) by repeat (first | exact HBw3.out | exact Below.refl _ _ | refine bl_alloc ?_ _ | refine bl_drewN ?_ _ | refine bl_trans (by assumption) ?_ | refine bl_set ?_ (by first | omega | (simp; done) | (simp; omega)) _))
  have HO := Lib.hid (show ORow (((w3.setCell ⟨w.heap.size + 1 + 1, 5, none⟩ (.int .i64 d4)).setCell ⟨w.heap.size + 1 + 1, 6, none⟩ (.int .i64 d5)).setCell ⟨w.heap.size + 1 + 1, 7, none⟩ (.int .i64 d6)) (w.heap.size + 1 + 1 + 1) (.slice a1 n c1) n f from (((HO.out).low (p := ⟨w.heap.size + 1 + 1, 5, none⟩) (by simp) (.int .i64 d4)).low (p := ⟨w.heap.size + 1 + 1, 6, none⟩) (by simp) (.int .i64 d5)).low (p := ⟨w.heap.size + 1 + 1, 7, none⟩) (by simp) (.int .i64 d6))
  clear kw3_0_0 kw3_0_1 kw3_0_2 kw3_0_3 kw3_0_4 kw3_0_5 kw3_0_6 kw3_0_7 kw3_0_8 kw3_0_9 kw3_0_10 kw3_0_11 sw3_0 kw3_1_0 kw3_1_1 kw3_1_2 kw3_1_3 kw3_1_4 kw3_1_5 kw3_1_6 kw3_1_7 kw3_1_8 kw3_1_9 kw3_1_10 kw3_1_11 fw3_1_0 fw3_1_1 fw3_1_2 fw3_1_3 fw3_1_4 fw3_1_5 fw3_1_6 fw3_1_7 fw3_1_8 fw3_1_9 fw3_1_10 fw3_1_11 sw3_1 kw3_2_0 kw3_2_1 kw3_2_2 kw3_2_3 kw3_2_4 kw3_2_5 kw3_2_6 kw3_2_7 kw3_2_8 kw3_2_9 kw3_2_10 kw3_2_11 fw3_2_0 fw3_2_1 fw3_2_2 fw3_2_3 fw3_2_4 fw3_2_5 fw3_2_6 fw3_2_7 fw3_2_8 fw3_2_9 fw3_2_10 fw3_2_11 sw3_2
  generalize (((w3.setCell ⟨w.heap.size + 1 + 1, 5, none⟩ (.int .i64 d4)).setCell ⟨w.heap.size + 1 + 1, 6, none⟩ (.int .i64 d5)).setCell ⟨w.heap.size + 1 + 1, 7, none⟩ (.int .i64 d6)) = wy4 at *
  go_wp2_with fail
  refine (toIsland_any _ _ _ _ _).mono ?_
  rintro e w4 ⟨rfl, hbw4⟩
  obtain ⟨hcw4, hfw4⟩ := bcell hbw4
  have hzw4 := bsize hbw4
  (try simp only [World.size_alloc, World.size_setCell] at hzw4)
  have hkw4 : Below wy4.heap.size wy4 w4 := (by repeat (first | exact Below.refl _ _ | refine bl_alloc ?_ _ | refine bl_drewN ?_ _ | refine bl_trans (by assumption) ?_ | refine bl_set ?_ (by first | omega | (simp; done) | (simp; omega)) _))
  have HO := Lib.hid (HO.out.keep hbw4)
  have kw4_0_0 : w4.cell? ⟨w.heap.size, 0, none⟩ = some (.int .i64 d0) := cell_after hkw4 z4_0 y4_0_0
  have kw4_0_1 : w4.cell? ⟨w.heap.size, 1, none⟩ = some (.int .i64 d1) := cell_after hkw4 z4_0 y4_0_1
  have kw4_0_2 : w4.cell? ⟨w.heap.size, 2, none⟩ = some (.int .i64 d2) := cell_after hkw4 z4_0 y4_0_2
  have kw4_0_3 : w4.cell? ⟨w.heap.size, 3, none⟩ = some (.int .i64 d3) := cell_after hkw4 z4_0 y4_0_3
  have kw4_0_4 : w4.cell? ⟨w.heap.size, 4, none⟩ = some (.slice a n c) := cell_after hkw4 z4_0 y4_0_4
  have kw4_0_5 : w4.cell? ⟨w.heap.size, 5, none⟩ = some (.int .i64 d4) := cell_after hkw4 z4_0 y4_0_5
  have kw4_0_6 : w4.cell? ⟨w.heap.size, 6, none⟩ = some (.int .i64 d5) := cell_after hkw4 z4_0 y4_0_6
  have kw4_0_7 : w4.cell? ⟨w.heap.size, 7, none⟩ = some (.int .i64 d6) := cell_after hkw4 z4_0 y4_0_7
  have kw4_0_8 : w4.cell? ⟨w.heap.size, 8, none⟩ = some (.int .i64 d7) := cell_after hkw4 z4_0 y4_0_8
  have kw4_0_9 : w4.cell? ⟨w.heap.size, 9, none⟩ = some (.int .i64 d8) := cell_after hkw4 z4_0 y4_0_9
  have kw4_0_10 : w4.cell? ⟨w.heap.size, 10, none⟩ = some (.int .i64 d9) := cell_after hkw4 z4_0 y4_0_10
  have kw4_0_11 : w4.cell? ⟨w.heap.size, 11, none⟩ = some (.int .i64 d10) := cell_after hkw4 z4_0 y4_0_11
  have sw4_0 : w.heap.size < w4.heap.size := size_after hkw4 z4_0
  have kw4_1_0 : w4.cell? ⟨w.heap.size + 1, 0, none⟩ = some (.int .i64 0) := cell_after hkw4 z4_1 y4_1_0
  have fw4_1_0 : w4.frozen? ⟨w.heap.size + 1, 0, none⟩ = false := frozen_after hkw4 z4_1 g4_1_0
  have kw4_1_1 : w4.cell? ⟨w.heap.size + 1, 1, none⟩ = some (.int .i64 0) := cell_after hkw4 z4_1 y4_1_1
  have fw4_1_1 : w4.frozen? ⟨w.heap.size + 1, 1, none⟩ = false := frozen_after hkw4 z4_1 g4_1_1
  have kw4_1_2 : w4.cell? ⟨w.heap.size + 1, 2, none⟩ = some (.int .i64 0) := cell_after hkw4 z4_1 y4_1_2
  have fw4_1_2 : w4.frozen? ⟨w.heap.size + 1, 2, none⟩ = false := frozen_after hkw4 z4_1 g4_1_2
  have kw4_1_3 : w4.cell? ⟨w.heap.size + 1, 3, none⟩ = some (.int .i64 0) := cell_after hkw4 z4_1 y4_1_3
  have fw4_1_3 : w4.frozen? ⟨w.heap.size + 1, 3, none⟩ = false := frozen_after hkw4 z4_1 g4_1_3
  have kw4_1_4 : w4.cell? ⟨w.heap.size + 1, 4, none⟩ = some (.slice none 0 0) := cell_after hkw4 z4_1 y4_1_4
  have fw4_1_4 : w4.frozen? ⟨w.heap.size + 1, 4, none⟩ = false := frozen_after hkw4 z4_1 g4_1_4
  have kw4_1_5 : w4.cell? ⟨w.heap.size + 1, 5, none⟩ = some (.int .i64 0) := cell_after hkw4 z4_1 y4_1_5
  have fw4_1_5 : w4.frozen? ⟨w.heap.size + 1, 5, none⟩ = false := frozen_after hkw4 z4_1 g4_1_5
  have kw4_1_6 : w4.cell? ⟨w.heap.size + 1, 6, none⟩ = some (.int .i64 0) := cell_after hkw4 z4_1 y4_1_6
  have fw4_1_6 : w4.frozen? ⟨w.heap.size + 1, 6, none⟩ = false := frozen_after hkw4 z4_1 g4_1_6
  have kw4_1_7 : w4.cell? ⟨w.heap.size + 1, 7, none⟩ = some (.int .i64 0) := cell_after hkw4 z4_1 y4_1_7
  have fw4_1_7 : w4.frozen? ⟨w.heap.size + 1, 7, none⟩ = false := frozen_after hkw4 z4_1 g4_1_7
  have kw4_1_8 : w4.cell? ⟨w.heap.size + 1, 8, none⟩ = some (.int .i64 0) := cell_after hkw4 z4_1 y4_1_8
  have fw4_1_8 : w4.frozen? ⟨w.heap.size + 1, 8, none⟩ = false := frozen_after hkw4 z4_1 g4_1_8
  have kw4_1_9 : w4.cell? ⟨w.heap.size + 1, 9, none⟩ = some (.int .i64 0) := cell_after hkw4 z4_1 y4_1_9
  have fw4_1_9 : w4.frozen? ⟨w.heap.size + 1, 9, none⟩ = false := frozen_after hkw4 z4_1 g4_1_9
  have kw4_1_10 : w4.cell? ⟨w.heap.size + 1, 10, none⟩ = some (.int .i64 0) := cell_after hkw4 z4_1 y4_1_10
  have fw4_1_10 : w4.frozen? ⟨w.heap.size + 1, 10, none⟩ = false := frozen_after hkw4 z4_1 g4_1_10
  have kw4_1_11 : w4.cell? ⟨w.heap.size + 1, 11, none⟩ = some (.int .i64 0) := cell_after hkw4 z4_1 y4_1_11
  have fw4_1_11 : w4.frozen? ⟨w.heap.size + 1, 11, none⟩ = false := frozen_after hkw4 z4_1 g4_1_11
  have sw4_1 : w.heap.size + 1 < w4.heap.size := size_after hkw4 z4_1
  have kw4_2_0 : w4.cell? ⟨w.heap.size + 1 + 1, 0, none⟩ = some (.int .i64 d0) := cell_after hkw4 z4_2 y4_2_0
  have fw4_2_0 : w4.frozen? ⟨w.heap.size + 1 + 1, 0, none⟩ = false := frozen_after hkw4 z4_2 g4_2_0
  have kw4_2_1 : w4.cell? ⟨w.heap.size + 1 + 1, 1, none⟩ = some (.int .i64 d1) := cell_after hkw4 z4_2 y4_2_1
  have fw4_2_1 : w4.frozen? ⟨w.heap.size + 1 + 1, 1, none⟩ = false := frozen_after hkw4 z4_2 g4_2_1
  have kw4_2_2 : w4.cell? ⟨w.heap.size + 1 + 1, 2, none⟩ = some (.int .i64 d2) := cell_after hkw4 z4_2 y4_2_2
  have fw4_2_2 : w4.frozen? ⟨w.heap.size + 1 + 1, 2, none⟩ = false := frozen_after hkw4 z4_2 g4_2_2
  have kw4_2_3 : w4.cell? ⟨w.heap.size + 1 + 1, 3, none⟩ = some (.int .i64 d3) := cell_after hkw4 z4_2 y4_2_3
  have fw4_2_3 : w4.frozen? ⟨w.heap.size + 1 + 1, 3, none⟩ = false := frozen_after hkw4 z4_2 g4_2_3
  have kw4_2_4 : w4.cell? ⟨w.heap.size + 1 + 1, 4, none⟩ = some (.slice a1 n c1) := cell_after hkw4 z4_2 y4_2_4
  have fw4_2_4 : w4.frozen? ⟨w.heap.size + 1 + 1, 4, none⟩ = false := frozen_after hkw4 z4_2 g4_2_4
  have kw4_2_5 : w4.cell? ⟨w.heap.size + 1 + 1, 5, none⟩ = some (.int .i64 d4) := cell_after hkw4 z4_2 y4_2_5
  have fw4_2_5 : w4.frozen? ⟨w.heap.size + 1 + 1, 5, none⟩ = false := frozen_after hkw4 z4_2 g4_2_5
  have kw4_2_6 : w4.cell? ⟨w.heap.size + 1 + 1, 6, none⟩ = some (.int .i64 d5) := cell_after hkw4 z4_2 y4_2_6
  have fw4_2_6 : w4.frozen? ⟨w.heap.size + 1 + 1, 6, none⟩ = false := frozen_after hkw4 z4_2 g4_2_6
  have kw4_2_7 : w4.cell? ⟨w.heap.size + 1 + 1, 7, none⟩ = some (.int .i64 d6) := cell_after hkw4 z4_2 y4_2_7
  have fw4_2_7 : w4.frozen? ⟨w.heap.size + 1 + 1, 7, none⟩ = false := frozen_after hkw4 z4_2 g4_2_7
  have kw4_2_8 : w4.cell? ⟨w.heap.size + 1 + 1, 8, none⟩ = some (.int .i64 0) := cell_after hkw4 z4_2 y4_2_8
  have fw4_2_8 : w4.frozen? ⟨w.heap.size + 1 + 1, 8, none⟩ = false := frozen_after hkw4 z4_2 g4_2_8
  have kw4_2_9 : w4.cell? ⟨w.heap.size + 1 + 1, 9, none⟩ = some (.int .i64 0) := cell_after hkw4 z4_2 y4_2_9
  have fw4_2_9 : w4.frozen? ⟨w.heap.size + 1 + 1, 9, none⟩ = false := frozen_after hkw4 z4_2 g4_2_9
  have kw4_2_10 : w4.cell? ⟨w.heap.size + 1 + 1, 10, none⟩ = some (.int .i64 0) := cell_after hkw4 z4_2 y4_2_10
  have fw4_2_10 : w4.frozen? ⟨w.heap.size + 1 + 1, 10, none⟩ = false := frozen_after hkw4 z4_2 g4_2_10
  have kw4_2_11 : w4.cell? ⟨w.heap.size + 1 + 1, 11, none⟩ = some (.int .i64 0) := cell_after hkw4 z4_2 y4_2_11
  have fw4_2_11 : w4.frozen? ⟨w.heap.size + 1 + 1, 11, none⟩ = false := frozen_after hkw4 z4_2 g4_2_11
  have sw4_2 : w.heap.size + 1 + 1 < w4.heap.size := size_after hkw4 z4_2
  have hBw4 : Below w.heap.size w w4 := (by repeat (first | exact HBy4.out | exact Below.refl _ _ | refine bl_alloc ?_ _ | refine bl_drewN ?_ _ | refine bl_trans (by assumption) ?_ | refine bl_set ?_ (by first | omega | (simp; done) | (simp; omega)) _))
  have HBw4 := Lib.hid hBw4
  clear hBw4 hcw4 hfw4 hbw4 hkw4 y4_0_0 y4_0_1 y4_0_2 y4_0_3 y4_0_4 y4_0_5 y4_0_6 y4_0_7 y4_0_8 y4_0_9 y4_0_10 y4_0_11 z4_0 y4_1_0 y4_1_1 y4_1_2 y4_1_3 y4_1_4 y4_1_5 y4_1_6 y4_1_7 y4_1_8 y4_1_9 y4_1_10 y4_1_11 g4_1_0 g4_1_1 g4_1_2 g4_1_3 g4_1_4 g4_1_5 g4_1_6 g4_1_7 g4_1_8 g4_1_9 g4_1_10 g4_1_11 z4_1 y4_2_0 y4_2_1 y4_2_2 y4_2_3 y4_2_4 y4_2_5 y4_2_6 y4_2_7 y4_2_8 y4_2_9 y4_2_10 y4_2_11 g4_2_0 g4_2_1 g4_2_2 g4_2_3 g4_2_4 g4_2_5 g4_2_6 g4_2_7 g4_2_8 g4_2_9 g4_2_10 g4_2_11 z4_2
  go_wp2
  exact bodyPost_ret (v := .agg #[.int .i64 d0, .int .i64 d1, .int .i64 d2, .int .i64 d3, .slice a1 n c1, .int .i64 d4, .int .i64 d5, .int .i64 d6, .int .i64 d7, .int .i64 d8, .int .i64 d9, .int .i64 d10]) (by simp [results, Try.results14, go_sem, kw4_0_0, kw4_0_1, kw4_0_2, kw4_0_3, kw4_0_4, kw4_0_5, kw4_0_6, kw4_0_7, kw4_0_8, kw4_0_9, kw4_0_10, kw4_0_11, kw4_1_0, kw4_1_1, kw4_1_2, kw4_1_3, kw4_1_4, kw4_1_5, kw4_1_6, kw4_1_7, kw4_1_8, kw4_1_9, kw4_1_10, kw4_1_11, fw4_1_0, fw4_1_1, fw4_1_2, fw4_1_3, fw4_1_4, fw4_1_5, fw4_1_6, fw4_1_7, fw4_1_8, fw4_1_9, fw4_1_10, fw4_1_11, kw4_2_0, kw4_2_1, kw4_2_2, kw4_2_3, kw4_2_4, kw4_2_5, kw4_2_6, kw4_2_7, kw4_2_8, kw4_2_9, kw4_2_10, kw4_2_11, fw4_2_0, fw4_2_1, fw4_2_2, fw4_2_3, fw4_2_4, fw4_2_5, fw4_2_6, fw4_2_7, fw4_2_8, fw4_2_9, fw4_2_10, fw4_2_11]) rfl ⟨.slice a1 n c1, rfl, (((((((((((((((((HO.out).low (p := ⟨w.heap.size + 1 + 1, 8, none⟩) (by simp) (.int .i64 d7)).low (p := ⟨w.heap.size + 1 + 1, 9, none⟩) (by simp) (.int .i64 d8)).low (p := ⟨w.heap.size + 1 + 1, 10, none⟩) (by simp) (.int .i64 d9)).low (p := ⟨w.heap.size + 1 + 1, 11, none⟩) (by simp) (.int .i64 d10)).low (p := ⟨w.heap.size + 1, 0, none⟩) (by simp) (.int .i64 d0)).low (p := ⟨w.heap.size + 1, 1, none⟩) (by simp) (.int .i64 d1)).low (p := ⟨w.heap.size + 1, 2, none⟩) (by simp) (.int .i64 d2)).low (p := ⟨w.heap.size + 1, 3, none⟩) (by simp) (.int .i64 d3)).low (p := ⟨w.heap.size + 1, 4, none⟩) (by simp) (.slice a1 n c1)).low (p := ⟨w.heap.size + 1, 5, none⟩) (by simp) (.int .i64 d4)).low (p := ⟨w.heap.size + 1, 6, none⟩) (by simp) (.int .i64 d5)).low (p := ⟨w.heap.size + 1, 7, none⟩) (by simp) (.int .i64 d6)).low (p := ⟨w.heap.size + 1, 8, none⟩) (by simp) (.int .i64 d7)).low (p := ⟨w.heap.size + 1, 9, none⟩) (by simp) (.int .i64 d8)).low (p := ⟨w.heap.size + 1, 10, none⟩) (by simp) (.int .i64 d9)).low (p := ⟨w.heap.size + 1, 11, none⟩) (by simp) (.int .i64 d10)).lower (by omega), (by repeat (first | refine bl_set ?_ (by first | omega | (simp; done) | (simp; omega)) _ | exact HBw4.out))⟩
set_option maxHeartbeats 800000 in
theorem szDesk_any (d0 d1 d2 d3 d4 d5 d6 d7 d8 d9 d10 : Int) (v : Value) (n : Nat) (f : Nat → Int) (w : World) (h : PRow w v n f) :
    Calls Try.prog 12 #[.agg #[.int .i64 d0, .int .i64 d1, .int .i64 d2, .int .i64 d3, v, .int .i64 d4, .int .i64 d5, .int .i64 d6, .int .i64 d7, .int .i64 d8, .int .i64 d9, .int .i64 d10], .int .i64 1048576] w fun e w' => e = .returned (.int .i64 (if n ≤ 1048576 then 1048576 - (n : Int) else -1)) ∧ Below w.heap.size w w' := by
  have hl := h.len_le
  obtain ⟨a, c, rfl⟩ := h.shape
  have HH := Lib.hid h
  clear h
  by_cases hn : n ≤ 1048576
  · rw [if_pos hn]
    go_enter Try.func12, Try.ntmps12
    go_wp2_with (go_at_call 33; refine (szPoleS_any _ n f _ (HH.out.keep (by repeat (first | exact Below.refl _ _ | refine bl_alloc ?_ _ | refine bl_drewN ?_ _ | refine bl_trans (by assumption) ?_ | refine bl_set ?_ (by first | omega | (simp; done) | (simp; omega)) _)))).mono ?_; rintro e w' ⟨rfl, rfl⟩; rw [if_pos hn])
    go_ret
    exact ⟨rfl, (by repeat (first | exact Below.refl _ _ | refine bl_alloc ?_ _ | refine bl_drewN ?_ _ | refine bl_trans (by assumption) ?_ | refine bl_set ?_ (by first | omega | (simp; done) | (simp; omega)) _))⟩
  · rw [if_neg hn]
    go_enter Try.func12, Try.ntmps12
    go_wp2_with (go_at_call 33; refine (szPoleS_any _ n f _ (HH.out.keep (by repeat (first | exact Below.refl _ _ | refine bl_alloc ?_ _ | refine bl_drewN ?_ _ | refine bl_trans (by assumption) ?_ | refine bl_set ?_ (by first | omega | (simp; done) | (simp; omega)) _)))).mono ?_; rintro e w' ⟨rfl, rfl⟩; rw [if_neg hn])
    go_ret
    exact ⟨rfl, (by repeat (first | exact Below.refl _ _ | refine bl_alloc ?_ _ | refine bl_drewN ?_ _ | refine bl_trans (by assumption) ?_ | refine bl_set ?_ (by first | omega | (simp; done) | (simp; omega)) _))⟩
set_option maxRecDepth 8000 in
set_option maxHeartbeats 4000000 in
theorem eqDesk_any (d0 d1 d2 d3 d4 d5 d6 d7 d8 d9 d10 : Int) (v u : Value) (n : Nat) (f : Nat → Int) (w : World) (h1 : PRow w v n f) (h2 : PRow w u n f) :
    Calls Try.prog 9 #[.agg #[.int .i64 d0, .int .i64 d1, .int .i64 d2, .int .i64 d3, v, .int .i64 d4, .int .i64 d5, .int .i64 d6, .int .i64 d7, .int .i64 d8, .int .i64 d9, .int .i64 d10], .agg #[.int .i64 d0, .int .i64 d1, .int .i64 d2, .int .i64 d3, u, .int .i64 d4, .int .i64 d5, .int .i64 d6, .int .i64 d7, .int .i64 d8, .int .i64 d9, .int .i64 d10]] w fun e w' => e = .returned (.bool true) ∧ Below w.heap.size w w' := by
  obtain ⟨a, c, rfl⟩ := h1.shape
  obtain ⟨a', c', rfl⟩ := h2.shape
  have H1 := Lib.hid h1
  have H2 := Lib.hid h2
  clear h1 h2
  go_enter Try.func9, Try.ntmps9
  go_wp2_with fail
  refine (eqLadders_one _ _ _ _).mono ?_
  rintro e w1 ⟨rfl, hbw1⟩
  obtain ⟨hcw1, hfw1⟩ := bcell hbw1
  have hzw1 := bsize hbw1
  (try simp only [World.size_alloc, World.size_setCell] at hzw1)
  have kw1_0_0 : w1.cell? ⟨w.heap.size, 0, none⟩ = some (.int .i64 d0) := by rw [hcw1 _ _ (by first | (simp; done) | omega | (simp; omega))]; first | assumption | (simp [go_sem]; done) | (simp [go_sem]; done) | (simp [go_sem, *]; done)
  have kw1_0_1 : w1.cell? ⟨w.heap.size, 1, none⟩ = some (.int .i64 d1) := by rw [hcw1 _ _ (by first | (simp; done) | omega | (simp; omega))]; first | assumption | (simp [go_sem]; done) | (simp [go_sem]; done) | (simp [go_sem, *]; done)
  have kw1_0_2 : w1.cell? ⟨w.heap.size, 2, none⟩ = some (.int .i64 d2) := by rw [hcw1 _ _ (by first | (simp; done) | omega | (simp; omega))]; first | assumption | (simp [go_sem]; done) | (simp [go_sem]; done) | (simp [go_sem, *]; done)
  have kw1_0_3 : w1.cell? ⟨w.heap.size, 3, none⟩ = some (.int .i64 d3) := by rw [hcw1 _ _ (by first | (simp; done) | omega | (simp; omega))]; first | assumption | (simp [go_sem]; done) | (simp [go_sem]; done) | (simp [go_sem, *]; done)
  have kw1_0_4 : w1.cell? ⟨w.heap.size, 4, none⟩ = some (.slice a n c) := by rw [hcw1 _ _ (by first | (simp; done) | omega | (simp; omega))]; first | assumption | (simp [go_sem]; done) | (simp [go_sem]; done) | (simp [go_sem, *]; done)
  have kw1_0_5 : w1.cell? ⟨w.heap.size, 5, none⟩ = some (.int .i64 d4) := by rw [hcw1 _ _ (by first | (simp; done) | omega | (simp; omega))]; first | assumption | (simp [go_sem]; done) | (simp [go_sem]; done) | (simp [go_sem, *]; done)
  have kw1_0_6 : w1.cell? ⟨w.heap.size, 6, none⟩ = some (.int .i64 d5) := by rw [hcw1 _ _ (by first | (simp; done) | omega | (simp; omega))]; first | assumption | (simp [go_sem]; done) | (simp [go_sem]; done) | (simp [go_sem, *]; done)
  have kw1_0_7 : w1.cell? ⟨w.heap.size, 7, none⟩ = some (.int .i64 d6) := by rw [hcw1 _ _ (by first | (simp; done) | omega | (simp; omega))]; first | assumption | (simp [go_sem]; done) | (simp [go_sem]; done) | (simp [go_sem, *]; done)
  have kw1_0_8 : w1.cell? ⟨w.heap.size, 8, none⟩ = some (.int .i64 d7) := by rw [hcw1 _ _ (by first | (simp; done) | omega | (simp; omega))]; first | assumption | (simp [go_sem]; done) | (simp [go_sem]; done) | (simp [go_sem, *]; done)
  have kw1_0_9 : w1.cell? ⟨w.heap.size, 9, none⟩ = some (.int .i64 d8) := by rw [hcw1 _ _ (by first | (simp; done) | omega | (simp; omega))]; first | assumption | (simp [go_sem]; done) | (simp [go_sem]; done) | (simp [go_sem, *]; done)
  have kw1_0_10 : w1.cell? ⟨w.heap.size, 10, none⟩ = some (.int .i64 d9) := by rw [hcw1 _ _ (by first | (simp; done) | omega | (simp; omega))]; first | assumption | (simp [go_sem]; done) | (simp [go_sem]; done) | (simp [go_sem, *]; done)
  have kw1_0_11 : w1.cell? ⟨w.heap.size, 11, none⟩ = some (.int .i64 d10) := by rw [hcw1 _ _ (by first | (simp; done) | omega | (simp; omega))]; first | assumption | (simp [go_sem]; done) | (simp [go_sem]; done) | (simp [go_sem, *]; done)
  have sw1_0 : w.heap.size < w1.heap.size := by first | omega | (simp at *; omega)
  have kw1_1_0 : w1.cell? ⟨w.heap.size + 1, 0, none⟩ = some (.int .i64 d0) := by rw [hcw1 _ _ (by first | (simp; done) | omega | (simp; omega))]; first | assumption | (simp [go_sem]; done) | (simp [go_sem]; done) | (simp [go_sem, *]; done)
  have kw1_1_1 : w1.cell? ⟨w.heap.size + 1, 1, none⟩ = some (.int .i64 d1) := by rw [hcw1 _ _ (by first | (simp; done) | omega | (simp; omega))]; first | assumption | (simp [go_sem]; done) | (simp [go_sem]; done) | (simp [go_sem, *]; done)
  have kw1_1_2 : w1.cell? ⟨w.heap.size + 1, 2, none⟩ = some (.int .i64 d2) := by rw [hcw1 _ _ (by first | (simp; done) | omega | (simp; omega))]; first | assumption | (simp [go_sem]; done) | (simp [go_sem]; done) | (simp [go_sem, *]; done)
  have kw1_1_3 : w1.cell? ⟨w.heap.size + 1, 3, none⟩ = some (.int .i64 d3) := by rw [hcw1 _ _ (by first | (simp; done) | omega | (simp; omega))]; first | assumption | (simp [go_sem]; done) | (simp [go_sem]; done) | (simp [go_sem, *]; done)
  have kw1_1_4 : w1.cell? ⟨w.heap.size + 1, 4, none⟩ = some (.slice a' n c') := by rw [hcw1 _ _ (by first | (simp; done) | omega | (simp; omega))]; first | assumption | (simp [go_sem]; done) | (simp [go_sem]; done) | (simp [go_sem, *]; done)
  have kw1_1_5 : w1.cell? ⟨w.heap.size + 1, 5, none⟩ = some (.int .i64 d4) := by rw [hcw1 _ _ (by first | (simp; done) | omega | (simp; omega))]; first | assumption | (simp [go_sem]; done) | (simp [go_sem]; done) | (simp [go_sem, *]; done)
  have kw1_1_6 : w1.cell? ⟨w.heap.size + 1, 6, none⟩ = some (.int .i64 d5) := by rw [hcw1 _ _ (by first | (simp; done) | omega | (simp; omega))]; first | assumption | (simp [go_sem]; done) | (simp [go_sem]; done) | (simp [go_sem, *]; done)
  have kw1_1_7 : w1.cell? ⟨w.heap.size + 1, 7, none⟩ = some (.int .i64 d6) := by rw [hcw1 _ _ (by first | (simp; done) | omega | (simp; omega))]; first | assumption | (simp [go_sem]; done) | (simp [go_sem]; done) | (simp [go_sem, *]; done)
  have kw1_1_8 : w1.cell? ⟨w.heap.size + 1, 8, none⟩ = some (.int .i64 d7) := by rw [hcw1 _ _ (by first | (simp; done) | omega | (simp; omega))]; first | assumption | (simp [go_sem]; done) | (simp [go_sem]; done) | (simp [go_sem, *]; done)
  have kw1_1_9 : w1.cell? ⟨w.heap.size + 1, 9, none⟩ = some (.int .i64 d8) := by rw [hcw1 _ _ (by first | (simp; done) | omega | (simp; omega))]; first | assumption | (simp [go_sem]; done) | (simp [go_sem]; done) | (simp [go_sem, *]; done)
  have kw1_1_10 : w1.cell? ⟨w.heap.size + 1, 10, none⟩ = some (.int .i64 d9) := by rw [hcw1 _ _ (by first | (simp; done) | omega | (simp; omega))]; first | assumption | (simp [go_sem]; done) | (simp [go_sem]; done) | (simp [go_sem, *]; done)
  have kw1_1_11 : w1.cell? ⟨w.heap.size + 1, 11, none⟩ = some (.int .i64 d10) := by rw [hcw1 _ _ (by first | (simp; done) | omega | (simp; omega))]; first | assumption | (simp [go_sem]; done) | (simp [go_sem]; done) | (simp [go_sem, *]; done)
  have sw1_1 : w.heap.size + 1 < w1.heap.size := by first | omega | (simp at *; omega)
  have hBw1 : Below w.heap.size w w1 := (by repeat (first | exact Below.refl _ _ | refine bl_alloc ?_ _ | refine bl_drewN ?_ _ | refine bl_trans (by assumption) ?_ | refine bl_set ?_ (by first | omega | (simp; done) | (simp; omega)) _))
  have HBw1 := Lib.hid hBw1
  clear hBw1 hcw1 hfw1 hbw1
  go_wp2_with fail
  refine (eqPoleS_any _ _ n f _ (H1.out.keep (by repeat (first | exact HBw1.out | exact Below.refl _ _ | refine bl_alloc ?_ _ | refine bl_drewN ?_ _ | refine bl_trans (by assumption) ?_ | refine bl_set ?_ (by first | omega | (simp; done) | (simp; omega)) _))) (H2.out.keep (by repeat (first | exact HBw1.out | exact Below.refl _ _ | refine bl_alloc ?_ _ | refine bl_drewN ?_ _ | refine bl_trans (by assumption) ?_ | refine bl_set ?_ (by first | omega | (simp; done) | (simp; omega)) _)))).mono ?_
  rintro e w2 ⟨rfl, hbw2⟩
  obtain ⟨hcw2, hfw2⟩ := bcell hbw2
  have hzw2 := bsize hbw2
  (try simp only [World.size_alloc, World.size_setCell] at hzw2)
  have hkw2 : Below w1.heap.size w1 w2 := (by repeat (first | exact Below.refl _ _ | refine bl_alloc ?_ _ | refine bl_drewN ?_ _ | refine bl_trans (by assumption) ?_ | refine bl_set ?_ (by first | omega | (simp; done) | (simp; omega)) _))
  have kw2_0_0 : w2.cell? ⟨w.heap.size, 0, none⟩ = some (.int .i64 d0) := cell_after hkw2 sw1_0 kw1_0_0
  have kw2_0_1 : w2.cell? ⟨w.heap.size, 1, none⟩ = some (.int .i64 d1) := cell_after hkw2 sw1_0 kw1_0_1
  have kw2_0_2 : w2.cell? ⟨w.heap.size, 2, none⟩ = some (.int .i64 d2) := cell_after hkw2 sw1_0 kw1_0_2
  have kw2_0_3 : w2.cell? ⟨w.heap.size, 3, none⟩ = some (.int .i64 d3) := cell_after hkw2 sw1_0 kw1_0_3
  have kw2_0_4 : w2.cell? ⟨w.heap.size, 4, none⟩ = some (.slice a n c) := cell_after hkw2 sw1_0 kw1_0_4
  have kw2_0_5 : w2.cell? ⟨w.heap.size, 5, none⟩ = some (.int .i64 d4) := cell_after hkw2 sw1_0 kw1_0_5
  have kw2_0_6 : w2.cell? ⟨w.heap.size, 6, none⟩ = some (.int .i64 d5) := cell_after hkw2 sw1_0 kw1_0_6
  have kw2_0_7 : w2.cell? ⟨w.heap.size, 7, none⟩ = some (.int .i64 d6) := cell_after hkw2 sw1_0 kw1_0_7
  have kw2_0_8 : w2.cell? ⟨w.heap.size, 8, none⟩ = some (.int .i64 d7) := cell_after hkw2 sw1_0 kw1_0_8
  have kw2_0_9 : w2.cell? ⟨w.heap.size, 9, none⟩ = some (.int .i64 d8) := cell_after hkw2 sw1_0 kw1_0_9
  have kw2_0_10 : w2.cell? ⟨w.heap.size, 10, none⟩ = some (.int .i64 d9) := cell_after hkw2 sw1_0 kw1_0_10
  have kw2_0_11 : w2.cell? ⟨w.heap.size, 11, none⟩ = some (.int .i64 d10) := cell_after hkw2 sw1_0 kw1_0_11
  have sw2_0 : w.heap.size < w2.heap.size := size_after hkw2 sw1_0
  have kw2_1_0 : w2.cell? ⟨w.heap.size + 1, 0, none⟩ = some (.int .i64 d0) := cell_after hkw2 sw1_1 kw1_1_0
  have kw2_1_1 : w2.cell? ⟨w.heap.size + 1, 1, none⟩ = some (.int .i64 d1) := cell_after hkw2 sw1_1 kw1_1_1
  have kw2_1_2 : w2.cell? ⟨w.heap.size + 1, 2, none⟩ = some (.int .i64 d2) := cell_after hkw2 sw1_1 kw1_1_2
  have kw2_1_3 : w2.cell? ⟨w.heap.size + 1, 3, none⟩ = some (.int .i64 d3) := cell_after hkw2 sw1_1 kw1_1_3
  have kw2_1_4 : w2.cell? ⟨w.heap.size + 1, 4, none⟩ = some (.slice a' n c') := cell_after hkw2 sw1_1 kw1_1_4
  have kw2_1_5 : w2.cell? ⟨w.heap.size + 1, 5, none⟩ = some (.int .i64 d4) := cell_after hkw2 sw1_1 kw1_1_5
  have kw2_1_6 : w2.cell? ⟨w.heap.size + 1, 6, none⟩ = some (.int .i64 d5) := cell_after hkw2 sw1_1 kw1_1_6
  have kw2_1_7 : w2.cell? ⟨w.heap.size + 1, 7, none⟩ = some (.int .i64 d6) := cell_after hkw2 sw1_1 kw1_1_7
  have kw2_1_8 : w2.cell? ⟨w.heap.size + 1, 8, none⟩ = some (.int .i64 d7) := cell_after hkw2 sw1_1 kw1_1_8
  have kw2_1_9 : w2.cell? ⟨w.heap.size + 1, 9, none⟩ = some (.int .i64 d8) := cell_after hkw2 sw1_1 kw1_1_9
  have kw2_1_10 : w2.cell? ⟨w.heap.size + 1, 10, none⟩ = some (.int .i64 d9) := cell_after hkw2 sw1_1 kw1_1_10
  have kw2_1_11 : w2.cell? ⟨w.heap.size + 1, 11, none⟩ = some (.int .i64 d10) := cell_after hkw2 sw1_1 kw1_1_11
  have sw2_1 : w.heap.size + 1 < w2.heap.size := size_after hkw2 sw1_1
  have hBw2 : Below w.heap.size w w2 := (by repeat (first | exact HBw1.out | exact Below.refl _ _ | refine bl_alloc ?_ _ | refine bl_drewN ?_ _ | refine bl_trans (by assumption) ?_ | refine bl_set ?_ (by first | omega | (simp; done) | (simp; omega)) _))
  have HBw2 := Lib.hid hBw2
  clear hBw2 hcw2 hfw2 hbw2 hkw2 kw1_0_0 kw1_0_1 kw1_0_2 kw1_0_3 kw1_0_4 kw1_0_5 kw1_0_6 kw1_0_7 kw1_0_8 kw1_0_9 kw1_0_10 kw1_0_11 sw1_0 kw1_1_0 kw1_1_1 kw1_1_2 kw1_1_3 kw1_1_4 kw1_1_5 kw1_1_6 kw1_1_7 kw1_1_8 kw1_1_9 kw1_1_10 kw1_1_11 sw1_1
  go_wp2_with fail
  refine (eqWalker_any _ _ _ _).mono ?_
  rintro e w3 ⟨rfl, hbw3⟩
  obtain ⟨hcw3, hfw3⟩ := bcell hbw3
  have hzw3 := bsize hbw3
  (try simp only [World.size_alloc, World.size_setCell] at hzw3)
  have hkw3 : Below w2.heap.size w2 w3 := (by repeat (first | exact Below.refl _ _ | refine bl_alloc ?_ _ | refine bl_drewN ?_ _ | refine bl_trans (by assumption) ?_ | refine bl_set ?_ (by first | omega | (simp; done) | (simp; omega)) _))
  have kw3_0_0 : w3.cell? ⟨w.heap.size, 0, none⟩ = some (.int .i64 d0) := cell_after hkw3 sw2_0 kw2_0_0
  have kw3_0_1 : w3.cell? ⟨w.heap.size, 1, none⟩ = some (.int .i64 d1) := cell_after hkw3 sw2_0 kw2_0_1
  have kw3_0_2 : w3.cell? ⟨w.heap.size, 2, none⟩ = some (.int .i64 d2) := cell_after hkw3 sw2_0 kw2_0_2
  have kw3_0_3 : w3.cell? ⟨w.heap.size, 3, none⟩ = some (.int .i64 d3) := cell_after hkw3 sw2_0 kw2_0_3
  have kw3_0_4 : w3.cell? ⟨w.heap.size, 4, none⟩ = some (.slice a n c) := cell_after hkw3 sw2_0 kw2_0_4
  have kw3_0_5 : w3.cell? ⟨w.heap.size, 5, none⟩ = some (.int .i64 d4) := cell_after hkw3 sw2_0 kw2_0_5
  have kw3_0_6 : w3.cell? ⟨w.heap.size, 6, none⟩ = some (.int .i64 d5) := cell_after hkw3 sw2_0 kw2_0_6
  have kw3_0_7 : w3.cell? ⟨w.heap.size, 7, none⟩ = some (.int .i64 d6) := cell_after hkw3 sw2_0 kw2_0_7
  have kw3_0_8 : w3.cell? ⟨w.heap.size, 8, none⟩ = some (.int .i64 d7) := cell_after hkw3 sw2_0 kw2_0_8
  have kw3_0_9 : w3.cell? ⟨w.heap.size, 9, none⟩ = some (.int .i64 d8) := cell_after hkw3 sw2_0 kw2_0_9
  have kw3_0_10 : w3.cell? ⟨w.heap.size, 10, none⟩ = some (.int .i64 d9) := cell_after hkw3 sw2_0 kw2_0_10
  have kw3_0_11 : w3.cell? ⟨w.heap.size, 11, none⟩ = some (.int .i64 d10) := cell_after hkw3 sw2_0 kw2_0_11
  have sw3_0 : w.heap.size < w3.heap.size := size_after hkw3 sw2_0
  have kw3_1_0 : w3.cell? ⟨w.heap.size + 1, 0, none⟩ = some (.int .i64 d0) := cell_after hkw3 sw2_1 kw2_1_0
  have kw3_1_1 : w3.cell? ⟨w.heap.size + 1, 1, none⟩ = some (.int .i64 d1) := cell_after hkw3 sw2_1 kw2_1_1
  have kw3_1_2 : w3.cell? ⟨w.heap.size + 1, 2, none⟩ = some (.int .i64 d2) := cell_after hkw3 sw2_1 kw2_1_2
  have kw3_1_3 : w3.cell? ⟨w.heap.size + 1, 3, none⟩ = some (.int .i64 d3) := cell_after hkw3 sw2_1 kw2_1_3
  have kw3_1_4 : w3.cell? ⟨w.heap.size + 1, 4, none⟩ = some (.slice a' n c') := cell_after hkw3 sw2_1 kw2_1_4
  have kw3_1_5 : w3.cell? ⟨w.heap.size + 1, 5, none⟩ = some (.int .i64 d4) := cell_after hkw3 sw2_1 kw2_1_5
  have kw3_1_6 : w3.cell? ⟨w.heap.size + 1, 6, none⟩ = some (.int .i64 d5) := cell_after hkw3 sw2_1 kw2_1_6
  have kw3_1_7 : w3.cell? ⟨w.heap.size + 1, 7, none⟩ = some (.int .i64 d6) := cell_after hkw3 sw2_1 kw2_1_7
  have kw3_1_8 : w3.cell? ⟨w.heap.size + 1, 8, none⟩ = some (.int .i64 d7) := cell_after hkw3 sw2_1 kw2_1_8
  have kw3_1_9 : w3.cell? ⟨w.heap.size + 1, 9, none⟩ = some (.int .i64 d8) := cell_after hkw3 sw2_1 kw2_1_9
  have kw3_1_10 : w3.cell? ⟨w.heap.size + 1, 10, none⟩ = some (.int .i64 d9) := cell_after hkw3 sw2_1 kw2_1_10
  have kw3_1_11 : w3.cell? ⟨w.heap.size + 1, 11, none⟩ = some (.int .i64 d10) := cell_after hkw3 sw2_1 kw2_1_11
  have sw3_1 : w.heap.size + 1 < w3.heap.size := size_after hkw3 sw2_1
  have hBw3 : Below w.heap.size w w3 := (by repeat (first | exact HBw2.out | exact Below.refl _ _ | refine bl_alloc ?_ _ | refine bl_drewN ?_ _ | refine bl_trans (by assumption) ?_ | refine bl_set ?_ (by first | omega | (simp; done) | (simp; omega)) _))
  have HBw3 := Lib.hid hBw3
  clear hBw3 hcw3 hfw3 hbw3 hkw3 kw2_0_0 kw2_0_1 kw2_0_2 kw2_0_3 kw2_0_4 kw2_0_5 kw2_0_6 kw2_0_7 kw2_0_8 kw2_0_9 kw2_0_10 kw2_0_11 sw2_0 kw2_1_0 kw2_1_1 kw2_1_2 kw2_1_3 kw2_1_4 kw2_1_5 kw2_1_6 kw2_1_7 kw2_1_8 kw2_1_9 kw2_1_10 kw2_1_11 sw2_1
  go_wp2_with fail
  refine (eqIsland_any _ _ _ _ _).mono ?_
  rintro e w4 ⟨rfl, hbw4⟩
  obtain ⟨hcw4, hfw4⟩ := bcell hbw4
  have hzw4 := bsize hbw4
  (try simp only [World.size_alloc, World.size_setCell] at hzw4)
  have hkw4 : Below w3.heap.size w3 w4 := (by repeat (first | exact Below.refl _ _ | refine bl_alloc ?_ _ | refine bl_drewN ?_ _ | refine bl_trans (by assumption) ?_ | refine bl_set ?_ (by first | omega | (simp; done) | (simp; omega)) _))
  have kw4_0_0 : w4.cell? ⟨w.heap.size, 0, none⟩ = some (.int .i64 d0) := cell_after hkw4 sw3_0 kw3_0_0
  have kw4_0_1 : w4.cell? ⟨w.heap.size, 1, none⟩ = some (.int .i64 d1) := cell_after hkw4 sw3_0 kw3_0_1
  have kw4_0_2 : w4.cell? ⟨w.heap.size, 2, none⟩ = some (.int .i64 d2) := cell_after hkw4 sw3_0 kw3_0_2
  have kw4_0_3 : w4.cell? ⟨w.heap.size, 3, none⟩ = some (.int .i64 d3) := cell_after hkw4 sw3_0 kw3_0_3
  have kw4_0_4 : w4.cell? ⟨w.heap.size, 4, none⟩ = some (.slice a n c) := cell_after hkw4 sw3_0 kw3_0_4
  have kw4_0_5 : w4.cell? ⟨w.heap.size, 5, none⟩ = some (.int .i64 d4) := cell_after hkw4 sw3_0 kw3_0_5
  have kw4_0_6 : w4.cell? ⟨w.heap.size, 6, none⟩ = some (.int .i64 d5) := cell_after hkw4 sw3_0 kw3_0_6
  have kw4_0_7 : w4.cell? ⟨w.heap.size, 7, none⟩ = some (.int .i64 d6) := cell_after hkw4 sw3_0 kw3_0_7
  have kw4_0_8 : w4.cell? ⟨w.heap.size, 8, none⟩ = some (.int .i64 d7) := cell_after hkw4 sw3_0 kw3_0_8
  have kw4_0_9 : w4.cell? ⟨w.heap.size, 9, none⟩ = some (.int .i64 d8) := cell_after hkw4 sw3_0 kw3_0_9
  have kw4_0_10 : w4.cell? ⟨w.heap.size, 10, none⟩ = some (.int .i64 d9) := cell_after hkw4 sw3_0 kw3_0_10
  have kw4_0_11 : w4.cell? ⟨w.heap.size, 11, none⟩ = some (.int .i64 d10) := cell_after hkw4 sw3_0 kw3_0_11
  have sw4_0 : w.heap.size < w4.heap.size := size_after hkw4 sw3_0
  have kw4_1_0 : w4.cell? ⟨w.heap.size + 1, 0, none⟩ = some (.int .i64 d0) := cell_after hkw4 sw3_1 kw3_1_0
  have kw4_1_1 : w4.cell? ⟨w.heap.size + 1, 1, none⟩ = some (.int .i64 d1) := cell_after hkw4 sw3_1 kw3_1_1
  have kw4_1_2 : w4.cell? ⟨w.heap.size + 1, 2, none⟩ = some (.int .i64 d2) := cell_after hkw4 sw3_1 kw3_1_2
  have kw4_1_3 : w4.cell? ⟨w.heap.size + 1, 3, none⟩ = some (.int .i64 d3) := cell_after hkw4 sw3_1 kw3_1_3
  have kw4_1_4 : w4.cell? ⟨w.heap.size + 1, 4, none⟩ = some (.slice a' n c') := cell_after hkw4 sw3_1 kw3_1_4
  have kw4_1_5 : w4.cell? ⟨w.heap.size + 1, 5, none⟩ = some (.int .i64 d4) := cell_after hkw4 sw3_1 kw3_1_5
  have kw4_1_6 : w4.cell? ⟨w.heap.size + 1, 6, none⟩ = some (.int .i64 d5) := cell_after hkw4 sw3_1 kw3_1_6
  have kw4_1_7 : w4.cell? ⟨w.heap.size + 1, 7, none⟩ = some (.int .i64 d6) := cell_after hkw4 sw3_1 kw3_1_7
  have kw4_1_8 : w4.cell? ⟨w.heap.size + 1, 8, none⟩ = some (.int .i64 d7) := cell_after hkw4 sw3_1 kw3_1_8
  have kw4_1_9 : w4.cell? ⟨w.heap.size + 1, 9, none⟩ = some (.int .i64 d8) := cell_after hkw4 sw3_1 kw3_1_9
  have kw4_1_10 : w4.cell? ⟨w.heap.size + 1, 10, none⟩ = some (.int .i64 d9) := cell_after hkw4 sw3_1 kw3_1_10
  have kw4_1_11 : w4.cell? ⟨w.heap.size + 1, 11, none⟩ = some (.int .i64 d10) := cell_after hkw4 sw3_1 kw3_1_11
  have sw4_1 : w.heap.size + 1 < w4.heap.size := size_after hkw4 sw3_1
  have hBw4 : Below w.heap.size w w4 := (by repeat (first | exact HBw3.out | exact Below.refl _ _ | refine bl_alloc ?_ _ | refine bl_drewN ?_ _ | refine bl_trans (by assumption) ?_ | refine bl_set ?_ (by first | omega | (simp; done) | (simp; omega)) _))
  have HBw4 := Lib.hid hBw4
  clear hBw4 hcw4 hfw4 hbw4 hkw4 kw3_0_0 kw3_0_1 kw3_0_2 kw3_0_3 kw3_0_4 kw3_0_5 kw3_0_6 kw3_0_7 kw3_0_8 kw3_0_9 kw3_0_10 kw3_0_11 sw3_0 kw3_1_0 kw3_1_1 kw3_1_2 kw3_1_3 kw3_1_4 kw3_1_5 kw3_1_6 kw3_1_7 kw3_1_8 kw3_1_9 kw3_1_10 kw3_1_11 sw3_1
  go_wp2
  go_ret
  exact ⟨rfl, (by repeat (first | exact HBw4.out | exact Below.refl _ _ | refine bl_alloc ?_ _ | refine bl_drewN ?_ _ | refine bl_trans (by assumption) ?_ | refine bl_set ?_ (by first | omega | (simp; done) | (simp; omega)) _))⟩
set_option maxHeartbeats 800000 in
theorem markDesk_any (d0 d1 d2 d3 d4 d5 d6 d7 d8 d9 d10 : Int) (v : Value) (n : Nat) (f : Nat → Int) (B : Nat) (w : World) (h : ORow w B v n f) (hn : n ≤ 1048576) :
    Calls Try.prog 10 #[.agg #[.int .i64 d0, .int .i64 d1, .int .i64 d2, .int .i64 d3, v, .int .i64 d4, .int .i64 d5, .int .i64 d6, .int .i64 d7, .int .i64 d8, .int .i64 d9, .int .i64 d10], .int .i64 1] w fun e w' => e = .returned (.int .i64 (1 + (n : Int) * 2)) ∧ ORow w' B v n (fun i => 1 + (i : Int)) ∧ w.grownBy w' v.ownBlock := by
  obtain ⟨a, c, rfl⟩ := h.toP.shape
  have HH := Lib.hid h
  clear h
  go_enter Try.func10, Try.ntmps10
  go_wp2_with fail
  refine (markPoleS_any _ 1 n f B _ (HH.out.keep (by repeat (first | exact Below.refl _ _ | refine bl_alloc ?_ _ | refine bl_drewN ?_ _ | refine bl_trans (by assumption) ?_ | refine bl_set ?_ (by first | omega | (simp; done) | (simp; omega)) _))) (by omega) (by omega)).mono ?_
  rintro e w1 ⟨rfl, hO, hg, hs⟩
  have HO := Lib.hid hO
  have HG := Lib.hid hg
  clear hO hg
  go_wp2
  go_ret
  exact ⟨rfl, HO.out, grown_trans' (World.grownBy_alloc w _ _) HG.out⟩
set_option maxHeartbeats 800000 in
theorem heldDesk_any (d0 d1 d2 d3 d4 d5 d6 d7 d8 d9 d10 : Int) (v : Value) (n : Nat) (w : World) (h : PRow w v n (fun i => 1 + (i : Int))) (hn : n ≤ 1048576) :
    Calls Try.prog 11 #[.agg #[.int .i64 d0, .int .i64 d1, .int .i64 d2, .int .i64 d3, v, .int .i64 d4, .int .i64 d5, .int .i64 d6, .int .i64 d7, .int .i64 d8, .int .i64 d9, .int .i64 d10], .int .i64 1] w fun e w' => e = .returned (.int .i64 (1 + (n : Int) * 2)) ∧ Below w.heap.size w w' := by
  obtain ⟨a, c, rfl⟩ := h.shape
  have HH := Lib.hid h
  clear h
  go_enter Try.func11, Try.ntmps11
  go_wp2_with fail
  refine (heldPoleS_any _ 1 n _ (HH.out.keep (by repeat (first | exact Below.refl _ _ | refine bl_alloc ?_ _ | refine bl_drewN ?_ _ | refine bl_trans (by assumption) ?_ | refine bl_set ?_ (by first | omega | (simp; done) | (simp; omega)) _))) (by omega) (by omega)).mono ?_
  rintro e w1 ⟨rfl, m, rfl⟩
  have hk : ¬ (1 + (n : Int) * 2 < 0) := by omega
  go_wp2
  go_ret
  exact ⟨rfl, (by repeat (first | exact Below.refl _ _ | refine bl_alloc ?_ _ | refine bl_drewN ?_ _ | refine bl_trans (by assumption) ?_ | refine bl_set ?_ (by first | omega | (simp; done) | (simp; omega)) _))⟩
def fdF (i : Nat) : Int := [2, 3, 4, 2, 9, 1].getD i 0
theorem fdRow (W : World) (B : Nat) (hB : B ≤ W.heap.size) : ORow (W.alloc (.cells #[.int .i64 2, .int .i64 3, .int .i64 4, .int .i64 2, .int .i64 9, .int .i64 1] 66)) B (.slice (some ⟨W.heap.size, 0, none⟩) 3 3) 3 fdF :=
  ⟨rfl, .inr ⟨W.heap.size, 3, _, rfl, hB, heap_alloc_new W _, Nat.le_refl _, by unfold maxLen; omega, rfl, rfl⟩⟩
theorem fdBuild (a : Option Addr) (n c : Nat) (W : World) : (Instr.build 30 #[(0, .agg #[.int .i64 56, .int .i64 105, .int .i64 42]), (1, .int .i64 6), (2, .slice a n c), (3, .agg #[.int .i64 2, .int .i64 4, .int .i64 3]), (4, .agg #[.int .i64 5, .int .i64 1000, .int .i64 123, .int .i64 127])]).run Try.prog W = .ok (.agg #[.int .i64 56, .int .i64 105, .int .i64 42, .int .i64 6, .slice a n c, .int .i64 2, .int .i64 4, .int .i64 3, .int .i64 5, .int .i64 1000, .int .i64 123, .int .i64 127]) W := run_build W _ _ _ (by kernel_rfl)
set_option maxRecDepth 8000 in
set_option maxHeartbeats 800000 in
theorem impl_FirstDesk (w : World) : Calls Try.prog 8 #[] w fun e w' => ∃ u, e = .returned (.agg #[.int .i64 56, .int .i64 105, .int .i64 42, .int .i64 6, u, .int .i64 2, .int .i64 4, .int .i64 3, .int .i64 5, .int .i64 1000, .int .i64 123, .int .i64 127]) ∧ ORow w' w.heap.size u 3 fdF ∧ Below w.heap.size w w' := by
  have hbu := fdBuild
  go_enter Try.func8, Try.ntmps8
  go_wp2
  exact bodyPost_ret (v := .agg #[.int .i64 56, .int .i64 105, .int .i64 42, .int .i64 6, .slice (some ⟨w.heap.size + 1, 0, none⟩) 3 3, .int .i64 2, .int .i64 4, .int .i64 3, .int .i64 5, .int .i64 1000, .int .i64 123, .int .i64 127]) (by simp [results, Try.results8, go_sem]) rfl ⟨_, rfl, ORow.lower (B := w.heap.size + 1) (by have hfd := fdRow (w.alloc (.cells #[.int .i64 56, .int .i64 105, .int .i64 42, .int .i64 6, .slice (some ⟨w.heap.size + 1, 0, none⟩) 3 3, .int .i64 2, .int .i64 4, .int .i64 3, .int .i64 5, .int .i64 1000, .int .i64 123, .int .i64 127] 30)) (w.heap.size + 1) (by simp); rw [World.size_alloc] at hfd; exact hfd) (by omega), (by repeat (first | exact Below.refl _ _ | refine bl_alloc ?_ _ | refine bl_drewN ?_ _ | refine bl_trans (by assumption) ?_ | refine bl_set ?_ (by first | omega | (simp; done) | (simp; omega)) _))⟩
set_option maxRecDepth 8000 in
set_option maxHeartbeats 800000 in
theorem spec_FirstDesk (w : World) : Calls Try.prog 7 #[] w fun e w' => ∃ u, e = .returned (.agg #[.int .i64 56, .int .i64 105, .int .i64 42, .int .i64 6, u, .int .i64 2, .int .i64 4, .int .i64 3, .int .i64 5, .int .i64 1000, .int .i64 123, .int .i64 127]) ∧ ORow w' w.heap.size u 3 fdF ∧ Below w.heap.size w w' := by
  have hbu := fdBuild
  go_enter Try.func7, Try.ntmps7
  go_wp2
  exact bodyPost_ret (v := .agg #[.int .i64 56, .int .i64 105, .int .i64 42, .int .i64 6, .slice (some ⟨w.heap.size + 1, 0, none⟩) 3 3, .int .i64 2, .int .i64 4, .int .i64 3, .int .i64 5, .int .i64 1000, .int .i64 123, .int .i64 127]) (by simp [results, Try.results7, go_sem]) rfl ⟨_, rfl, ORow.lower (B := w.heap.size + 1) (by have hfd := fdRow (w.alloc (.cells #[.int .i64 56, .int .i64 105, .int .i64 42, .int .i64 6, .slice (some ⟨w.heap.size + 1, 0, none⟩) 3 3, .int .i64 2, .int .i64 4, .int .i64 3, .int .i64 5, .int .i64 1000, .int .i64 123, .int .i64 127] 30)) (w.heap.size + 1) (by simp); rw [World.size_alloc] at hfd; exact hfd) (by omega), (by repeat (first | exact Below.refl _ _ | refine bl_alloc ?_ _ | refine bl_drewN ?_ _ | refine bl_trans (by assumption) ?_ | refine bl_set ?_ (by first | omega | (simp; done) | (simp; omega)) _))⟩
/-- a desk -/
def okD (d0 d1 d2 d3 d4 d5 d6 d7 d8 d9 d10 : Int) (n : Nat) (f : Nat → Int) : Bool := okL d0 d1 d2 && okG d3 n f && okWk d3 d4 d5 d6 && okIs d7 d8 d9 d10
set_option maxRecDepth 8000 in
set_option maxHeartbeats 2000000 in
theorem impl_IsDesk (d0 d1 d2 d3 d4 d5 d6 d7 d8 d9 d10 : Int) (v : Value) (n : Nat) (f : Nat → Int) (w : World) (h : PRow w v n f) :
    Calls Try.prog 15 #[.agg #[.int .i64 d0, .int .i64 d1, .int .i64 d2, .int .i64 d3, v, .int .i64 d4, .int .i64 d5, .int .i64 d6, .int .i64 d7, .int .i64 d8, .int .i64 d9, .int .i64 d10]] w fun e w' => e = .returned (.bool (okD d0 d1 d2 d3 d4 d5 d6 d7 d8 d9 d10 n f)) ∧ Below w.heap.size w w' := by
  obtain ⟨a, c, rfl⟩ := h.shape
  have HH := Lib.hid h
  clear h
  cases h0 : okL d0 d1 d2
  · go_enter Try.func15, Try.ntmps15
    go_wp2_with fail
    refine (impl_AreLadders _ _ _ _).mono ?_
    rintro e w1 ⟨rfl, hbw1⟩
    obtain ⟨hcw1, hfw1⟩ := bcell hbw1
    have hzw1 := bsize hbw1
    (try simp only [World.size_alloc, World.size_setCell] at hzw1)
    have kw1_0_0 : w1.cell? ⟨w.heap.size, 0, none⟩ = some (.int .i64 d0) := by rw [hcw1 _ _ (by first | (simp; done) | omega | (simp; omega))]; first | assumption | (simp [go_sem]; done) | (simp [go_sem]; done) | (simp [go_sem, *]; done)
    have kw1_0_1 : w1.cell? ⟨w.heap.size, 1, none⟩ = some (.int .i64 d1) := by rw [hcw1 _ _ (by first | (simp; done) | omega | (simp; omega))]; first | assumption | (simp [go_sem]; done) | (simp [go_sem]; done) | (simp [go_sem, *]; done)
    have kw1_0_2 : w1.cell? ⟨w.heap.size, 2, none⟩ = some (.int .i64 d2) := by rw [hcw1 _ _ (by first | (simp; done) | omega | (simp; omega))]; first | assumption | (simp [go_sem]; done) | (simp [go_sem]; done) | (simp [go_sem, *]; done)
    have kw1_0_3 : w1.cell? ⟨w.heap.size, 3, none⟩ = some (.int .i64 d3) := by rw [hcw1 _ _ (by first | (simp; done) | omega | (simp; omega))]; first | assumption | (simp [go_sem]; done) | (simp [go_sem]; done) | (simp [go_sem, *]; done)
    have kw1_0_4 : w1.cell? ⟨w.heap.size, 4, none⟩ = some (.slice a n c) := by rw [hcw1 _ _ (by first | (simp; done) | omega | (simp; omega))]; first | assumption | (simp [go_sem]; done) | (simp [go_sem]; done) | (simp [go_sem, *]; done)
    have kw1_0_5 : w1.cell? ⟨w.heap.size, 5, none⟩ = some (.int .i64 d4) := by rw [hcw1 _ _ (by first | (simp; done) | omega | (simp; omega))]; first | assumption | (simp [go_sem]; done) | (simp [go_sem]; done) | (simp [go_sem, *]; done)
    have kw1_0_6 : w1.cell? ⟨w.heap.size, 6, none⟩ = some (.int .i64 d5) := by rw [hcw1 _ _ (by first | (simp; done) | omega | (simp; omega))]; first | assumption | (simp [go_sem]; done) | (simp [go_sem]; done) | (simp [go_sem, *]; done)
    have kw1_0_7 : w1.cell? ⟨w.heap.size, 7, none⟩ = some (.int .i64 d6) := by rw [hcw1 _ _ (by first | (simp; done) | omega | (simp; omega))]; first | assumption | (simp [go_sem]; done) | (simp [go_sem]; done) | (simp [go_sem, *]; done)
    have kw1_0_8 : w1.cell? ⟨w.heap.size, 8, none⟩ = some (.int .i64 d7) := by rw [hcw1 _ _ (by first | (simp; done) | omega | (simp; omega))]; first | assumption | (simp [go_sem]; done) | (simp [go_sem]; done) | (simp [go_sem, *]; done)
    have kw1_0_9 : w1.cell? ⟨w.heap.size, 9, none⟩ = some (.int .i64 d8) := by rw [hcw1 _ _ (by first | (simp; done) | omega | (simp; omega))]; first | assumption | (simp [go_sem]; done) | (simp [go_sem]; done) | (simp [go_sem, *]; done)
    have kw1_0_10 : w1.cell? ⟨w.heap.size, 10, none⟩ = some (.int .i64 d9) := by rw [hcw1 _ _ (by first | (simp; done) | omega | (simp; omega))]; first | assumption | (simp [go_sem]; done) | (simp [go_sem]; done) | (simp [go_sem, *]; done)
    have kw1_0_11 : w1.cell? ⟨w.heap.size, 11, none⟩ = some (.int .i64 d10) := by rw [hcw1 _ _ (by first | (simp; done) | omega | (simp; omega))]; first | assumption | (simp [go_sem]; done) | (simp [go_sem]; done) | (simp [go_sem, *]; done)
    have sw1_0 : w.heap.size < w1.heap.size := by first | omega | (simp at *; omega)
    have hBw1 : Below w.heap.size w w1 := (by repeat (first | exact Below.refl _ _ | refine bl_alloc ?_ _ | refine bl_drewN ?_ _ | refine bl_trans (by assumption) ?_ | refine bl_set ?_ (by first | omega | (simp; done) | (simp; omega)) _))
    have HBw1 := Lib.hid hBw1
    clear hBw1 hcw1 hfw1 hbw1
    rw [h0]
    go_wp2
    go_ret
    exact ⟨by simp [okD, h0], (by repeat (first | exact HBw1.out | exact Below.refl _ _ | refine bl_alloc ?_ _ | refine bl_drewN ?_ _ | refine bl_trans (by assumption) ?_ | refine bl_set ?_ (by first | omega | (simp; done) | (simp; omega)) _))⟩
  · skip
    cases h1 : okG d3 n f
    · go_enter Try.func15, Try.ntmps15
      go_wp2_with fail
      refine (impl_AreLadders _ _ _ _).mono ?_
      rintro e w1 ⟨rfl, hbw1⟩
      obtain ⟨hcw1, hfw1⟩ := bcell hbw1
      have hzw1 := bsize hbw1
      (try simp only [World.size_alloc, World.size_setCell] at hzw1)
      have kw1_0_0 : w1.cell? ⟨w.heap.size, 0, none⟩ = some (.int .i64 d0) := by rw [hcw1 _ _ (by first | (simp; done) | omega | (simp; omega))]; first | assumption | (simp [go_sem]; done) | (simp [go_sem]; done) | (simp [go_sem, *]; done)
      have kw1_0_1 : w1.cell? ⟨w.heap.size, 1, none⟩ = some (.int .i64 d1) := by rw [hcw1 _ _ (by first | (simp; done) | omega | (simp; omega))]; first | assumption | (simp [go_sem]; done) | (simp [go_sem]; done) | (simp [go_sem, *]; done)
      have kw1_0_2 : w1.cell? ⟨w.heap.size, 2, none⟩ = some (.int .i64 d2) := by rw [hcw1 _ _ (by first | (simp; done) | omega | (simp; omega))]; first | assumption | (simp [go_sem]; done) | (simp [go_sem]; done) | (simp [go_sem, *]; done)
      have kw1_0_3 : w1.cell? ⟨w.heap.size, 3, none⟩ = some (.int .i64 d3) := by rw [hcw1 _ _ (by first | (simp; done) | omega | (simp; omega))]; first | assumption | (simp [go_sem]; done) | (simp [go_sem]; done) | (simp [go_sem, *]; done)
      have kw1_0_4 : w1.cell? ⟨w.heap.size, 4, none⟩ = some (.slice a n c) := by rw [hcw1 _ _ (by first | (simp; done) | omega | (simp; omega))]; first | assumption | (simp [go_sem]; done) | (simp [go_sem]; done) | (simp [go_sem, *]; done)
      have kw1_0_5 : w1.cell? ⟨w.heap.size, 5, none⟩ = some (.int .i64 d4) := by rw [hcw1 _ _ (by first | (simp; done) | omega | (simp; omega))]; first | assumption | (simp [go_sem]; done) | (simp [go_sem]; done) | (simp [go_sem, *]; done)
      have kw1_0_6 : w1.cell? ⟨w.heap.size, 6, none⟩ = some (.int .i64 d5) := by rw [hcw1 _ _ (by first | (simp; done) | omega | (simp; omega))]; first | assumption | (simp [go_sem]; done) | (simp [go_sem]; done) | (simp [go_sem, *]; done)
      have kw1_0_7 : w1.cell? ⟨w.heap.size, 7, none⟩ = some (.int .i64 d6) := by rw [hcw1 _ _ (by first | (simp; done) | omega | (simp; omega))]; first | assumption | (simp [go_sem]; done) | (simp [go_sem]; done) | (simp [go_sem, *]; done)
      have kw1_0_8 : w1.cell? ⟨w.heap.size, 8, none⟩ = some (.int .i64 d7) := by rw [hcw1 _ _ (by first | (simp; done) | omega | (simp; omega))]; first | assumption | (simp [go_sem]; done) | (simp [go_sem]; done) | (simp [go_sem, *]; done)
      have kw1_0_9 : w1.cell? ⟨w.heap.size, 9, none⟩ = some (.int .i64 d8) := by rw [hcw1 _ _ (by first | (simp; done) | omega | (simp; omega))]; first | assumption | (simp [go_sem]; done) | (simp [go_sem]; done) | (simp [go_sem, *]; done)
      have kw1_0_10 : w1.cell? ⟨w.heap.size, 10, none⟩ = some (.int .i64 d9) := by rw [hcw1 _ _ (by first | (simp; done) | omega | (simp; omega))]; first | assumption | (simp [go_sem]; done) | (simp [go_sem]; done) | (simp [go_sem, *]; done)
      have kw1_0_11 : w1.cell? ⟨w.heap.size, 11, none⟩ = some (.int .i64 d10) := by rw [hcw1 _ _ (by first | (simp; done) | omega | (simp; omega))]; first | assumption | (simp [go_sem]; done) | (simp [go_sem]; done) | (simp [go_sem, *]; done)
      have sw1_0 : w.heap.size < w1.heap.size := by first | omega | (simp at *; omega)
      have hBw1 : Below w.heap.size w w1 := (by repeat (first | exact Below.refl _ _ | refine bl_alloc ?_ _ | refine bl_drewN ?_ _ | refine bl_trans (by assumption) ?_ | refine bl_set ?_ (by first | omega | (simp; done) | (simp; omega)) _))
      have HBw1 := Lib.hid hBw1
      clear hBw1 hcw1 hfw1 hbw1
      rw [h0]
      go_wp2_with fail
      refine (impl_ArePoles _ _ n f _ (HH.out.keep (by repeat (first | exact HBw1.out | exact Below.refl _ _ | refine bl_alloc ?_ _ | refine bl_drewN ?_ _ | refine bl_trans (by assumption) ?_ | refine bl_set ?_ (by first | omega | (simp; done) | (simp; omega)) _)))).mono ?_
      rintro e w2 ⟨rfl, hbw2⟩
      obtain ⟨hcw2, hfw2⟩ := bcell hbw2
      have hzw2 := bsize hbw2
      (try simp only [World.size_alloc, World.size_setCell] at hzw2)
      have hkw2 : Below w1.heap.size w1 w2 := (by repeat (first | exact Below.refl _ _ | refine bl_alloc ?_ _ | refine bl_drewN ?_ _ | refine bl_trans (by assumption) ?_ | refine bl_set ?_ (by first | omega | (simp; done) | (simp; omega)) _))
      have kw2_0_0 : w2.cell? ⟨w.heap.size, 0, none⟩ = some (.int .i64 d0) := cell_after hkw2 sw1_0 kw1_0_0
      have kw2_0_1 : w2.cell? ⟨w.heap.size, 1, none⟩ = some (.int .i64 d1) := cell_after hkw2 sw1_0 kw1_0_1
      have kw2_0_2 : w2.cell? ⟨w.heap.size, 2, none⟩ = some (.int .i64 d2) := cell_after hkw2 sw1_0 kw1_0_2
      have kw2_0_3 : w2.cell? ⟨w.heap.size, 3, none⟩ = some (.int .i64 d3) := cell_after hkw2 sw1_0 kw1_0_3
      have kw2_0_4 : w2.cell? ⟨w.heap.size, 4, none⟩ = some (.slice a n c) := cell_after hkw2 sw1_0 kw1_0_4
      have kw2_0_5 : w2.cell? ⟨w.heap.size, 5, none⟩ = some (.int .i64 d4) := cell_after hkw2 sw1_0 kw1_0_5
      have kw2_0_6 : w2.cell? ⟨w.heap.size, 6, none⟩ = some (.int .i64 d5) := cell_after hkw2 sw1_0 kw1_0_6
      have kw2_0_7 : w2.cell? ⟨w.heap.size, 7, none⟩ = some (.int .i64 d6) := cell_after hkw2 sw1_0 kw1_0_7
      have kw2_0_8 : w2.cell? ⟨w.heap.size, 8, none⟩ = some (.int .i64 d7) := cell_after hkw2 sw1_0 kw1_0_8
      have kw2_0_9 : w2.cell? ⟨w.heap.size, 9, none⟩ = some (.int .i64 d8) := cell_after hkw2 sw1_0 kw1_0_9
      have kw2_0_10 : w2.cell? ⟨w.heap.size, 10, none⟩ = some (.int .i64 d9) := cell_after hkw2 sw1_0 kw1_0_10
      have kw2_0_11 : w2.cell? ⟨w.heap.size, 11, none⟩ = some (.int .i64 d10) := cell_after hkw2 sw1_0 kw1_0_11
      have sw2_0 : w.heap.size < w2.heap.size := size_after hkw2 sw1_0
      have hBw2 : Below w.heap.size w w2 := (by repeat (first | exact HBw1.out | exact Below.refl _ _ | refine bl_alloc ?_ _ | refine bl_drewN ?_ _ | refine bl_trans (by assumption) ?_ | refine bl_set ?_ (by first | omega | (simp; done) | (simp; omega)) _))
      have HBw2 := Lib.hid hBw2
      clear hBw2 hcw2 hfw2 hbw2 hkw2 kw1_0_0 kw1_0_1 kw1_0_2 kw1_0_3 kw1_0_4 kw1_0_5 kw1_0_6 kw1_0_7 kw1_0_8 kw1_0_9 kw1_0_10 kw1_0_11 sw1_0
      rw [h1]
      go_wp2
      go_ret
      exact ⟨by simp [okD, h0, h1], (by repeat (first | exact HBw2.out | exact Below.refl _ _ | refine bl_alloc ?_ _ | refine bl_drewN ?_ _ | refine bl_trans (by assumption) ?_ | refine bl_set ?_ (by first | omega | (simp; done) | (simp; omega)) _))⟩
    · skip
      cases h2 : okWk d3 d4 d5 d6
      · go_enter Try.func15, Try.ntmps15
        go_wp2_with fail
        refine (impl_AreLadders _ _ _ _).mono ?_
        rintro e w1 ⟨rfl, hbw1⟩
        obtain ⟨hcw1, hfw1⟩ := bcell hbw1
        have hzw1 := bsize hbw1
        (try simp only [World.size_alloc, World.size_setCell] at hzw1)
        have kw1_0_0 : w1.cell? ⟨w.heap.size, 0, none⟩ = some (.int .i64 d0) := by rw [hcw1 _ _ (by first | (simp; done) | omega | (simp; omega))]; first | assumption | (simp [go_sem]; done) | (simp [go_sem]; done) | (simp [go_sem, *]; done)
        have kw1_0_1 : w1.cell? ⟨w.heap.size, 1, none⟩ = some (.int .i64 d1) := by rw [hcw1 _ _ (by first | (simp; done) | omega | (simp; omega))]; first | assumption | (simp [go_sem]; done) | (simp [go_sem]; done) | (simp [go_sem, *]; done)
        have kw1_0_2 : w1.cell? ⟨w.heap.size, 2, none⟩ = some (.int .i64 d2) := by rw [hcw1 _ _ (by first | (simp; done) | omega | (simp; omega))]; first | assumption | (simp [go_sem]; done) | (simp [go_sem]; done) | (simp [go_sem, *]; done)
        have kw1_0_3 : w1.cell? ⟨w.heap.size, 3, none⟩ = some (.int .i64 d3) := by rw [hcw1 _ _ (by first | (simp; done) | omega | (simp; omega))]; first | assumption | (simp [go_sem]; done) | (simp [go_sem]; done) | (simp [go_sem, *]; done)
        have kw1_0_4 : w1.cell? ⟨w.heap.size, 4, none⟩ = some (.slice a n c) := by rw [hcw1 _ _ (by first | (simp; done) | omega | (simp; omega))]; first | assumption | (simp [go_sem]; done) | (simp [go_sem]; done) | (simp [go_sem, *]; done)
        have kw1_0_5 : w1.cell? ⟨w.heap.size, 5, none⟩ = some (.int .i64 d4) := by rw [hcw1 _ _ (by first | (simp; done) | omega | (simp; omega))]; first | assumption | (simp [go_sem]; done) | (simp [go_sem]; done) | (simp [go_sem, *]; done)
        have kw1_0_6 : w1.cell? ⟨w.heap.size, 6, none⟩ = some (.int .i64 d5) := by rw [hcw1 _ _ (by first | (simp; done) | omega | (simp; omega))]; first | assumption | (simp [go_sem]; done) | (simp [go_sem]; done) | (simp [go_sem, *]; done)
        have kw1_0_7 : w1.cell? ⟨w.heap.size, 7, none⟩ = some (.int .i64 d6) := by rw [hcw1 _ _ (by first | (simp; done) | omega | (simp; omega))]; first | assumption | (simp [go_sem]; done) | (simp [go_sem]; done) | (simp [go_sem, *]; done)
        have kw1_0_8 : w1.cell? ⟨w.heap.size, 8, none⟩ = some (.int .i64 d7) := by rw [hcw1 _ _ (by first | (simp; done) | omega | (simp; omega))]; first | assumption | (simp [go_sem]; done) | (simp [go_sem]; done) | (simp [go_sem, *]; done)
        have kw1_0_9 : w1.cell? ⟨w.heap.size, 9, none⟩ = some (.int .i64 d8) := by rw [hcw1 _ _ (by first | (simp; done) | omega | (simp; omega))]; first | assumption | (simp [go_sem]; done) | (simp [go_sem]; done) | (simp [go_sem, *]; done)
        have kw1_0_10 : w1.cell? ⟨w.heap.size, 10, none⟩ = some (.int .i64 d9) := by rw [hcw1 _ _ (by first | (simp; done) | omega | (simp; omega))]; first | assumption | (simp [go_sem]; done) | (simp [go_sem]; done) | (simp [go_sem, *]; done)
        have kw1_0_11 : w1.cell? ⟨w.heap.size, 11, none⟩ = some (.int .i64 d10) := by rw [hcw1 _ _ (by first | (simp; done) | omega | (simp; omega))]; first | assumption | (simp [go_sem]; done) | (simp [go_sem]; done) | (simp [go_sem, *]; done)
        have sw1_0 : w.heap.size < w1.heap.size := by first | omega | (simp at *; omega)
        have hBw1 : Below w.heap.size w w1 := (by repeat (first | exact Below.refl _ _ | refine bl_alloc ?_ _ | refine bl_drewN ?_ _ | refine bl_trans (by assumption) ?_ | refine bl_set ?_ (by first | omega | (simp; done) | (simp; omega)) _))
        have HBw1 := Lib.hid hBw1
        clear hBw1 hcw1 hfw1 hbw1
        rw [h0]
        go_wp2_with fail
        refine (impl_ArePoles _ _ n f _ (HH.out.keep (by repeat (first | exact HBw1.out | exact Below.refl _ _ | refine bl_alloc ?_ _ | refine bl_drewN ?_ _ | refine bl_trans (by assumption) ?_ | refine bl_set ?_ (by first | omega | (simp; done) | (simp; omega)) _)))).mono ?_
        rintro e w2 ⟨rfl, hbw2⟩
        obtain ⟨hcw2, hfw2⟩ := bcell hbw2
        have hzw2 := bsize hbw2
        (try simp only [World.size_alloc, World.size_setCell] at hzw2)
        have hkw2 : Below w1.heap.size w1 w2 := (by repeat (first | exact Below.refl _ _ | refine bl_alloc ?_ _ | refine bl_drewN ?_ _ | refine bl_trans (by assumption) ?_ | refine bl_set ?_ (by first | omega | (simp; done) | (simp; omega)) _))
        have kw2_0_0 : w2.cell? ⟨w.heap.size, 0, none⟩ = some (.int .i64 d0) := cell_after hkw2 sw1_0 kw1_0_0
        have kw2_0_1 : w2.cell? ⟨w.heap.size, 1, none⟩ = some (.int .i64 d1) := cell_after hkw2 sw1_0 kw1_0_1
        have kw2_0_2 : w2.cell? ⟨w.heap.size, 2, none⟩ = some (.int .i64 d2) := cell_after hkw2 sw1_0 kw1_0_2
        have kw2_0_3 : w2.cell? ⟨w.heap.size, 3, none⟩ = some (.int .i64 d3) := cell_after hkw2 sw1_0 kw1_0_3
        have kw2_0_4 : w2.cell? ⟨w.heap.size, 4, none⟩ = some (.slice a n c) := cell_after hkw2 sw1_0 kw1_0_4
        have kw2_0_5 : w2.cell? ⟨w.heap.size, 5, none⟩ = some (.int .i64 d4) := cell_after hkw2 sw1_0 kw1_0_5
        have kw2_0_6 : w2.cell? ⟨w.heap.size, 6, none⟩ = some (.int .i64 d5) := cell_after hkw2 sw1_0 kw1_0_6
        have kw2_0_7 : w2.cell? ⟨w.heap.size, 7, none⟩ = some (.int .i64 d6) := cell_after hkw2 sw1_0 kw1_0_7
        have kw2_0_8 : w2.cell? ⟨w.heap.size, 8, none⟩ = some (.int .i64 d7) := cell_after hkw2 sw1_0 kw1_0_8
        have kw2_0_9 : w2.cell? ⟨w.heap.size, 9, none⟩ = some (.int .i64 d8) := cell_after hkw2 sw1_0 kw1_0_9
        have kw2_0_10 : w2.cell? ⟨w.heap.size, 10, none⟩ = some (.int .i64 d9) := cell_after hkw2 sw1_0 kw1_0_10
        have kw2_0_11 : w2.cell? ⟨w.heap.size, 11, none⟩ = some (.int .i64 d10) := cell_after hkw2 sw1_0 kw1_0_11
        have sw2_0 : w.heap.size < w2.heap.size := size_after hkw2 sw1_0
        have hBw2 : Below w.heap.size w w2 := (by repeat (first | exact HBw1.out | exact Below.refl _ _ | refine bl_alloc ?_ _ | refine bl_drewN ?_ _ | refine bl_trans (by assumption) ?_ | refine bl_set ?_ (by first | omega | (simp; done) | (simp; omega)) _))
        have HBw2 := Lib.hid hBw2
        clear hBw2 hcw2 hfw2 hbw2 hkw2 kw1_0_0 kw1_0_1 kw1_0_2 kw1_0_3 kw1_0_4 kw1_0_5 kw1_0_6 kw1_0_7 kw1_0_8 kw1_0_9 kw1_0_10 kw1_0_11 sw1_0
        rw [h1]
        go_wp2_with fail
        refine (impl_IsWalker _ _ _ _ _).mono ?_
        rintro e w3 ⟨rfl, hbw3⟩
        obtain ⟨hcw3, hfw3⟩ := bcell hbw3
        have hzw3 := bsize hbw3
        (try simp only [World.size_alloc, World.size_setCell] at hzw3)
        have hkw3 : Below w2.heap.size w2 w3 := (by repeat (first | exact Below.refl _ _ | refine bl_alloc ?_ _ | refine bl_drewN ?_ _ | refine bl_trans (by assumption) ?_ | refine bl_set ?_ (by first | omega | (simp; done) | (simp; omega)) _))
        have kw3_0_0 : w3.cell? ⟨w.heap.size, 0, none⟩ = some (.int .i64 d0) := cell_after hkw3 sw2_0 kw2_0_0
        have kw3_0_1 : w3.cell? ⟨w.heap.size, 1, none⟩ = some (.int .i64 d1) := cell_after hkw3 sw2_0 kw2_0_1
        have kw3_0_2 : w3.cell? ⟨w.heap.size, 2, none⟩ = some (.int .i64 d2) := cell_after hkw3 sw2_0 kw2_0_2
        have kw3_0_3 : w3.cell? ⟨w.heap.size, 3, none⟩ = some (.int .i64 d3) := cell_after hkw3 sw2_0 kw2_0_3
        have kw3_0_4 : w3.cell? ⟨w.heap.size, 4, none⟩ = some (.slice a n c) := cell_after hkw3 sw2_0 kw2_0_4
        have kw3_0_5 : w3.cell? ⟨w.heap.size, 5, none⟩ = some (.int .i64 d4) := cell_after hkw3 sw2_0 kw2_0_5
        have kw3_0_6 : w3.cell? ⟨w.heap.size, 6, none⟩ = some (.int .i64 d5) := cell_after hkw3 sw2_0 kw2_0_6
        have kw3_0_7 : w3.cell? ⟨w.heap.size, 7, none⟩ = some (.int .i64 d6) := cell_after hkw3 sw2_0 kw2_0_7
        have kw3_0_8 : w3.cell? ⟨w.heap.size, 8, none⟩ = some (.int .i64 d7) := cell_after hkw3 sw2_0 kw2_0_8
        have kw3_0_9 : w3.cell? ⟨w.heap.size, 9, none⟩ = some (.int .i64 d8) := cell_after hkw3 sw2_0 kw2_0_9
        have kw3_0_10 : w3.cell? ⟨w.heap.size, 10, none⟩ = some (.int .i64 d9) := cell_after hkw3 sw2_0 kw2_0_10
        have kw3_0_11 : w3.cell? ⟨w.heap.size, 11, none⟩ = some (.int .i64 d10) := cell_after hkw3 sw2_0 kw2_0_11
        have sw3_0 : w.heap.size < w3.heap.size := size_after hkw3 sw2_0
        have hBw3 : Below w.heap.size w w3 := (by repeat (first | exact HBw2.out | exact Below.refl _ _ | refine bl_alloc ?_ _ | refine bl_drewN ?_ _ | refine bl_trans (by assumption) ?_ | refine bl_set ?_ (by first | omega | (simp; done) | (simp; omega)) _))
        have HBw3 := Lib.hid hBw3
        clear hBw3 hcw3 hfw3 hbw3 hkw3 kw2_0_0 kw2_0_1 kw2_0_2 kw2_0_3 kw2_0_4 kw2_0_5 kw2_0_6 kw2_0_7 kw2_0_8 kw2_0_9 kw2_0_10 kw2_0_11 sw2_0
        rw [h2]
        go_wp2
        go_ret
        exact ⟨by simp [okD, h0, h1, h2], (by repeat (first | exact HBw3.out | exact Below.refl _ _ | refine bl_alloc ?_ _ | refine bl_drewN ?_ _ | refine bl_trans (by assumption) ?_ | refine bl_set ?_ (by first | omega | (simp; done) | (simp; omega)) _))⟩
      · skip
        cases h3 : okIs d7 d8 d9 d10
        · go_enter Try.func15, Try.ntmps15
          go_wp2_with fail
          refine (impl_AreLadders _ _ _ _).mono ?_
          rintro e w1 ⟨rfl, hbw1⟩
          obtain ⟨hcw1, hfw1⟩ := bcell hbw1
          have hzw1 := bsize hbw1
          (try simp only [World.size_alloc, World.size_setCell] at hzw1)
          have kw1_0_0 : w1.cell? ⟨w.heap.size, 0, none⟩ = some (.int .i64 d0) := by rw [hcw1 _ _ (by first | (simp; done) | omega | (simp; omega))]; first | assumption | (simp [go_sem]; done) | (simp [go_sem]; done) | (simp [go_sem, *]; done)
          have kw1_0_1 : w1.cell? ⟨w.heap.size, 1, none⟩ = some (.int .i64 d1) := by rw [hcw1 _ _ (by first | (simp; done) | omega | (simp; omega))]; first | assumption | (simp [go_sem]; done) | (simp [go_sem]; done) | (simp [go_sem, *]; done)
          have kw1_0_2 : w1.cell? ⟨w.heap.size, 2, none⟩ = some (.int .i64 d2) := by rw [hcw1 _ _ (by first | (simp; done) | omega | (simp; omega))]; first | assumption | (simp [go_sem]; done) | (simp [go_sem]; done) | (simp [go_sem, *]; done)
          have kw1_0_3 : w1.cell? ⟨w.heap.size, 3, none⟩ = some (.int .i64 d3) := by rw [hcw1 _ _ (by first | (simp; done) | omega | (simp; omega))]; first | assumption | (simp [go_sem]; done) | (simp [go_sem]; done) | (simp [go_sem, *]; done)
          have kw1_0_4 : w1.cell? ⟨w.heap.size, 4, none⟩ = some (.slice a n c) := by rw [hcw1 _ _ (by first | (simp; done) | omega | (simp; omega))]; first | assumption | (simp [go_sem]; done) | (simp [go_sem]; done) | (simp [go_sem, *]; done)
          have kw1_0_5 : w1.cell? ⟨w.heap.size, 5, none⟩ = some (.int .i64 d4) := by rw [hcw1 _ _ (by first | (simp; done) | omega | (simp; omega))]; first | assumption | (simp [go_sem]; done) | (simp [go_sem]; done) | (simp [go_sem, *]; done)
          have kw1_0_6 : w1.cell? ⟨w.heap.size, 6, none⟩ = some (.int .i64 d5) := by rw [hcw1 _ _ (by first | (simp; done) | omega | (simp; omega))]; first | assumption | (simp [go_sem]; done) | (simp [go_sem]; done) | (simp [go_sem, *]; done)
          have kw1_0_7 : w1.cell? ⟨w.heap.size, 7, none⟩ = some (.int .i64 d6) := by rw [hcw1 _ _ (by first | (simp; done) | omega | (simp; omega))]; first | assumption | (simp [go_sem]; done) | (simp [go_sem]; done) | (simp [go_sem, *]; done)
          have kw1_0_8 : w1.cell? ⟨w.heap.size, 8, none⟩ = some (.int .i64 d7) := by rw [hcw1 _ _ (by first | (simp; done) | omega | (simp; omega))]; first | assumption | (simp [go_sem]; done) | (simp [go_sem]; done) | (simp [go_sem, *]; done)
          have kw1_0_9 : w1.cell? ⟨w.heap.size, 9, none⟩ = some (.int .i64 d8) := by rw [hcw1 _ _ (by first | (simp; done) | omega | (simp; omega))]; first | assumption | (simp [go_sem]; done) | (simp [go_sem]; done) | (simp [go_sem, *]; done)
          have kw1_0_10 : w1.cell? ⟨w.heap.size, 10, none⟩ = some (.int .i64 d9) := by rw [hcw1 _ _ (by first | (simp; done) | omega | (simp; omega))]; first | assumption | (simp [go_sem]; done) | (simp [go_sem]; done) | (simp [go_sem, *]; done)
          have kw1_0_11 : w1.cell? ⟨w.heap.size, 11, none⟩ = some (.int .i64 d10) := by rw [hcw1 _ _ (by first | (simp; done) | omega | (simp; omega))]; first | assumption | (simp [go_sem]; done) | (simp [go_sem]; done) | (simp [go_sem, *]; done)
          have sw1_0 : w.heap.size < w1.heap.size := by first | omega | (simp at *; omega)
          have hBw1 : Below w.heap.size w w1 := (by repeat (first | exact Below.refl _ _ | refine bl_alloc ?_ _ | refine bl_drewN ?_ _ | refine bl_trans (by assumption) ?_ | refine bl_set ?_ (by first | omega | (simp; done) | (simp; omega)) _))
          have HBw1 := Lib.hid hBw1
          clear hBw1 hcw1 hfw1 hbw1
          rw [h0]
          go_wp2_with fail
          refine (impl_ArePoles _ _ n f _ (HH.out.keep (by repeat (first | exact HBw1.out | exact Below.refl _ _ | refine bl_alloc ?_ _ | refine bl_drewN ?_ _ | refine bl_trans (by assumption) ?_ | refine bl_set ?_ (by first | omega | (simp; done) | (simp; omega)) _)))).mono ?_
          rintro e w2 ⟨rfl, hbw2⟩
          obtain ⟨hcw2, hfw2⟩ := bcell hbw2
          have hzw2 := bsize hbw2
          (try simp only [World.size_alloc, World.size_setCell] at hzw2)
          have hkw2 : Below w1.heap.size w1 w2 := (by repeat (first | exact Below.refl _ _ | refine bl_alloc ?_ _ | refine bl_drewN ?_ _ | refine bl_trans (by assumption) ?_ | refine bl_set ?_ (by first | omega | (simp; done) | (simp; omega)) _))
          have kw2_0_0 : w2.cell? ⟨w.heap.size, 0, none⟩ = some (.int .i64 d0) := cell_after hkw2 sw1_0 kw1_0_0
          have kw2_0_1 : w2.cell? ⟨w.heap.size, 1, none⟩ = some (.int .i64 d1) := cell_after hkw2 sw1_0 kw1_0_1
          have kw2_0_2 : w2.cell? ⟨w.heap.size, 2, none⟩ = some (.int .i64 d2) := cell_after hkw2 sw1_0 kw1_0_2
          have kw2_0_3 : w2.cell? ⟨w.heap.size, 3, none⟩ = some (.int .i64 d3) := cell_after hkw2 sw1_0 kw1_0_3
          have kw2_0_4 : w2.cell? ⟨w.heap.size, 4, none⟩ = some (.slice a n c) := cell_after hkw2 sw1_0 kw1_0_4
          have kw2_0_5 : w2.cell? ⟨w.heap.size, 5, none⟩ = some (.int .i64 d4) := cell_after hkw2 sw1_0 kw1_0_5
          have kw2_0_6 : w2.cell? ⟨w.heap.size, 6, none⟩ = some (.int .i64 d5) := cell_after hkw2 sw1_0 kw1_0_6
          have kw2_0_7 : w2.cell? ⟨w.heap.size, 7, none⟩ = some (.int .i64 d6) := cell_after hkw2 sw1_0 kw1_0_7
          have kw2_0_8 : w2.cell? ⟨w.heap.size, 8, none⟩ = some (.int .i64 d7) := cell_after hkw2 sw1_0 kw1_0_8
          have kw2_0_9 : w2.cell? ⟨w.heap.size, 9, none⟩ = some (.int .i64 d8) := cell_after hkw2 sw1_0 kw1_0_9
          have kw2_0_10 : w2.cell? ⟨w.heap.size, 10, none⟩ = some (.int .i64 d9) := cell_after hkw2 sw1_0 kw1_0_10
          have kw2_0_11 : w2.cell? ⟨w.heap.size, 11, none⟩ = some (.int .i64 d10) := cell_after hkw2 sw1_0 kw1_0_11
          have sw2_0 : w.heap.size < w2.heap.size := size_after hkw2 sw1_0
          have hBw2 : Below w.heap.size w w2 := (by repeat (first | exact HBw1.out | exact Below.refl _ _ | refine bl_alloc ?_ _ | refine bl_drewN ?_ _ | refine bl_trans (by assumption) ?_ | refine bl_set ?_ (by first | omega | (simp; done) | (simp; omega)) _))
          have HBw2 := Lib.hid hBw2
          clear hBw2 hcw2 hfw2 hbw2 hkw2 kw1_0_0 kw1_0_1 kw1_0_2 kw1_0_3 kw1_0_4 kw1_0_5 kw1_0_6 kw1_0_7 kw1_0_8 kw1_0_9 kw1_0_10 kw1_0_11 sw1_0
          rw [h1]
          go_wp2_with fail
          refine (impl_IsWalker _ _ _ _ _).mono ?_
          rintro e w3 ⟨rfl, hbw3⟩
          obtain ⟨hcw3, hfw3⟩ := bcell hbw3
          have hzw3 := bsize hbw3
          (try simp only [World.size_alloc, World.size_setCell] at hzw3)
          have hkw3 : Below w2.heap.size w2 w3 := (by repeat (first | exact Below.refl _ _ | refine bl_alloc ?_ _ | refine bl_drewN ?_ _ | refine bl_trans (by assumption) ?_ | refine bl_set ?_ (by first | omega | (simp; done) | (simp; omega)) _))
          have kw3_0_0 : w3.cell? ⟨w.heap.size, 0, none⟩ = some (.int .i64 d0) := cell_after hkw3 sw2_0 kw2_0_0
          have kw3_0_1 : w3.cell? ⟨w.heap.size, 1, none⟩ = some (.int .i64 d1) := cell_after hkw3 sw2_0 kw2_0_1
          have kw3_0_2 : w3.cell? ⟨w.heap.size, 2, none⟩ = some (.int .i64 d2) := cell_after hkw3 sw2_0 kw2_0_2
          have kw3_0_3 : w3.cell? ⟨w.heap.size, 3, none⟩ = some (.int .i64 d3) := cell_after hkw3 sw2_0 kw2_0_3
          have kw3_0_4 : w3.cell? ⟨w.heap.size, 4, none⟩ = some (.slice a n c) := cell_after hkw3 sw2_0 kw2_0_4
          have kw3_0_5 : w3.cell? ⟨w.heap.size, 5, none⟩ = some (.int .i64 d4) := cell_after hkw3 sw2_0 kw2_0_5
          have kw3_0_6 : w3.cell? ⟨w.heap.size, 6, none⟩ = some (.int .i64 d5) := cell_after hkw3 sw2_0 kw2_0_6
          have kw3_0_7 : w3.cell? ⟨w.heap.size, 7, none⟩ = some (.int .i64 d6) := cell_after hkw3 sw2_0 kw2_0_7
          have kw3_0_8 : w3.cell? ⟨w.heap.size, 8, none⟩ = some (.int .i64 d7) := cell_after hkw3 sw2_0 kw2_0_8
          have kw3_0_9 : w3.cell? ⟨w.heap.size, 9, none⟩ = some (.int .i64 d8) := cell_after hkw3 sw2_0 kw2_0_9
          have kw3_0_10 : w3.cell? ⟨w.heap.size, 10, none⟩ = some (.int .i64 d9) := cell_after hkw3 sw2_0 kw2_0_10
          have kw3_0_11 : w3.cell? ⟨w.heap.size, 11, none⟩ = some (.int .i64 d10) := cell_after hkw3 sw2_0 kw2_0_11
          have sw3_0 : w.heap.size < w3.heap.size := size_after hkw3 sw2_0
          have hBw3 : Below w.heap.size w w3 := (by repeat (first | exact HBw2.out | exact Below.refl _ _ | refine bl_alloc ?_ _ | refine bl_drewN ?_ _ | refine bl_trans (by assumption) ?_ | refine bl_set ?_ (by first | omega | (simp; done) | (simp; omega)) _))
          have HBw3 := Lib.hid hBw3
          clear hBw3 hcw3 hfw3 hbw3 hkw3 kw2_0_0 kw2_0_1 kw2_0_2 kw2_0_3 kw2_0_4 kw2_0_5 kw2_0_6 kw2_0_7 kw2_0_8 kw2_0_9 kw2_0_10 kw2_0_11 sw2_0
          rw [h2]
          go_wp2_with fail
          refine (impl_IsIsland _ _ _ _ _).mono ?_
          rintro e w4 ⟨rfl, hbw4⟩
          obtain ⟨hcw4, hfw4⟩ := bcell hbw4
          have hzw4 := bsize hbw4
          (try simp only [World.size_alloc, World.size_setCell] at hzw4)
          have hkw4 : Below w3.heap.size w3 w4 := (by repeat (first | exact Below.refl _ _ | refine bl_alloc ?_ _ | refine bl_drewN ?_ _ | refine bl_trans (by assumption) ?_ | refine bl_set ?_ (by first | omega | (simp; done) | (simp; omega)) _))
          have kw4_0_0 : w4.cell? ⟨w.heap.size, 0, none⟩ = some (.int .i64 d0) := cell_after hkw4 sw3_0 kw3_0_0
          have kw4_0_1 : w4.cell? ⟨w.heap.size, 1, none⟩ = some (.int .i64 d1) := cell_after hkw4 sw3_0 kw3_0_1
          have kw4_0_2 : w4.cell? ⟨w.heap.size, 2, none⟩ = some (.int .i64 d2) := cell_after hkw4 sw3_0 kw3_0_2
          have kw4_0_3 : w4.cell? ⟨w.heap.size, 3, none⟩ = some (.int .i64 d3) := cell_after hkw4 sw3_0 kw3_0_3
          have kw4_0_4 : w4.cell? ⟨w.heap.size, 4, none⟩ = some (.slice a n c) := cell_after hkw4 sw3_0 kw3_0_4
          have kw4_0_5 : w4.cell? ⟨w.heap.size, 5, none⟩ = some (.int .i64 d4) := cell_after hkw4 sw3_0 kw3_0_5
          have kw4_0_6 : w4.cell? ⟨w.heap.size, 6, none⟩ = some (.int .i64 d5) := cell_after hkw4 sw3_0 kw3_0_6
          have kw4_0_7 : w4.cell? ⟨w.heap.size, 7, none⟩ = some (.int .i64 d6) := cell_after hkw4 sw3_0 kw3_0_7
          have kw4_0_8 : w4.cell? ⟨w.heap.size, 8, none⟩ = some (.int .i64 d7) := cell_after hkw4 sw3_0 kw3_0_8
          have kw4_0_9 : w4.cell? ⟨w.heap.size, 9, none⟩ = some (.int .i64 d8) := cell_after hkw4 sw3_0 kw3_0_9
          have kw4_0_10 : w4.cell? ⟨w.heap.size, 10, none⟩ = some (.int .i64 d9) := cell_after hkw4 sw3_0 kw3_0_10
          have kw4_0_11 : w4.cell? ⟨w.heap.size, 11, none⟩ = some (.int .i64 d10) := cell_after hkw4 sw3_0 kw3_0_11
          have sw4_0 : w.heap.size < w4.heap.size := size_after hkw4 sw3_0
          have hBw4 : Below w.heap.size w w4 := (by repeat (first | exact HBw3.out | exact Below.refl _ _ | refine bl_alloc ?_ _ | refine bl_drewN ?_ _ | refine bl_trans (by assumption) ?_ | refine bl_set ?_ (by first | omega | (simp; done) | (simp; omega)) _))
          have HBw4 := Lib.hid hBw4
          clear hBw4 hcw4 hfw4 hbw4 hkw4 kw3_0_0 kw3_0_1 kw3_0_2 kw3_0_3 kw3_0_4 kw3_0_5 kw3_0_6 kw3_0_7 kw3_0_8 kw3_0_9 kw3_0_10 kw3_0_11 sw3_0
          rw [h3]
          go_wp2
          go_ret
          exact ⟨by simp [okD, h0, h1, h2, h3], (by repeat (first | exact HBw4.out | exact Below.refl _ _ | refine bl_alloc ?_ _ | refine bl_drewN ?_ _ | refine bl_trans (by assumption) ?_ | refine bl_set ?_ (by first | omega | (simp; done) | (simp; omega)) _))⟩
        · go_enter Try.func15, Try.ntmps15
          go_wp2_with fail
          refine (impl_AreLadders _ _ _ _).mono ?_
          rintro e w1 ⟨rfl, hbw1⟩
          obtain ⟨hcw1, hfw1⟩ := bcell hbw1
          have hzw1 := bsize hbw1
          (try simp only [World.size_alloc, World.size_setCell] at hzw1)
          have kw1_0_0 : w1.cell? ⟨w.heap.size, 0, none⟩ = some (.int .i64 d0) := by rw [hcw1 _ _ (by first | (simp; done) | omega | (simp; omega))]; first | assumption | (simp [go_sem]; done) | (simp [go_sem]; done) | (simp [go_sem, *]; done)
          have kw1_0_1 : w1.cell? ⟨w.heap.size, 1, none⟩ = some (.int .i64 d1) := by rw [hcw1 _ _ (by first | (simp; done) | omega | (simp; omega))]; first | assumption | (simp [go_sem]; done) | (simp [go_sem]; done) | (simp [go_sem, *]; done)
          have kw1_0_2 : w1.cell? ⟨w.heap.size, 2, none⟩ = some (.int .i64 d2) := by rw [hcw1 _ _ (by first | (simp; done) | omega | (simp; omega))]; first | assumption | (simp [go_sem]; done) | (simp [go_sem]; done) | (simp [go_sem, *]; done)
          have kw1_0_3 : w1.cell? ⟨w.heap.size, 3, none⟩ = some (.int .i64 d3) := by rw [hcw1 _ _ (by first | (simp; done) | omega | (simp; omega))]; first | assumption | (simp [go_sem]; done) | (simp [go_sem]; done) | (simp [go_sem, *]; done)
          have kw1_0_4 : w1.cell? ⟨w.heap.size, 4, none⟩ = some (.slice a n c) := by rw [hcw1 _ _ (by first | (simp; done) | omega | (simp; omega))]; first | assumption | (simp [go_sem]; done) | (simp [go_sem]; done) | (simp [go_sem, *]; done)
          have kw1_0_5 : w1.cell? ⟨w.heap.size, 5, none⟩ = some (.int .i64 d4) := by rw [hcw1 _ _ (by first | (simp; done) | omega | (simp; omega))]; first | assumption | (simp [go_sem]; done) | (simp [go_sem]; done) | (simp [go_sem, *]; done)
          have kw1_0_6 : w1.cell? ⟨w.heap.size, 6, none⟩ = some (.int .i64 d5) := by rw [hcw1 _ _ (by first | (simp; done) | omega | (simp; omega))]; first | assumption | (simp [go_sem]; done) | (simp [go_sem]; done) | (simp [go_sem, *]; done)
          have kw1_0_7 : w1.cell? ⟨w.heap.size, 7, none⟩ = some (.int .i64 d6) := by rw [hcw1 _ _ (by first | (simp; done) | omega | (simp; omega))]; first | assumption | (simp [go_sem]; done) | (simp [go_sem]; done) | (simp [go_sem, *]; done)
          have kw1_0_8 : w1.cell? ⟨w.heap.size, 8, none⟩ = some (.int .i64 d7) := by rw [hcw1 _ _ (by first | (simp; done) | omega | (simp; omega))]; first | assumption | (simp [go_sem]; done) | (simp [go_sem]; done) | (simp [go_sem, *]; done)
          have kw1_0_9 : w1.cell? ⟨w.heap.size, 9, none⟩ = some (.int .i64 d8) := by rw [hcw1 _ _ (by first | (simp; done) | omega | (simp; omega))]; first | assumption | (simp [go_sem]; done) | (simp [go_sem]; done) | (simp [go_sem, *]; done)
          have kw1_0_10 : w1.cell? ⟨w.heap.size, 10, none⟩ = some (.int .i64 d9) := by rw [hcw1 _ _ (by first | (simp; done) | omega | (simp; omega))]; first | assumption | (simp [go_sem]; done) | (simp [go_sem]; done) | (simp [go_sem, *]; done)
          have kw1_0_11 : w1.cell? ⟨w.heap.size, 11, none⟩ = some (.int .i64 d10) := by rw [hcw1 _ _ (by first | (simp; done) | omega | (simp; omega))]; first | assumption | (simp [go_sem]; done) | (simp [go_sem]; done) | (simp [go_sem, *]; done)
          have sw1_0 : w.heap.size < w1.heap.size := by first | omega | (simp at *; omega)
          have hBw1 : Below w.heap.size w w1 := (by repeat (first | exact Below.refl _ _ | refine bl_alloc ?_ _ | refine bl_drewN ?_ _ | refine bl_trans (by assumption) ?_ | refine bl_set ?_ (by first | omega | (simp; done) | (simp; omega)) _))
          have HBw1 := Lib.hid hBw1
          clear hBw1 hcw1 hfw1 hbw1
          rw [h0]
          go_wp2_with fail
          refine (impl_ArePoles _ _ n f _ (HH.out.keep (by repeat (first | exact HBw1.out | exact Below.refl _ _ | refine bl_alloc ?_ _ | refine bl_drewN ?_ _ | refine bl_trans (by assumption) ?_ | refine bl_set ?_ (by first | omega | (simp; done) | (simp; omega)) _)))).mono ?_
          rintro e w2 ⟨rfl, hbw2⟩
          obtain ⟨hcw2, hfw2⟩ := bcell hbw2
          have hzw2 := bsize hbw2
          (try simp only [World.size_alloc, World.size_setCell] at hzw2)
          have hkw2 : Below w1.heap.size w1 w2 := (by repeat (first | exact Below.refl _ _ | refine bl_alloc ?_ _ | refine bl_drewN ?_ _ | refine bl_trans (by assumption) ?_ | refine bl_set ?_ (by first | omega | (simp; done) | (simp; omega)) _))
          have kw2_0_0 : w2.cell? ⟨w.heap.size, 0, none⟩ = some (.int .i64 d0) := cell_after hkw2 sw1_0 kw1_0_0
          have kw2_0_1 : w2.cell? ⟨w.heap.size, 1, none⟩ = some (.int .i64 d1) := cell_after hkw2 sw1_0 kw1_0_1
          have kw2_0_2 : w2.cell? ⟨w.heap.size, 2, none⟩ = some (.int .i64 d2) := cell_after hkw2 sw1_0 kw1_0_2
          have kw2_0_3 : w2.cell? ⟨w.heap.size, 3, none⟩ = some (.int .i64 d3) := cell_after hkw2 sw1_0 kw1_0_3
          have kw2_0_4 : w2.cell? ⟨w.heap.size, 4, none⟩ = some (.slice a n c) := cell_after hkw2 sw1_0 kw1_0_4
          have kw2_0_5 : w2.cell? ⟨w.heap.size, 5, none⟩ = some (.int .i64 d4) := cell_after hkw2 sw1_0 kw1_0_5
          have kw2_0_6 : w2.cell? ⟨w.heap.size, 6, none⟩ = some (.int .i64 d5) := cell_after hkw2 sw1_0 kw1_0_6
          have kw2_0_7 : w2.cell? ⟨w.heap.size, 7, none⟩ = some (.int .i64 d6) := cell_after hkw2 sw1_0 kw1_0_7
          have kw2_0_8 : w2.cell? ⟨w.heap.size, 8, none⟩ = some (.int .i64 d7) := cell_after hkw2 sw1_0 kw1_0_8
          have kw2_0_9 : w2.cell? ⟨w.heap.size, 9, none⟩ = some (.int .i64 d8) := cell_after hkw2 sw1_0 kw1_0_9
          have kw2_0_10 : w2.cell? ⟨w.heap.size, 10, none⟩ = some (.int .i64 d9) := cell_after hkw2 sw1_0 kw1_0_10
          have kw2_0_11 : w2.cell? ⟨w.heap.size, 11, none⟩ = some (.int .i64 d10) := cell_after hkw2 sw1_0 kw1_0_11
          have sw2_0 : w.heap.size < w2.heap.size := size_after hkw2 sw1_0
          have hBw2 : Below w.heap.size w w2 := (by repeat (first | exact HBw1.out | exact Below.refl _ _ | refine bl_alloc ?_ _ | refine bl_drewN ?_ _ | refine bl_trans (by assumption) ?_ | refine bl_set ?_ (by first | omega | (simp; done) | (simp; omega)) _))
          have HBw2 := Lib.hid hBw2
          clear hBw2 hcw2 hfw2 hbw2 hkw2 kw1_0_0 kw1_0_1 kw1_0_2 kw1_0_3 kw1_0_4 kw1_0_5 kw1_0_6 kw1_0_7 kw1_0_8 kw1_0_9 kw1_0_10 kw1_0_11 sw1_0
          rw [h1]
          go_wp2_with fail
          refine (impl_IsWalker _ _ _ _ _).mono ?_
          rintro e w3 ⟨rfl, hbw3⟩
          obtain ⟨hcw3, hfw3⟩ := bcell hbw3
          have hzw3 := bsize hbw3
          (try simp only [World.size_alloc, World.size_setCell] at hzw3)
          have hkw3 : Below w2.heap.size w2 w3 := (by repeat (first | exact Below.refl _ _ | refine bl_alloc ?_ _ | refine bl_drewN ?_ _ | refine bl_trans (by assumption) ?_ | refine bl_set ?_ (by first | omega | (simp; done) | (simp; omega)) _))
          have kw3_0_0 : w3.cell? ⟨w.heap.size, 0, none⟩ = some (.int .i64 d0) := cell_after hkw3 sw2_0 kw2_0_0
          have kw3_0_1 : w3.cell? ⟨w.heap.size, 1, none⟩ = some (.int .i64 d1) := cell_after hkw3 sw2_0 kw2_0_1
          have kw3_0_2 : w3.cell? ⟨w.heap.size, 2, none⟩ = some (.int .i64 d2) := cell_after hkw3 sw2_0 kw2_0_2
          have kw3_0_3 : w3.cell? ⟨w.heap.size, 3, none⟩ = some (.int .i64 d3) := cell_after hkw3 sw2_0 kw2_0_3
          have kw3_0_4 : w3.cell? ⟨w.heap.size, 4, none⟩ = some (.slice a n c) := cell_after hkw3 sw2_0 kw2_0_4
          have kw3_0_5 : w3.cell? ⟨w.heap.size, 5, none⟩ = some (.int .i64 d4) := cell_after hkw3 sw2_0 kw2_0_5
          have kw3_0_6 : w3.cell? ⟨w.heap.size, 6, none⟩ = some (.int .i64 d5) := cell_after hkw3 sw2_0 kw2_0_6
          have kw3_0_7 : w3.cell? ⟨w.heap.size, 7, none⟩ = some (.int .i64 d6) := cell_after hkw3 sw2_0 kw2_0_7
          have kw3_0_8 : w3.cell? ⟨w.heap.size, 8, none⟩ = some (.int .i64 d7) := cell_after hkw3 sw2_0 kw2_0_8
          have kw3_0_9 : w3.cell? ⟨w.heap.size, 9, none⟩ = some (.int .i64 d8) := cell_after hkw3 sw2_0 kw2_0_9
          have kw3_0_10 : w3.cell? ⟨w.heap.size, 10, none⟩ = some (.int .i64 d9) := cell_after hkw3 sw2_0 kw2_0_10
          have kw3_0_11 : w3.cell? ⟨w.heap.size, 11, none⟩ = some (.int .i64 d10) := cell_after hkw3 sw2_0 kw2_0_11
          have sw3_0 : w.heap.size < w3.heap.size := size_after hkw3 sw2_0
          have hBw3 : Below w.heap.size w w3 := (by repeat (first | exact HBw2.out | exact Below.refl _ _ | refine bl_alloc ?_ _ | refine bl_drewN ?_ _ | refine bl_trans (by assumption) ?_ | refine bl_set ?_ (by first | omega | (simp; done) | (simp; omega)) _))
          have HBw3 := Lib.hid hBw3
          clear hBw3 hcw3 hfw3 hbw3 hkw3 kw2_0_0 kw2_0_1 kw2_0_2 kw2_0_3 kw2_0_4 kw2_0_5 kw2_0_6 kw2_0_7 kw2_0_8 kw2_0_9 kw2_0_10 kw2_0_11 sw2_0
          rw [h2]
          go_wp2_with fail
          refine (impl_IsIsland _ _ _ _ _).mono ?_
          rintro e w4 ⟨rfl, hbw4⟩
          obtain ⟨hcw4, hfw4⟩ := bcell hbw4
          have hzw4 := bsize hbw4
          (try simp only [World.size_alloc, World.size_setCell] at hzw4)
          have hkw4 : Below w3.heap.size w3 w4 := (by repeat (first | exact Below.refl _ _ | refine bl_alloc ?_ _ | refine bl_drewN ?_ _ | refine bl_trans (by assumption) ?_ | refine bl_set ?_ (by first | omega | (simp; done) | (simp; omega)) _))
          have kw4_0_0 : w4.cell? ⟨w.heap.size, 0, none⟩ = some (.int .i64 d0) := cell_after hkw4 sw3_0 kw3_0_0
          have kw4_0_1 : w4.cell? ⟨w.heap.size, 1, none⟩ = some (.int .i64 d1) := cell_after hkw4 sw3_0 kw3_0_1
          have kw4_0_2 : w4.cell? ⟨w.heap.size, 2, none⟩ = some (.int .i64 d2) := cell_after hkw4 sw3_0 kw3_0_2
          have kw4_0_3 : w4.cell? ⟨w.heap.size, 3, none⟩ = some (.int .i64 d3) := cell_after hkw4 sw3_0 kw3_0_3
          have kw4_0_4 : w4.cell? ⟨w.heap.size, 4, none⟩ = some (.slice a n c) := cell_after hkw4 sw3_0 kw3_0_4
          have kw4_0_5 : w4.cell? ⟨w.heap.size, 5, none⟩ = some (.int .i64 d4) := cell_after hkw4 sw3_0 kw3_0_5
          have kw4_0_6 : w4.cell? ⟨w.heap.size, 6, none⟩ = some (.int .i64 d5) := cell_after hkw4 sw3_0 kw3_0_6
          have kw4_0_7 : w4.cell? ⟨w.heap.size, 7, none⟩ = some (.int .i64 d6) := cell_after hkw4 sw3_0 kw3_0_7
          have kw4_0_8 : w4.cell? ⟨w.heap.size, 8, none⟩ = some (.int .i64 d7) := cell_after hkw4 sw3_0 kw3_0_8
          have kw4_0_9 : w4.cell? ⟨w.heap.size, 9, none⟩ = some (.int .i64 d8) := cell_after hkw4 sw3_0 kw3_0_9
          have kw4_0_10 : w4.cell? ⟨w.heap.size, 10, none⟩ = some (.int .i64 d9) := cell_after hkw4 sw3_0 kw3_0_10
          have kw4_0_11 : w4.cell? ⟨w.heap.size, 11, none⟩ = some (.int .i64 d10) := cell_after hkw4 sw3_0 kw3_0_11
          have sw4_0 : w.heap.size < w4.heap.size := size_after hkw4 sw3_0
          have hBw4 : Below w.heap.size w w4 := (by repeat (first | exact HBw3.out | exact Below.refl _ _ | refine bl_alloc ?_ _ | refine bl_drewN ?_ _ | refine bl_trans (by assumption) ?_ | refine bl_set ?_ (by first | omega | (simp; done) | (simp; omega)) _))
          have HBw4 := Lib.hid hBw4
          clear hBw4 hcw4 hfw4 hbw4 hkw4 kw3_0_0 kw3_0_1 kw3_0_2 kw3_0_3 kw3_0_4 kw3_0_5 kw3_0_6 kw3_0_7 kw3_0_8 kw3_0_9 kw3_0_10 kw3_0_11 sw3_0
          rw [h3]
          go_wp2
          go_ret
          exact ⟨by simp [okD, h0, h1, h2, h3], (by repeat (first | exact HBw4.out | exact Below.refl _ _ | refine bl_alloc ?_ _ | refine bl_drewN ?_ _ | refine bl_trans (by assumption) ?_ | refine bl_set ?_ (by first | omega | (simp; done) | (simp; omega)) _))⟩
set_option maxRecDepth 8000 in
set_option maxHeartbeats 2000000 in
theorem spec_coGood (d0 d1 d2 d3 d4 d5 d6 d7 d8 d9 d10 : Int) (v : Value) (n : Nat) (f : Nat → Int) (w : World) (h : PRow w v n f) :
    Calls Try.prog 34 #[.agg #[.int .i64 d0, .int .i64 d1, .int .i64 d2, .int .i64 d3, v, .int .i64 d4, .int .i64 d5, .int .i64 d6, .int .i64 d7, .int .i64 d8, .int .i64 d9, .int .i64 d10]] w fun e w' => e = .returned (.bool (okD d0 d1 d2 d3 d4 d5 d6 d7 d8 d9 d10 n f)) ∧ Below w.heap.size w w' := by
  obtain ⟨a, c, rfl⟩ := h.shape
  have HH := Lib.hid h
  clear h
  cases h0 : okL d0 d1 d2
  · go_enter Try.func34, Try.ntmps34
    go_wp2_with fail
    refine (spec_clGood _ _ _ _).mono ?_
    rintro e w1 ⟨rfl, hbw1⟩
    obtain ⟨hcw1, hfw1⟩ := bcell hbw1
    have hzw1 := bsize hbw1
    (try simp only [World.size_alloc, World.size_setCell] at hzw1)
    have kw1_0_0 : w1.cell? ⟨w.heap.size, 0, none⟩ = some (.int .i64 d0) := by rw [hcw1 _ _ (by first | (simp; done) | omega | (simp; omega))]; first | assumption | (simp [go_sem]; done) | (simp [go_sem]; done) | (simp [go_sem, *]; done)
    have kw1_0_1 : w1.cell? ⟨w.heap.size, 1, none⟩ = some (.int .i64 d1) := by rw [hcw1 _ _ (by first | (simp; done) | omega | (simp; omega))]; first | assumption | (simp [go_sem]; done) | (simp [go_sem]; done) | (simp [go_sem, *]; done)
    have kw1_0_2 : w1.cell? ⟨w.heap.size, 2, none⟩ = some (.int .i64 d2) := by rw [hcw1 _ _ (by first | (simp; done) | omega | (simp; omega))]; first | assumption | (simp [go_sem]; done) | (simp [go_sem]; done) | (simp [go_sem, *]; done)
    have kw1_0_3 : w1.cell? ⟨w.heap.size, 3, none⟩ = some (.int .i64 d3) := by rw [hcw1 _ _ (by first | (simp; done) | omega | (simp; omega))]; first | assumption | (simp [go_sem]; done) | (simp [go_sem]; done) | (simp [go_sem, *]; done)
    have kw1_0_4 : w1.cell? ⟨w.heap.size, 4, none⟩ = some (.slice a n c) := by rw [hcw1 _ _ (by first | (simp; done) | omega | (simp; omega))]; first | assumption | (simp [go_sem]; done) | (simp [go_sem]; done) | (simp [go_sem, *]; done)
    have kw1_0_5 : w1.cell? ⟨w.heap.size, 5, none⟩ = some (.int .i64 d4) := by rw [hcw1 _ _ (by first | (simp; done) | omega | (simp; omega))]; first | assumption | (simp [go_sem]; done) | (simp [go_sem]; done) | (simp [go_sem, *]; done)
    have kw1_0_6 : w1.cell? ⟨w.heap.size, 6, none⟩ = some (.int .i64 d5) := by rw [hcw1 _ _ (by first | (simp; done) | omega | (simp; omega))]; first | assumption | (simp [go_sem]; done) | (simp [go_sem]; done) | (simp [go_sem, *]; done)
    have kw1_0_7 : w1.cell? ⟨w.heap.size, 7, none⟩ = some (.int .i64 d6) := by rw [hcw1 _ _ (by first | (simp; done) | omega | (simp; omega))]; first | assumption | (simp [go_sem]; done) | (simp [go_sem]; done) | (simp [go_sem, *]; done)
    have kw1_0_8 : w1.cell? ⟨w.heap.size, 8, none⟩ = some (.int .i64 d7) := by rw [hcw1 _ _ (by first | (simp; done) | omega | (simp; omega))]; first | assumption | (simp [go_sem]; done) | (simp [go_sem]; done) | (simp [go_sem, *]; done)
    have kw1_0_9 : w1.cell? ⟨w.heap.size, 9, none⟩ = some (.int .i64 d8) := by rw [hcw1 _ _ (by first | (simp; done) | omega | (simp; omega))]; first | assumption | (simp [go_sem]; done) | (simp [go_sem]; done) | (simp [go_sem, *]; done)
    have kw1_0_10 : w1.cell? ⟨w.heap.size, 10, none⟩ = some (.int .i64 d9) := by rw [hcw1 _ _ (by first | (simp; done) | omega | (simp; omega))]; first | assumption | (simp [go_sem]; done) | (simp [go_sem]; done) | (simp [go_sem, *]; done)
    have kw1_0_11 : w1.cell? ⟨w.heap.size, 11, none⟩ = some (.int .i64 d10) := by rw [hcw1 _ _ (by first | (simp; done) | omega | (simp; omega))]; first | assumption | (simp [go_sem]; done) | (simp [go_sem]; done) | (simp [go_sem, *]; done)
    have sw1_0 : w.heap.size < w1.heap.size := by first | omega | (simp at *; omega)
    have hBw1 : Below w.heap.size w w1 := (by repeat (first | exact Below.refl _ _ | refine bl_alloc ?_ _ | refine bl_drewN ?_ _ | refine bl_trans (by assumption) ?_ | refine bl_set ?_ (by first | omega | (simp; done) | (simp; omega)) _))
    have HBw1 := Lib.hid hBw1
    clear hBw1 hcw1 hfw1 hbw1
    rw [h0]
    go_wp2
    go_ret
    exact ⟨by simp [okD, h0], (by repeat (first | exact HBw1.out | exact Below.refl _ _ | refine bl_alloc ?_ _ | refine bl_drewN ?_ _ | refine bl_trans (by assumption) ?_ | refine bl_set ?_ (by first | omega | (simp; done) | (simp; omega)) _))⟩
  · skip
    cases h1 : okG d3 n f
    · go_enter Try.func34, Try.ntmps34
      go_wp2_with fail
      refine (spec_clGood _ _ _ _).mono ?_
      rintro e w1 ⟨rfl, hbw1⟩
      obtain ⟨hcw1, hfw1⟩ := bcell hbw1
      have hzw1 := bsize hbw1
      (try simp only [World.size_alloc, World.size_setCell] at hzw1)
      have kw1_0_0 : w1.cell? ⟨w.heap.size, 0, none⟩ = some (.int .i64 d0) := by rw [hcw1 _ _ (by first | (simp; done) | omega | (simp; omega))]; first | assumption | (simp [go_sem]; done) | (simp [go_sem]; done) | (simp [go_sem, *]; done)
      have kw1_0_1 : w1.cell? ⟨w.heap.size, 1, none⟩ = some (.int .i64 d1) := by rw [hcw1 _ _ (by first | (simp; done) | omega | (simp; omega))]; first | assumption | (simp [go_sem]; done) | (simp [go_sem]; done) | (simp [go_sem, *]; done)
      have kw1_0_2 : w1.cell? ⟨w.heap.size, 2, none⟩ = some (.int .i64 d2) := by rw [hcw1 _ _ (by first | (simp; done) | omega | (simp; omega))]; first | assumption | (simp [go_sem]; done) | (simp [go_sem]; done) | (simp [go_sem, *]; done)
      have kw1_0_3 : w1.cell? ⟨w.heap.size, 3, none⟩ = some (.int .i64 d3) := by rw [hcw1 _ _ (by first | (simp; done) | omega | (simp; omega))]; first | assumption | (simp [go_sem]; done) | (simp [go_sem]; done) | (simp [go_sem, *]; done)
      have kw1_0_4 : w1.cell? ⟨w.heap.size, 4, none⟩ = some (.slice a n c) := by rw [hcw1 _ _ (by first | (simp; done) | omega | (simp; omega))]; first | assumption | (simp [go_sem]; done) | (simp [go_sem]; done) | (simp [go_sem, *]; done)
      have kw1_0_5 : w1.cell? ⟨w.heap.size, 5, none⟩ = some (.int .i64 d4) := by rw [hcw1 _ _ (by first | (simp; done) | omega | (simp; omega))]; first | assumption | (simp [go_sem]; done) | (simp [go_sem]; done) | (simp [go_sem, *]; done)
      have kw1_0_6 : w1.cell? ⟨w.heap.size, 6, none⟩ = some (.int .i64 d5) := by rw [hcw1 _ _ (by first | (simp; done) | omega | (simp; omega))]; first | assumption | (simp [go_sem]; done) | (simp [go_sem]; done) | (simp [go_sem, *]; done)
      have kw1_0_7 : w1.cell? ⟨w.heap.size, 7, none⟩ = some (.int .i64 d6) := by rw [hcw1 _ _ (by first | (simp; done) | omega | (simp; omega))]; first | assumption | (simp [go_sem]; done) | (simp [go_sem]; done) | (simp [go_sem, *]; done)
      have kw1_0_8 : w1.cell? ⟨w.heap.size, 8, none⟩ = some (.int .i64 d7) := by rw [hcw1 _ _ (by first | (simp; done) | omega | (simp; omega))]; first | assumption | (simp [go_sem]; done) | (simp [go_sem]; done) | (simp [go_sem, *]; done)
      have kw1_0_9 : w1.cell? ⟨w.heap.size, 9, none⟩ = some (.int .i64 d8) := by rw [hcw1 _ _ (by first | (simp; done) | omega | (simp; omega))]; first | assumption | (simp [go_sem]; done) | (simp [go_sem]; done) | (simp [go_sem, *]; done)
      have kw1_0_10 : w1.cell? ⟨w.heap.size, 10, none⟩ = some (.int .i64 d9) := by rw [hcw1 _ _ (by first | (simp; done) | omega | (simp; omega))]; first | assumption | (simp [go_sem]; done) | (simp [go_sem]; done) | (simp [go_sem, *]; done)
      have kw1_0_11 : w1.cell? ⟨w.heap.size, 11, none⟩ = some (.int .i64 d10) := by rw [hcw1 _ _ (by first | (simp; done) | omega | (simp; omega))]; first | assumption | (simp [go_sem]; done) | (simp [go_sem]; done) | (simp [go_sem, *]; done)
      have sw1_0 : w.heap.size < w1.heap.size := by first | omega | (simp at *; omega)
      have hBw1 : Below w.heap.size w w1 := (by repeat (first | exact Below.refl _ _ | refine bl_alloc ?_ _ | refine bl_drewN ?_ _ | refine bl_trans (by assumption) ?_ | refine bl_set ?_ (by first | omega | (simp; done) | (simp; omega)) _))
      have HBw1 := Lib.hid hBw1
      clear hBw1 hcw1 hfw1 hbw1
      rw [h0]
      go_wp2_with fail
      refine (spec_swGood _ _ n f _ (HH.out.keep (by repeat (first | exact HBw1.out | exact Below.refl _ _ | refine bl_alloc ?_ _ | refine bl_drewN ?_ _ | refine bl_trans (by assumption) ?_ | refine bl_set ?_ (by first | omega | (simp; done) | (simp; omega)) _)))).mono ?_
      rintro e w2 ⟨rfl, hbw2⟩
      obtain ⟨hcw2, hfw2⟩ := bcell hbw2
      have hzw2 := bsize hbw2
      (try simp only [World.size_alloc, World.size_setCell] at hzw2)
      have hkw2 : Below w1.heap.size w1 w2 := (by repeat (first | exact Below.refl _ _ | refine bl_alloc ?_ _ | refine bl_drewN ?_ _ | refine bl_trans (by assumption) ?_ | refine bl_set ?_ (by first | omega | (simp; done) | (simp; omega)) _))
      have kw2_0_0 : w2.cell? ⟨w.heap.size, 0, none⟩ = some (.int .i64 d0) := cell_after hkw2 sw1_0 kw1_0_0
      have kw2_0_1 : w2.cell? ⟨w.heap.size, 1, none⟩ = some (.int .i64 d1) := cell_after hkw2 sw1_0 kw1_0_1
      have kw2_0_2 : w2.cell? ⟨w.heap.size, 2, none⟩ = some (.int .i64 d2) := cell_after hkw2 sw1_0 kw1_0_2
      have kw2_0_3 : w2.cell? ⟨w.heap.size, 3, none⟩ = some (.int .i64 d3) := cell_after hkw2 sw1_0 kw1_0_3
      have kw2_0_4 : w2.cell? ⟨w.heap.size, 4, none⟩ = some (.slice a n c) := cell_after hkw2 sw1_0 kw1_0_4
      have kw2_0_5 : w2.cell? ⟨w.heap.size, 5, none⟩ = some (.int .i64 d4) := cell_after hkw2 sw1_0 kw1_0_5
      have kw2_0_6 : w2.cell? ⟨w.heap.size, 6, none⟩ = some (.int .i64 d5) := cell_after hkw2 sw1_0 kw1_0_6
      have kw2_0_7 : w2.cell? ⟨w.heap.size, 7, none⟩ = some (.int .i64 d6) := cell_after hkw2 sw1_0 kw1_0_7
      have kw2_0_8 : w2.cell? ⟨w.heap.size, 8, none⟩ = some (.int .i64 d7) := cell_after hkw2 sw1_0 kw1_0_8
      have kw2_0_9 : w2.cell? ⟨w.heap.size, 9, none⟩ = some (.int .i64 d8) := cell_after hkw2 sw1_0 kw1_0_9
      have kw2_0_10 : w2.cell? ⟨w.heap.size, 10, none⟩ = some (.int .i64 d9) := cell_after hkw2 sw1_0 kw1_0_10
      have kw2_0_11 : w2.cell? ⟨w.heap.size, 11, none⟩ = some (.int .i64 d10) := cell_after hkw2 sw1_0 kw1_0_11
      have sw2_0 : w.heap.size < w2.heap.size := size_after hkw2 sw1_0
      have hBw2 : Below w.heap.size w w2 := (by repeat (first | exact HBw1.out | exact Below.refl _ _ | refine bl_alloc ?_ _ | refine bl_drewN ?_ _ | refine bl_trans (by assumption) ?_ | refine bl_set ?_ (by first | omega | (simp; done) | (simp; omega)) _))
      have HBw2 := Lib.hid hBw2
      clear hBw2 hcw2 hfw2 hbw2 hkw2 kw1_0_0 kw1_0_1 kw1_0_2 kw1_0_3 kw1_0_4 kw1_0_5 kw1_0_6 kw1_0_7 kw1_0_8 kw1_0_9 kw1_0_10 kw1_0_11 sw1_0
      rw [h1]
      go_wp2
      go_ret
      exact ⟨by simp [okD, h0, h1], (by repeat (first | exact HBw2.out | exact Below.refl _ _ | refine bl_alloc ?_ _ | refine bl_drewN ?_ _ | refine bl_trans (by assumption) ?_ | refine bl_set ?_ (by first | omega | (simp; done) | (simp; omega)) _))⟩
    · skip
      cases h2 : okWk d3 d4 d5 d6
      · go_enter Try.func34, Try.ntmps34
        go_wp2_with fail
        refine (spec_clGood _ _ _ _).mono ?_
        rintro e w1 ⟨rfl, hbw1⟩
        obtain ⟨hcw1, hfw1⟩ := bcell hbw1
        have hzw1 := bsize hbw1
        (try simp only [World.size_alloc, World.size_setCell] at hzw1)
        have kw1_0_0 : w1.cell? ⟨w.heap.size, 0, none⟩ = some (.int .i64 d0) := by rw [hcw1 _ _ (by first | (simp; done) | omega | (simp; omega))]; first | assumption | (simp [go_sem]; done) | (simp [go_sem]; done) | (simp [go_sem, *]; done)
        have kw1_0_1 : w1.cell? ⟨w.heap.size, 1, none⟩ = some (.int .i64 d1) := by rw [hcw1 _ _ (by first | (simp; done) | omega | (simp; omega))]; first | assumption | (simp [go_sem]; done) | (simp [go_sem]; done) | (simp [go_sem, *]; done)
        have kw1_0_2 : w1.cell? ⟨w.heap.size, 2, none⟩ = some (.int .i64 d2) := by rw [hcw1 _ _ (by first | (simp; done) | omega | (simp; omega))]; first | assumption | (simp [go_sem]; done) | (simp [go_sem]; done) | (simp [go_sem, *]; done)
        have kw1_0_3 : w1.cell? ⟨w.heap.size, 3, none⟩ = some (.int .i64 d3) := by rw [hcw1 _ _ (by first | (simp; done) | omega | (simp; omega))]; first | assumption | (simp [go_sem]; done) | (simp [go_sem]; done) | (simp [go_sem, *]; done)
        have kw1_0_4 : w1.cell? ⟨w.heap.size, 4, none⟩ = some (.slice a n c) := by rw [hcw1 _ _ (by first | (simp; done) | omega | (simp; omega))]; first | assumption | (simp [go_sem]; done) | (simp [go_sem]; done) | (simp [go_sem, *]; done)
        have kw1_0_5 : w1.cell? ⟨w.heap.size, 5, none⟩ = some (.int .i64 d4) := by rw [hcw1 _ _ (by first | (simp; done) | omega | (simp; omega))]; first | assumption | (simp [go_sem]; done) | (simp [go_sem]; done) | (simp [go_sem, *]; done)
        have kw1_0_6 : w1.cell? ⟨w.heap.size, 6, none⟩ = some (.int .i64 d5) := by rw [hcw1 _ _ (by first | (simp; done) | omega | (simp; omega))]; first | assumption | (simp [go_sem]; done) | (simp [go_sem]; done) | (simp [go_sem, *]; done)
        have kw1_0_7 : w1.cell? ⟨w.heap.size, 7, none⟩ = some (.int .i64 d6) := by rw [hcw1 _ _ (by first | (simp; done) | omega | (simp; omega))]; first | assumption | (simp [go_sem]; done) | (simp [go_sem]; done) | (simp [go_sem, *]; done)
        have kw1_0_8 : w1.cell? ⟨w.heap.size, 8, none⟩ = some (.int .i64 d7) := by rw [hcw1 _ _ (by first | (simp; done) | omega | (simp; omega))]; first | assumption | (simp [go_sem]; done) | (simp [go_sem]; done) | (simp [go_sem, *]; done)
        have kw1_0_9 : w1.cell? ⟨w.heap.size, 9, none⟩ = some (.int .i64 d8) := by rw [hcw1 _ _ (by first | (simp; done) | omega | (simp; omega))]; first | assumption | (simp [go_sem]; done) | (simp [go_sem]; done) | (simp [go_sem, *]; done)
        have kw1_0_10 : w1.cell? ⟨w.heap.size, 10, none⟩ = some (.int .i64 d9) := by rw [hcw1 _ _ (by first | (simp; done) | omega | (simp; omega))]; first | assumption | (simp [go_sem]; done) | (simp [go_sem]; done) | (simp [go_sem, *]; done)
        have kw1_0_11 : w1.cell? ⟨w.heap.size, 11, none⟩ = some (.int .i64 d10) := by rw [hcw1 _ _ (by first | (simp; done) | omega | (simp; omega))]; first | assumption | (simp [go_sem]; done) | (simp [go_sem]; done) | (simp [go_sem, *]; done)
        have sw1_0 : w.heap.size < w1.heap.size := by first | omega | (simp at *; omega)
        have hBw1 : Below w.heap.size w w1 := (by repeat (first | exact Below.refl _ _ | refine bl_alloc ?_ _ | refine bl_drewN ?_ _ | refine bl_trans (by assumption) ?_ | refine bl_set ?_ (by first | omega | (simp; done) | (simp; omega)) _))
        have HBw1 := Lib.hid hBw1
        clear hBw1 hcw1 hfw1 hbw1
        rw [h0]
        go_wp2_with fail
        refine (spec_swGood _ _ n f _ (HH.out.keep (by repeat (first | exact HBw1.out | exact Below.refl _ _ | refine bl_alloc ?_ _ | refine bl_drewN ?_ _ | refine bl_trans (by assumption) ?_ | refine bl_set ?_ (by first | omega | (simp; done) | (simp; omega)) _)))).mono ?_
        rintro e w2 ⟨rfl, hbw2⟩
        obtain ⟨hcw2, hfw2⟩ := bcell hbw2
        have hzw2 := bsize hbw2
        (try simp only [World.size_alloc, World.size_setCell] at hzw2)
        have hkw2 : Below w1.heap.size w1 w2 := (by repeat (first | exact Below.refl _ _ | refine bl_alloc ?_ _ | refine bl_drewN ?_ _ | refine bl_trans (by assumption) ?_ | refine bl_set ?_ (by first | omega | (simp; done) | (simp; omega)) _))
        have kw2_0_0 : w2.cell? ⟨w.heap.size, 0, none⟩ = some (.int .i64 d0) := cell_after hkw2 sw1_0 kw1_0_0
        have kw2_0_1 : w2.cell? ⟨w.heap.size, 1, none⟩ = some (.int .i64 d1) := cell_after hkw2 sw1_0 kw1_0_1
        have kw2_0_2 : w2.cell? ⟨w.heap.size, 2, none⟩ = some (.int .i64 d2) := cell_after hkw2 sw1_0 kw1_0_2
        have kw2_0_3 : w2.cell? ⟨w.heap.size, 3, none⟩ = some (.int .i64 d3) := cell_after hkw2 sw1_0 kw1_0_3
        have kw2_0_4 : w2.cell? ⟨w.heap.size, 4, none⟩ = some (.slice a n c) := cell_after hkw2 sw1_0 kw1_0_4
        have kw2_0_5 : w2.cell? ⟨w.heap.size, 5, none⟩ = some (.int .i64 d4) := cell_after hkw2 sw1_0 kw1_0_5
        have kw2_0_6 : w2.cell? ⟨w.heap.size, 6, none⟩ = some (.int .i64 d5) := cell_after hkw2 sw1_0 kw1_0_6
        have kw2_0_7 : w2.cell? ⟨w.heap.size, 7, none⟩ = some (.int .i64 d6) := cell_after hkw2 sw1_0 kw1_0_7
        have kw2_0_8 : w2.cell? ⟨w.heap.size, 8, none⟩ = some (.int .i64 d7) := cell_after hkw2 sw1_0 kw1_0_8
        have kw2_0_9 : w2.cell? ⟨w.heap.size, 9, none⟩ = some (.int .i64 d8) := cell_after hkw2 sw1_0 kw1_0_9
        have kw2_0_10 : w2.cell? ⟨w.heap.size, 10, none⟩ = some (.int .i64 d9) := cell_after hkw2 sw1_0 kw1_0_10
        have kw2_0_11 : w2.cell? ⟨w.heap.size, 11, none⟩ = some (.int .i64 d10) := cell_after hkw2 sw1_0 kw1_0_11
        have sw2_0 : w.heap.size < w2.heap.size := size_after hkw2 sw1_0
        have hBw2 : Below w.heap.size w w2 := (by repeat (first | exact HBw1.out | exact Below.refl _ _ | refine bl_alloc ?_ _ | refine bl_drewN ?_ _ | refine bl_trans (by assumption) ?_ | refine bl_set ?_ (by first | omega | (simp; done) | (simp; omega)) _))
        have HBw2 := Lib.hid hBw2
        clear hBw2 hcw2 hfw2 hbw2 hkw2 kw1_0_0 kw1_0_1 kw1_0_2 kw1_0_3 kw1_0_4 kw1_0_5 kw1_0_6 kw1_0_7 kw1_0_8 kw1_0_9 kw1_0_10 kw1_0_11 sw1_0
        rw [h1]
        go_wp2_with fail
        refine (spec_wkGood _ _ _ _ _).mono ?_
        rintro e w3 ⟨rfl, hbw3⟩
        obtain ⟨hcw3, hfw3⟩ := bcell hbw3
        have hzw3 := bsize hbw3
        (try simp only [World.size_alloc, World.size_setCell] at hzw3)
        have hkw3 : Below w2.heap.size w2 w3 := (by repeat (first | exact Below.refl _ _ | refine bl_alloc ?_ _ | refine bl_drewN ?_ _ | refine bl_trans (by assumption) ?_ | refine bl_set ?_ (by first | omega | (simp; done) | (simp; omega)) _))
        have kw3_0_0 : w3.cell? ⟨w.heap.size, 0, none⟩ = some (.int .i64 d0) := cell_after hkw3 sw2_0 kw2_0_0
        have kw3_0_1 : w3.cell? ⟨w.heap.size, 1, none⟩ = some (.int .i64 d1) := cell_after hkw3 sw2_0 kw2_0_1
        have kw3_0_2 : w3.cell? ⟨w.heap.size, 2, none⟩ = some (.int .i64 d2) := cell_after hkw3 sw2_0 kw2_0_2
        have kw3_0_3 : w3.cell? ⟨w.heap.size, 3, none⟩ = some (.int .i64 d3) := cell_after hkw3 sw2_0 kw2_0_3
        have kw3_0_4 : w3.cell? ⟨w.heap.size, 4, none⟩ = some (.slice a n c) := cell_after hkw3 sw2_0 kw2_0_4
        have kw3_0_5 : w3.cell? ⟨w.heap.size, 5, none⟩ = some (.int .i64 d4) := cell_after hkw3 sw2_0 kw2_0_5
        have kw3_0_6 : w3.cell? ⟨w.heap.size, 6, none⟩ = some (.int .i64 d5) := cell_after hkw3 sw2_0 kw2_0_6
        have kw3_0_7 : w3.cell? ⟨w.heap.size, 7, none⟩ = some (.int .i64 d6) := cell_after hkw3 sw2_0 kw2_0_7
        have kw3_0_8 : w3.cell? ⟨w.heap.size, 8, none⟩ = some (.int .i64 d7) := cell_after hkw3 sw2_0 kw2_0_8
        have kw3_0_9 : w3.cell? ⟨w.heap.size, 9, none⟩ = some (.int .i64 d8) := cell_after hkw3 sw2_0 kw2_0_9
        have kw3_0_10 : w3.cell? ⟨w.heap.size, 10, none⟩ = some (.int .i64 d9) := cell_after hkw3 sw2_0 kw2_0_10
        have kw3_0_11 : w3.cell? ⟨w.heap.size, 11, none⟩ = some (.int .i64 d10) := cell_after hkw3 sw2_0 kw2_0_11
        have sw3_0 : w.heap.size < w3.heap.size := size_after hkw3 sw2_0
        have hBw3 : Below w.heap.size w w3 := (by repeat (first | exact HBw2.out | exact Below.refl _ _ | refine bl_alloc ?_ _ | refine bl_drewN ?_ _ | refine bl_trans (by assumption) ?_ | refine bl_set ?_ (by first | omega | (simp; done) | (simp; omega)) _))
        have HBw3 := Lib.hid hBw3
        clear hBw3 hcw3 hfw3 hbw3 hkw3 kw2_0_0 kw2_0_1 kw2_0_2 kw2_0_3 kw2_0_4 kw2_0_5 kw2_0_6 kw2_0_7 kw2_0_8 kw2_0_9 kw2_0_10 kw2_0_11 sw2_0
        rw [h2]
        go_wp2
        go_ret
        exact ⟨by simp [okD, h0, h1, h2], (by repeat (first | exact HBw3.out | exact Below.refl _ _ | refine bl_alloc ?_ _ | refine bl_drewN ?_ _ | refine bl_trans (by assumption) ?_ | refine bl_set ?_ (by first | omega | (simp; done) | (simp; omega)) _))⟩
      · skip
        cases h3 : okIs d7 d8 d9 d10
        · go_enter Try.func34, Try.ntmps34
          go_wp2_with fail
          refine (spec_clGood _ _ _ _).mono ?_
          rintro e w1 ⟨rfl, hbw1⟩
          obtain ⟨hcw1, hfw1⟩ := bcell hbw1
          have hzw1 := bsize hbw1
          (try simp only [World.size_alloc, World.size_setCell] at hzw1)
          have kw1_0_0 : w1.cell? ⟨w.heap.size, 0, none⟩ = some (.int .i64 d0) := by rw [hcw1 _ _ (by first | (simp; done) | omega | (simp; omega))]; first | assumption | (simp [go_sem]; done) | (simp [go_sem]; done) | (simp [go_sem, *]; done)
          have kw1_0_1 : w1.cell? ⟨w.heap.size, 1, none⟩ = some (.int .i64 d1) := by rw [hcw1 _ _ (by first | (simp; done) | omega | (simp; omega))]; first | assumption | (simp [go_sem]; done) | (simp [go_sem]; done) | (simp [go_sem, *]; done)
          have kw1_0_2 : w1.cell? ⟨w.heap.size, 2, none⟩ = some (.int .i64 d2) := by rw [hcw1 _ _ (by first | (simp; done) | omega | (simp; omega))]; first | assumption | (simp [go_sem]; done) | (simp [go_sem]; done) | (simp [go_sem, *]; done)
          have kw1_0_3 : w1.cell? ⟨w.heap.size, 3, none⟩ = some (.int .i64 d3) := by rw [hcw1 _ _ (by first | (simp; done) | omega | (simp; omega))]; first | assumption | (simp [go_sem]; done) | (simp [go_sem]; done) | (simp [go_sem, *]; done)
          have kw1_0_4 : w1.cell? ⟨w.heap.size, 4, none⟩ = some (.slice a n c) := by rw [hcw1 _ _ (by first | (simp; done) | omega | (simp; omega))]; first | assumption | (simp [go_sem]; done) | (simp [go_sem]; done) | (simp [go_sem, *]; done)
          have kw1_0_5 : w1.cell? ⟨w.heap.size, 5, none⟩ = some (.int .i64 d4) := by rw [hcw1 _ _ (by first | (simp; done) | omega | (simp; omega))]; first | assumption | (simp [go_sem]; done) | (simp [go_sem]; done) | (simp [go_sem, *]; done)
          have kw1_0_6 : w1.cell? ⟨w.heap.size, 6, none⟩ = some (.int .i64 d5) := by rw [hcw1 _ _ (by first | (simp; done) | omega | (simp; omega))]; first | assumption | (simp [go_sem]; done) | (simp [go_sem]; done) | (simp [go_sem, *]; done)
          have kw1_0_7 : w1.cell? ⟨w.heap.size, 7, none⟩ = some (.int .i64 d6) := by rw [hcw1 _ _ (by first | (simp; done) | omega | (simp; omega))]; first | assumption | (simp [go_sem]; done) | (simp [go_sem]; done) | (simp [go_sem, *]; done)
          have kw1_0_8 : w1.cell? ⟨w.heap.size, 8, none⟩ = some (.int .i64 d7) := by rw [hcw1 _ _ (by first | (simp; done) | omega | (simp; omega))]; first | assumption | (simp [go_sem]; done) | (simp [go_sem]; done) | (simp [go_sem, *]; done)
          have kw1_0_9 : w1.cell? ⟨w.heap.size, 9, none⟩ = some (.int .i64 d8) := by rw [hcw1 _ _ (by first | (simp; done) | omega | (simp; omega))]; first | assumption | (simp [go_sem]; done) | (simp [go_sem]; done) | (simp [go_sem, *]; done)
          have kw1_0_10 : w1.cell? ⟨w.heap.size, 10, none⟩ = some (.int .i64 d9) := by rw [hcw1 _ _ (by first | (simp; done) | omega | (simp; omega))]; first | assumption | (simp [go_sem]; done) | (simp [go_sem]; done) | (simp [go_sem, *]; done)
          have kw1_0_11 : w1.cell? ⟨w.heap.size, 11, none⟩ = some (.int .i64 d10) := by rw [hcw1 _ _ (by first | (simp; done) | omega | (simp; omega))]; first | assumption | (simp [go_sem]; done) | (simp [go_sem]; done) | (simp [go_sem, *]; done)
          have sw1_0 : w.heap.size < w1.heap.size := by first | omega | (simp at *; omega)
          have hBw1 : Below w.heap.size w w1 := (by repeat (first | exact Below.refl _ _ | refine bl_alloc ?_ _ | refine bl_drewN ?_ _ | refine bl_trans (by assumption) ?_ | refine bl_set ?_ (by first | omega | (simp; done) | (simp; omega)) _))
          have HBw1 := Lib.hid hBw1
          clear hBw1 hcw1 hfw1 hbw1
          rw [h0]
          go_wp2_with fail
          refine (spec_swGood _ _ n f _ (HH.out.keep (by repeat (first | exact HBw1.out | exact Below.refl _ _ | refine bl_alloc ?_ _ | refine bl_drewN ?_ _ | refine bl_trans (by assumption) ?_ | refine bl_set ?_ (by first | omega | (simp; done) | (simp; omega)) _)))).mono ?_
          rintro e w2 ⟨rfl, hbw2⟩
          obtain ⟨hcw2, hfw2⟩ := bcell hbw2
          have hzw2 := bsize hbw2
          (try simp only [World.size_alloc, World.size_setCell] at hzw2)
          have hkw2 : Below w1.heap.size w1 w2 := (by repeat (first | exact Below.refl _ _ | refine bl_alloc ?_ _ | refine bl_drewN ?_ _ | refine bl_trans (by assumption) ?_ | refine bl_set ?_ (by first | omega | (simp; done) | (simp; omega)) _))
          have kw2_0_0 : w2.cell? ⟨w.heap.size, 0, none⟩ = some (.int .i64 d0) := cell_after hkw2 sw1_0 kw1_0_0
          have kw2_0_1 : w2.cell? ⟨w.heap.size, 1, none⟩ = some (.int .i64 d1) := cell_after hkw2 sw1_0 kw1_0_1
          have kw2_0_2 : w2.cell? ⟨w.heap.size, 2, none⟩ = some (.int .i64 d2) := cell_after hkw2 sw1_0 kw1_0_2
          have kw2_0_3 : w2.cell? ⟨w.heap.size, 3, none⟩ = some (.int .i64 d3) := cell_after hkw2 sw1_0 kw1_0_3
          have kw2_0_4 : w2.cell? ⟨w.heap.size, 4, none⟩ = some (.slice a n c) := cell_after hkw2 sw1_0 kw1_0_4
          have kw2_0_5 : w2.cell? ⟨w.heap.size, 5, none⟩ = some (.int .i64 d4) := cell_after hkw2 sw1_0 kw1_0_5
          have kw2_0_6 : w2.cell? ⟨w.heap.size, 6, none⟩ = some (.int .i64 d5) := cell_after hkw2 sw1_0 kw1_0_6
          have kw2_0_7 : w2.cell? ⟨w.heap.size, 7, none⟩ = some (.int .i64 d6) := cell_after hkw2 sw1_0 kw1_0_7
          have kw2_0_8 : w2.cell? ⟨w.heap.size, 8, none⟩ = some (.int .i64 d7) := cell_after hkw2 sw1_0 kw1_0_8
          have kw2_0_9 : w2.cell? ⟨w.heap.size, 9, none⟩ = some (.int .i64 d8) := cell_after hkw2 sw1_0 kw1_0_9
          have kw2_0_10 : w2.cell? ⟨w.heap.size, 10, none⟩ = some (.int .i64 d9) := cell_after hkw2 sw1_0 kw1_0_10
          have kw2_0_11 : w2.cell? ⟨w.heap.size, 11, none⟩ = some (.int .i64 d10) := cell_after hkw2 sw1_0 kw1_0_11
          have sw2_0 : w.heap.size < w2.heap.size := size_after hkw2 sw1_0
          have hBw2 : Below w.heap.size w w2 := (by repeat (first | exact HBw1.out | exact Below.refl _ _ | refine bl_alloc ?_ _ | refine bl_drewN ?_ _ | refine bl_trans (by assumption) ?_ | refine bl_set ?_ (by first | omega | (simp; done) | (simp; omega)) _))
          have HBw2 := Lib.hid hBw2
          clear hBw2 hcw2 hfw2 hbw2 hkw2 kw1_0_0 kw1_0_1 kw1_0_2 kw1_0_3 kw1_0_4 kw1_0_5 kw1_0_6 kw1_0_7 kw1_0_8 kw1_0_9 kw1_0_10 kw1_0_11 sw1_0
          rw [h1]
          go_wp2_with fail
          refine (spec_wkGood _ _ _ _ _).mono ?_
          rintro e w3 ⟨rfl, hbw3⟩
          obtain ⟨hcw3, hfw3⟩ := bcell hbw3
          have hzw3 := bsize hbw3
          (try simp only [World.size_alloc, World.size_setCell] at hzw3)
          have hkw3 : Below w2.heap.size w2 w3 := (by repeat (first | exact Below.refl _ _ | refine bl_alloc ?_ _ | refine bl_drewN ?_ _ | refine bl_trans (by assumption) ?_ | refine bl_set ?_ (by first | omega | (simp; done) | (simp; omega)) _))
          have kw3_0_0 : w3.cell? ⟨w.heap.size, 0, none⟩ = some (.int .i64 d0) := cell_after hkw3 sw2_0 kw2_0_0
          have kw3_0_1 : w3.cell? ⟨w.heap.size, 1, none⟩ = some (.int .i64 d1) := cell_after hkw3 sw2_0 kw2_0_1
          have kw3_0_2 : w3.cell? ⟨w.heap.size, 2, none⟩ = some (.int .i64 d2) := cell_after hkw3 sw2_0 kw2_0_2
          have kw3_0_3 : w3.cell? ⟨w.heap.size, 3, none⟩ = some (.int .i64 d3) := cell_after hkw3 sw2_0 kw2_0_3
          have kw3_0_4 : w3.cell? ⟨w.heap.size, 4, none⟩ = some (.slice a n c) := cell_after hkw3 sw2_0 kw2_0_4
          have kw3_0_5 : w3.cell? ⟨w.heap.size, 5, none⟩ = some (.int .i64 d4) := cell_after hkw3 sw2_0 kw2_0_5
          have kw3_0_6 : w3.cell? ⟨w.heap.size, 6, none⟩ = some (.int .i64 d5) := cell_after hkw3 sw2_0 kw2_0_6
          have kw3_0_7 : w3.cell? ⟨w.heap.size, 7, none⟩ = some (.int .i64 d6) := cell_after hkw3 sw2_0 kw2_0_7
          have kw3_0_8 : w3.cell? ⟨w.heap.size, 8, none⟩ = some (.int .i64 d7) := cell_after hkw3 sw2_0 kw2_0_8
          have kw3_0_9 : w3.cell? ⟨w.heap.size, 9, none⟩ = some (.int .i64 d8) := cell_after hkw3 sw2_0 kw2_0_9
          have kw3_0_10 : w3.cell? ⟨w.heap.size, 10, none⟩ = some (.int .i64 d9) := cell_after hkw3 sw2_0 kw2_0_10
          have kw3_0_11 : w3.cell? ⟨w.heap.size, 11, none⟩ = some (.int .i64 d10) := cell_after hkw3 sw2_0 kw2_0_11
          have sw3_0 : w.heap.size < w3.heap.size := size_after hkw3 sw2_0
          have hBw3 : Below w.heap.size w w3 := (by repeat (first | exact HBw2.out | exact Below.refl _ _ | refine bl_alloc ?_ _ | refine bl_drewN ?_ _ | refine bl_trans (by assumption) ?_ | refine bl_set ?_ (by first | omega | (simp; done) | (simp; omega)) _))
          have HBw3 := Lib.hid hBw3
          clear hBw3 hcw3 hfw3 hbw3 hkw3 kw2_0_0 kw2_0_1 kw2_0_2 kw2_0_3 kw2_0_4 kw2_0_5 kw2_0_6 kw2_0_7 kw2_0_8 kw2_0_9 kw2_0_10 kw2_0_11 sw2_0
          rw [h2]
          go_wp2_with fail
          refine (spec_htGood _ _ _ _ _).mono ?_
          rintro e w4 ⟨rfl, hbw4⟩
          obtain ⟨hcw4, hfw4⟩ := bcell hbw4
          have hzw4 := bsize hbw4
          (try simp only [World.size_alloc, World.size_setCell] at hzw4)
          have hkw4 : Below w3.heap.size w3 w4 := (by repeat (first | exact Below.refl _ _ | refine bl_alloc ?_ _ | refine bl_drewN ?_ _ | refine bl_trans (by assumption) ?_ | refine bl_set ?_ (by first | omega | (simp; done) | (simp; omega)) _))
          have kw4_0_0 : w4.cell? ⟨w.heap.size, 0, none⟩ = some (.int .i64 d0) := cell_after hkw4 sw3_0 kw3_0_0
          have kw4_0_1 : w4.cell? ⟨w.heap.size, 1, none⟩ = some (.int .i64 d1) := cell_after hkw4 sw3_0 kw3_0_1
          have kw4_0_2 : w4.cell? ⟨w.heap.size, 2, none⟩ = some (.int .i64 d2) := cell_after hkw4 sw3_0 kw3_0_2
          have kw4_0_3 : w4.cell? ⟨w.heap.size, 3, none⟩ = some (.int .i64 d3) := cell_after hkw4 sw3_0 kw3_0_3
          have kw4_0_4 : w4.cell? ⟨w.heap.size, 4, none⟩ = some (.slice a n c) := cell_after hkw4 sw3_0 kw3_0_4
          have kw4_0_5 : w4.cell? ⟨w.heap.size, 5, none⟩ = some (.int .i64 d4) := cell_after hkw4 sw3_0 kw3_0_5
          have kw4_0_6 : w4.cell? ⟨w.heap.size, 6, none⟩ = some (.int .i64 d5) := cell_after hkw4 sw3_0 kw3_0_6
          have kw4_0_7 : w4.cell? ⟨w.heap.size, 7, none⟩ = some (.int .i64 d6) := cell_after hkw4 sw3_0 kw3_0_7
          have kw4_0_8 : w4.cell? ⟨w.heap.size, 8, none⟩ = some (.int .i64 d7) := cell_after hkw4 sw3_0 kw3_0_8
          have kw4_0_9 : w4.cell? ⟨w.heap.size, 9, none⟩ = some (.int .i64 d8) := cell_after hkw4 sw3_0 kw3_0_9
          have kw4_0_10 : w4.cell? ⟨w.heap.size, 10, none⟩ = some (.int .i64 d9) := cell_after hkw4 sw3_0 kw3_0_10
          have kw4_0_11 : w4.cell? ⟨w.heap.size, 11, none⟩ = some (.int .i64 d10) := cell_after hkw4 sw3_0 kw3_0_11
          have sw4_0 : w.heap.size < w4.heap.size := size_after hkw4 sw3_0
          have hBw4 : Below w.heap.size w w4 := (by repeat (first | exact HBw3.out | exact Below.refl _ _ | refine bl_alloc ?_ _ | refine bl_drewN ?_ _ | refine bl_trans (by assumption) ?_ | refine bl_set ?_ (by first | omega | (simp; done) | (simp; omega)) _))
          have HBw4 := Lib.hid hBw4
          clear hBw4 hcw4 hfw4 hbw4 hkw4 kw3_0_0 kw3_0_1 kw3_0_2 kw3_0_3 kw3_0_4 kw3_0_5 kw3_0_6 kw3_0_7 kw3_0_8 kw3_0_9 kw3_0_10 kw3_0_11 sw3_0
          rw [h3]
          go_wp2
          go_ret
          exact ⟨by simp [okD, h0, h1, h2, h3], (by repeat (first | exact HBw4.out | exact Below.refl _ _ | refine bl_alloc ?_ _ | refine bl_drewN ?_ _ | refine bl_trans (by assumption) ?_ | refine bl_set ?_ (by first | omega | (simp; done) | (simp; omega)) _))⟩
        · go_enter Try.func34, Try.ntmps34
          go_wp2_with fail
          refine (spec_clGood _ _ _ _).mono ?_
          rintro e w1 ⟨rfl, hbw1⟩
          obtain ⟨hcw1, hfw1⟩ := bcell hbw1
          have hzw1 := bsize hbw1
          (try simp only [World.size_alloc, World.size_setCell] at hzw1)
          have kw1_0_0 : w1.cell? ⟨w.heap.size, 0, none⟩ = some (.int .i64 d0) := by rw [hcw1 _ _ (by first | (simp; done) | omega | (simp; omega))]; first | assumption | (simp [go_sem]; done) | (simp [go_sem]; done) | (simp [go_sem, *]; done)
          have kw1_0_1 : w1.cell? ⟨w.heap.size, 1, none⟩ = some (.int .i64 d1) := by rw [hcw1 _ _ (by first | (simp; done) | omega | (simp; omega))]; first | assumption | (simp [go_sem]; done) | (simp [go_sem]; done) | (simp [go_sem, *]; done)
          have kw1_0_2 : w1.cell? ⟨w.heap.size, 2, none⟩ = some (.int .i64 d2) := by rw [hcw1 _ _ (by first | (simp; done) | omega | (simp; omega))]; first | assumption | (simp [go_sem]; done) | (simp [go_sem]; done) | (simp [go_sem, *]; done)
          have kw1_0_3 : w1.cell? ⟨w.heap.size, 3, none⟩ = some (.int .i64 d3) := by rw [hcw1 _ _ (by first | (simp; done) | omega | (simp; omega))]; first | assumption | (simp [go_sem]; done) | (simp [go_sem]; done) | (simp [go_sem, *]; done)
          have kw1_0_4 : w1.cell? ⟨w.heap.size, 4, none⟩ = some (.slice a n c) := by rw [hcw1 _ _ (by first | (simp; done) | omega | (simp; omega))]; first | assumption | (simp [go_sem]; done) | (simp [go_sem]; done) | (simp [go_sem, *]; done)
          have kw1_0_5 : w1.cell? ⟨w.heap.size, 5, none⟩ = some (.int .i64 d4) := by rw [hcw1 _ _ (by first | (simp; done) | omega | (simp; omega))]; first | assumption | (simp [go_sem]; done) | (simp [go_sem]; done) | (simp [go_sem, *]; done)
          have kw1_0_6 : w1.cell? ⟨w.heap.size, 6, none⟩ = some (.int .i64 d5) := by rw [hcw1 _ _ (by first | (simp; done) | omega | (simp; omega))]; first | assumption | (simp [go_sem]; done) | (simp [go_sem]; done) | (simp [go_sem, *]; done)
          have kw1_0_7 : w1.cell? ⟨w.heap.size, 7, none⟩ = some (.int .i64 d6) := by rw [hcw1 _ _ (by first | (simp; done) | omega | (simp; omega))]; first | assumption | (simp [go_sem]; done) | (simp [go_sem]; done) | (simp [go_sem, *]; done)
          have kw1_0_8 : w1.cell? ⟨w.heap.size, 8, none⟩ = some (.int .i64 d7) := by rw [hcw1 _ _ (by first | (simp; done) | omega | (simp; omega))]; first | assumption | (simp [go_sem]; done) | (simp [go_sem]; done) | (simp [go_sem, *]; done)
          have kw1_0_9 : w1.cell? ⟨w.heap.size, 9, none⟩ = some (.int .i64 d8) := by rw [hcw1 _ _ (by first | (simp; done) | omega | (simp; omega))]; first | assumption | (simp [go_sem]; done) | (simp [go_sem]; done) | (simp [go_sem, *]; done)
          have kw1_0_10 : w1.cell? ⟨w.heap.size, 10, none⟩ = some (.int .i64 d9) := by rw [hcw1 _ _ (by first | (simp; done) | omega | (simp; omega))]; first | assumption | (simp [go_sem]; done) | (simp [go_sem]; done) | (simp [go_sem, *]; done)
          have kw1_0_11 : w1.cell? ⟨w.heap.size, 11, none⟩ = some (.int .i64 d10) := by rw [hcw1 _ _ (by first | (simp; done) | omega | (simp; omega))]; first | assumption | (simp [go_sem]; done) | (simp [go_sem]; done) | (simp [go_sem, *]; done)
          have sw1_0 : w.heap.size < w1.heap.size := by first | omega | (simp at *; omega)
          have hBw1 : Below w.heap.size w w1 := (by repeat (first | exact Below.refl _ _ | refine bl_alloc ?_ _ | refine bl_drewN ?_ _ | refine bl_trans (by assumption) ?_ | refine bl_set ?_ (by first | omega | (simp; done) | (simp; omega)) _))
          have HBw1 := Lib.hid hBw1
          clear hBw1 hcw1 hfw1 hbw1
          rw [h0]
          go_wp2_with fail
          refine (spec_swGood _ _ n f _ (HH.out.keep (by repeat (first | exact HBw1.out | exact Below.refl _ _ | refine bl_alloc ?_ _ | refine bl_drewN ?_ _ | refine bl_trans (by assumption) ?_ | refine bl_set ?_ (by first | omega | (simp; done) | (simp; omega)) _)))).mono ?_
          rintro e w2 ⟨rfl, hbw2⟩
          obtain ⟨hcw2, hfw2⟩ := bcell hbw2
          have hzw2 := bsize hbw2
          (try simp only [World.size_alloc, World.size_setCell] at hzw2)
          have hkw2 : Below w1.heap.size w1 w2 := (by repeat (first | exact Below.refl _ _ | refine bl_alloc ?_ _ | refine bl_drewN ?_ _ | refine bl_trans (by assumption) ?_ | refine bl_set ?_ (by first | omega | (simp; done) | (simp; omega)) _))
          have kw2_0_0 : w2.cell? ⟨w.heap.size, 0, none⟩ = some (.int .i64 d0) := cell_after hkw2 sw1_0 kw1_0_0
          have kw2_0_1 : w2.cell? ⟨w.heap.size, 1, none⟩ = some (.int .i64 d1) := cell_after hkw2 sw1_0 kw1_0_1
          have kw2_0_2 : w2.cell? ⟨w.heap.size, 2, none⟩ = some (.int .i64 d2) := cell_after hkw2 sw1_0 kw1_0_2
          have kw2_0_3 : w2.cell? ⟨w.heap.size, 3, none⟩ = some (.int .i64 d3) := cell_after hkw2 sw1_0 kw1_0_3
          have kw2_0_4 : w2.cell? ⟨w.heap.size, 4, none⟩ = some (.slice a n c) := cell_after hkw2 sw1_0 kw1_0_4
          have kw2_0_5 : w2.cell? ⟨w.heap.size, 5, none⟩ = some (.int .i64 d4) := cell_after hkw2 sw1_0 kw1_0_5
          have kw2_0_6 : w2.cell? ⟨w.heap.size, 6, none⟩ = some (.int .i64 d5) := cell_after hkw2 sw1_0 kw1_0_6
          have kw2_0_7 : w2.cell? ⟨w.heap.size, 7, none⟩ = some (.int .i64 d6) := cell_after hkw2 sw1_0 kw1_0_7
          have kw2_0_8 : w2.cell? ⟨w.heap.size, 8, none⟩ = some (.int .i64 d7) := cell_after hkw2 sw1_0 kw1_0_8
          have kw2_0_9 : w2.cell? ⟨w.heap.size, 9, none⟩ = some (.int .i64 d8) := cell_after hkw2 sw1_0 kw1_0_9
          have kw2_0_10 : w2.cell? ⟨w.heap.size, 10, none⟩ = some (.int .i64 d9) := cell_after hkw2 sw1_0 kw1_0_10
          have kw2_0_11 : w2.cell? ⟨w.heap.size, 11, none⟩ = some (.int .i64 d10) := cell_after hkw2 sw1_0 kw1_0_11
          have sw2_0 : w.heap.size < w2.heap.size := size_after hkw2 sw1_0
          have hBw2 : Below w.heap.size w w2 := (by repeat (first | exact HBw1.out | exact Below.refl _ _ | refine bl_alloc ?_ _ | refine bl_drewN ?_ _ | refine bl_trans (by assumption) ?_ | refine bl_set ?_ (by first | omega | (simp; done) | (simp; omega)) _))
          have HBw2 := Lib.hid hBw2
          clear hBw2 hcw2 hfw2 hbw2 hkw2 kw1_0_0 kw1_0_1 kw1_0_2 kw1_0_3 kw1_0_4 kw1_0_5 kw1_0_6 kw1_0_7 kw1_0_8 kw1_0_9 kw1_0_10 kw1_0_11 sw1_0
          rw [h1]
          go_wp2_with fail
          refine (spec_wkGood _ _ _ _ _).mono ?_
          rintro e w3 ⟨rfl, hbw3⟩
          obtain ⟨hcw3, hfw3⟩ := bcell hbw3
          have hzw3 := bsize hbw3
          (try simp only [World.size_alloc, World.size_setCell] at hzw3)
          have hkw3 : Below w2.heap.size w2 w3 := (by repeat (first | exact Below.refl _ _ | refine bl_alloc ?_ _ | refine bl_drewN ?_ _ | refine bl_trans (by assumption) ?_ | refine bl_set ?_ (by first | omega | (simp; done) | (simp; omega)) _))
          have kw3_0_0 : w3.cell? ⟨w.heap.size, 0, none⟩ = some (.int .i64 d0) := cell_after hkw3 sw2_0 kw2_0_0
          have kw3_0_1 : w3.cell? ⟨w.heap.size, 1, none⟩ = some (.int .i64 d1) := cell_after hkw3 sw2_0 kw2_0_1
          have kw3_0_2 : w3.cell? ⟨w.heap.size, 2, none⟩ = some (.int .i64 d2) := cell_after hkw3 sw2_0 kw2_0_2
          have kw3_0_3 : w3.cell? ⟨w.heap.size, 3, none⟩ = some (.int .i64 d3) := cell_after hkw3 sw2_0 kw2_0_3
          have kw3_0_4 : w3.cell? ⟨w.heap.size, 4, none⟩ = some (.slice a n c) := cell_after hkw3 sw2_0 kw2_0_4
          have kw3_0_5 : w3.cell? ⟨w.heap.size, 5, none⟩ = some (.int .i64 d4) := cell_after hkw3 sw2_0 kw2_0_5
          have kw3_0_6 : w3.cell? ⟨w.heap.size, 6, none⟩ = some (.int .i64 d5) := cell_after hkw3 sw2_0 kw2_0_6
          have kw3_0_7 : w3.cell? ⟨w.heap.size, 7, none⟩ = some (.int .i64 d6) := cell_after hkw3 sw2_0 kw2_0_7
          have kw3_0_8 : w3.cell? ⟨w.heap.size, 8, none⟩ = some (.int .i64 d7) := cell_after hkw3 sw2_0 kw2_0_8
          have kw3_0_9 : w3.cell? ⟨w.heap.size, 9, none⟩ = some (.int .i64 d8) := cell_after hkw3 sw2_0 kw2_0_9
          have kw3_0_10 : w3.cell? ⟨w.heap.size, 10, none⟩ = some (.int .i64 d9) := cell_after hkw3 sw2_0 kw2_0_10
          have kw3_0_11 : w3.cell? ⟨w.heap.size, 11, none⟩ = some (.int .i64 d10) := cell_after hkw3 sw2_0 kw2_0_11
          have sw3_0 : w.heap.size < w3.heap.size := size_after hkw3 sw2_0
          have hBw3 : Below w.heap.size w w3 := (by repeat (first | exact HBw2.out | exact Below.refl _ _ | refine bl_alloc ?_ _ | refine bl_drewN ?_ _ | refine bl_trans (by assumption) ?_ | refine bl_set ?_ (by first | omega | (simp; done) | (simp; omega)) _))
          have HBw3 := Lib.hid hBw3
          clear hBw3 hcw3 hfw3 hbw3 hkw3 kw2_0_0 kw2_0_1 kw2_0_2 kw2_0_3 kw2_0_4 kw2_0_5 kw2_0_6 kw2_0_7 kw2_0_8 kw2_0_9 kw2_0_10 kw2_0_11 sw2_0
          rw [h2]
          go_wp2_with fail
          refine (spec_htGood _ _ _ _ _).mono ?_
          rintro e w4 ⟨rfl, hbw4⟩
          obtain ⟨hcw4, hfw4⟩ := bcell hbw4
          have hzw4 := bsize hbw4
          (try simp only [World.size_alloc, World.size_setCell] at hzw4)
          have hkw4 : Below w3.heap.size w3 w4 := (by repeat (first | exact Below.refl _ _ | refine bl_alloc ?_ _ | refine bl_drewN ?_ _ | refine bl_trans (by assumption) ?_ | refine bl_set ?_ (by first | omega | (simp; done) | (simp; omega)) _))
          have kw4_0_0 : w4.cell? ⟨w.heap.size, 0, none⟩ = some (.int .i64 d0) := cell_after hkw4 sw3_0 kw3_0_0
          have kw4_0_1 : w4.cell? ⟨w.heap.size, 1, none⟩ = some (.int .i64 d1) := cell_after hkw4 sw3_0 kw3_0_1
          have kw4_0_2 : w4.cell? ⟨w.heap.size, 2, none⟩ = some (.int .i64 d2) := cell_after hkw4 sw3_0 kw3_0_2
          have kw4_0_3 : w4.cell? ⟨w.heap.size, 3, none⟩ = some (.int .i64 d3) := cell_after hkw4 sw3_0 kw3_0_3
          have kw4_0_4 : w4.cell? ⟨w.heap.size, 4, none⟩ = some (.slice a n c) := cell_after hkw4 sw3_0 kw3_0_4
          have kw4_0_5 : w4.cell? ⟨w.heap.size, 5, none⟩ = some (.int .i64 d4) := cell_after hkw4 sw3_0 kw3_0_5
          have kw4_0_6 : w4.cell? ⟨w.heap.size, 6, none⟩ = some (.int .i64 d5) := cell_after hkw4 sw3_0 kw3_0_6
          have kw4_0_7 : w4.cell? ⟨w.heap.size, 7, none⟩ = some (.int .i64 d6) := cell_after hkw4 sw3_0 kw3_0_7
          have kw4_0_8 : w4.cell? ⟨w.heap.size, 8, none⟩ = some (.int .i64 d7) := cell_after hkw4 sw3_0 kw3_0_8
          have kw4_0_9 : w4.cell? ⟨w.heap.size, 9, none⟩ = some (.int .i64 d8) := cell_after hkw4 sw3_0 kw3_0_9
          have kw4_0_10 : w4.cell? ⟨w.heap.size, 10, none⟩ = some (.int .i64 d9) := cell_after hkw4 sw3_0 kw3_0_10
          have kw4_0_11 : w4.cell? ⟨w.heap.size, 11, none⟩ = some (.int .i64 d10) := cell_after hkw4 sw3_0 kw3_0_11
          have sw4_0 : w.heap.size < w4.heap.size := size_after hkw4 sw3_0
          have hBw4 : Below w.heap.size w w4 := (by repeat (first | exact HBw3.out | exact Below.refl _ _ | refine bl_alloc ?_ _ | refine bl_drewN ?_ _ | refine bl_trans (by assumption) ?_ | refine bl_set ?_ (by first | omega | (simp; done) | (simp; omega)) _))
          have HBw4 := Lib.hid hBw4
          clear hBw4 hcw4 hfw4 hbw4 hkw4 kw3_0_0 kw3_0_1 kw3_0_2 kw3_0_3 kw3_0_4 kw3_0_5 kw3_0_6 kw3_0_7 kw3_0_8 kw3_0_9 kw3_0_10 kw3_0_11 sw3_0
          rw [h3]
          go_wp2
          go_ret
          exact ⟨by simp [okD, h0, h1, h2, h3], (by repeat (first | exact HBw4.out | exact Below.refl _ _ | refine bl_alloc ?_ _ | refine bl_drewN ?_ _ | refine bl_trans (by assumption) ?_ | refine bl_set ?_ (by first | omega | (simp; done) | (simp; omega)) _))⟩
set_option maxHeartbeats 800000 in
theorem spec_IsDesk (d0 d1 d2 d3 d4 d5 d6 d7 d8 d9 d10 : Int) (v : Value) (n : Nat) (f : Nat → Int) (w : World) (h : PRow w v n f) :
    Calls Try.prog 13 #[.agg #[.int .i64 d0, .int .i64 d1, .int .i64 d2, .int .i64 d3, v, .int .i64 d4, .int .i64 d5, .int .i64 d6, .int .i64 d7, .int .i64 d8, .int .i64 d9, .int .i64 d10]] w fun e w' => e = .returned (.bool (okD d0 d1 d2 d3 d4 d5 d6 d7 d8 d9 d10 n f)) ∧ Below w.heap.size w w' := by
  obtain ⟨a, c, rfl⟩ := h.shape
  have HH := Lib.hid h
  clear h
  go_enter Try.func13, Try.ntmps13
  go_wp2_with (go_at_call 34; refine (spec_coGood _ _ _ _ _ _ _ _ _ _ _ _ n f _ (HH.out.keep (by repeat (first | exact Below.refl _ _ | refine bl_alloc ?_ _ | refine bl_drewN ?_ _ | refine bl_trans (by assumption) ?_ | refine bl_set ?_ (by first | omega | (simp; done) | (simp; omega)) _)))).mono ?_; rintro e w1 ⟨rfl, hb1⟩)
  go_ret
  exact ⟨rfl, (by repeat (first | exact Below.refl _ _ | refine bl_alloc ?_ _ | refine bl_drewN ?_ _ | refine bl_trans (by assumption) ?_ | refine bl_set ?_ (by first | omega | (simp; done) | (simp; omega)) _))⟩
end Go.Proofs.Ytahcfjpplkemdaa
