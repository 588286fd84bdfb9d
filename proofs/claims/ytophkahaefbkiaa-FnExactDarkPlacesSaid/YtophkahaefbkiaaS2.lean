/- Contracts of the functions of chapter 2 that hold two poles against each other. -/
import Derived.Test.YtophkahaefbkiaaS1
namespace Go.Proofs.Ytophkahaefbkiaa
open Go.RowKit

def CL4 (w w' : World) (a b c d : Int) : Prop := w'.cell? ⟨w.heap.size, 0, none⟩ = some (.int .i64 a) ∧ w'.cell? ⟨w.heap.size, 1, none⟩ = some (.int .i64 b) ∧ w'.cell? ⟨w.heap.size + 1, 0, none⟩ = some (.int .i64 c) ∧ w'.cell? ⟨w.heap.size + 1, 1, none⟩ = some (.int .i64 d) ∧ w.heap.size + 1 < w'.heap.size ∧ Below w.heap.size w w'
theorem S4_after {w u v : World} {x y z t : Value} (hb : Below u.heap.size u v) (h : u.cell? ⟨w.heap.size, 0, none⟩ = some x ∧ u.cell? ⟨w.heap.size, 1, none⟩ = some y ∧ u.cell? ⟨w.heap.size + 1, 0, none⟩ = some z ∧ u.cell? ⟨w.heap.size + 1, 1, none⟩ = some t ∧ w.heap.size + 1 < u.heap.size ∧ Below w.heap.size w u) :
    v.cell? ⟨w.heap.size, 0, none⟩ = some x ∧ v.cell? ⟨w.heap.size, 1, none⟩ = some y ∧ v.cell? ⟨w.heap.size + 1, 0, none⟩ = some z ∧ v.cell? ⟨w.heap.size + 1, 1, none⟩ = some t ∧ w.heap.size + 1 < v.heap.size ∧ Below w.heap.size w v :=
  ⟨cell_after hb (by omega) h.1, cell_after hb (by omega) h.2.1, cell_after hb (by omega) h.2.2.1, cell_after hb (by omega) h.2.2.2.1, size_after hb h.2.2.2.2.1, bl_trans hb h.2.2.2.2.2⟩
end Go.Proofs.Ytophkahaefbkiaa
