/- Rows beside each other: what is kept where one of them is numbered anew. -/
import Derived.Test.YtahcfjpplkemdaaDoorPZ5
import Derived.Deep.AppendLies
namespace Go.Proofs.YtahcfjpplkemdaaDoor
open Go.RowKit
set_option linter.unusedVariables false
set_option linter.unusedSimpArgs false
theorem row_ne {v u : Value} {a b : Nat} (h1 : ∀ g, v.ownBlock = some g → g < a) (h2 : ∀ g, u.ownBlock = some g → b ≤ g) (h : a ≤ b) : v.ownBlock = none ∨ v.ownBlock ≠ u.ownBlock := by
  cases e : v.ownBlock with
  | none => exact .inl rfl
  | some q =>
    refine .inr fun e' => ?_
    have := h1 q e
    have := h2 q e'.symm
    omega
theorem row_ne' {v u : Value} {a b : Nat} (h1 : ∀ g, v.ownBlock = some g → a ≤ g) (h2 : ∀ g, u.ownBlock = some g → g < b) (h : b ≤ a) : v.ownBlock = none ∨ v.ownBlock ≠ u.ownBlock := by
  cases e : v.ownBlock with
  | none => exact .inl rfl
  | some q =>
    refine .inr fun e' => ?_
    have := h1 q e
    have := h2 q e'.symm
    omega
theorem box_ne {u : Value} {A b : Nat} (h2 : ∀ g, u.ownBlock = some g → b ≤ g) (h : A < b) : some A ≠ u.ownBlock := fun e => by
  have := h2 A e.symm
  omega
theorem box_ne' {u : Value} {A b : Nat} (h2 : ∀ g, u.ownBlock = some g → g < b) (h : b ≤ A) : some A ≠ u.ownBlock := fun e => by
  have := h2 A e.symm
  omega
theorem cell_far {w w' : World} {row : Option Nat} (hg : w.grownBy w' row) {A o : Nat} {x : Value} (hlt : A < w.heap.size) (hne : some A ≠ row) (h : w.cell? ⟨A, o, none⟩ = some x) : w'.cell? ⟨A, o, none⟩ = some x := by
  rw [World.grownBy.cell_far hg ⟨A, o, none⟩ hlt hne]; exact h
theorem OClu.other {w w' : World} {B n : Nat} {v : Value} {f : Nat → Int} {row : Option Nat} (h : OClu w B v n f) (hg : w.grownBy w' row) (hne : v.ownBlock = none ∨ v.ownBlock ≠ row) : OClu w' B v n f := World.ownsRow.kept h hg hne
theorem IRow.other {w w' : World} {B : Nat} {v : Value} {xs : List Int} {row : Option Nat} (h : IRow w B v xs) (hg : w.grownBy w' row) (hne : v.ownBlock = none ∨ v.ownBlock ≠ row) : IRow w' B v xs := World.ownsRow.kept h hg hne
theorem IRow.lower {w : World} {B C : Nat} {v : Value} {xs : List Int} (h : IRow w C v xs) (hB : B ≤ C) : IRow w B v xs := by
  obtain ⟨h1, hn | ⟨g, cap, cur, rfl, hC, rest⟩⟩ := h
  · exact ⟨h1, .inl hn⟩
  · exact ⟨h1, .inr ⟨g, cap, cur, rfl, by omega, rest⟩⟩
theorem IRow.shape {w : World} {B : Nat} {v : Value} {xs : List Int} (h : IRow w B v xs) : ∃ a c, v = .slice a xs.length c := by
  rcases h.open_ with ⟨rfl, rfl⟩ | ⟨g, cap, cur, rfl, _⟩
  · exact ⟨_, _, rfl⟩
  · exact ⟨_, _, rfl⟩
theorem bel_far {w u w' : World} {v : Value} {b : Nat} (h : Below w.heap.size w u) (hg : u.grownBy w' v.ownBlock) (hge : ∀ g, v.ownBlock = some g → b ≤ g) (hb : w.heap.size ≤ b) : Below w.heap.size w w' :=
  h.grown hg h.size fun g e => Nat.le_trans hb (hge g e)
theorem OClu.lt {w : World} {B n : Nat} {v : Value} {f : Nat → Int} (h : OClu w B v n f) : ∀ g, v.ownBlock = some g → g < w.heap.size := fun g e => (World.ownsRow.lt h g e).2
theorem OClu.ge {w : World} {B n : Nat} {v : Value} {f : Nat → Int} (h : OClu w B v n f) : ∀ g, v.ownBlock = some g → B ≤ g := fun g e => (World.ownsRow.lt h g e).1
theorem IRow.lt {w : World} {B : Nat} {v : Value} {xs : List Int} (h : IRow w B v xs) : ∀ g, v.ownBlock = some g → g < w.heap.size := fun g e => (World.ownsRow.lt h g e).2
theorem IRow.ge {w : World} {B : Nat} {v : Value} {xs : List Int} (h : IRow w B v xs) : ∀ g, v.ownBlock = some g → B ≤ g := fun g e => (World.ownsRow.lt h g e).1
set_option maxHeartbeats 800000 in
theorem markPuzzle_any (wd : Int) (v : Value) (n : Nat) (f : Nat → Int) (B : Nat) (w : World) (h : OClu w B v n f) (hn : n ≤ 1048576) :
    Calls Tryd.prog 12 #[.agg #[.int .i64 wd, v], .int .i64 1] w fun e w' => e = .returned (.int .i64 (1 + (n : Int) * 3)) ∧ OClu w' B v n (fun i => 1 + (i : Int)) ∧ w.grownBy w' v.ownBlock := by
  obtain ⟨a, c, rfl⟩ := h.toP.shape
  have HH := Lib.hid h
  clear h
  go_enter Tryd.func12, Tryd.ntmps12
  go_wp2_with fail
  refine (markClueS_any _ 1 n f B _ (HH.out.keep (by repeat (first | exact Below.refl _ _ | refine bl_alloc ?_ _ | refine bl_drewN ?_ _ | refine bl_trans (by assumption) ?_ | refine bl_set ?_ (by first | omega | (simp; done) | (simp; omega)) _))) (by omega) (by omega)).mono ?_
  rintro e w2 ⟨rfl, hO, hg, hs⟩
  have O := Lib.hid hO
  have G := Lib.hid (grown_trans' (World.grownBy_alloc w (.cells #[.int .i64 wd, .slice a n c] 30) _) hg)
  clear hO hg
  go_wp2
  go_ret
  exact ⟨rfl, O.out, G.out⟩
set_option maxHeartbeats 800000 in
theorem heldPuzzle_any (wd : Int) (v : Value) (n : Nat) (w : World) (h : PClu w v n (fun i => 1 + (i : Int))) (hn : n ≤ 1048576) :
    Calls Tryd.prog 13 #[.agg #[.int .i64 wd, v], .int .i64 1] w fun e w' => e = .returned (.int .i64 (1 + (n : Int) * 3)) ∧ Below w.heap.size w w' := by
  obtain ⟨a, c, rfl⟩ := h.shape
  have HH := Lib.hid h
  clear h
  go_enter Tryd.func13, Tryd.ntmps13
  go_wp2_with fail
  refine (heldClueS_any _ 1 n _ (HH.out.keep (by repeat (first | exact Below.refl _ _ | refine bl_alloc ?_ _ | refine bl_drewN ?_ _ | refine bl_trans (by assumption) ?_ | refine bl_set ?_ (by first | omega | (simp; done) | (simp; omega)) _))) (by omega) (by omega)).mono ?_
  rintro e w2 ⟨rfl, m, rfl⟩
  go_wp2
  go_ret
  exact ⟨rfl, (by repeat (first | exact Below.refl _ _ | refine bl_alloc ?_ _ | refine bl_drewN ?_ _ | refine bl_trans (by assumption) ?_ | refine bl_set ?_ (by first | omega | (simp; done) | (simp; omega)) _))⟩
end Go.Proofs.YtahcfjpplkemdaaDoor
