/- timesAtPlaces: the program's map of places. -/
import Derived.Test.YtgpfnbajjephpaaB5
import Derived.Test.YtgpfnbajjephpaaM1
import Derived.BigRegion
namespace Go.Proofs.Ytgpfnbajjephpaa
open Go.RowKit Beam Go.WideMaps Go.WideElems Go.Maps
set_option linter.unusedVariables false
set_option linter.unusedSimpArgs false
def plAt (t : BWay) (j : Nat) : Nat × Nat := (t.x j, t.y j)
theorem plAt_small {t : BWay} (h : t.ok) (j : Nat) : small (plAt t j) := ⟨x_le h j, y_le h j⟩
theorem PMap.alloc {w : World} {m k : Nat} {at' : Nat → Nat × Nat} {K : List (Nat × Nat)} {es : List (Lit × DataW Unit)} (h : PMap w m k at' K es) (o : Obj) : PMap (w.alloc o) m k at' K es := ⟨h.own.alloc o, h.nd, h.mem, h.ent⟩
theorem PMap.drew {w : World} {m k : Nat} {at' : Nat → Nat × Nat} {K : List (Nat × Nat)} {es : List (Lit × DataW Unit)} (h : PMap w m k at' K es) : PMap w.drew m k at' K es := ⟨h.own.drew, h.nd, h.mem, h.ent⟩
set_option maxRecDepth 100000 in
set_option maxHeartbeats 2000000 in
theorem timesAt {t : BWay} (hok : t.ok) (g cap n : Nat) (e0 : Bool) (h1 : 1 ≤ n) (h2 : n ≤ 100000) (w : World) (B : Nat) (hR : BRow w B (.slice (some ⟨g, 0, none⟩) n cap) n t) :
    Calls Try.prog 12 #[.agg #[.slice (some ⟨g, 0, none⟩) n cap, .bool e0]] w fun e w' => ∃ m K es, e = .returned (.map (some m)) ∧ w.heap.size ≤ m ∧ PMap w' m n (plAt t) K es ∧ Below w.heap.size w w' := by
  have R0 := Lib.hid hR
  clear hR
  have SM := Lib.hid (plAt_small hok)
  have hmm := @run_makeMap Try.prog
  go_enter Try.func12, Try.ntmps12
  go_wp2_with fail
  go_loopw [10] (fun kk wr => ∃ (k : Nat) (K : List (Nat × Nat)) (es : List (Lit × DataW Unit)), k ≤ n ∧ kk = .int .i64 (k : Nat) ∧ PMap wr (w.heap.size + 1) k (plAt t) K es ∧ Below w.heap.size w wr) (fun kk _ => n - (intOf kk).toNat)
  case atStart =>
    refine ⟨0, [], [], Nat.zero_le _, rfl, ?_, ?_⟩
    · have := PMap.none (w.alloc (.cells #[.slice (some ⟨g, 0, none⟩) n cap, .bool e0] 40)) (plAt t)
      simpa using this
    · exact (by repeat (first | exact Below.refl _ _ | refine bl_alloc ?_ _ | refine bl_drewN ?_ _ | refine bl_trans (by assumption) ?_ | refine bl_set ?_ (by first | omega | (simp; done) | (simp; omega)) _))
  case round =>
    obtain ⟨k, K, es, hk, rfl, hP, hb⟩ := hrel
    by_cases hlt : k < n
    · obtain ⟨g', cap', e, _, hg', _, _, hcc⟩ := (R0.out.keep hb).open_ (by omega)
      simp only [Value.slice.injEq, Option.some.injEq, Addr.mk.injEq, and_true, true_and] at e
      obtain ⟨rfl, rfl⟩ := e
      obtain ⟨c0, c1, c2, c3⟩ := hcc k hlt
      simp only [bm, List.getElem?_cons_zero, List.getElem?_cons_succ] at c0 c1 c2 c3
      clear hcc
      have ix0 : (0 : Int) ≤ (k : Int) := by omega
      have ix1 : (k : Int) < (n : Int) := by omega
      have HCW : w.heap.size ≤ wr.heap.size := hb.size
      have HMW : w.heap.size + 1 < wr.heap.size := hP.heap
      have HP := Lib.hid hP
      have HB := Lib.hid hb
      clear hP hb
      go_wp2_with fail
      have hPw := (HP.out.alloc (.cells #[.int .i64 (t.x k : Nat), .int .i64 (t.y k : Nat), .bool (t.kr k), .bool (t.ku k)] 30)).drew
      obtain ⟨v0, st, w2, w3, K', es', l1, l2, l3, l4, l5, l6, l7⟩ := hPw.round SM.out (by omega)
      have HP3 := Lib.hid l5
      have G6 := Lib.hid l6
      have G7 := Lib.hid l7
      clear l5 l6 l7 hPw
      have hle := timesUp_le (plAt t) k (plAt t k)
      have tw : IntKind.i64.wrap (((timesUp (plAt t) k (plAt t k) : Nat) : Int) + 1) = ((timesUp (plAt t) k (plAt t k) + 1 : Nat) : Int) := IntWalk.i64_in _ (by omega)
      simp only [pk, plAt] at l1 l2 l3 l4 tw hle
      generalize hT : timesUp (plAt t) k (t.x k, t.y k) = ct at *
      rw [show ((ct + 1 : Nat) : Int) = (ct : Int) + 1 by omega] at l4
      have l4a : (Instr.entryStore 44 (.map (some (w.heap.size + 1))) (.int .i64 st) (.int .i64 ((ct : Int) + 1))).run Try.prog w2 = .ok () w3 := l4
      go_region
      have QB : Below w.heap.size w w3 := by
        refine Below.grown (w := (wr.alloc (.cells #[.int .i64 (t.x k : Nat), .int .i64 (t.y k : Nat), .bool (t.kr k), .bool (t.ku k)] 30)).drew) ?_ G6.out (by simp; omega) (fun j hj => by cases hj; omega)
        exact Below.drew (bl_alloc HB.out _)
      have Q3 := Lib.hid QB
      clear QB l1 l2 l3 l4 l4a G6 G7
      go_wp2
      go_roundw
      case rel => exact ⟨k + 1, K', es', by omega, by go_num, HP3.out, Q3.out⟩
      case measure => simp only [intOf]; omega
    · obtain rfl : k = n := by omega
      have HP := Lib.hid hP
      have HB := Lib.hid hb
      clear hP hb
      go_wp2
      go_ret
      exact ⟨_, K, es, rfl, by omega, HP.out, HB.out⟩
end Go.Proofs.Ytgpfnbajjephpaa
