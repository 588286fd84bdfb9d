/- WholeWays: by the program and by the model alike; slices of ints that a call appends to. -/
import Derived.Test.YtbnkigponkelpaaLW7
import Derived.Test.YtbnkigponkelpaaR1
namespace Go.Proofs.Ytbnkigponkelpaa
open Go.RowKit
set_option linter.unusedVariables false
set_option linter.unusedSimpArgs false
theorem rt_nat (n : Nat) : rt n = ((rtN n : Nat) : Int) := by simp [rt]
theorem rt_unique {n r : Int} (hn : 0 ≤ n) (h0 : 0 ≤ r) (h1 : r * r ≤ n) (h2 : n < (r + 1) * (r + 1)) : rt n = r := by
  obtain ⟨k, rfl⟩ := Int.eq_ofNat_of_zero_le h0
  obtain ⟨m, rfl⟩ := Int.eq_ofNat_of_zero_le hn
  rw [rt_nat, rtN_unique (r := k) (by exact_mod_cast h1) (by exact_mod_cast h2)]
theorem rt_facts {n : Int} (h : 0 ≤ n) : 0 ≤ rt n ∧ rt n * rt n ≤ n ∧ n < (rt n + 1) * (rt n + 1) := by
  obtain ⟨m, rfl⟩ := Int.eq_ofNat_of_zero_le h
  obtain ⟨a, b⟩ := rtN_spec m
  rw [rt_nat]
  exact ⟨by omega, by exact_mod_cast a, by exact_mod_cast b⟩


def whole (n : Int) : Bool := rt n * rt n == n



theorem infoI : (Try.prog.info? 3).map (fun i => (i.zero, i.size, i.bytes)) = some (some (.int .i64 0), 1, 8) := by kernel_rfl
theorem cell_one_alloc (w : World) (x : Value) (t : TypeId) (n : Nat) (hn : n = w.heap.size) : ∀ j u, [x][j]? = some u → (w.alloc (.cells #[x] t)).cell? ((⟨n, 0, none⟩ : Addr).add j) = some u := by
  intro j u hj
  subst hn
  match j, hj with
  | 0, hj =>
    simp at hj
    subst hj
    simp [Addr.add]
theorem IRow.nil (w : World) (B : Nat) : IRow w B (.slice none 0 0) [] := World.ownsRow_nil w B _ 1
theorem IRow.push {W w1 : World} {B : Nat} {v v' : Value} {xs : List Int} {x : Int} {o : Obj} (hB : B ≤ W.heap.size) (h : IRow W B v xs)
    (hO : w1.ownsRow B 3 1 v' (xs.length + 1) (xs.map (Value.int .i64) ++ [.int .i64 x])) (hg : (W.alloc o).grownBy w1 v.ownBlock) : IRow w1 B v' (xs ++ [x]) ∧ Below B W w1 := by
  refine ⟨?_, ((Below.refl B W).alloc hB o).grown hg (by simp; omega) fun g e => (World.ownsRow.lt h g e).1⟩
  unfold IRow
  simpa using hO
theorem IRow.mono {w : World} {B C : Nat} {v : Value} {xs : List Int} (h : IRow w C v xs) (hB : B ≤ C) : IRow w B v xs := by
  obtain ⟨h1, hn | ⟨g, cap, cur, rfl, hC, rest⟩⟩ := h
  · exact ⟨h1, .inl hn⟩
  · exact ⟨h1, .inr ⟨g, cap, cur, rfl, by omega, rest⟩⟩
theorem cell_under {B : Nat} {u v : World} (hb : Below B u v) {n o : Nat} {x : Value} (hn : n < B) (hu : u.cell? ⟨n, o, none⟩ = some x) : v.cell? ⟨n, o, none⟩ = some x := by
  rw [hb.cell (p := ⟨n, o, none⟩) hn]; exact hu
/-- the numbers of touches, up to k, for which the way has a whole length -/
def wwl (a b c d h : Int) : Nat → List Int
  | 0 => []
  | k + 1 => wwl a b c d h k ++ (if whole (SC a b c d h (k + 1) true) then [(k : Int) + 1] else [])
def WWL (a b c d h : Int) : List Int := if inCo a b c d h then wwl a b c d h 50 else []
theorem wwl_len (a b c d h : Int) (k : Nat) : (wwl a b c d h k).length ≤ k := by
  induction k with
  | zero => simp [wwl]
  | succ m ih => simp only [wwl]; split <;> simp <;> omega
theorem WWL_len (a b c d h : Int) : (WWL a b c d h).length ≤ 4000000 := by
  unfold WWL
  split
  · have := wwl_len a b c d h 50
    omega
  · simp
theorem wwl_yes {a b c d h : Int} {k : Nat} (e : whole (SC a b c d h (k + 1) true) = true) : wwl a b c d h (k + 1) = wwl a b c d h k ++ [(k : Int) + 1] := by
  rw [wwl, if_pos e]
theorem wwl_no {a b c d h : Int} {k : Nat} (e : whole (SC a b c d h (k + 1) true) = false) : wwl a b c d h (k + 1) = wwl a b c d h k := by
  rw [wwl, if_neg (by simp [e]), List.append_nil]
theorem slice_shape {w : World} {B : Nat} {v : Value} {xs : List Int} (h : IRow w B v xs) : ∃ a n c, v = .slice a n c := by
  rcases h.open_ with ⟨rfl, _⟩ | ⟨g, cap, cur, rfl, _⟩
  · exact ⟨_, _, _, rfl⟩
  · exact ⟨_, _, _, rfl⟩
end Go.Proofs.Ytbnkigponkelpaa
