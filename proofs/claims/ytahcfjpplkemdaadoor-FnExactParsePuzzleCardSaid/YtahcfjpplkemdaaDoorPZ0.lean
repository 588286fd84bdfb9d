/- Puzzles: what clues tell, which ladders fit them, how clues are taken out: mathematics. -/
import Derived.Test.YtahcfjpplkemdaaDoorC3
namespace Go.Proofs.YtahcfjpplkemdaaDoor
set_option linter.unusedVariables false
set_option linter.unusedSimpArgs false

/-- a clue -/
def okK (k a b : Int) : Bool :=
  if k = 0 ∨ k = 5 then within a 0 0 && within b 0 200
  else if k = 1 then within a 0 0 && within b 0 1
  else if k = 2 ∨ k = 4 then within a 0 200 && within b 1 200
  else if k = 3 then within a 0 1 && within b 0 1 else false
theorem okK_kind {k a b : Int} (h : okK k a b = true) : k = 0 ∨ k = 1 ∨ k = 2 ∨ k = 3 ∨ k = 4 ∨ k = 5 := by
  unfold okK at h
  split at h
  · omega
  · split at h
    · omega
    · split at h
      · omega
      · split at h
        · omega
        · cases h
theorem okK_bd {k a b : Int} (h : okK k a b = true) : 0 ≤ a ∧ a ≤ 200 ∧ 0 ≤ b ∧ b ≤ 200 ∧ ((k = 0 ∨ k = 1 ∨ k = 5) → a = 0) ∧ (k = 3 → a = 0 ∨ a = 1) := by
  unfold okK at h
  simp only [within] at h
  split at h
  · simp at h; omega
  · split at h
    · simp at h; omega
    · split at h
      · simp at h; omega
      · split at h
        · simp at h; omega
        · cases h
/-- hidden ladders -/
def okH (w l r : Int) : Bool := within w 1 12 && within l 1 12 && within r 1 12
theorem okH_bd {w l r : Int} (h : okH w l r = true) : (1 ≤ w ∧ w ≤ 12) ∧ (1 ≤ l ∧ l ≤ 12) ∧ 1 ≤ r ∧ r ≤ 12 := by
  simp only [okH, Bool.and_eq_true] at h
  exact ⟨within_true h.1.1, within_true h.1.2, within_true h.2⟩
theorem okH_of {w l r : Int} (h1 : 1 ≤ w) (h2 : w ≤ 12) (h3 : 1 ≤ l) (h4 : l ≤ 12) (h5 : 1 ≤ r) (h6 : r ≤ 12) : okH w l r = true := by
  simp [okH, within, h1, h2, h3, h4, h5, h6]
theorem okH_L {w l r : Int} (h : okH w l r = true) : okL w l r = true := by
  obtain ⟨h1, h2, h3⟩ := okH_bd h
  simp [okL, within]
  omega
/-- what a clue of a kind tells of ladders, with the A of a clue of the kind 3 -/
def vA (k a w l r : Int) : Int := if k = 2 then ln (l * r) (l + r) else if k = 4 then ln (w * l) (l + r) else if k = 3 then a else 0
def vB (k a w l r : Int) : Int :=
  if k = 0 then l + r else if k = 1 then (if r < l then 1 else 0) else if k = 2 then ld (l * r) (l + r)
  else if k = 3 then (if whole (sq w (if a = 1 then r else l)) then 1 else 0) else if k = 4 then ld (w * l) (l + r) else l * r
def fitK (k a b w l r : Int) : Bool := decide (vA k a w l r = a) && decide (vB k a w l r = b)
theorem fitK_of {k a b w l r : Int} (h : vA k a w l r = a) (h2 : vB k a w l r = b) : fitK k a b w l r = true := by simp [fitK, h, h2]
/-- a list of n clues, whose numbers are, one behind the other, f 0, f 1, .. -/
def okCs (n : Nat) (f : Nat → Int) : Bool := (List.range n).all fun i => okK (f (i * 3)) (f (i * 3 + 1)) (f (i * 3 + 2))
def fits (n : Nat) (f : Nat → Int) (w l r : Int) : Bool := (List.range n).all fun i => fitK (f (i * 3)) (f (i * 3 + 1)) (f (i * 3 + 2)) w l r
theorem okCs_zero (f : Nat → Int) : okCs 0 f = true := rfl
theorem okCs_succ (n : Nat) (f : Nat → Int) : okCs (n + 1) f = (okCs n f && okK (f (n * 3)) (f (n * 3 + 1)) (f (n * 3 + 2))) := by
  simp [okCs, List.range_succ, List.all_append]
theorem okCs_get {n : Nat} {f : Nat → Int} (h : okCs n f = true) {i : Nat} (hi : i < n) : okK (f (i * 3)) (f (i * 3 + 1)) (f (i * 3 + 2)) = true := by
  have := List.all_eq_true.1 h i (List.mem_range.2 hi)
  exact this
theorem okCs_false {n : Nat} {f : Nat → Int} {i : Nat} (hi : i < n) (h : okK (f (i * 3)) (f (i * 3 + 1)) (f (i * 3 + 2)) = false) : okCs n f = false := by
  cases hc : okCs n f
  · rfl
  · rw [okCs_get hc hi] at h; cases h
theorem okCs_one (f : Nat → Int) : okCs 1 f = okK (f 0) (f 1) (f 2) := by simp [okCs]
theorem fits_succ (n : Nat) (f : Nat → Int) (w l r : Int) : fits (n + 1) f w l r = (fits n f w l r && fitK (f (n * 3)) (f (n * 3 + 1)) (f (n * 3 + 2)) w l r) := by
  simp [fits, List.range_succ, List.all_append]
theorem fits_zero (f : Nat → Int) (w l r : Int) : fits 0 f w l r = true := rfl
theorem fits_one (f : Nat → Int) (w l r : Int) : fits 1 f w l r = fitK (f 0) (f 1) (f 2) w l r := by simp [fits]
theorem fits_false {n : Nat} {f : Nat → Int} {w l r : Int} {i : Nat} (hi : i < n) (h : fitK (f (i * 3)) (f (i * 3 + 1)) (f (i * 3 + 2)) w l r = false) : fits n f w l r = false := by
  cases hc : fits n f w l r
  · rfl
  · have := List.all_eq_true.1 hc i (List.mem_range.2 hi)
    rw [h] at this; cases this
theorem okCs_congr {n : Nat} {f g : Nat → Int} (e : ∀ i, i < n * 3 → f i = g i) : okCs n f = okCs n g := by
  induction n with
  | zero => rfl
  | succ n ih => rw [okCs_succ, okCs_succ, ih (fun i hi => e i (by omega)), e _ (by omega), e _ (by omega), e _ (by omega)]
theorem fits_congr {n : Nat} {f g : Nat → Int} (e : ∀ i, i < n * 3 → f i = g i) (w l r : Int) : fits n f w l r = fits n g w l r := by
  induction n with
  | zero => rfl
  | succ n ih => rw [fits_succ, fits_succ, ih (fun i hi => e i (by omega)), e _ (by omega), e _ (by omega), e _ (by omega)]
theorem okCs_le {n m : Nat} {f : Nat → Int} (h : okCs n f = true) (hm : m ≤ n) : okCs m f = true :=
  List.all_eq_true.2 fun i hi => okCs_get h (Nat.lt_of_lt_of_le (List.mem_range.1 hi) hm)

/-- the ladders of a Wide, one behind the other -/
def pL (i : Nat) : Int := (1 + i / 12 : Nat)
def pR (i : Nat) : Int := (1 + i % 12 : Nat)
theorem pL_at (a b : Nat) (hb : b < 12) : pL (a * 12 + b) = (1 + a : Nat) := by unfold pL; congr 2; omega
theorem pR_at (a b : Nat) (hb : b < 12) : pR (a * 12 + b) = (1 + b : Nat) := by unfold pR; congr 2; omega
theorem okH_p {w : Int} (h1 : 1 ≤ w) (h2 : w ≤ 12) {i : Nat} (hi : i < 144) : okH w (pL i) (pR i) = true := by
  have e1 : pL i = (1 + i / 12 : Nat) := rfl
  have e2 : pR i = (1 + i % 12 : Nat) := rfl
  rw [e1, e2]
  refine okH_of h1 h2 ?_ ?_ ?_ ?_ <;> omega
/-- which of the first m fit -/
def sol (n : Nat) (f : Nat → Int) (w : Int) (m : Nat) : List Nat := (List.range m).filter fun i => fits n f w (pL i) (pR i)
def flat (w : Int) (is : List Nat) : List Int := is.flatMap fun i => [w, pL i, pR i]
theorem flat_length (w : Int) (is : List Nat) : (flat w is).length = is.length * 3 := by
  induction is with
  | nil => rfl
  | cons i is ih => simp only [flat, List.flatMap_cons, List.length_append, List.length_cons, List.length_nil] at ih ⊢; omega
theorem flat_snoc (w : Int) (is : List Nat) (i : Nat) : flat w (is ++ [i]) = flat w is ++ [w, pL i, pR i] := by simp [flat]
theorem sol_yes {n : Nat} {f : Nat → Int} {w : Int} {m : Nat} (h : fits n f w (pL m) (pR m) = true) : sol n f w (m + 1) = sol n f w m ++ [m] := by
  simp [sol, List.range_succ, List.filter_append, h]
theorem sol_no {n : Nat} {f : Nat → Int} {w : Int} {m : Nat} (h : fits n f w (pL m) (pR m) = false) : sol n f w (m + 1) = sol n f w m := by
  simp [sol, List.range_succ, List.filter_append, h]
theorem sol_length_le (n : Nat) (f : Nat → Int) (w : Int) (m : Nat) : (sol n f w m).length ≤ m := by
  have := List.length_filter_le (fun i => fits n f w (pL i) (pR i)) (List.range m)
  simpa [sol] using this
theorem sol_congr {n : Nat} {f g : Nat → Int} (e : ∀ i, i < n * 3 → f i = g i) (w : Int) (m : Nat) : sol n f w m = sol n g w m := by
  unfold sol
  congr 1
  funext i
  exact fits_congr e w _ _
theorem sol_lt {n : Nat} {f : Nat → Int} {w : Int} {m i : Nat} (h : i ∈ sol n f w m) : i < m := by
  have := (List.mem_filter.1 h).1
  exact List.mem_range.1 this
def cnt (n : Nat) (f : Nat → Int) (w : Int) : Nat := (sol n f w 144).length
theorem cnt_le (n : Nat) (f : Nat → Int) (w : Int) : cnt n f w ≤ 144 := sol_length_le n f w 144
theorem cnt_congr {n : Nat} {f g : Nat → Int} (e : ∀ i, i < n * 3 → f i = g i) (w : Int) : cnt n f w = cnt n g w := by unfold cnt; rw [sol_congr e]
theorem flat_get (w : Int) (is : List Nat) (j : Nat) (hj : j < is.length) : (flat w is).getD (j * 3) 0 = w ∧ (flat w is).getD (j * 3 + 1) 0 = pL (is.getD j 0) ∧ (flat w is).getD (j * 3 + 2) 0 = pR (is.getD j 0) := by
  induction is generalizing j with
  | nil => simp at hj
  | cons i is ih =>
    have e : flat w (i :: is) = [w, pL i, pR i] ++ flat w is := rfl
    rw [e]
    cases j with
    | zero => simp
    | succ j =>
      have h := ih j (by simpa using hj)
      have e1 : (j + 1) * 3 = j * 3 + 3 := by omega
      have e2 : (j + 1) * 3 + 1 = j * 3 + 1 + 3 := by omega
      have e3 : (j + 1) * 3 + 2 = j * 3 + 2 + 3 := by omega
      rw [e2, e3, e1]
      have g : ∀ x, ([w, pL i, pR i] ++ flat w is).getD (x + 3) 0 = (flat w is).getD x 0 := fun x => by simp [List.getD, List.getElem?_append_right]
      rw [g, g, g]
      simpa [List.getD] using h

/-- without the clue k -/
def dropF (f : Nat → Int) (k : Nat) : Nat → Int := fun i => if i < k * 3 then f i else f (i + 3)
def fromF (f : Nat → Int) (k : Nat) : Nat → Int := fun i => f (k * 3 + i)
/-- with a clue more, behind n -/
def snocF (f : Nat → Int) (n : Nat) (k a b : Int) : Nat → Int := fun i => if i < n * 3 then f i else if i = n * 3 then k else if i = n * 3 + 1 then a else b
theorem okCs_drop {n : Nat} {f : Nat → Int} (h : okCs n f = true) (k : Nat) (hk : k < n) : okCs (n - 1) (dropF f k) = true := by
  refine List.all_eq_true.2 fun i hi => ?_
  have hi := List.mem_range.1 hi
  show okK (dropF f k (i * 3)) (dropF f k (i * 3 + 1)) (dropF f k (i * 3 + 2)) = true
  unfold dropF
  by_cases c : i < k
  · rw [if_pos (by omega), if_pos (by omega), if_pos (by omega)]
    exact okCs_get h (by omega)
  · rw [if_neg (by omega), if_neg (by omega), if_neg (by omega)]
    have := okCs_get h (show i + 1 < n by omega)
    have e : (i + 1) * 3 = i * 3 + 3 := by omega
    rw [e] at this
    exact this
theorem okCs_snoc {n : Nat} {f : Nat → Int} {k a b : Int} (h : okCs n f = true) (hk : okK k a b = true) : okCs (n + 1) (snocF f n k a b) = true := by
  rw [okCs_succ, okCs_congr (g := f) (fun i hi => by simp [snocF, hi]), h]
  have e1 : snocF f n k a b (n * 3) = k := by simp [snocF]
  have e2 : snocF f n k a b (n * 3 + 1) = a := by unfold snocF; rw [if_neg (by omega), if_neg (by omega), if_pos rfl]
  have e3 : snocF f n k a b (n * 3 + 2) = b := by unfold snocF; rw [if_neg (by omega), if_neg (by omega), if_neg (by omega)]
  rw [e1, e2, e3, hk]
  rfl
theorem okCs_from1 {n : Nat} {f : Nat → Int} (h : okCs n f = true) {k : Nat} (hk : k < n) : okCs 1 (fromF f k) = true := by
  rw [okCs_one]
  exact okCs_get h hk
/-- clues that are left when from the k-th one on each is taken out with which all is told still -/
def hard (w : Int) : Nat → Nat → (Nat → Int) → Nat → Nat × (Nat → Int)
  | 0, n, f, _ => (n, f)
  | m + 1, n, f, k => if cnt (n - 1) (dropF f k) w = 1 then hard w m (n - 1) (dropF f k) k else hard w m n f (k + 1)
theorem hard_le (w : Int) (m n : Nat) (f : Nat → Int) (k : Nat) : (hard w m n f k).1 ≤ n := by
  induction m generalizing n f k with
  | zero => exact Nat.le_refl _
  | succ m ih =>
    unfold hard
    split
    · exact Nat.le_trans (ih _ _ _) (by omega)
    · exact ih _ _ _
/-- the clue that the fewest fit, of the first j -/
def bst (f : Nat → Int) (w : Int) : Nat → Nat
  | 0 => 0
  | j + 1 => if cnt 1 (fromF f j) w < cnt 1 (fromF f (bst f w j)) w then j else bst f w j
theorem bst_lt (f : Nat → Int) (w : Int) (j : Nat) : bst f w j < j ∨ bst f w j = 0 := by
  induction j with
  | zero => exact .inr rfl
  | succ j ih =>
    unfold bst
    split
    · exact .inl (by omega)
    · omega
theorem bst_one (f : Nat → Int) (w : Int) : bst f w 1 = 0 := by simp [bst]
def needless (n : Nat) (f : Nat → Int) (w : Int) (m : Nat) : List Int := ((List.range m).filter fun k => decide (cnt (n - 1) (dropF f k) w = cnt n f w)).map Int.ofNat
theorem needless_yes {n : Nat} {f : Nat → Int} {w : Int} {m : Nat} (h : cnt (n - 1) (dropF f m) w = cnt n f w) : needless n f w (m + 1) = needless n f w m ++ [(m : Int)] := by
  simp [needless, List.range_succ, List.filter_append, h]
theorem needless_no {n : Nat} {f : Nat → Int} {w : Int} {m : Nat} (h : ¬ cnt (n - 1) (dropF f m) w = cnt n f w) : needless n f w (m + 1) = needless n f w m := by
  simp [needless, List.range_succ, List.filter_append, h]
theorem needless_length (n : Nat) (f : Nat → Int) (w : Int) (m : Nat) : (needless n f w m).length ≤ m := by
  have := List.length_filter_le (fun k => decide (cnt (n - 1) (dropF f k) w = cnt n f w)) (List.range m)
  simpa [needless] using this
def lefts (f : Nat → Int) (w : Int) (m : Nat) : List Int := (List.range m).map fun k => (cnt k f w : Int)
theorem lefts_succ (f : Nat → Int) (w : Int) (m : Nat) : lefts f w (m + 1) = lefts f w m ++ [(cnt m f w : Int)] := by simp [lefts, List.range_succ]
theorem lefts_length (f : Nat → Int) (w : Int) (m : Nat) : (lefts f w m).length = m := by simp [lefts]
/-- 'sure': a number if all are it -/
def sure (x : Int) : List Int → Int
  | [] => x
  | y :: ys => sure (if y = x then x else -1) ys
theorem sure_snoc (x : Int) (ys : List Int) (y : Int) : sure x (ys ++ [y]) = if y = sure x ys then sure x ys else -1 := by
  induction ys generalizing x with
  | nil => rfl
  | cons z zs ih => exact ih _
/-- the numbers by which puzzles are made -/
def nxt (z : Int) : Int := (z * 269 + 1361) % 10007
theorem nxt_bd {z : Int} (h : 0 ≤ z) (h2 : z ≤ 10007) : 0 ≤ nxt z ∧ nxt z < 10007 := by unfold nxt; omega
def zs (z : Int) : Nat → Int
  | 0 => z
  | j + 1 => nxt (nxt (zs z j))
theorem zs_bd {z : Int} (h : 0 ≤ z) (h2 : z ≤ 9999) (j : Nat) : 0 ≤ zs z j ∧ zs z j ≤ 10007 := by
  induction j with
  | zero => exact ⟨h, by show z ≤ 10007; omega⟩
  | succ j ih =>
    have h1 := nxt_bd ih.1 ih.2
    have h2 := nxt_bd h1.1 (by omega)
    exact ⟨h2.1, by show nxt (nxt (zs z j)) ≤ 10007; omega⟩
def kd (z : Int) (j : Nat) : Int := nxt (zs z j) % 6
def yy (z : Int) (j : Nat) : Int := zs z (j + 1) % 2
def mk (w l r z : Int) : Nat → List Int
  | 0 => []
  | j + 1 => mk w l r z j ++ [kd z j, vA (kd z j) (yy z j) w l r, vB (kd z j) (yy z j) w l r]
theorem mk_length (w l r z : Int) (j : Nat) : (mk w l r z j).length = j * 3 := by
  induction j with
  | zero => rfl
  | succ j ih => rw [mk, List.length_append, ih]; simp; omega
end Go.Proofs.YtahcfjpplkemdaaDoor
