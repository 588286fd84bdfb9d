/- The way of a beam in a rectangle, as plain functions of the number of steps: the places are folded lines. -/
import Init
namespace Go.Proofs.Ytgpfnbajjephpaa.Beam
/-- A line that goes on for ever, folded between 0 and W. -/
def tri (W p : Nat) : Nat := if p % (2 * W) < W then p % (2 * W) else 2 * W - p % (2 * W)
/-- whether it goes up there -/
def gup (W p : Nat) : Bool := decide (p % (2 * W) < W)
/-- where on that line a beam begins, turned inside -/
def phase (W x : Nat) (r : Bool) : Nat := if x = 0 then 0 else if x = W then W else if r then x else 2 * W - x
def turn (W x : Nat) (r : Bool) : Bool := if x = 0 then true else if x = W then false else r
theorem mod_step (m p : Nat) (hm : 0 < m) : (p + 1) % m = if p % m + 1 = m then 0 else p % m + 1 := by
  have h := Nat.mod_lt p hm
  have e : (p + 1) % m = (p % m + 1) % m := by rw [Nat.add_mod, Nat.add_mod (p % m)]; simp
  rw [e]
  by_cases c : p % m + 1 = m
  · rw [if_pos c, c, Nat.mod_self]
  · rw [if_neg c, Nat.mod_eq_of_lt (by omega)]
theorem tri_le (W p : Nat) (h : 1 ≤ W) : tri W p ≤ W := by
  have := Nat.mod_lt p (show 0 < 2 * W by omega)
  unfold tri; split <;> omega
theorem tri_phase (W x : Nat) (r : Bool) (h : 1 ≤ W) (hx : x ≤ W) : tri W (phase W x r) = x ∧ gup W (phase W x r) = turn W x r ∧ phase W x r < 2 * W := by
  have hp : phase W x r < 2 * W := by unfold phase; split <;> (try split) <;> (try split) <;> omega
  unfold tri gup
  rw [Nat.mod_eq_of_lt hp]
  refine ⟨?_, ?_, hp⟩
  · unfold phase; repeat (first | omega | split)
  · unfold phase turn; split
    · simp; omega
    · split
      · simp
      · cases r <;> simp <;> omega
theorem tri_up (W p : Nat) (h : 1 ≤ W) (g : gup W p = true) : tri W (p + 1) = tri W p + 1 ∧ tri W p < W := by
  have hm := Nat.mod_lt p (show 0 < 2 * W by omega)
  have hs := mod_step (2 * W) p (by omega)
  simp only [gup, decide_eq_true_eq] at g
  unfold tri
  rw [hs]
  rw [if_neg (show ¬ p % (2 * W) + 1 = 2 * W by omega), if_pos g]
  refine ⟨?_, g⟩
  split <;> omega
theorem tri_down (W p : Nat) (h : 1 ≤ W) (g : gup W p = false) : tri W (p + 1) = tri W p - 1 ∧ 1 ≤ tri W p := by
  have hm := Nat.mod_lt p (show 0 < 2 * W by omega)
  have hs := mod_step (2 * W) p (by omega)
  simp only [gup, decide_eq_false_iff_not] at g
  unfold tri
  rw [hs, if_neg g]
  refine ⟨?_, by omega⟩
  by_cases c : p % (2 * W) + 1 = 2 * W
  · rw [if_pos c, if_pos (by omega)]; omega
  · rw [if_neg c, if_neg (by omega)]; omega
theorem gup_step (W p : Nat) (h : 1 ≤ W) : gup W (p + 1) = turn W (tri W (p + 1)) (gup W p) := by
  have hm := Nat.mod_lt p (show 0 < 2 * W by omega)
  have hs := mod_step (2 * W) p (by omega)
  unfold gup turn tri
  rw [hs]
  by_cases c : p % (2 * W) + 1 = 2 * W
  · simp only [if_pos c, if_pos (show 0 < W by omega)]; simp; omega
  · simp only [if_neg c]
    by_cases d : p % (2 * W) + 1 < W
    · simp only [if_pos d]
      rw [if_neg (by omega), if_neg (by omega)]
      simp; omega
    · simp only [if_neg d]
      by_cases e : p % (2 * W) + 1 = W
      · rw [if_neg (by omega), if_pos (by omega)]; simp; omega
      · rw [if_neg (by omega), if_neg (by omega)]
        have : ¬ p % (2 * W) < W := by omega
        simp; omega
theorem tri_add (W p k : Nat) : tri W (p + 2 * W * k) = tri W p ∧ gup W (p + 2 * W * k) = gup W p := by
  have e : (p + 2 * W * k) % (2 * W) = p % (2 * W) := by rw [Nat.add_mul_mod_self_left]
  unfold tri gup
  rw [e]
  exact ⟨rfl, rfl⟩
theorem mod_of (W p q : Nat) (h : 1 ≤ W) (e1 : tri W p = tri W q) (e2 : gup W p = gup W q) : p % (2 * W) = q % (2 * W) := by
  have h1 := Nat.mod_lt p (show 0 < 2 * W by omega)
  have h2 := Nat.mod_lt q (show 0 < 2 * W by omega)
  have e3 : (p % (2 * W) < W ↔ q % (2 * W) < W) := by
    have := e2
    unfold gup at this
    by_cases a : p % (2 * W) < W <;> by_cases b : q % (2 * W) < W <;> simp [a, b] at this ⊢
  unfold tri at e1
  split at e1 <;> split at e1 <;> omega
theorem of_mod (W p q : Nat) (e : p % (2 * W) = q % (2 * W)) : tri W p = tri W q ∧ gup W p = gup W q := by
  unfold tri gup; rw [e]; exact ⟨rfl, rfl⟩

/-- a table with where a beam begins on both lines -/
structure BWay where
  W : Nat
  H : Nat
  px : Nat
  py : Nat
def BWay.ok (t : BWay) : Prop := 1 ≤ t.W ∧ 1 ≤ t.H ∧ t.W ≤ 60 ∧ t.H ≤ 60
def BWay.x (t : BWay) (k : Nat) : Nat := tri t.W (t.px + k)
def BWay.y (t : BWay) (k : Nat) : Nat := tri t.H (t.py + k)
def BWay.r (t : BWay) (k : Nat) : Bool := gup t.W (t.px + k)
def BWay.u (t : BWay) (k : Nat) : Bool := gup t.H (t.py + k)
def ends (W x : Nat) : Bool := decide (x = 0) || decide (x = W)
def BWay.cor (t : BWay) (k : Nat) : Bool := ends t.W (t.x k) && ends t.H (t.y k)
/-- the same beam as at first -/
def BWay.same (t : BWay) (k : Nat) : Bool := (decide (t.x k = t.x 0) && decide (t.y k = t.y 0)) && (t.r k == t.r 0 && t.u k == t.u 0)
def BWay.stop (t : BWay) (k : Nat) : Bool := t.cor k || t.same k
theorem BWay.period (t : BWay) (k j : Nat) : t.x (k + 2 * t.W * t.H * j) = t.x k ∧ t.y (k + 2 * t.W * t.H * j) = t.y k ∧ t.r (k + 2 * t.W * t.H * j) = t.r k ∧ t.u (k + 2 * t.W * t.H * j) = t.u k := by
  have e1 : t.px + (k + 2 * t.W * t.H * j) = t.px + k + 2 * t.W * (t.H * j) := by rw [Nat.mul_assoc (2 * t.W), Nat.add_assoc]
  have e2 : t.py + (k + 2 * t.W * t.H * j) = t.py + k + 2 * t.H * (t.W * j) := by
    have : 2 * t.W * t.H * j = 2 * t.H * (t.W * j) := by rw [Nat.mul_assoc 2 t.W, Nat.mul_comm t.W, ← Nat.mul_assoc 2, Nat.mul_assoc (2 * t.H)]
    rw [this, Nat.add_assoc]
  unfold BWay.x BWay.y BWay.r BWay.u
  rw [e1, e2]
  exact ⟨(tri_add ..).1, (tri_add ..).1, (tri_add ..).2, (tri_add ..).2⟩
/-- the first stop behind k, looked for n steps on -/
def BWay.from (t : BWay) : Nat → Nat → Nat
  | 0, k => k
  | n + 1, k => if t.stop k then k else t.from n (k + 1)
/-- behind how many steps the way is told whole -/
def BWay.M (t : BWay) : Nat := t.from (2 * t.W * t.H) 1
theorem BWay.from_spec (t : BWay) : ∀ n k, k ≤ t.from n k ∧ t.from n k ≤ k + n ∧ (∀ j, k ≤ j → j < t.from n k → t.stop j = false) ∧ (t.from n k < k + n → t.stop (t.from n k) = true)
  | 0, k => by simp only [BWay.from]; exact ⟨Nat.le_refl _, by omega, fun j a b => by omega, fun h => by omega⟩
  | n + 1, k => by
    simp only [BWay.from]
    by_cases c : t.stop k = true
    · rw [if_pos c]; exact ⟨Nat.le_refl _, by omega, fun j a b => by omega, fun _ => c⟩
    · rw [if_neg c]
      obtain ⟨h1, h2, h3, h4⟩ := BWay.from_spec t n (k + 1)
      refine ⟨by omega, by omega, fun j a b => ?_, fun h => h4 (by omega)⟩
      by_cases e : j = k
      · subst e; simpa using c
      · exact h3 j (by omega) b
theorem BWay.same_period (t : BWay) : t.same (2 * t.W * t.H) = true := by
  have h := t.period 0 1
  simp only [Nat.zero_add, Nat.mul_one] at h
  obtain ⟨a, b, c, d⟩ := h
  simp [BWay.same, a, b, c, d]
theorem BWay.M_spec (t : BWay) (h : t.ok) : 1 ≤ t.M ∧ t.M ≤ 2 * t.W * t.H ∧ (∀ j, 1 ≤ j → j < t.M → t.stop j = false) ∧ t.stop t.M = true := by
  obtain ⟨h1, h2, h3, h4⟩ := t.from_spec (2 * t.W * t.H) 1
  have hs := t.same_period
  have hp : 1 ≤ 2 * t.W * t.H := by
    have := Nat.mul_le_mul (Nat.mul_le_mul (Nat.le_refl 2) h.1) h.2.1
    omega
  have hle : t.M ≤ 2 * t.W * t.H := by
    by_cases c : t.M ≤ 2 * t.W * t.H
    · exact c
    · have := h3 (2 * t.W * t.H) hp (by unfold BWay.M at c; omega)
      rw [BWay.stop, hs] at this
      simp at this
  exact ⟨h1, hle, h3, h4 (by unfold BWay.M at hle; omega)⟩
theorem BWay.stop_no {t : BWay} {k : Nat} (h : t.stop k = false) : t.cor k = false ∧ t.same k = false := by
  simpa [BWay.stop] using h
/-- whether it comes to a corner -/
def BWay.e (t : BWay) : Bool := t.cor t.M
theorem BWay.same_of {t : BWay} (h : t.ok) {k : Nat} (hs : t.same k = true) (j : Nat) : t.x (j + k) = t.x j ∧ t.y (j + k) = t.y j ∧ t.r (j + k) = t.r j ∧ t.u (j + k) = t.u j := by
  simp only [BWay.same, Bool.and_eq_true, decide_eq_true_eq, beq_iff_eq] at hs
  obtain ⟨⟨a, b⟩, c, d⟩ := hs
  unfold BWay.x BWay.r at *
  unfold BWay.y BWay.u at *
  have m1 := mod_of t.W (t.px + k) (t.px + 0) h.1 a c
  have m2 := mod_of t.H (t.py + k) (t.py + 0) h.2.1 b d
  have n1 : (t.px + (j + k)) % (2 * t.W) = (t.px + j) % (2 * t.W) := by
    rw [show t.px + (j + k) = (t.px + k) + j by omega, Nat.add_mod, m1, ← Nat.add_mod, show t.px + 0 + j = t.px + j by omega]
  have n2 : (t.py + (j + k)) % (2 * t.H) = (t.py + j) % (2 * t.H) := by
    rw [show t.py + (j + k) = (t.py + k) + j by omega, Nat.add_mod, m2, ← Nat.add_mod, show t.py + 0 + j = t.py + j by omega]
  obtain ⟨a1, a2⟩ := of_mod _ _ _ n1
  obtain ⟨b1, b2⟩ := of_mod _ _ _ n2
  exact ⟨a1, b1, a2, b2⟩
theorem BWay.mod_M {t : BWay} (h : t.ok) (he : t.e = false) (j : Nat) : t.x (j % t.M) = t.x j ∧ t.y (j % t.M) = t.y j ∧ t.r (j % t.M) = t.r j ∧ t.u (j % t.M) = t.u j := by
  obtain ⟨h1, h2, h3, h4⟩ := t.M_spec h
  have hs : t.same t.M = true := by
    unfold BWay.e at he
    simpa [BWay.stop, he] using h4
  have key : ∀ q j, t.x (j + t.M * q) = t.x j ∧ t.y (j + t.M * q) = t.y j ∧ t.r (j + t.M * q) = t.r j ∧ t.u (j + t.M * q) = t.u j := by
    intro q
    induction q with
    | zero => intro j; simp
    | succ q ih =>
      intro j
      have e : j + t.M * (q + 1) = (j + t.M * q) + t.M := by rw [Nat.mul_succ]; omega
      rw [e]
      obtain ⟨a, b, c, d⟩ := BWay.same_of h hs (j + t.M * q)
      obtain ⟨a', b', c', d'⟩ := ih j
      exact ⟨a.trans a', b.trans b', c.trans c', d.trans d'⟩
  have := key (j / t.M) (j % t.M)
  rw [Nat.mod_add_div] at this
  obtain ⟨a, b, c, d⟩ := this
  exact ⟨a.symm, b.symm, c.symm, d.symm⟩
theorem BWay.cor_of {t : BWay} {i j : Nat} (h1 : t.x i = t.x j) (h2 : t.y i = t.y j) : t.cor i = t.cor j := by
  unfold BWay.cor; rw [h1, h2]
/-- without an end there is no corner at all -/
theorem BWay.no_cor {t : BWay} (h : t.ok) (he : t.e = false) (j : Nat) : t.cor j = false := by
  obtain ⟨h1, h2, h3, h4⟩ := t.M_spec h
  obtain ⟨a, b, _, _⟩ := BWay.mod_M h he j
  have hm := Nat.mod_lt j (show 0 < t.M by omega)
  rw [← BWay.cor_of a b]
  by_cases c : j % t.M = 0
  · have hs : t.same t.M = true := by unfold BWay.e at he; simpa [BWay.stop, he] using h4
    obtain ⟨a, b, _, _⟩ := BWay.same_of h hs 0
    rw [Nat.zero_add] at a b
    rw [c, ← BWay.cor_of a b]
    exact he
  · exact (BWay.stop_no (h3 _ (by omega) hm)).1
theorem BWay.cor_before {t : BWay} (h : t.ok) {j : Nat} (h1 : 1 ≤ j) (h2 : j < t.M) : t.cor j = false :=
  (BWay.stop_no ((t.M_spec h).2.2.1 j h1 h2)).1
/-- the beam behind k steps, as it is kept: at the corner as it came -/
def BWay.kr (t : BWay) (k : Nat) : Bool := if k ≠ 0 ∧ t.cor k = true then t.r (k - 1) else t.r k
def BWay.ku (t : BWay) (k : Nat) : Bool := if k ≠ 0 ∧ t.cor k = true then t.u (k - 1) else t.u k
/-- how many of s steps are made -/
def BWay.made (t : BWay) (s : Nat) : Nat := if t.e then min s t.M else s
/-- that step is made -/
theorem BWay.made_lt {t : BWay} (s : Nat) : t.made s ≤ s ∧ (t.made s < s → t.e = true ∧ t.made s = t.M) := by
  unfold BWay.made
  split <;> rename_i c
  · exact ⟨Nat.min_le_left _ _, fun hl => ⟨c, by omega⟩⟩
  · exact ⟨Nat.le_refl _, fun hl => absurd hl (Nat.lt_irrefl _)⟩
end Go.Proofs.Ytgpfnbajjephpaa.Beam
