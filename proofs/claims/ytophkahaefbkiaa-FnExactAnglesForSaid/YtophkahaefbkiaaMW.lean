/- The mathematics of wedges: rings of reflections, and how many images they reach. -/
import Derived.WalkKit
namespace Go.Proofs.Ytophkahaefbkiaa.MW
def nb1 (x : Nat) : Nat := (360 - x) % 360
def nb2 (a x : Nat) : Nat := (2 * a + 360 - x) % 360
abbrev BSt := List Int × List Nat
def visit (k : Nat) (st : BSt) (y : Nat) : BSt := if st.1.getD y 0 < 0 then (st.1.set y (k : Int), st.2 ++ [y]) else st
def visit2 (a k : Nat) (st : BSt) (x : Nat) : BSt := visit k (visit k st (nb1 x)) (nb2 a x)
def roundOf (a k : Nat) (st : BSt) : BSt := st.2.foldl (visit2 a k) (st.1, [])
def st0 (p : Nat) : BSt := ((List.replicate 360 (-1)).set p 0, [p])
def stN (a p : Nat) : Nat → BSt
  | 0 => st0 p
  | k + 1 => roundOf a (k + 1) (stN a p k)
def inS (a p y : Nat) : Bool := y % (2 * a) == p || y % (2 * a) == 2 * a - p
def cntS (a p : Nat) : Nat := (List.range 360).countP fun y => inS a p y && y != p
def allAngles : List Nat := [2,3,4,5,6,9,10,12,15,18,20,30,36,45,60,90]
theorem cnt_ok : (allAngles.all fun a => (List.range (a - 1)).all fun q => cntS a (q + 1) == 360 / a - 1) = true := by decide +kernel
theorem angles_all : ∀ a : Fin 91, (1 < a.val ∧ 180 % a.val = 0) → a.val ∈ allAngles := by decide +kernel
theorem cntS_eq {a p : Nat} (ha : a ∈ allAngles) (hp : 1 ≤ p) (hp' : p < a) : cntS a p = 360 / a - 1 := by
  have h := cnt_ok
  rw [List.all_eq_true] at h
  have h2 := h a ha
  rw [List.all_eq_true] at h2
  have h3 := h2 (p - 1) (by rw [List.mem_range]; omega)
  rw [show p - 1 + 1 = p by omega] at h3
  exact eq_of_beq h3
structure Ok (a p : Nat) : Prop where
  ha : a ∈ allAngles
  hp : 1 ≤ p
  hp' : p < a
theorem inS_iff {a p y : Nat} : inS a p y = true ↔ y % (2 * a) = p ∨ y % (2 * a) = 2 * a - p := by simp [inS]
theorem nb1_lt (x : Nat) : nb1 x < 360 := Nat.mod_lt _ (by omega)
theorem nb2_lt (a x : Nat) : nb2 a x < 360 := Nat.mod_lt _ (by omega)
theorem inS_nb {a p x : Nat} (ok : Ok a p) (hx : x < 360) (h : inS a p x = true) : inS a p (nb1 x) = true ∧ inS a p (nb2 a x) = true := by
  obtain ⟨ha, hp, hp'⟩ := ok
  rw [inS_iff] at h ⊢
  rw [inS_iff]
  unfold nb1 nb2
  simp only [allAngles, List.mem_cons, List.not_mem_nil, or_false] at ha
  rcases ha with rfl | rfl | rfl | rfl | rfl | rfl | rfl | rfl | rfl | rfl | rfl | rfl | rfl | rfl | rfl | rfl <;> constructor <;> omega
theorem nb21 {a p x : Nat} (ok : Ok a p) (hx : x < 360) : nb2 a (nb1 x) = (x + 2 * a) % 360 := by
  obtain ⟨ha, hp, hp'⟩ := ok
  unfold nb1 nb2
  simp only [allAngles, List.mem_cons, List.not_mem_nil, or_false] at ha
  rcases ha with rfl | rfl | rfl | rfl | rfl | rfl | rfl | rfl | rfl | rfl | rfl | rfl | rfl | rfl | rfl | rfl <;> omega
structure Inv (a p : Nat) (o : List Int) (P : List Nat) : Prop where
  len : o.length = 360
  pend : ∀ y ∈ P, y < 360 ∧ 0 ≤ o.getD y 0
  sound : ∀ y, y < 360 → 0 ≤ o.getD y 0 → inS a p y = true ∧ (o.getD y 0 = 0 ↔ y = p)
  start : 0 ≤ o.getD p 0
  closed : ∀ y, y < 360 → 0 ≤ o.getD y 0 → y ∈ P ∨ (0 ≤ o.getD (nb1 y) 0 ∧ 0 ≤ o.getD (nb2 a y) 0)
theorem getD_set (o : List Int) (y z : Nat) (k : Int) (h : y < o.length) : (o.set y k).getD z 0 = if z = y then k else o.getD z 0 := by
  simp only [List.getD, List.getElem?_set]
  by_cases e : y = z
  · subst e; simp [h]
  · simp [e, Ne.symm e]
theorem visit_inv {a p k : Nat} {o : List Int} {xs nx : List Nat} {y : Nat} (hk : 1 ≤ k) (hy : y < 360) (hS : inS a p y = true) (h : Inv a p o (xs ++ nx)) :
    Inv a p (visit k (o, nx) y).1 (xs ++ (visit k (o, nx) y).2) ∧ 0 ≤ (visit k (o, nx) y).1.getD y 0 ∧ ∀ z, 0 ≤ o.getD z 0 → 0 ≤ (visit k (o, nx) y).1.getD z 0 := by
  unfold visit
  by_cases hv : o.getD y 0 < 0
  · simp only [hv, if_true]
    have g := fun z => getD_set o y z k (by rw [h.len]; exact hy)
    have up : ∀ z, 0 ≤ o.getD z 0 → 0 ≤ (o.set y (k : Int)).getD z 0 := fun z hz => by
      rw [g]; split <;> omega
    refine ⟨⟨by simp [h.len], fun z hz => ?_, fun z hz hz0 => ?_, up _ h.start, fun z hz hz0 => ?_⟩, by rw [g, if_pos rfl]; omega, up⟩
    · rw [← List.append_assoc, List.mem_append] at hz
      rcases hz with hz | hz
      · exact ⟨(h.pend z hz).1, up _ (h.pend z hz).2⟩
      · rw [List.mem_singleton] at hz
        subst hz
        exact ⟨hy, by rw [g, if_pos rfl]; omega⟩
    · rw [g] at hz0 ⊢
      by_cases e : z = y
      · subst e
        rw [if_pos rfl]
        refine ⟨hS, by omega, fun e => ?_⟩
        subst e
        have := h.start
        omega
      · rw [if_neg e] at hz0 ⊢
        exact h.sound z hz hz0
    · by_cases e : z = y
      · subst e
        left
        rw [← List.append_assoc, List.mem_append]
        right
        simp
      · rw [g, if_neg e] at hz0
        rcases h.closed z hz hz0 with c | ⟨c1, c2⟩
        · left; rw [← List.append_assoc, List.mem_append]; exact .inl c
        · exact .inr ⟨up _ c1, up _ c2⟩
  · simp only [hv, if_false]
    exact ⟨h, by omega, fun _ h => h⟩
theorem visit2_inv {a p k : Nat} {o : List Int} {xs nx : List Nat} {x : Nat} (ok : Ok a p) (hk : 1 ≤ k) (h : Inv a p o ((x :: xs) ++ nx)) :
    Inv a p (visit2 a k (o, nx) x).1 (xs ++ (visit2 a k (o, nx) x).2) := by
  obtain ⟨hx, hx0⟩ := h.pend x (by simp)
  have hxS := (h.sound x hx hx0).1
  obtain ⟨s1, s2⟩ := inS_nb ok hx hxS
  obtain ⟨i1, v1, u1⟩ := visit_inv hk (nb1_lt x) s1 h
  obtain ⟨i2, v2, u2⟩ := visit_inv hk (nb2_lt a x) s2 i1
  have e : visit2 a k (o, nx) x = visit k ((visit k (o, nx) (nb1 x)).1, (visit k (o, nx) (nb1 x)).2) (nb2 a x) := rfl
  rw [e]
  refine ⟨i2.len, fun y hy => i2.pend y (List.mem_append.2 ((List.mem_append.1 hy).imp (List.mem_cons_of_mem _) id)), i2.sound, i2.start, fun y hy h0 => ?_⟩
  rcases i2.closed y hy h0 with c | c
  · rw [List.mem_append] at c
    rcases c with c | c
    · rw [List.mem_cons] at c
      rcases c with c | c
      · subst c
        exact .inr ⟨u2 _ v1, v2⟩
      · exact .inl (List.mem_append.2 (.inl c))
    · exact .inl (List.mem_append.2 (.inr c))
  · exact .inr c
theorem fold_inv {a p k : Nat} (ok : Ok a p) (hk : 1 ≤ k) : ∀ (xs : List Nat) (o : List Int) (nx : List Nat), Inv a p o (xs ++ nx) → Inv a p (xs.foldl (visit2 a k) (o, nx)).1 (xs.foldl (visit2 a k) (o, nx)).2
  | [], o, nx, h => h
  | x :: xs, o, nx, h => by
    have := visit2_inv ok hk h
    exact fold_inv ok hk xs _ _ this
theorem stN_inv {a p : Nat} (ok : Ok a p) : ∀ k, Inv a p (stN a p k).1 (stN a p k).2
  | 0 => by
    obtain ⟨ha, hp, hp'⟩ := ok
    have h90 : a ≤ 90 := by
      simp only [allAngles, List.mem_cons, List.not_mem_nil, or_false] at ha
      omega
    have g : ∀ z, z < 360 → (st0 p).1.getD z 0 = if z = p then 0 else -1 := fun z hz => by
      show ((List.replicate 360 (-1 : Int)).set p 0).getD z 0 = _
      rw [getD_set _ _ _ _ (by rw [List.length_replicate]; omega)]
      split
      · rfl
      · simp [List.getD, hz, -List.reduceReplicate]
    have one : ∀ z, z < 360 → 0 ≤ (st0 p).1.getD z 0 → z = p := fun z hz h => by
      rw [g z hz] at h
      split at h
      · assumption
      · omega
    refine ⟨by simp [stN, st0, -List.reduceReplicate], fun y hy => ?_, fun y hy h0 => ?_, ?_, fun y hy h0 => ?_⟩
    · simp only [stN, st0, List.mem_singleton] at hy
      subst hy
      exact ⟨by omega, by show 0 ≤ (st0 y).1.getD y 0; rw [g y (by omega), if_pos rfl]; omega⟩
    · have e := one y hy h0
      subst e
      refine ⟨?_, ?_⟩
      · rw [inS_iff]; left; exact Nat.mod_eq_of_lt (by omega)
      · show (st0 y).1.getD y 0 = 0 ↔ _
        rw [g y hy, if_pos rfl]; simp
    · show 0 ≤ (st0 p).1.getD p 0
      rw [g p (by omega), if_pos rfl]; omega
    · left
      have e := one y hy h0
      simp [stN, st0, e, -List.reduceReplicate]
  | k + 1 => by
    have h := stN_inv ok k
    have := fold_inv ok (k := k + 1) (by omega) (stN a p k).2 (stN a p k).1 [] (by rw [List.append_nil]; exact h)
    exact this
theorem walk_all {a p : Nat} (ok : Ok a p) {o : List Int} (h : Inv a p o []) : ∀ j, 0 ≤ o.getD ((p + 2 * a * j) % 360) 0 ∧ 0 ≤ o.getD (nb1 ((p + 2 * a * j) % 360)) 0
  | 0 => by
    have h90 : a ≤ 90 := by
      have := ok.ha
      simp only [allAngles, List.mem_cons, List.not_mem_nil, or_false] at this
      omega
    have e : (p + 2 * a * 0) % 360 = p := by have := ok.hp'; rw [Nat.mul_zero, Nat.add_zero]; exact Nat.mod_eq_of_lt (by omega)
    rw [e]
    have hp : p < 360 := by have := ok.hp'; omega
    rcases h.closed p hp h.start with c | c
    · simp at c
    · exact ⟨h.start, c.1⟩
  | j + 1 => by
    obtain ⟨h1, h2⟩ := walk_all ok h j
    have hx : (p + 2 * a * j) % 360 < 360 := Nat.mod_lt _ (by omega)
    have e : (p + 2 * a * (j + 1)) % 360 = nb2 a (nb1 ((p + 2 * a * j) % 360)) := by
      rw [nb21 ok hx, Nat.mul_add, Nat.mul_one, ← Nat.add_assoc, Nat.mod_add_mod]
    have h3 : 0 ≤ o.getD ((p + 2 * a * (j + 1)) % 360) 0 := by
      rw [e]
      rcases h.closed _ (nb1_lt _) h2 with c | c
      · simp at c
      · exact c.2
    refine ⟨h3, ?_⟩
    rcases h.closed _ (Nat.mod_lt _ (by omega)) h3 with c | c
    · simp at c
    · exact c.1
theorem full {a p : Nat} (ok : Ok a p) {o : List Int} (h : Inv a p o []) (y : Nat) (hy : y < 360) : (0 < o.getD y 0) ↔ (inS a p y && y != p) = true := by
  have reach : inS a p y = true → 0 ≤ o.getD y 0 := fun hS => by
    rw [inS_iff] at hS
    rcases hS with e | e
    · have := (walk_all ok h (y / (2 * a))).1
      have e2 : (p + 2 * a * (y / (2 * a))) % 360 = y := by
        have := Nat.div_add_mod y (2 * a)
        rw [e] at this
        rw [Nat.add_comm, this]
        exact Nat.mod_eq_of_lt hy
      rwa [e2] at this
    · have hx : nb1 y % (2 * a) = p ∧ 0 < y := by
        obtain ⟨ha, hp, hp'⟩ := ok
        unfold nb1
        simp only [allAngles, List.mem_cons, List.not_mem_nil, or_false] at ha
        rcases ha with rfl | rfl | rfl | rfl | rfl | rfl | rfl | rfl | rfl | rfl | rfl | rfl | rfl | rfl | rfl | rfl <;> constructor <;> omega
      have := (walk_all ok h (nb1 y / (2 * a))).2
      have e2 : (p + 2 * a * (nb1 y / (2 * a))) % 360 = nb1 y := by
        have := Nat.div_add_mod (nb1 y) (2 * a)
        rw [hx.1] at this
        rw [Nat.add_comm, this]
        exact Nat.mod_eq_of_lt (nb1_lt y)
      rw [e2] at this
      have e3 : nb1 (nb1 y) = y := by unfold nb1; omega
      rwa [e3] at this
  constructor
  · intro h0
    obtain ⟨q1, q2⟩ := h.sound y hy (by omega)
    simp only [Bool.and_eq_true, q1, bne_iff_ne, ne_eq, true_and]
    intro e
    have := q2.2 e
    omega
  · intro h0
    simp only [Bool.and_eq_true, bne_iff_ne, ne_eq] at h0
    have h1 := reach h0.1
    obtain ⟨q1, q2⟩ := h.sound y hy h1
    have : o.getD y 0 ≠ 0 := fun e => h0.2 (q2.1 e)
    omega
/-! ### the rounds end -/
def seen (o : List Int) : Nat := o.countP fun n => decide (0 ≤ n)
theorem visit_seen {k : Nat} {o : List Int} {nx : List Nat} {y : Nat} (hy : y < o.length) : seen (visit k (o, nx) y).1 + nx.length = seen o + (visit k (o, nx) y).2.length ∧ (visit k (o, nx) y).1.length = o.length := by
  unfold visit seen
  by_cases hv : o.getD y 0 < 0
  · simp only [hv, if_true]
    have e : o[y] = o.getD y 0 := by simp [List.getD, hy]
    have hv' : ¬ 0 ≤ o[y] := by omega
    rw [List.countP_set (h := hy)]
    simp [hv']
    omega
  · simp only [hv, if_false]
    simp
theorem visit2_seen {a k : Nat} {o : List Int} {nx : List Nat} {x : Nat} (hl : o.length = 360) : seen (visit2 a k (o, nx) x).1 + nx.length = seen o + (visit2 a k (o, nx) x).2.length ∧ (visit2 a k (o, nx) x).1.length = 360 := by
  obtain ⟨h1, h2⟩ := visit_seen (k := k) (nx := nx) (y := nb1 x) (o := o) (by rw [hl]; exact nb1_lt x)
  obtain ⟨h3, h4⟩ := visit_seen (k := k) (nx := (visit k (o, nx) (nb1 x)).2) (y := nb2 a x) (o := (visit k (o, nx) (nb1 x)).1) (by rw [h2, hl]; exact nb2_lt a x)
  have e : visit2 a k (o, nx) x = visit k ((visit k (o, nx) (nb1 x)).1, (visit k (o, nx) (nb1 x)).2) (nb2 a x) := rfl
  rw [e]
  omega
theorem fold_seen {a k : Nat} : ∀ (xs : List Nat) (o : List Int) (nx : List Nat), o.length = 360 →
    seen (xs.foldl (visit2 a k) (o, nx)).1 + nx.length = seen o + (xs.foldl (visit2 a k) (o, nx)).2.length ∧ (xs.foldl (visit2 a k) (o, nx)).1.length = 360
  | [], o, nx, h => ⟨by simp, h⟩
  | x :: xs, o, nx, h => by
    obtain ⟨h1, h2⟩ := visit2_seen (a := a) (k := k) (nx := nx) (x := x) h
    have := fold_seen (a := a) (k := k) xs (visit2 a k (o, nx) x).1 (visit2 a k (o, nx) x).2 h2
    simp only [List.foldl_cons]
    have e : ((visit2 a k (o, nx) x).1, (visit2 a k (o, nx) x).2) = visit2 a k (o, nx) x := rfl
    rw [e] at this
    omega
theorem stN_len (a p : Nat) : ∀ k, (stN a p k).1.length = 360
  | 0 => by simp [stN, st0, -List.reduceReplicate]
  | k + 1 => (fold_seen (a := a) (k := k + 1) (stN a p k).2 (stN a p k).1 [] (stN_len a p k)).2
theorem stN_seen {a p : Nat} (hp : p < 360) : ∀ k, (stN a p k).2 ≠ [] → k + 1 ≤ seen (stN a p k).1
  | 0, _ => by
    have : 0 < seen (st0 p).1 := by
      rw [seen, List.countP_pos_iff]
      exact ⟨0, List.mem_iff_getElem?.2 ⟨p, by simp [st0, hp, -List.reduceReplicate]⟩, by simp⟩
    show 0 + 1 ≤ seen (st0 p).1
    omega
  | k + 1, h => by
    have hl := stN_len a p k
    obtain ⟨h1, _⟩ := fold_seen (a := a) (k := k + 1) (stN a p k).2 (stN a p k).1 [] hl
    have e : stN a p (k + 1) = (stN a p k).2.foldl (visit2 a (k + 1)) ((stN a p k).1, []) := rfl
    have hne : (stN a p k).2 ≠ [] := fun e2 => h (by rw [e, e2]; rfl)
    have := stN_seen hp k hne
    rw [← e] at h1
    have hpos : 0 < (stN a p (k + 1)).2.length := List.length_pos_iff.2 h
    simp only [List.length_nil] at h1
    omega
theorem stN_bound {a p k : Nat} (hp : p < 360) (h : (stN a p k).2 ≠ []) : k < 360 := by
  have h1 := stN_seen hp k h
  have h2 : seen (stN a p k).1 ≤ (stN a p k).1.length := List.countP_le_length
  rw [stN_len] at h2
  omega
theorem stN_stay {a p k : Nat} (h : (stN a p k).2 = []) : stN a p (k + 1) = stN a p k := by
  show roundOf a (k + 1) (stN a p k) = _
  unfold roundOf
  rw [h, List.foldl_nil, ← h]
theorem stN_end {a p k : Nat} (h : (stN a p k).2 = []) : ∀ j, stN a p (k + j) = stN a p k
  | 0 => rfl
  | j + 1 => by
    rw [← Nat.add_assoc, stN_stay (by rw [stN_end h j]; exact h), stN_end h j]
/-- what all rounds leave -/
def fin (a p : Nat) : List Int := (stN a p 360).1
theorem fin_pend (a p : Nat) (hp : p < 360) : (stN a p 360).2 = [] := by
  cases h : (stN a p 360).2 with
  | nil => rfl
  | cons x l => exact absurd (stN_bound hp (k := 360) (by rw [h]; simp)) (by omega)
theorem fin_of {a p k : Nat} (_hp : p < 360) (h : (stN a p k).2 = []) (hk : k ≤ 360) : (stN a p k).1 = fin a p := by
  have := stN_end h (360 - k)
  rw [show k + (360 - k) = 360 by omega] at this
  rw [fin, this]
theorem fin_full {a p : Nat} (ok : Ok a p) (y : Nat) (hy : y < 360) : (0 < (fin a p).getD y 0) ↔ (inS a p y && y != p) = true := by
  have h90 : a ≤ 90 := by
    have := ok.ha
    simp only [allAngles, List.mem_cons, List.not_mem_nil, or_false] at this
    omega
  have h := stN_inv ok 360
  rw [fin_pend a p (by have := ok.hp'; omega)] at h
  exact full ok h y hy
theorem fin_len (a p : Nat) : (fin a p).length = 360 := stN_len a p 360
/-- how many of the degrees are those of images -/
def imgs (a p : Nat) : List Int := ((List.range 360).filter fun y => decide (0 < (fin a p).getD y 0)).map fun (y : Nat) => (y : Int)
theorem imgs_len {a p : Nat} (ok : Ok a p) : (imgs a p).length = 360 / a - 1 := by
  rw [← cntS_eq ok.ha ok.hp ok.hp', imgs, List.length_map, ← List.countP_eq_length_filter, cntS]
  refine List.countP_congr fun y hy => ?_
  rw [List.mem_range] at hy
  rw [decide_eq_true_iff]
  exact fin_full ok y hy
end Go.Proofs.Ytophkahaefbkiaa.MW
