/- CountCrossings by the program: a range over the map of places, in whatever order. -/
import Derived.Test.YtgpfnbajjephpaaB6
import Derived.Test.YtgpfnbajjephpaaM2
import Derived.Maps.RangeWalk
namespace Go.Proofs.Ytgpfnbajjephpaa
open Go.RowKit Beam Go.WideMaps Go.WideElems Go.Maps
set_option linter.unusedVariables false
set_option linter.unusedSimpArgs false
/-- a crossing: passed more than once, not the first place, not at a side -/
def crP (t : BWay) (n : Nat) (p : Nat × Nat) : Bool := decide (1 < timesUp (plAt t) n p) && (!(p == plAt t 0) && (!(p.1 == 0 || p.1 == t.W) && !(p.2 == 0 || p.2 == t.H)))
def ccN (t : BWay) (n : Nat) : Nat := (List.range ((t.W + 1) * (t.H + 1))).countP (fun i => decide (0 < timesUp (plAt t) n (uncell t.H i)) && crP t n (uncell t.H i))
def okCC (a b x y : Int) (r u : Bool) : Bool := okB a b x y && (wayI a b x y r u).e
def ccZ (a b x y : Int) (r u : Bool) : Int := if okCC a b x y r u then (ccN (wayI a b x y r u) (wlen (wayI a b x y r u)) : Nat) else 0
theorem plAt_in6 {t : BWay} (h : t.ok) (j : Nat) : (plAt t j).1 ≤ t.W ∧ (plAt t j).2 ≤ t.H := ⟨tri_le _ _ h.1, tri_le _ _ h.2.1⟩
theorem eq_pk (w : World) {p q : Nat × Nat} (hp : small p) (hq : small q) : (Op.equalIn 10000 43 (pk p) (pk q)).run Try.prog w = .ok (decide (p = q)) w := by
  obtain ⟨r, hr, hiff⟩ := run_equal_deep w (m := 2) (by omega) (k := 43) (by kernel_rfl) (by rw [Try.underlying43]) (keyOf_pl hp) (keyOf_pl hq)
  have : r = decide (p = q) := by
    rw [Bool.eq_iff_iff, hiff, decide_eq_true_iff]
    exact ⟨fun h => pl_inj hp hq h, fun h => h ▸ rfl⟩
  rw [this] at hr
  exact hr
theorem eq_agg (w : World) (q1 q2 x y : Nat) (hp : small (q1, q2)) (hq : small (x, y)) : (Op.equalIn 10000 43 (.agg #[.int .i64 (q1 : Nat), .int .i64 (q2 : Nat)]) (.agg #[.int .i64 (x : Nat), .int .i64 (y : Nat)])).run Try.prog w = .ok (decide ((q1, q2) = (x, y))) w := by
  have h := eq_pk w hp hq
  simp only [pk] at h
  exact h
theorem same_pl (p q : Nat × Nat) : (pl p).sameKey (pl q) = true ↔ pl p = pl q := by
  simp only [pl, Lit.sameKey, beq_iff_eq, Lit.string.injEq]
theorem same_of {k : Lit} {q : Nat × Nat} (h : (pl q).sameKey k = true) : k = pl q := by
  cases k <;> simp [pl, Lit.sameKey] at h ⊢
  exact h.symm
/-- crossings among the keys that are still to come -/
def restN (t : BWay) (n : Nat) (K : List (Nat × Nat)) (left : Lit → Bool) : Nat := K.countP (fun p => left (pl p) && crP t n p)
theorem countP_strike {α : Type} [DecidableEq α] {q : α} (f : α → Bool) : ∀ {K : List α}, K.Nodup → q ∈ K → K.countP f = K.countP (fun p => f p && !decide (p = q)) + (if f q then 1 else 0)
  | [], _, h => by simp at h
  | x :: l, hn, h => by
    obtain ⟨h1, h2⟩ := List.nodup_cons.1 hn
    rw [List.countP_cons, List.countP_cons]
    by_cases e : x = q
    · subst e
      have e2 : l.countP (fun p => f p && !decide (p = x)) = l.countP f := List.countP_congr fun p hp => by
        have : p ≠ x := fun e => h1 (e ▸ hp)
        simp [this]
      rw [e2]
      simp
    · have hm : q ∈ l := by
        rcases List.mem_cons.1 h with h | h
        · exact absurd h.symm e
        · exact h
      rw [countP_strike f h2 hm]
      simp [e]
      omega
theorem only_below {a c : World} (h : a.grownBy c none) : Below a.heap.size a c := ⟨h.os, h.tape, h.output, h.size, fun i hi => h.block i hi (by simp)⟩
theorem grown_cell {a c : World} {rb b o : Nat} (h : a.grownBy c (some rb)) (hb : b < a.heap.size) (hne : b ≠ rb) : c.cell? ⟨b, o, none⟩ = a.cell? ⟨b, o, none⟩ :=
  World.cell?_of_block (w := a) (h.block b hb (by simpa using hne))
theorem restN_none {t : BWay} {n : Nat} {K : List (Nat × Nat)} {left : Lit → Bool} (h : ∀ k, left k = false) : restN t n K left = 0 := by
  unfold restN
  rw [List.countP_eq_zero]
  intro p _
  simp [h]
theorem restN_strike {t : BWay} {n : Nat} {K : List (Nat × Nat)} {left : Lit → Bool} {q : Nat × Nat} (hs : ∀ p ∈ K, small p) (hn : K.Nodup) (hq : q ∈ K) (hl : left (pl q) = true) :
    restN t n K left = restN t n K (fun z => left z && !z.sameKey (pl q)) + (if crP t n q then 1 else 0) := by
  unfold restN
  rw [countP_strike _ hn hq]
  have e : K.countP (fun p => (left (pl p) && crP t n p) && !decide (p = q)) = K.countP (fun p => (left (pl p) && !(pl p).sameKey (pl q)) && crP t n p) := List.countP_congr fun p hp => by
    have hb : (pl p).sameKey (pl q) = decide (p = q) := by
      rw [Bool.eq_iff_iff, same_pl, decide_eq_true_iff]
      exact ⟨fun h => pl_inj (hs p hp) (hs q hq) h, fun h => h ▸ rfl⟩
    rw [hb]
    cases left (pl p) <;> cases crP t n p <;> simp
  rw [e, hl]
  simp
theorem PMap.small_ {w : World} {m k : Nat} {t : BWay} {K : List (Nat × Nat)} {es : List (Lit × DataW Unit)} (ho : t.ok) (h : PMap w m k (plAt t) K es) : ∀ p ∈ K, small p := fun p hp => by
  obtain ⟨j, _, e⟩ := (h.mem p).1 hp
  exact e ▸ plAt_small ho j
theorem restN_all {w : World} {m n : Nat} {t : BWay} {K : List (Nat × Nat)} {es : List (Lit × DataW Unit)} (ho : t.ok) (h : PMap w m n (plAt t) K es) : restN t n K (Maps.has (.map es : DataW Unit)) = ccN t n := by
  have e : restN t n K (Maps.has (.map es : DataW Unit)) = K.countP (crP t n) := List.countP_congr fun p hp => by
    have : Maps.has (.map es : DataW Unit) (pl p) = true := by
      rw [has_eq, List.any_eq_true]
      exact ⟨_, h.ent.mem_iff.2 (List.mem_map.2 ⟨p, hp, rfl⟩), (same_pl p p).2 rfl⟩
    simp [this]
  rw [e]
  exact places_count (k := n) h.nd (fun j _ => plAt_in6 ho j) h.mem (crP t n)
/-- what a step of the range hands out -/
theorem entry_of {w : World} {m n : Nat} {t : BWay} {K : List (Nat × Nat)} {es : List (Lit × DataW Unit)} (ho : t.ok) (h : PMap w m n (plAt t) K es) {key v : Value} {kl : Lit} {y : DataW Unit × List MemPlace}
    (hk : keyOf Try.prog 43 key = some kl) (hv : pE v = some y) (hat : ∀ zd, (DataW.map es).atKey kl zd = y.1) : ∃ q ∈ K, kl = pl q ∧ key = pk q ∧ v = .int .i64 (timesUp (plAt t) n q : Nat) := by
  have hh := has_true_of_atKey hat
  rw [has_eq, List.any_eq_true] at hh
  obtain ⟨e, he, hs⟩ := hh
  obtain ⟨q, hq, rfl⟩ := List.mem_map.1 (h.ent.mem_iff.1 he)
  have ek : kl = pl q := same_of hs
  subst ek
  have hsm := h.small_ ho q hq
  refine ⟨q, hq, rfl, keyedP.inj hk (keyOf_pl hsm), ?_⟩
  obtain ⟨c, rfl, hy, _⟩ := plainElem_int_inv Try.underlying3 hv
  have := hat (.lit (.int .i64 0))
  rw [h.at_ (plAt_small ho) hsm, hy] at this
  simp only [DataW.lit.injEq, Lit.int.injEq, true_and] at this
  rw [this]
set_option maxHeartbeats 400000 in
theorem isAtEnd_nat (p e : Nat) (w : World) : Calls Try.prog 13 #[.int .i64 (p : Nat), .int .i64 (e : Nat)] w fun e' w' => e' = .returned (.bool (p == 0 || p == e)) ∧ w = w' := by
  by_cases h0 : p = 0
  · subst h0
    go_enter Try.func13, Try.ntmps13
    go_wp2
    go_ret
    exact ⟨by simp, rfl⟩
  · have h0' : ((p : Int) == 0) = false := by simp [h0]
    by_cases h1 : p = e
    · subst h1
      go_enter Try.func13, Try.ntmps13
      go_wp2
      go_ret
      exact ⟨by simp, rfl⟩
    · have h1' : ((p : Int) == (e : Int)) = false := by simp; omega
      go_enter Try.func13, Try.ntmps13
      go_wp2
      go_ret
      exact ⟨by simp [h0, h1], rfl⟩
set_option maxRecDepth 100000 in
set_option maxHeartbeats 4000000 in
theorem impl_CountCrossings (a b x y : Int) (r u : Bool) (w : World) :
    Calls Try.prog 7 #[.agg #[.int .i64 a, .int .i64 b], .agg #[.int .i64 x, .int .i64 y, .bool r, .bool u]] w fun e w' => e = .returned (.tuple #[.int .i64 (ccZ a b x y r u), .bool (okCC a b x y r u)]) ∧ Below w.heap.size w w' := by
  cases h : okB a b x y
  · have HZ := Lib.hid (show ccZ a b x y r u = 0 by simp [ccZ, okCC, h])
    have HO := Lib.hid (show okCC a b x y r u = false by simp [okCC, h])
    go_enter Try.func7, Try.ntmps7
    go_wp2_with fail
    refine (wtc_no _ _ _ _ _ _ h _).mono ?_
    rintro e w1 ⟨rfl, hb1⟩
    obtain ⟨hc1, hf1⟩ := bcell hb1
    have hz1 := bsize hb1
    (try simp only [World.size_alloc, World.size_setCell] at hz1)
    have k1_0_0 : w1.cell? ⟨w.heap.size, 0, none⟩ = some (.int .i64 a) := by rw [hc1 _ _ (by first | (simp; done) | omega | (simp; omega))]; first | assumption | (simp [go_sem]; done) | (simp [go_sem]; done) | (simp [go_sem, *]; done)
    have k1_0_1 : w1.cell? ⟨w.heap.size, 1, none⟩ = some (.int .i64 b) := by rw [hc1 _ _ (by first | (simp; done) | omega | (simp; omega))]; first | assumption | (simp [go_sem]; done) | (simp [go_sem]; done) | (simp [go_sem, *]; done)
    have s1_0 : w.heap.size < w1.heap.size := by omega
    have k1_1_0 : w1.cell? ⟨w.heap.size + 1, 0, none⟩ = some (.int .i64 x) := by rw [hc1 _ _ (by first | (simp; done) | omega | (simp; omega))]; first | assumption | (simp [go_sem]; done) | (simp [go_sem]; done) | (simp [go_sem, *]; done)
    have k1_1_1 : w1.cell? ⟨w.heap.size + 1, 1, none⟩ = some (.int .i64 y) := by rw [hc1 _ _ (by first | (simp; done) | omega | (simp; omega))]; first | assumption | (simp [go_sem]; done) | (simp [go_sem]; done) | (simp [go_sem, *]; done)
    have k1_1_2 : w1.cell? ⟨w.heap.size + 1, 2, none⟩ = some (.bool r) := by rw [hc1 _ _ (by first | (simp; done) | omega | (simp; omega))]; first | assumption | (simp [go_sem]; done) | (simp [go_sem]; done) | (simp [go_sem, *]; done)
    have k1_1_3 : w1.cell? ⟨w.heap.size + 1, 3, none⟩ = some (.bool u) := by rw [hc1 _ _ (by first | (simp; done) | omega | (simp; omega))]; first | assumption | (simp [go_sem]; done) | (simp [go_sem]; done) | (simp [go_sem, *]; done)
    have s1_1 : w.heap.size + 1 < w1.heap.size := by omega
    have hB1 : Below w.heap.size w w1 := (by repeat (first | exact Below.refl _ _ | refine bl_alloc ?_ _ | refine bl_drewN ?_ _ | refine bl_trans (by assumption) ?_ | refine bl_set ?_ (by first | omega | (simp; done) | (simp; omega)) _))
    have HB1 := Lib.hid hB1
    clear hB1 hc1 hf1 hb1
    go_wp2
    go_ret2
    exact ⟨by rw [HZ.out, HO.out]; first | done | rfl, bl_alloc HB1.out _⟩
  have OK := Lib.hid (wayI_args h r u).1
  have HWT := fun W => Lib.hid (wtc_yes a b x y r u h W)
  have hwl := wlen_pos (wayI_args h r u).1
  obtain ⟨_, ea, eb, ex, ey, _⟩ := wayI_args h r u
  have HZ := Lib.hid (show ccZ a b x y r u = if (wayI a b x y r u).e then ((ccN (wayI a b x y r u) (wlen (wayI a b x y r u)) : Nat) : Int) else 0 by simp [ccZ, okCC, h])
  have HO := Lib.hid (show okCC a b x y r u = (wayI a b x y r u).e by simp [okCC, h])
  generalize wlen (wayI a b x y r u) = n at *
  generalize (wayI a b x y r u) = t at *
  subst ea eb ex ey
  obtain ⟨hn1, hn2⟩ := hwl
  cases he : t.e
  · rw [he] at HZ HO
    replace HZ := Lib.hid (HZ.out.trans (if_neg (by simp)))
    simp only [he] at HWT
    go_enter Try.func7, Try.ntmps7
    go_wp2_with fail
    refine ((HWT _).out).mono ?_
    rintro e w1 ⟨g, cap, rfl, hR, hb1⟩
    obtain ⟨hc1, hf1⟩ := bcell hb1
    have hz1 := bsize hb1
    (try simp only [World.size_alloc, World.size_setCell] at hz1)
    have k1_0_0 : w1.cell? ⟨w.heap.size, 0, none⟩ = some (.int .i64 (t.W : Nat)) := by rw [hc1 _ _ (by first | (simp; done) | omega | (simp; omega))]; first | assumption | (simp [go_sem]; done) | (simp [go_sem]; done) | (simp [go_sem, *]; done)
    have k1_0_1 : w1.cell? ⟨w.heap.size, 1, none⟩ = some (.int .i64 (t.H : Nat)) := by rw [hc1 _ _ (by first | (simp; done) | omega | (simp; omega))]; first | assumption | (simp [go_sem]; done) | (simp [go_sem]; done) | (simp [go_sem, *]; done)
    have s1_0 : w.heap.size < w1.heap.size := by omega
    have k1_1_0 : w1.cell? ⟨w.heap.size + 1, 0, none⟩ = some (.int .i64 (t.x 0 : Nat)) := by rw [hc1 _ _ (by first | (simp; done) | omega | (simp; omega))]; first | assumption | (simp [go_sem]; done) | (simp [go_sem]; done) | (simp [go_sem, *]; done)
    have k1_1_1 : w1.cell? ⟨w.heap.size + 1, 1, none⟩ = some (.int .i64 (t.y 0 : Nat)) := by rw [hc1 _ _ (by first | (simp; done) | omega | (simp; omega))]; first | assumption | (simp [go_sem]; done) | (simp [go_sem]; done) | (simp [go_sem, *]; done)
    have k1_1_2 : w1.cell? ⟨w.heap.size + 1, 2, none⟩ = some (.bool r) := by rw [hc1 _ _ (by first | (simp; done) | omega | (simp; omega))]; first | assumption | (simp [go_sem]; done) | (simp [go_sem]; done) | (simp [go_sem, *]; done)
    have k1_1_3 : w1.cell? ⟨w.heap.size + 1, 3, none⟩ = some (.bool u) := by rw [hc1 _ _ (by first | (simp; done) | omega | (simp; omega))]; first | assumption | (simp [go_sem]; done) | (simp [go_sem]; done) | (simp [go_sem, *]; done)
    have s1_1 : w.heap.size + 1 < w1.heap.size := by omega
    have hB1 : Below w.heap.size w w1 := (by repeat (first | exact Below.refl _ _ | refine bl_alloc ?_ _ | refine bl_drewN ?_ _ | refine bl_trans (by assumption) ?_ | refine bl_set ?_ (by first | omega | (simp; done) | (simp; omega)) _))
    have HB1 := Lib.hid hB1
    clear hB1 hc1 hf1 hb1
    go_wp2
    go_ret2
    exact ⟨by rw [HZ.out, HO.out]; first | done | rfl, bl_alloc HB1.out _⟩
  rw [he] at HZ HO
  replace HZ := Lib.hid (HZ.out.trans (if_pos (by simp)))
  simp only [he] at HWT
  go_enter Try.func7, Try.ntmps7
  go_wp2_with fail
  refine ((HWT _).out).mono ?_
  rintro e w1 ⟨g, cap, rfl, hR, hb1⟩
  obtain ⟨hc1, hf1⟩ := bcell hb1
  have hz1 := bsize hb1
  (try simp only [World.size_alloc, World.size_setCell] at hz1)
  have k1_0_0 : w1.cell? ⟨w.heap.size, 0, none⟩ = some (.int .i64 (t.W : Nat)) := by rw [hc1 _ _ (by first | (simp; done) | omega | (simp; omega))]; first | assumption | (simp [go_sem]; done) | (simp [go_sem]; done) | (simp [go_sem, *]; done)
  have k1_0_1 : w1.cell? ⟨w.heap.size, 1, none⟩ = some (.int .i64 (t.H : Nat)) := by rw [hc1 _ _ (by first | (simp; done) | omega | (simp; omega))]; first | assumption | (simp [go_sem]; done) | (simp [go_sem]; done) | (simp [go_sem, *]; done)
  have s1_0 : w.heap.size < w1.heap.size := by omega
  have k1_1_0 : w1.cell? ⟨w.heap.size + 1, 0, none⟩ = some (.int .i64 (t.x 0 : Nat)) := by rw [hc1 _ _ (by first | (simp; done) | omega | (simp; omega))]; first | assumption | (simp [go_sem]; done) | (simp [go_sem]; done) | (simp [go_sem, *]; done)
  have k1_1_1 : w1.cell? ⟨w.heap.size + 1, 1, none⟩ = some (.int .i64 (t.y 0 : Nat)) := by rw [hc1 _ _ (by first | (simp; done) | omega | (simp; omega))]; first | assumption | (simp [go_sem]; done) | (simp [go_sem]; done) | (simp [go_sem, *]; done)
  have k1_1_2 : w1.cell? ⟨w.heap.size + 1, 2, none⟩ = some (.bool r) := by rw [hc1 _ _ (by first | (simp; done) | omega | (simp; omega))]; first | assumption | (simp [go_sem]; done) | (simp [go_sem]; done) | (simp [go_sem, *]; done)
  have k1_1_3 : w1.cell? ⟨w.heap.size + 1, 3, none⟩ = some (.bool u) := by rw [hc1 _ _ (by first | (simp; done) | omega | (simp; omega))]; first | assumption | (simp [go_sem]; done) | (simp [go_sem]; done) | (simp [go_sem, *]; done)
  have s1_1 : w.heap.size + 1 < w1.heap.size := by omega
  have hB1 : Below w.heap.size w w1 := (by repeat (first | exact Below.refl _ _ | refine bl_alloc ?_ _ | refine bl_drewN ?_ _ | refine bl_trans (by assumption) ?_ | refine bl_set ?_ (by first | omega | (simp; done) | (simp; omega)) _))
  have HB1 := Lib.hid hB1
  clear hB1 hc1 hf1 hb1
  have R0 := Lib.hid hR
  clear hR
  have HBp2 := HB1
  go_wp2_with fail
  refine ((timesAt OK.out g cap n true hn1 (by omega) _ _ (R0.out.keep (by repeat (first | exact Below.refl _ _ | refine bl_alloc ?_ _ | refine bl_drewN ?_ _ | refine bl_trans (by assumption) ?_ | refine bl_set ?_ (by first | omega | (simp; done) | (simp; omega)) _))))).mono ?_
  rintro e w2 ⟨m, K, es, rfl, hm9, hPM, hb2⟩
  obtain ⟨hc2, hf2⟩ := bcell hb2
  have hz2 := bsize hb2
  (try simp only [World.size_alloc, World.size_setCell] at hz2)
  have k2_0_0 : w2.cell? ⟨w.heap.size, 0, none⟩ = some (.int .i64 (t.W : Nat)) := by rw [hc2 _ _ (by first | (simp; done) | omega | (simp; omega))]; first | assumption | (simp [go_sem]; done) | (simp [go_sem, k1_0_0, k1_0_1, k1_1_0, k1_1_1, k1_1_2, k1_1_3]; done) | (simp [go_sem, *]; done)
  have k2_0_1 : w2.cell? ⟨w.heap.size, 1, none⟩ = some (.int .i64 (t.H : Nat)) := by rw [hc2 _ _ (by first | (simp; done) | omega | (simp; omega))]; first | assumption | (simp [go_sem]; done) | (simp [go_sem, k1_0_0, k1_0_1, k1_1_0, k1_1_1, k1_1_2, k1_1_3]; done) | (simp [go_sem, *]; done)
  have s2_0 : w.heap.size < w2.heap.size := by omega
  have k2_1_0 : w2.cell? ⟨w.heap.size + 1, 0, none⟩ = some (.int .i64 (t.x 0 : Nat)) := by rw [hc2 _ _ (by first | (simp; done) | omega | (simp; omega))]; first | assumption | (simp [go_sem]; done) | (simp [go_sem, k1_0_0, k1_0_1, k1_1_0, k1_1_1, k1_1_2, k1_1_3]; done) | (simp [go_sem, *]; done)
  have k2_1_1 : w2.cell? ⟨w.heap.size + 1, 1, none⟩ = some (.int .i64 (t.y 0 : Nat)) := by rw [hc2 _ _ (by first | (simp; done) | omega | (simp; omega))]; first | assumption | (simp [go_sem]; done) | (simp [go_sem, k1_0_0, k1_0_1, k1_1_0, k1_1_1, k1_1_2, k1_1_3]; done) | (simp [go_sem, *]; done)
  have k2_1_2 : w2.cell? ⟨w.heap.size + 1, 2, none⟩ = some (.bool r) := by rw [hc2 _ _ (by first | (simp; done) | omega | (simp; omega))]; first | assumption | (simp [go_sem]; done) | (simp [go_sem, k1_0_0, k1_0_1, k1_1_0, k1_1_1, k1_1_2, k1_1_3]; done) | (simp [go_sem, *]; done)
  have k2_1_3 : w2.cell? ⟨w.heap.size + 1, 3, none⟩ = some (.bool u) := by rw [hc2 _ _ (by first | (simp; done) | omega | (simp; omega))]; first | assumption | (simp [go_sem]; done) | (simp [go_sem, k1_0_0, k1_0_1, k1_1_0, k1_1_1, k1_1_2, k1_1_3]; done) | (simp [go_sem, *]; done)
  have s2_1 : w.heap.size + 1 < w2.heap.size := by omega
  have k2_2_0 : w2.cell? ⟨w1.heap.size + 1, 0, none⟩ = some (.int .i64 (t.x 0 : Nat)) := by rw [hc2 _ _ (by first | (simp; done) | omega | (simp; omega))]; first | assumption | (simp [go_sem]; done) | (simp [go_sem, k1_0_0, k1_0_1, k1_1_0, k1_1_1, k1_1_2, k1_1_3]; done) | (simp [go_sem, *]; done)
  have k2_2_1 : w2.cell? ⟨w1.heap.size + 1, 1, none⟩ = some (.int .i64 (t.y 0 : Nat)) := by rw [hc2 _ _ (by first | (simp; done) | omega | (simp; omega))]; first | assumption | (simp [go_sem]; done) | (simp [go_sem, k1_0_0, k1_0_1, k1_1_0, k1_1_1, k1_1_2, k1_1_3]; done) | (simp [go_sem, *]; done)
  have s2_2 : w1.heap.size + 1 < w2.heap.size := by omega
  have hB2 : Below w.heap.size w w2 := (by repeat (first | exact Below.refl _ _ | exact HB1.out | refine bl_alloc ?_ _ | refine bl_drewN ?_ _ | refine bl_trans (by assumption) ?_ | refine bl_set ?_ (by first | omega | (simp; done) | (simp; omega)) _))
  have HB2 := Lib.hid hB2
  clear hB2 hc2 hf2 hb2 k1_0_0 k1_0_1 k1_1_0 k1_1_1 k1_1_2 k1_1_3
  have HPM := Lib.hid hPM
  clear hPM
  have hmlt := HPM.out.heap
  go_wp2_with (at_range; refine wpList_range_own _ rfl _ 44 rfl 43 3 keyedP Try.underlying44 pE m n (.map es) rfl HPM.out.own ?_; intro w3 hrg0 hg0 hs0)
  skip
  obtain ⟨hc3, hf3⟩ := bcell (only_below hg0)
  have hz3 : w3.heap.size = w2.heap.size + 1 := hs0
  have k3_0_0 : w3.cell? ⟨w.heap.size, 0, none⟩ = _ := (hc3 _ _ (by omega)).trans k2_0_0
  have k3_0_1 : w3.cell? ⟨w.heap.size, 1, none⟩ = _ := (hc3 _ _ (by omega)).trans k2_0_1
  have k3_2_0 : w3.cell? ⟨w1.heap.size + 1, 0, none⟩ = _ := (hc3 _ _ (by omega)).trans k2_2_0
  have k3_2_1 : w3.cell? ⟨w1.heap.size + 1, 1, none⟩ = _ := (hc3 _ _ (by omega)).trans k2_2_1
  have HB3 := Lib.hid (bl_trans (only_below hg0) HB2.out)
  have HRG := Lib.hid hrg0
  have hcc : ccN t n ≤ 3721 := Nat.le_trans List.countP_le_length (by rw [List.length_range]; exact Nat.mul_le_mul (Nat.add_le_add_right OK.out.2.2.1 1) (Nat.add_le_add_right OK.out.2.2.2 1))
  have HALL := Lib.hid (restN_all OK.out HPM.out)
  clear hg0 hs0 hc3 hf3 hrg0 k2_0_0 k2_0_1 k2_1_0 k2_1_1 k2_1_2 k2_1_3 k2_2_0 k2_2_1
  generalize hrb : w2.heap.size = rb at *
  go_frame
  go_loopw [9] (fun cr wr => ∃ (left : Lit → Bool) (cnt c : Nat), wr.ranges Try.prog 43 pE m rb n (.map es) left cnt ∧ cr = .int .i64 (c : Int) ∧ c + restN t n K left = ccN t n ∧
    (wr.cell? ⟨w.heap.size, 0, none⟩ = some (.int .i64 (t.W : Nat)) ∧ wr.cell? ⟨w.heap.size, 1, none⟩ = some (.int .i64 (t.H : Nat)) ∧ wr.cell? ⟨w1.heap.size + 1, 0, none⟩ = some (.int .i64 (t.x 0 : Nat)) ∧ wr.cell? ⟨w1.heap.size + 1, 1, none⟩ = some (.int .i64 (t.y 0 : Nat))) ∧ Below w.heap.size w wr ∧ rb < wr.heap.size) (fun _ wr => wr.rangeLeft m rb)
  case atStart => exact ⟨_, _, 0, HRG.out, rfl, by rw [Nat.zero_add]; exact HALL.out, ⟨k3_0_0, k3_0_1, k3_2_0, k3_2_1⟩, HB3.out, by omega⟩
  case round =>
    obtain ⟨left, cnt, c, hrg, rfl, hc, ⟨d1, d2, d3, d4⟩, hW, hsz⟩ := hrel
    have HRG1 := Lib.hid hrg
    have HC := Lib.hid hc
    have HW1 := Lib.hid hW
    have hcl : c ≤ 3721 := by omega
    clear hc hW hrg
    go_wp2_with (at_next; refine wpList_next_ranges _ rfl _ rfl 43 keyedP pE (fun v : Value => v) (fun v : Value => v) (fun key kl _ => ⟨key, rfl⟩) (fun v y _ => ⟨v, rfl⟩) m rb n (.map es) left cnt rfl HRG1.out ?_ ?_)
    · intro hc0 hl0
      have HF := Lib.hid (show c = ccN t n by rw [← HC.out, restN_none hl0, Nat.add_zero])
      clear hc0 hl0
      go_wp2
      go_ret2
      exact ⟨by rw [HZ.out, HO.out, HF.out]; first | done | rfl, HW1.out⟩
    · intro key v kl y1 y2 w4 cnt' hkey hlk hv hat hrg1 hlt hg1 hs1 hen
      obtain ⟨q, hq, rfl, rfl, rfl⟩ := entry_of (y := (y1, y2)) OK.out HPM.out hkey hv hat
      have hsm := HPM.out.small_ OK.out q hq
      have HST := Lib.hid (restN_strike (t := t) (n := n) (HPM.out.small_ OK.out) HPM.out.nd hq hlk)
      have hen' : (Instr.entry (.pointer (some ⟨rb, 0, none⟩))).run Try.prog w4 = .ok (.tuple #[.agg #[.int .i64 (q.1 : Nat), .int .i64 (q.2 : Nat)], .int .i64 (timesUp (plAt t) n q : Nat)]) w4 := hen
      have e1 : w4.cell? ⟨w.heap.size, 0, none⟩ = some (.int .i64 (t.W : Nat)) := by rw [grown_cell hg1 (by omega) (by omega)]; exact d1
      have e2 : w4.cell? ⟨w.heap.size, 1, none⟩ = some (.int .i64 (t.H : Nat)) := by rw [grown_cell hg1 (by omega) (by omega)]; exact d2
      have e3 : w4.cell? ⟨w1.heap.size + 1, 0, none⟩ = some (.int .i64 (t.x 0 : Nat)) := by rw [grown_cell hg1 (by omega) (by omega)]; exact d3
      have e4 : w4.cell? ⟨w1.heap.size + 1, 1, none⟩ = some (.int .i64 (t.y 0 : Nat)) := by rw [grown_cell hg1 (by omega) (by omega)]; exact d4
      have HRG2 := Lib.hid hrg1
      have HW2 := Lib.hid (HW1.out.grown hg1 HW1.out.size (fun q e => by simp only [Option.some.injEq] at e; omega))
      have HLT := Lib.hid hlt
      have HSZ := Lib.hid (show rb < w4.heap.size by rw [hs1]; exact hsz)
      have htm : timesUp (plAt t) n q ≤ 7201 := Nat.le_trans (timesUp_le _ _ _) (by omega)
      have HLE := Lib.hid (show w4.rangeLeft m rb = cnt' from hrg1.left_eq)
      have HLO := Lib.hid (HRG1.out.left_eq)
      have hCR : crP t n q = (decide (1 < timesUp (plAt t) n q) && (!(q == plAt t 0) && (!(q.1 == 0 || q.1 == t.W) && !(q.2 == 0 || q.2 == t.H)))) := rfl
      obtain ⟨q1, q2⟩ := q
      have hne : ((q1, q2) == plAt t 0) = (q1 == t.x 0 && q2 == t.y 0) := by rw [Bool.eq_iff_iff]; simp [plAt]
      rw [hne] at hCR
      have HCR := Lib.hid hCR
      clear hkey hlk hv hat hrg1 hlt hg1 hs1 hen d1 d2 d3 d4 hCR hne hq
      generalize timesUp (plAt t) n (q1, q2) = tm at *
      have hs4 : rb < w4.heap.size := HSZ.out
      have s4_0 : w.heap.size < w4.heap.size := by omega
      have s4_1 : w1.heap.size + 1 < w4.heap.size := by omega
      have o1 : (w4.alloc (.cells #[.int .i64 (q1 : Nat), .int .i64 (q2 : Nat)] 43)).cell? ⟨w.heap.size, 0, none⟩ = some (.int .i64 (t.W : Nat)) := by rw [(bcell (bl_alloc (Below.refl _ w4) _)).1 _ _ s4_0]; exact e1
      have o2 : (w4.alloc (.cells #[.int .i64 (q1 : Nat), .int .i64 (q2 : Nat)] 43)).cell? ⟨w.heap.size, 1, none⟩ = some (.int .i64 (t.H : Nat)) := by rw [(bcell (bl_alloc (Below.refl _ w4) _)).1 _ _ s4_0]; exact e2
      have o3 : (w4.alloc (.cells #[.int .i64 (q1 : Nat), .int .i64 (q2 : Nat)] 43)).cell? ⟨w1.heap.size + 1, 0, none⟩ = some (.int .i64 (t.x 0 : Nat)) := by rw [(bcell (bl_alloc (Below.refl _ w4) _)).1 _ _ s4_1]; exact e3
      have o4 : (w4.alloc (.cells #[.int .i64 (q1 : Nat), .int .i64 (q2 : Nat)] 43)).cell? ⟨w1.heap.size + 1, 1, none⟩ = some (.int .i64 (t.y 0 : Nat)) := by rw [(bcell (bl_alloc (Below.refl _ w4) _)).1 _ _ s4_1]; exact e4
      have HO4 := Lib.hid (And.intro o1 (And.intro o2 (And.intro o3 o4)))
      clear o1 o2 o3 o4
      have hEQ : ∀ W : World, (Op.equalIn 10000 43 (.agg #[.int .i64 (q1 : Nat), .int .i64 (q2 : Nat)]) (.agg #[.int .i64 (t.x 0 : Nat), .int .i64 (t.y 0 : Nat)])).run Try.prog W = .ok (decide ((q1, q2) = (t.x 0, t.y 0))) W := fun W => eq_agg W _ _ _ _ hsm (show small (t.x 0, t.y 0) from plAt_small OK.out 0)
      generalize hbx : (q1 == 0 || q1 == t.W) = bx at *
      generalize hby : (q2 == 0 || q2 == t.H) = by_ at *
      have HBX := Lib.hid hbx
      have HBY := Lib.hid hby
      clear hbx hby
      simp only [pk]
      by_cases g1 : 1 < tm
      · by_cases g2 : q1 = t.x 0 ∧ q2 = t.y 0
        · obtain ⟨rfl, rfl⟩ := g2
          simp only [decide_true] at hEQ
          have HF := Lib.hid (show crP t n (t.x 0, t.y 0) = false by rw [HCR.out]; simp)
          skip
          go_wp2_with (go_at_call 13; refine (isAtEnd_nat _ _ _).mono ?_; rintro e' w' ⟨rfl, rfl⟩; first | rw [HBX.out] | rw [HBY.out])
          go_roundw
          case rel => first | exact ⟨_, cnt', c, HRG2.out.alloc _, by first | rfl | go_num, by have := HC.out; rw [HST.out, HF.out] at this; simpa using this, HO4.out, bl_alloc HW2.out _, by simp only [World.size_alloc]; omega⟩ | exact ⟨_, ⟨cnt', HRG2.out.alloc _⟩, c, by first | rfl | go_num, by have := HC.out; rw [HST.out, HF.out] at this; simpa using this, HO4.out.1, HO4.out.2.1, HO4.out.2.2.1, HO4.out.2.2.2, bl_alloc HW2.out _, by simp; omega⟩ | exact ⟨_, ⟨cnt', HRG2.out.alloc _⟩, c, by first | rfl | go_num, by have := HC.out; rw [HST.out, HF.out] at this; simpa using this, HO4.out, bl_alloc HW2.out _, by simp; omega⟩
          case measure => rw [(HRG2.out.alloc _).left_eq, HLO.out]; exact HLT.out
        · have g3 : decide ((q1, q2) = (t.x 0, t.y 0)) = false := by simpa using g2
          simp only [g3] at hEQ
          have HNE := Lib.hid (show (q1 == t.x 0 && q2 == t.y 0) = false by simpa using g2)
          cases bx
          · cases by_
            · have HF := Lib.hid (show crP t n (q1, q2) = true by rw [HCR.out, HNE.out]; simp [g1])
              go_wp2_with (go_at_call 13; refine (isAtEnd_nat _ _ _).mono ?_; rintro e' w' ⟨rfl, rfl⟩; first | rw [HBX.out] | rw [HBY.out])
              go_roundw
              case rel => first | exact ⟨_, cnt', c + 1, HRG2.out.alloc _, by first | rfl | go_num, by have := HC.out; rw [HST.out, HF.out] at this; simp at this; omega, HO4.out, bl_alloc HW2.out _, by simp only [World.size_alloc]; omega⟩ | exact ⟨_, ⟨cnt', HRG2.out.alloc _⟩, c + 1, by first | rfl | go_num, by have := HC.out; rw [HST.out, HF.out] at this; simp at this; omega, HO4.out.1, HO4.out.2.1, HO4.out.2.2.1, HO4.out.2.2.2, bl_alloc HW2.out _, by simp; omega⟩ | exact ⟨_, ⟨cnt', HRG2.out.alloc _⟩, c + 1, by first | rfl | go_num, by have := HC.out; rw [HST.out, HF.out] at this; simp at this; omega, HO4.out, bl_alloc HW2.out _, by simp; omega⟩
              case measure => rw [(HRG2.out.alloc _).left_eq, HLO.out]; exact HLT.out
            · have HF := Lib.hid (show crP t n (q1, q2) = false by rw [HCR.out]; simp)
              go_wp2_with (go_at_call 13; refine (isAtEnd_nat _ _ _).mono ?_; rintro e' w' ⟨rfl, rfl⟩; first | rw [HBX.out] | rw [HBY.out])
              go_roundw
              case rel => first | exact ⟨_, cnt', c, HRG2.out.alloc _, by first | rfl | go_num, by have := HC.out; rw [HST.out, HF.out] at this; simpa using this, HO4.out, bl_alloc HW2.out _, by simp only [World.size_alloc]; omega⟩ | exact ⟨_, ⟨cnt', HRG2.out.alloc _⟩, c, by first | rfl | go_num, by have := HC.out; rw [HST.out, HF.out] at this; simpa using this, HO4.out.1, HO4.out.2.1, HO4.out.2.2.1, HO4.out.2.2.2, bl_alloc HW2.out _, by simp; omega⟩ | exact ⟨_, ⟨cnt', HRG2.out.alloc _⟩, c, by first | rfl | go_num, by have := HC.out; rw [HST.out, HF.out] at this; simpa using this, HO4.out, bl_alloc HW2.out _, by simp; omega⟩
              case measure => rw [(HRG2.out.alloc _).left_eq, HLO.out]; exact HLT.out
          · have HF := Lib.hid (show crP t n (q1, q2) = false by rw [HCR.out]; simp)
            go_wp2_with (go_at_call 13; refine (isAtEnd_nat _ _ _).mono ?_; rintro e' w' ⟨rfl, rfl⟩; first | rw [HBX.out] | rw [HBY.out])
            go_roundw
            case rel => first | exact ⟨_, cnt', c, HRG2.out.alloc _, by first | rfl | go_num, by have := HC.out; rw [HST.out, HF.out] at this; simpa using this, HO4.out, bl_alloc HW2.out _, by simp only [World.size_alloc]; omega⟩ | exact ⟨_, ⟨cnt', HRG2.out.alloc _⟩, c, by first | rfl | go_num, by have := HC.out; rw [HST.out, HF.out] at this; simpa using this, HO4.out.1, HO4.out.2.1, HO4.out.2.2.1, HO4.out.2.2.2, bl_alloc HW2.out _, by simp; omega⟩ | exact ⟨_, ⟨cnt', HRG2.out.alloc _⟩, c, by first | rfl | go_num, by have := HC.out; rw [HST.out, HF.out] at this; simpa using this, HO4.out, bl_alloc HW2.out _, by simp; omega⟩
            case measure => rw [(HRG2.out.alloc _).left_eq, HLO.out]; exact HLT.out
      · have HF := Lib.hid (show crP t n (q1, q2) = false by rw [HCR.out]; simp [g1])
        go_wp2_with (go_at_call 13; refine (isAtEnd_nat _ _ _).mono ?_; rintro e' w' ⟨rfl, rfl⟩; first | rw [HBX.out] | rw [HBY.out])
        go_roundw
        case rel => first | exact ⟨_, cnt', c, HRG2.out.alloc _, by first | rfl | go_num, by have := HC.out; rw [HST.out, HF.out] at this; simpa using this, HO4.out, bl_alloc HW2.out _, by simp only [World.size_alloc]; omega⟩ | exact ⟨_, ⟨cnt', HRG2.out.alloc _⟩, c, by first | rfl | go_num, by have := HC.out; rw [HST.out, HF.out] at this; simpa using this, HO4.out.1, HO4.out.2.1, HO4.out.2.2.1, HO4.out.2.2.2, bl_alloc HW2.out _, by simp; omega⟩ | exact ⟨_, ⟨cnt', HRG2.out.alloc _⟩, c, by first | rfl | go_num, by have := HC.out; rw [HST.out, HF.out] at this; simpa using this, HO4.out, bl_alloc HW2.out _, by simp; omega⟩
        case measure => rw [(HRG2.out.alloc _).left_eq, HLO.out]; exact HLT.out
end Go.Proofs.Ytgpfnbajjephpaa
