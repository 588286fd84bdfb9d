/- Poles read from a text: what the program reads and what the model reads. -/
import Derived.Test.YtlingdlhdkkfpaaDoorPL2
import Derived.Test.YtlingdlhdkkfpaaDoorT4
import Derived.Test.YtlingdlhdkkfpaaDoorT6
import Derived.Test.YtlingdlhdkkfpaaDoorP2
namespace Go.Proofs.YtlingdlhdkkfpaaDoor
open Go.RowKit
set_option linter.unusedVariables false
set_option linter.unusedSimpArgs false
def cutA (s : ByteArray) (b : UInt8) : ByteArray := ⟨(Lib.cut s.data.toList [b]).1.toArray⟩
def cutB (s : ByteArray) (b : UInt8) : ByteArray := ⟨(Lib.cut s.data.toList [b]).2.1.toArray⟩
theorem cut_size (s : ByteArray) (b : UInt8) : (cutA s b).size ≤ s.size ∧ (cutB s b).size ≤ s.size := by
  have hl : s.data.toList.length = s.size := by rw [Array.length_toList]; rfl
  have h1 : (cutA s b).size = (Lib.cut s.data.toList [b]).1.length := rfl
  have h2 : (cutB s b).size = (Lib.cut s.data.toList [b]).2.1.length := rfl
  rw [h1, h2, ← hl]
  unfold Lib.cut
  split
  · simp only [List.length_take, List.length_drop]; omega
  · simp
theorem pn_nil : pnB ⟨#[]⟩ = false := by
  cases h : pnB ⟨#[]⟩
  · rfl
  · have := (pn_sound h).2
    exact absurd this.symm (digits_ne _)
theorem cut_key (t : ByteArray) (b : UInt8) (hne : (cutB t b).data.toList ≠ []) : t.data.toList = (cutA t b).data.toList ++ b :: (cutB t b).data.toList := by
  have ha : (cutA t b).data.toList = (Lib.cut t.data.toList [b]).1 := by simp [cutA]
  have hb : (cutB t b).data.toList = (Lib.cut t.data.toList [b]).2.1 := by simp [cutB]
  rw [ha, hb]
  rw [hb] at hne
  rcases hq : Lib.cut t.data.toList [b] with ⟨x, y, f⟩
  rw [hq] at hne
  cases f
  · exact absurd (cut_lost hq).2 hne
  · exact cut_found hq
def MaxL (w : World) : Prop := ∃ m, w.cell? ⟨0, 0, none⟩ = some (.int .i64 m)
theorem MaxL.below {w w' : World} (h : MaxL w) (hb : Below w.heap.size w w') : MaxL w' := by
  obtain ⟨m, hm⟩ := h
  have hlt : 0 < w.heap.size := by
    by_cases c : 0 < w.heap.size
    · exact c
    · simp [World.cell?, Array.getElem?_eq_none (Nat.le_of_not_lt c)] at hm
  exact ⟨m, by rw [(bcell hb).1 _ _ hlt]; exact hm⟩
theorem cut_max (s : ByteArray) (b : UInt8) (hs : s.size ≤ 1048576) {w0 w : World} (h : MaxL w0) (hb : Below w0.heap.size w0 w) :
    Calls Tryd.prog 18 #[.string s, .string ⟨#[b]⟩] w fun e w' => e = .returned (.tuple #[.string (cutA s b), .string (cutB s b), .bool (Lib.cut s.data.toList [b]).2.2]) ∧ ∃ n, w' = w.drewN n := by
  obtain ⟨m, hm⟩ := h.below hb
  exact Tryd.strings_Cut s ⟨#[b]⟩ m w (by omega) hm
theorem parse_at (s : ByteArray) (hs : s.size ≤ 1048576) {w0 w : World} (T : Tab w0) (E : Errs w0) (hb : Below w0.heap.size w0 w) :
    Calls Tryd.prog 19 #[.string s] w fun e w' => e = .returned (.tuple #[.int .i64 (pnV s), .bool (pnB s)]) ∧ Below w.heap.size w w' := parseNumber_any s hs w (T.below hb) (E.below hb)

theorem lastP_congr {f g : Nat → Int} : ∀ k, (∀ i, i < k * 2 → f i = g i) → lastP f k = lastP g k
  | 0, _ => rfl
  | k + 1, h => h (k * 2) (by omega)
theorem rowTo_congr {f g : Nat → Int} : ∀ k, (∀ i, i < k * 2 → f i = g i) → rowTo f k = rowTo g k
  | 0, _ => rfl
  | k + 1, h => by
    have h1 := rowTo_congr k fun i hi => h i (by omega)
    have h2 := lastP_congr k fun i hi => h i (by omega)
    simp only [rowTo, h1, h2, h (k * 2) (by omega), h (k * 2 + 1) (by omega)]
theorem okRow_congr {n : Nat} {f g : Nat → Int} (h : ∀ i, i < n * 2 → f i = g i) : okRow n f = okRow n g := by simp only [okRow, rowTo_congr n h]
theorem okRow_true {n : Nat} {f : Nat → Int} (h : okRow n f = true) : (1 ≤ n ∧ n ≤ 6) ∧ ∀ i, i < n → okP (f (i * 2)) (f (i * 2 + 1)) = true := by
  simp only [okRow, Bool.and_eq_true] at h
  have := within_true h.1
  exact ⟨by omega, fun i hi => (rowTo_at h.2 hi).1⟩
def iOK (p : ByteArray) : Bool := pnB (cutA p 124) && pnB (cutB p 124)
def iA (p : ByteArray) : Int := pnV (cutA p 124)
def iB (p : ByteArray) : Int := pnV (cutB p 124)
def sOK (p : List UInt8) : Bool := (pcs 124 p).length == 2
def sA (p : List UInt8) : Int := rdV ((pcs 124 p).getD 0 [])
def sB (p : List UInt8) : Int := rdV ((pcs 124 p).getD 1 [])
theorem no_bar (n : Nat) {b : UInt8} (h : b.toNat < 48 ∨ 57 < b.toNat) : b ∉ Lib.decDigits n := fun hb => by
  have := digits_of n b hb
  omega
/-- a piece with two numbers -/
def Two (p : List UInt8) (a b : Nat) : Prop := p = Lib.decDigits a ++ 124 :: Lib.decDigits b
theorem two_pcs {p : List UInt8} {a b : Nat} (h : Two p a b) : pcs 124 p = [Lib.decDigits a, Lib.decDigits b] := by
  rw [h, pcs_cons (no_bar a (by decide)), pcs_one (no_bar b (by decide))]
theorem two_i {p : ByteArray} {a b : Nat} (h : Two p.data.toList a b) (ha : a < 1000000) (hb : b < 1000000) : iOK p = true ∧ iA p = a ∧ iB p = b := by
  have q1 := cut_hit (y := Lib.decDigits b) (no_bar a (b := 124) (by decide))
  rw [← h] at q1
  have a1 : (cutA p 124).data.toList = Lib.decDigits a := by simp [cutA, q1]
  have b1 : (cutB p 124).data.toList = Lib.decDigits b := by
    show (Lib.cut p.data.toList [124]).2.1 = _
    rw [q1]
  obtain ⟨r1, s1⟩ := pn_complete ha a1
  obtain ⟨r2, s2⟩ := pn_complete hb b1
  exact ⟨by simp [iOK, r1, r2], s1, s2⟩
theorem two_s {p : List UInt8} {a b : Nat} (h : Two p a b) (ha : a < 1000000) (hb : b < 1000000) : sOK p = true ∧ sA p = a ∧ sB p = b := by
  have e := two_pcs h
  refine ⟨by simp [sOK, e], ?_, ?_⟩
  · simp only [sA, e]; exact rdV_digits a ha
  · simp only [sB, e]; exact rdV_digits b hb
theorem two_of_i {p : ByteArray} (h : iOK p = true) : ∃ a b : Nat, Two p.data.toList a b ∧ iA p = a ∧ iB p = b := by
  simp only [iOK, Bool.and_eq_true] at h
  obtain ⟨p1, e1⟩ := pn_sound h.1
  obtain ⟨p2, e2⟩ := pn_sound h.2
  have hk := cut_key p 124 (by rw [e2]; exact digits_ne _)
  rw [e1, e2] at hk
  refine ⟨_, _, hk, ?_, ?_⟩
  · unfold iA; omega
  · unfold iB; omega
theorem rdV_sound {l : List UInt8} (h : 0 ≤ rdV l) : ∃ m : Nat, rdV l = m ∧ l = Lib.decDigits m := by
  unfold rdV at h ⊢
  split at h
  · omega
  · rename_i hw
    split at h
    · omega
    · rename_i hz
      rw [if_neg hw, if_neg hz]
      split at h
      · rename_i m hm
        have hne : l ≠ [] := fun e => by subst e; exact hw (by decide)
        have hlen : 1 ≤ l.length := List.length_pos_iff.2 hne
        refine ⟨m, by simp [hm], ?_⟩
        exact (digits_read l.length l m rfl hne (fun e => by
          rcases Nat.lt_or_ge 1 l.length with c | c
          · exact absurd ⟨e, c⟩ hz
          · omega) hm).symm
      · omega
theorem two_of_s {p : List UInt8} (h : sOK p = true) (ha : 0 ≤ sA p) (hb : 0 ≤ sB p) : ∃ a b : Nat, Two p a b ∧ sA p = a ∧ sB p = b := by
  simp only [sOK, beq_iff_eq] at h
  match hq : pcs 124 p, h with
  | [x, y], _ =>
    have hg := pcs_glue 124 p
    rw [hq] at hg
    simp only [glue] at hg
    have e1 : sA p = rdV x := by simp [sA, hq]
    have e2 : sB p = rdV y := by simp [sB, hq]
    rw [e1] at ha
    rw [e2] at hb
    obtain ⟨a, h1, rfl⟩ := rdV_sound ha
    obtain ⟨b, h2, rfl⟩ := rdV_sound hb
    exact ⟨a, b, hg.symm, by rw [e1, h1], by rw [e2, h2]⟩
def fI (Q : List ByteArray) (i : Nat) : Int := if i % 2 = 0 then iA (Q.getD (i / 2) ⟨#[]⟩) else iB (Q.getD (i / 2) ⟨#[]⟩)
def fS (P : List (List UInt8)) (i : Nat) : Int := if i % 2 = 0 then sA (P.getD (i / 2) []) else sB (P.getD (i / 2) [])
theorem fI_0 (Q : List ByteArray) (j : Nat) : fI Q (j * 2) = iA (Q.getD j ⟨#[]⟩) := by
  unfold fI; rw [if_pos (by omega), show j * 2 / 2 = j by omega]
theorem fI_1 (Q : List ByteArray) (j : Nat) : fI Q (j * 2 + 1) = iB (Q.getD j ⟨#[]⟩) := by
  unfold fI; rw [if_neg (by omega), show (j * 2 + 1) / 2 = j by omega]
theorem fS_0 (P : List (List UInt8)) (j : Nat) : fS P (j * 2) = sA (P.getD j []) := by
  unfold fS; rw [if_pos (by omega), show j * 2 / 2 = j by omega]
theorem fS_1 (P : List (List UInt8)) (j : Nat) : fS P (j * 2 + 1) = sB (P.getD j []) := by
  unfold fS; rw [if_neg (by omega), show (j * 2 + 1) / 2 = j by omega]
def QQ (s : ByteArray) : List ByteArray := Lib.splitB ⟨#[44]⟩ 0 (min 7 (s.size + 1) - 1) s
def PP (s : ByteArray) : List (List UInt8) := pcs 44 s.data.toList
def okRI (s : ByteArray) : Bool := (QQ s).all iOK && okRow (QQ s).length (fI (QQ s))
def okRS (s : ByteArray) : Bool := decide (s.size ≤ 50) && ((PP s).all sOK && okRow (PP s).length (fS (PP s)))
theorem digits_le3 {n : Nat} (h : n < 1000) : (Lib.decDigits n).length ≤ 3 := digits_len 2 n h
theorem glue_len {b : UInt8} {c : Nat} : ∀ {P : List (List UInt8)}, (∀ p ∈ P, p.length ≤ c) → (glue b P).length + 1 ≤ (c + 1) * P.length + 1
  | [], _ => by simp [glue]
  | [x], h => by have := h x (by simp); simp [glue]; omega
  | x :: y :: r, h => by
    have h1 := glue_len (b := b) (P := y :: r) fun p hp => h p (List.mem_cons_of_mem _ hp)
    have h2 := h x (by simp)
    rw [glue, List.length_append, List.length_cons]
    simp only [List.length_cons] at h1 ⊢
    rw [Nat.mul_add]
    omega
/-- the same pieces: what one reads the other one reads -/
theorem same_pieces {Q : List ByteArray} {P : List (List UInt8)} (e : Q.map (·.data.toList) = P) :
    ((Q.all iOK && okRow Q.length (fI Q)) = (P.all sOK && okRow P.length (fS P))) ∧ ((Q.all iOK && okRow Q.length (fI Q)) = true → ∀ i, i < Q.length * 2 → fI Q i = fS P i) ∧
      ((Q.all iOK && okRow Q.length (fI Q)) = true → ∀ p ∈ P, p.length ≤ 7) := by
  have hlen : P.length = Q.length := by rw [← e, List.length_map]
  have hat : ∀ j, j < Q.length → P.getD j [] = (Q.getD j ⟨#[]⟩).data.toList := fun j hj => by
    rw [← e]
    simp [List.getD, hj]
  have vals : ∀ {i : Nat}, i < Q.length * 2 → (∀ j, j < Q.length → iA (Q.getD j ⟨#[]⟩) = sA (P.getD j []) ∧ iB (Q.getD j ⟨#[]⟩) = sB (P.getD j [])) → fI Q i = fS P i := fun {i} hi h => by
    obtain ⟨h1, h2⟩ := h (i / 2) (by omega)
    unfold fI fS
    split
    · exact h1
    · exact h2
  have fwd : (Q.all iOK && okRow Q.length (fI Q)) = true → (∀ j, j < Q.length → ∃ a b : Nat, Two (P.getD j []) a b ∧ a < 1000 ∧ b < 1000 ∧ iA (Q.getD j ⟨#[]⟩) = a ∧ iB (Q.getD j ⟨#[]⟩) = b) := fun h j hj => by
    simp only [Bool.and_eq_true] at h
    obtain ⟨h1, h2⟩ := h
    obtain ⟨hn, hok⟩ := okRow_true h2
    have hi : iOK (Q.getD j ⟨#[]⟩) = true := by
      refine List.all_eq_true.1 h1 _ ?_
      simp [List.getD, hj]
    obtain ⟨a, b, ht, ea, eb⟩ := two_of_i hi
    have hp := hok j hj
    rw [fI_0, fI_1, ea, eb] at hp
    obtain ⟨⟨_, _⟩, _, _⟩ := okP_true hp
    exact ⟨a, b, by rw [hat j hj]; exact ht, by omega, by omega, ea, eb⟩
  have bwd : (P.all sOK && okRow P.length (fS P)) = true → (∀ j, j < Q.length → ∃ a b : Nat, Two (P.getD j []) a b ∧ a < 1000 ∧ b < 1000 ∧ sA (P.getD j []) = a ∧ sB (P.getD j []) = b) := fun h j hj => by
    simp only [Bool.and_eq_true] at h
    obtain ⟨h1, h2⟩ := h
    obtain ⟨hn, hok⟩ := okRow_true h2
    have hi : sOK (P.getD j []) = true := by
      refine List.all_eq_true.1 h1 _ ?_
      simp [List.getD, hlen, hj]
    have hp := hok j (by omega)
    rw [fS_0, fS_1] at hp
    obtain ⟨⟨_, _⟩, _, _⟩ := okP_true hp
    obtain ⟨a, b, ht, ea, eb⟩ := two_of_s hi (by omega) (by omega)
    exact ⟨a, b, ht, by omega, by omega, ea, eb⟩
  have fwd2 : (Q.all iOK && okRow Q.length (fI Q)) = true → ∀ i, i < Q.length * 2 → fI Q i = fS P i := fun h i hi => vals hi fun j hj => by
    obtain ⟨a, b, ht, ha, hb, ea, eb⟩ := fwd h j hj
    obtain ⟨_, e1, e2⟩ := two_s ht (by omega) (by omega)
    exact ⟨by rw [ea, e1], by rw [eb, e2]⟩
  refine ⟨?_, fwd2, fun h p hp => ?_⟩
  · rw [Bool.eq_iff_iff]
    constructor
    · intro h
      have hv := fwd2 h
      have h' := h
      simp only [Bool.and_eq_true] at h' ⊢
      refine ⟨List.all_eq_true.2 fun p hp => ?_, ?_⟩
      · obtain ⟨j, hj, rfl⟩ := List.getElem_of_mem hp
        obtain ⟨a, b, ht, ha, hb, _⟩ := fwd h j (by omega)
        have hg : P.getD j [] = P[j] := by simp [List.getD, hj]
        rw [hg] at ht
        exact (two_s ht (by omega) (by omega)).1
      · rw [hlen, ← okRow_congr hv]
        exact h'.2
    · intro h
      have hv : ∀ i, i < Q.length * 2 → fI Q i = fS P i := fun i hi => vals hi fun j hj => by
        obtain ⟨a, b, ht, ha, hb, ea, eb⟩ := bwd h j hj
        rw [hat j hj] at ht
        obtain ⟨_, e1, e2⟩ := two_i ht (by omega) (by omega)
        exact ⟨by rw [ea, e1], by rw [eb, e2]⟩
      have h' := h
      simp only [Bool.and_eq_true] at h' ⊢
      refine ⟨List.all_eq_true.2 fun q hq => ?_, ?_⟩
      · obtain ⟨j, hj, rfl⟩ := List.getElem_of_mem hq
        obtain ⟨a, b, ht, ha, hb, _⟩ := bwd h j hj
        rw [hat j hj] at ht
        have hg : Q.getD j ⟨#[]⟩ = Q[j] := by simp [List.getD, hj]
        rw [hg] at ht
        exact (two_i ht (by omega) (by omega)).1
      · rw [okRow_congr hv, ← hlen]
        exact h'.2
  · obtain ⟨j, hj, rfl⟩ := List.getElem_of_mem hp
    obtain ⟨a, b, ht, ha, hb, _⟩ := fwd h j (by omega)
    have hg : P.getD j [] = P[j] := by simp [List.getD, hj]
    rw [hg] at ht
    rw [ht, List.length_append, List.length_cons]
    have := digits_le3 ha
    have := digits_le3 hb
    omega
theorem same_read (s : ByteArray) : okRI s = okRS s ∧ (okRI s = true → (QQ s).length = (PP s).length ∧ ∀ i, i < (QQ s).length * 2 → fI (QQ s) i = fS (PP s) i) := by
  have hsz : s.data.toList.length = s.size := by rw [Array.length_toList]; rfl
  have hpl := pcs_len 44 s.data.toList
  by_cases hk : (PP s).length ≤ min 7 (s.size + 1) - 1 + 1
  · have e : (QQ s).map (·.data.toList) = PP s := spn_all 44 _ s hk
    obtain ⟨h1, h2, h3⟩ := same_pieces e
    have hlen : (QQ s).length = (PP s).length := by rw [← e, List.length_map]
    refine ⟨?_, fun h => ⟨hlen, h2 h⟩⟩
    have hsmall : okRI s = true → decide (s.size ≤ 50) = true := fun h => by
      have hn : (QQ s).length ≤ 6 := by
        have h' := h
        simp only [okRI, Bool.and_eq_true] at h'
        exact (okRow_true h'.2).1.2
      have hg := glue_len (b := 44) (h3 h)
      have hge : glue 44 (PP s) = s.data.toList := pcs_glue 44 _
      rw [hge, hsz, ← hlen] at hg
      simp only [decide_eq_true_eq]
      have : (7 + 1) * (QQ s).length ≤ (7 + 1) * 6 := Nat.mul_le_mul_left _ hn
      omega
    unfold okRS
    rw [← h1]
    change okRI s = (decide (s.size ≤ 50) && okRI s)
    cases hq : okRI s
    · simp
    · rw [hsmall hq]; rfl
  · have hn : (QQ s).length = min 7 (s.size + 1) - 1 + 1 := by
      have := spn_more 44 (min 7 (s.size + 1) - 1) s (by show _ < (PP s).length; omega)
      simpa [spn, QQ] using this
    have hp2 : (PP s).length ≤ s.size + 1 := by rw [← hsz]; exact hpl
    have no : ∀ {n : Nat} {f : Nat → Int}, 7 ≤ n → okRow n f = false := fun {n f} h => by
      cases hq : okRow n f
      · rfl
      · have := (okRow_true hq).1; omega
    have e1 : okRI s = false := by
      unfold okRI
      rw [no (by omega), Bool.and_false]
    have e2 : okRS s = false := by
      unfold okRS
      rw [no (n := (PP s).length) (by omega), Bool.and_false, Bool.and_false]
    exact ⟨by rw [e1, e2], fun h => by rw [e1] at h; cases h⟩
end Go.Proofs.YtlingdlhdkkfpaaDoor
