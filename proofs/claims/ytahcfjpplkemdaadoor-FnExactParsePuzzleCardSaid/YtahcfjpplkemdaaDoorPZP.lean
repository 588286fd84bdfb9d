/- Puzzles read from a text: what the program reads and what the model reads. -/
import Derived.Test.YtahcfjpplkemdaaDoorPZX
import Derived.Test.YtahcfjpplkemdaaDoorT4
import Derived.Test.YtahcfjpplkemdaaDoorT6
import Derived.Test.YtahcfjpplkemdaaDoorP2
namespace Go.Proofs.YtahcfjpplkemdaaDoor
open Go.RowKit
set_option linter.unusedVariables false
set_option linter.unusedSimpArgs false
def cutA (s : ByteArray) (b : UInt8) : ByteArray := ⟨(Lib.cut s.data.toList [b]).1.toArray⟩
def cutB (s : ByteArray) (b : UInt8) : ByteArray := ⟨(Lib.cut s.data.toList [b]).2.1.toArray⟩
def cutF (s : ByteArray) (b : UInt8) : Bool := (Lib.cut s.data.toList [b]).2.2
theorem cut_size (s : ByteArray) (b : UInt8) : (cutA s b).size ≤ s.size ∧ (cutB s b).size ≤ s.size := by
  have hl : s.data.toList.length = s.size := by rw [Array.length_toList]; rfl
  have h1 : (cutA s b).size = (Lib.cut s.data.toList [b]).1.length := rfl
  have h2 : (cutB s b).size = (Lib.cut s.data.toList [b]).2.1.length := rfl
  rw [h1, h2, ← hl]
  unfold Lib.cut
  split
  · simp only [List.length_take, List.length_drop]; omega
  · simp
theorem pn_nil : pnB ⟨#[]⟩ = false := by
  cases h : pnB ⟨#[]⟩
  · rfl
  · have := (pn_sound h).2
    exact absurd this.symm (digits_ne _)
theorem cut_flag (t : ByteArray) (b : UInt8) (h : cutF t b = true) : t.data.toList = (cutA t b).data.toList ++ b :: (cutB t b).data.toList := by
  have ha : (cutA t b).data.toList = (Lib.cut t.data.toList [b]).1 := by simp [cutA]
  have hb : (cutB t b).data.toList = (Lib.cut t.data.toList [b]).2.1 := by simp [cutB]
  rw [ha, hb]
  rcases hq : Lib.cut t.data.toList [b] with ⟨x, y, f⟩
  have hf : f = true := by unfold cutF at h; rw [hq] at h; exact h
  subst hf
  exact cut_found hq
theorem cut_key (t : ByteArray) (b : UInt8) (hne : (cutB t b).data.toList ≠ []) : t.data.toList = (cutA t b).data.toList ++ b :: (cutB t b).data.toList := by
  refine cut_flag t b ?_
  cases hf : cutF t b
  · exfalso
    apply hne
    have hb : (cutB t b).data.toList = (Lib.cut t.data.toList [b]).2.1 := by simp [cutB]
    rw [hb]
    rcases hq : Lib.cut t.data.toList [b] with ⟨x, y, f⟩
    have hf' : f = false := by unfold cutF at hf; rw [hq] at hf; exact hf
    subst hf'
    exact (cut_lost hq).2
  · rfl
theorem cut_at {t : ByteArray} {b : UInt8} {x y : List UInt8} (hx : b ∉ x) (h : t.data.toList = x ++ b :: y) : (cutA t b).data.toList = x ∧ (cutB t b).data.toList = y ∧ cutF t b = true := by
  have q := cut_hit (y := y) hx
  rw [← h] at q
  refine ⟨?_, ?_, ?_⟩
  · simp [cutA, q]
  · show (Lib.cut t.data.toList [b]).2.1 = _
    rw [q]
  · show (Lib.cut t.data.toList [b]).2.2 = _
    rw [q]
theorem no_bar (n : Nat) {b : UInt8} (h : b.toNat < 48 ∨ 57 < b.toNat) : b ∉ Lib.decDigits n := fun hb => by
  have := digits_of n b hb
  omega
/-- a clue's text -/
def tr (c : Nat × Nat × Nat) : List UInt8 := Lib.decDigits c.1 ++ 46 :: (Lib.decDigits c.2.1 ++ 46 :: Lib.decDigits c.2.2)
def small (c : Nat × Nat × Nat) : Prop := c.1 < 1000 ∧ c.2.1 < 1000 ∧ c.2.2 < 1000
def iOK (p : ByteArray) : Bool := pnB (cutA p 46) && (pnB (cutA (cutB p 46) 46) && pnB (cutB (cutB p 46) 46))
def iA (p : ByteArray) : Int := pnV (cutA p 46)
def iB (p : ByteArray) : Int := pnV (cutA (cutB p 46) 46)
def iC (p : ByteArray) : Int := pnV (cutB (cutB p 46) 46)
def sOK (p : List UInt8) : Bool := (pcs 46 p).length == 3
def sA (p : List UInt8) : Int := rdV ((pcs 46 p).getD 0 [])
def sB (p : List UInt8) : Int := rdV ((pcs 46 p).getD 1 [])
def sC (p : List UInt8) : Int := rdV ((pcs 46 p).getD 2 [])
theorem tr_pcs (c : Nat × Nat × Nat) : pcs 46 (tr c) = [Lib.decDigits c.1, Lib.decDigits c.2.1, Lib.decDigits c.2.2] := by
  unfold tr
  rw [pcs_cons (no_bar _ (by decide)), pcs_cons (no_bar _ (by decide)), pcs_one (no_bar _ (by decide))]
theorem tr_free {c : Nat × Nat × Nat} {b : UInt8} (h : b.toNat < 46 ∨ 57 < b.toNat) : b ∉ tr c := by
  have h1 : b ≠ 46 := fun e => by subst e; revert h; decide
  have h2 : ∀ n, b ∉ Lib.decDigits n := fun n => no_bar n (by omega)
  simp [tr, h1, h2]
theorem tr_len {c : Nat × Nat × Nat} (h : small c) : (tr c).length ≤ 11 := by
  have h1 := digits_len 2 c.1 h.1
  have h2 := digits_len 2 c.2.1 h.2.1
  have h3 := digits_len 2 c.2.2 h.2.2
  simp only [tr, List.length_append, List.length_cons]
  omega
theorem tr_i {p : ByteArray} {c : Nat × Nat × Nat} (h : p.data.toList = tr c) (hs : small c) : iOK p = true ∧ iA p = c.1 ∧ iB p = c.2.1 ∧ iC p = c.2.2 := by
  obtain ⟨a1, b1, _⟩ := cut_at (no_bar c.1 (b := 46) (by decide)) h
  obtain ⟨a2, b2, _⟩ := cut_at (no_bar c.2.1 (b := 46) (by decide)) b1
  obtain ⟨r1, s1⟩ := pn_complete (by have := hs.1; omega) a1
  obtain ⟨r2, s2⟩ := pn_complete (by have := hs.2.1; omega) a2
  obtain ⟨r3, s3⟩ := pn_complete (by have := hs.2.2; omega) b2
  exact ⟨by simp [iOK, r1, r2, r3], s1, s2, s3⟩
theorem tr_s {p : List UInt8} {c : Nat × Nat × Nat} (h : p = tr c) (hs : small c) : sOK p = true ∧ sA p = c.1 ∧ sB p = c.2.1 ∧ sC p = c.2.2 := by
  subst h
  have e := tr_pcs c
  have h1 := hs.1
  have h2 := hs.2.1
  have h3 := hs.2.2
  refine ⟨by simp [sOK, e], ?_, ?_, ?_⟩
  · simp only [sA, e]; exact rdV_digits _ (by omega)
  · simp only [sB, e]; exact rdV_digits _ (by omega)
  · simp only [sC, e]; exact rdV_digits _ (by omega)
theorem tr_of_i {p : ByteArray} (h : iOK p = true) : ∃ c : Nat × Nat × Nat, p.data.toList = tr c ∧ iA p = c.1 ∧ iB p = c.2.1 ∧ iC p = c.2.2 := by
  simp only [iOK, Bool.and_eq_true] at h
  obtain ⟨p1, e1⟩ := pn_sound h.1
  obtain ⟨p2, e2⟩ := pn_sound h.2.1
  obtain ⟨p3, e3⟩ := pn_sound h.2.2
  have hk2 := cut_key (cutB p 46) 46 (by rw [e3]; exact digits_ne _)
  rw [e2, e3] at hk2
  have hk1 := cut_key p 46 (by rw [hk2]; simp)
  rw [e1, hk2] at hk1
  refine ⟨((pnV (cutA p 46)).toNat, (pnV (cutA (cutB p 46) 46)).toNat, (pnV (cutB (cutB p 46) 46)).toNat), hk1, ?_, ?_, ?_⟩
  · show pnV (cutA p 46) = _; simp only; omega
  · show pnV (cutA (cutB p 46) 46) = _; simp only; omega
  · show pnV (cutB (cutB p 46) 46) = _; simp only; omega
theorem rdV_sound {l : List UInt8} (h : 0 ≤ rdV l) : ∃ m : Nat, rdV l = m ∧ l = Lib.decDigits m := by
  unfold rdV at h ⊢
  split at h
  · omega
  · rename_i hw
    split at h
    · omega
    · rename_i hz
      rw [if_neg hw, if_neg hz]
      split at h
      · rename_i m hm
        have hne : l ≠ [] := fun e => by subst e; exact hw (by decide)
        have hlen : 1 ≤ l.length := List.length_pos_iff.2 hne
        refine ⟨m, by simp [hm], ?_⟩
        exact (digits_read l.length l m rfl hne (fun e => by
          rcases Nat.lt_or_ge 1 l.length with c | c
          · exact absurd ⟨e, c⟩ hz
          · omega) hm).symm
      · omega
theorem tr_of_s {p : List UInt8} (h : sOK p = true) (ha : 0 ≤ sA p) (hb : 0 ≤ sB p) (hc : 0 ≤ sC p) : ∃ c : Nat × Nat × Nat, p = tr c ∧ sA p = c.1 ∧ sB p = c.2.1 ∧ sC p = c.2.2 := by
  simp only [sOK, beq_iff_eq] at h
  match hq : pcs 46 p, h with
  | [x, y, z], _ =>
    have hg := pcs_glue 46 p
    rw [hq] at hg
    simp only [glue] at hg
    have e1 : sA p = rdV x := by simp [sA, hq]
    have e2 : sB p = rdV y := by simp [sB, hq]
    have e3 : sC p = rdV z := by simp [sC, hq]
    rw [e1] at ha
    rw [e2] at hb
    rw [e3] at hc
    obtain ⟨a, h1, rfl⟩ := rdV_sound ha
    obtain ⟨b, h2, rfl⟩ := rdV_sound hb
    obtain ⟨c, h3, rfl⟩ := rdV_sound hc
    exact ⟨(a, b, c), hg.symm, by rw [e1, h1], by rw [e2, h2], by rw [e3, h3]⟩
/-- numbers, three a piece -/
def tri {α : Type} (d : α) (A B C : α → Int) (P : List α) (i : Nat) : Int := if i % 3 = 0 then A (P.getD (i / 3) d) else if i % 3 = 1 then B (P.getD (i / 3) d) else C (P.getD (i / 3) d)
theorem tri_0 {α : Type} (d : α) (A B C : α → Int) (P : List α) (j : Nat) : tri d A B C P (j * 3) = A (P.getD j d) := by
  unfold tri; rw [if_pos (by omega), show j * 3 / 3 = j by omega]
theorem tri_1 {α : Type} (d : α) (A B C : α → Int) (P : List α) (j : Nat) : tri d A B C P (j * 3 + 1) = B (P.getD j d) := by
  unfold tri; rw [if_neg (by omega), if_pos (by omega), show (j * 3 + 1) / 3 = j by omega]
theorem tri_2 {α : Type} (d : α) (A B C : α → Int) (P : List α) (j : Nat) : tri d A B C P (j * 3 + 2) = C (P.getD j d) := by
  unfold tri; rw [if_neg (by omega), if_neg (by omega), show (j * 3 + 2) / 3 = j by omega]
theorem tri_eq {α β : Type} {d : α} {d' : β} {A B C : α → Int} {A' B' C' : β → Int} {P : List α} {Q : List β} (n : Nat) (h : ∀ j, j < n → A (P.getD j d) = A' (Q.getD j d') ∧ B (P.getD j d) = B' (Q.getD j d') ∧ C (P.getD j d) = C' (Q.getD j d')) :
    ∀ i, i < n * 3 → tri d A B C P i = tri d' A' B' C' Q i := by
  intro i hi
  obtain ⟨h1, h2, h3⟩ := h (i / 3) (by omega)
  unfold tri
  split
  · exact h1
  · split
    · exact h2
    · exact h3
def fC (C : List (Nat × Nat × Nat)) : Nat → Int := tri ((0, 0, 0) : Nat × Nat × Nat) (fun c => (c.1 : Int)) (fun c => (c.2.1 : Int)) (fun c => (c.2.2 : Int)) C
def fI (Q : List ByteArray) : Nat → Int := tri ⟨#[]⟩ iA iB iC Q
def fS (P : List (List UInt8)) : Nat → Int := tri [] sA sB sC P
theorem okP_congr {wd : Int} {n : Nat} {f g : Nat → Int} (h : ∀ i, i < n * 3 → f i = g i) : okP wd n f = okP wd n g := by simp only [okP, okCs_congr h]
theorem okP_small {wd : Int} {C : List (Nat × Nat × Nat)} (h : okP wd C.length (fC C) = true) : ∀ c ∈ C, small c := by
  intro c hc
  obtain ⟨j, hj, rfl⟩ := List.getElem_of_mem hc
  obtain ⟨_, _, hok⟩ := okP_true h
  have hk := okCs_get hok hj
  have hg : C.getD j (0, 0, 0) = C[j] := by simp [List.getD, hj]
  simp only [fC, tri_0, tri_1, tri_2, hg] at hk
  have h1 := okK_kind hk
  obtain ⟨a0, a1, b0, b1, _⟩ := okK_bd hk
  exact ⟨by omega, by omega, by omega⟩
/-- a text that is written of a puzzle -/
def Wr (s : List UInt8) (wd : Nat) (C : List (Nat × Nat × Nat)) : Prop := s = Lib.decDigits wd ++ 119 :: glue 44 (C.map tr)
def okWr (wd : Nat) (C : List (Nat × Nat × Nat)) : Prop := okP (wd : Int) C.length (fC C) = true
def QQ (t : ByteArray) : List ByteArray := Lib.splitB ⟨#[44]⟩ 0 (min 7 (t.size + 1) - 1) t
def QZ (t : ByteArray) : List ByteArray := if t.size = 0 then [] else QQ t
def PZs (t : List UInt8) : List (List UInt8) := if t.length = 0 then [] else pcs 44 t
theorem glue_nil {P : List (List UInt8)} (hP : ∀ p ∈ P, p ≠ []) (h : glue 44 P = []) : P = [] := by
  match P, h with
  | [], _ => rfl
  | [x], h => exact absurd h (hP x (by simp))
  | x :: y :: r, h => simp [glue] at h
theorem tr_ne (c : Nat × Nat × Nat) : tr c ≠ [] := by simp [tr]
theorem glue_tr_nil {C : List (Nat × Nat × Nat)} (h : glue 44 (C.map tr) = []) : C = [] := by
  have := glue_nil (fun p hp => by obtain ⟨c, _, rfl⟩ := List.mem_map.1 hp; exact tr_ne c) h
  exact List.map_eq_nil_iff.1 this
theorem pcs_tr {C : List (Nat × Nat × Nat)} (h : C ≠ []) : pcs 44 (glue 44 (C.map tr)) = C.map tr :=
  pcs_unique (by simpa using h) (fun p hp => by obtain ⟨c, _, rfl⟩ := List.mem_map.1 hp; exact tr_free (.inl (by decide))) rfl
theorem PZs_tr (C : List (Nat × Nat × Nat)) : PZs (glue 44 (C.map tr)) = C.map tr := by
  unfold PZs
  split
  · rename_i h
    have := glue_tr_nil (List.length_eq_zero_iff.1 h)
    subst this; rfl
  · rename_i h
    refine pcs_tr fun e => ?_
    subst e; exact h rfl
theorem glue_mem {b : UInt8} {P : List (List UInt8)} {x : UInt8} (h : x ∈ glue b P) : x = b ∨ ∃ p ∈ P, x ∈ p := by
  match P, h with
  | [], h => simp [glue] at h
  | [y], h => exact .inr ⟨y, by simp, h⟩
  | y :: z :: r, h =>
    simp only [glue, List.mem_append, List.mem_cons] at h
    rcases h with h | h | h
    · exact .inr ⟨y, by simp, h⟩
    · exact .inl h
    · rcases glue_mem h with h | ⟨p, hp, h⟩
      · exact .inl h
      · exact .inr ⟨p, List.mem_cons_of_mem _ hp, h⟩
theorem no_w (C : List (Nat × Nat × Nat)) : (119 : UInt8) ∉ glue 44 (C.map tr) := fun h => by
  rcases glue_mem h with h | ⟨p, hp, h⟩
  · revert h; decide
  · obtain ⟨c, _, rfl⟩ := List.mem_map.1 hp
    exact tr_free (.inr (by decide)) h
theorem glue_len {b : UInt8} {c : Nat} : ∀ {P : List (List UInt8)}, (∀ p ∈ P, p.length ≤ c) → (glue b P).length ≤ (c + 1) * P.length
  | [], _ => by simp [glue]
  | [x], h => by have := h x (by simp); simp [glue]; omega
  | x :: y :: r, h => by
    have h1 := glue_len (b := b) (P := y :: r) fun p hp => h p (List.mem_cons_of_mem _ hp)
    have h2 := h x (by simp)
    rw [glue, List.length_append, List.length_cons]
    simp only [List.length_cons] at h1 ⊢
    rw [Nat.mul_add]
    omega
theorem QZ_of {t : ByteArray} {C : List (Nat × Nat × Nat)} (h : t.data.toList = glue 44 (C.map tr)) (hn : C.length ≤ 6) : (QZ t).map (·.data.toList) = C.map tr := by
  have hsz : t.data.toList.length = t.size := by rw [Array.length_toList]; rfl
  unfold QZ
  split
  · rename_i h0
    have := glue_tr_nil (C := C) (by rw [← h]; exact List.length_eq_zero_iff.1 (by omega))
    subst this; rfl
  · rename_i h0
    have hne : C ≠ [] := fun e => by subst e; rw [h] at hsz; exact h0 hsz.symm
    have hp := pcs_tr hne
    rw [← h] at hp
    have hl := pcs_len 44 t.data.toList
    rw [hp, List.length_map] at hl
    have := spn_all 44 (min 7 (t.size + 1) - 1) t (by rw [hp, List.length_map]; omega)
    rw [hp] at this
    exact this
/-- what the program reads -/
def okZI (s : ByteArray) : Bool := cutF s 119 && (pnB (cutA s 119) && ((QZ (cutB s 119)).all iOK && okP (pnV (cutA s 119)) (QZ (cutB s 119)).length (fI (QZ (cutB s 119)))))
/-- what the model reads -/
def zx (s : ByteArray) : List UInt8 := (pcs 119 s.data.toList).getD 0 []
def zy (s : ByteArray) : List UInt8 := (pcs 119 s.data.toList).getD 1 []
def okZS (s : ByteArray) : Bool := (decide (s.size ≤ 100) && (pcs 119 s.data.toList).length == 2) && ((PZs (zy s)).all sOK && okP (rdV (zx s)) (PZs (zy s)).length (fS (PZs (zy s))))
theorem I_of_W {s : ByteArray} {wd : Nat} {C : List (Nat × Nat × Nat)} (h : Wr s.data.toList wd C) (hok : okWr wd C) :
    okZI s = true ∧ pnV (cutA s 119) = wd ∧ (QZ (cutB s 119)).length = C.length ∧ ∀ i, i < C.length * 3 → fI (QZ (cutB s 119)) i = fC C i := by
  obtain ⟨⟨w0, w1⟩, hn6, _⟩ := okP_true hok
  obtain ⟨a1, b1, f1⟩ := cut_at (no_bar wd (b := 119) (by decide)) h
  obtain ⟨r1, v1⟩ := pn_complete (by omega) a1
  have hQ := QZ_of b1 hn6
  have hlen : (QZ (cutB s 119)).length = C.length := by
    have := congrArg List.length hQ
    simpa using this
  have hat : ∀ j, j < C.length → ((QZ (cutB s 119)).getD j ⟨#[]⟩).data.toList = tr (C.getD j (0, 0, 0)) := fun j hj => by
    have h1 := congrArg (fun l => l[j]?) hQ
    simp only [List.getElem?_map] at h1
    rw [List.getElem?_eq_getElem (by omega), List.getElem?_eq_getElem hj] at h1
    simp only [Option.map_some, Option.some.injEq] at h1
    simpa [List.getD, hj, hlen] using h1
  have hsm := okP_small hok
  have hsm' : ∀ j, j < C.length → small (C.getD j (0, 0, 0)) := fun j hj => by
    have hg : C.getD j (0, 0, 0) = C[j] := by simp [List.getD, hj]
    rw [hg]; exact hsm _ (List.getElem_mem hj)
  have hf : ∀ i, i < C.length * 3 → fI (QZ (cutB s 119)) i = fC C i := tri_eq _ fun j hj => by
    obtain ⟨_, e1, e2, e3⟩ := tr_i (hat j hj) (hsm' j hj)
    exact ⟨e1, e2, e3⟩
  refine ⟨?_, v1, hlen, hf⟩
  have hall : (QZ (cutB s 119)).all iOK = true := List.all_eq_true.2 fun q hq => by
    obtain ⟨j, hj, rfl⟩ := List.getElem_of_mem hq
    have hj' : j < C.length := by omega
    have := (tr_i (hat j hj') (hsm' j hj')).1
    simpa [List.getD, hj] using this
  have hok2 : okP (pnV (cutA s 119)) (QZ (cutB s 119)).length (fI (QZ (cutB s 119))) = true := by
    rw [hlen, v1, okP_congr hf]; exact hok
  simp [okZI, f1, r1, hall, hok2]
theorem W_of_I {s : ByteArray} (h : okZI s = true) : ∃ wd C, Wr s.data.toList wd C ∧ okWr wd C := by
  simp only [okZI, Bool.and_eq_true] at h
  obtain ⟨hf, hp, hall, hok⟩ := h
  have hs := cut_flag s 119 hf
  obtain ⟨p1, e1⟩ := pn_sound hp
  obtain ⟨⟨w0, w1⟩, hn6, _⟩ := okP_true hok
  generalize ht : cutB s 119 = t at *
  have hsz : t.data.toList.length = t.size := by rw [Array.length_toList]; rfl
  have hQ : (QZ t).map (·.data.toList) = PZs t.data.toList := by
    unfold QZ PZs
    by_cases h0 : t.size = 0
    · rw [if_pos h0, if_pos (by omega)]; rfl
    · rw [if_neg h0, if_neg (by omega)]
      have hl := pcs_len 44 t.data.toList
      by_cases hk : (pcs 44 t.data.toList).length ≤ min 7 (t.size + 1) - 1 + 1
      · exact spn_all 44 _ t hk
      · exfalso
        have := spn_more 44 (min 7 (t.size + 1) - 1) t (by omega)
        simp only [spn, List.length_map] at this
        have hq : (QZ t).length = min 7 (t.size + 1) - 1 + 1 := by unfold QZ; rw [if_neg h0]; exact this
        omega
  have hex : ∀ q ∈ QZ t, ∃ c : Nat × Nat × Nat, q.data.toList = tr c ∧ iA q = c.1 ∧ iB q = c.2.1 ∧ iC q = c.2.2 := fun q hq => tr_of_i (List.all_eq_true.1 hall q hq)
  obtain ⟨C, hC⟩ : ∃ C : List (Nat × Nat × Nat), (QZ t).map (·.data.toList) = C.map tr ∧ C.length = (QZ t).length ∧ ∀ j, j < C.length → iA ((QZ t).getD j ⟨#[]⟩) = (C.getD j (0, 0, 0)).1 ∧ iB ((QZ t).getD j ⟨#[]⟩) = (C.getD j (0, 0, 0)).2.1 ∧ iC ((QZ t).getD j ⟨#[]⟩) = (C.getD j (0, 0, 0)).2.2 := by
    generalize QZ t = Q at hex
    clear hQ hok hall hn6
    induction Q with
    | nil => exact ⟨[], rfl, rfl, fun j hj => by simp at hj⟩
    | cons q Q ih =>
      obtain ⟨C, h1, h2, h3⟩ := ih fun x hx => hex x (List.mem_cons_of_mem _ hx)
      obtain ⟨c, h4, h5⟩ := hex q (by simp)
      refine ⟨c :: C, by simp [h1, h4], by simp [h2], fun j hj => ?_⟩
      cases j with
      | zero => exact h5
      | succ j => exact h3 j (by simpa using hj)
  obtain ⟨h1, h2, h3⟩ := hC
  refine ⟨(pnV (cutA s 119)).toNat, C, ?_, ?_⟩
  · unfold Wr
    rw [hs, e1, ← h1, hQ]
    have : glue 44 (PZs t.data.toList) = t.data.toList := by
      unfold PZs
      split
      · rename_i h0; rw [List.length_eq_zero_iff.1 h0]; rfl
      · exact pcs_glue _ _
    rw [this]
  · unfold okWr
    have hw : ((pnV (cutA s 119)).toNat : Int) = pnV (cutA s 119) := by omega
    rw [hw, okP_congr (g := fI (QZ t)), h2]
    · exact hok
    · exact fun i hi => (tri_eq C.length (fun j hj => h3 j hj) i hi).symm
theorem S_of_W {s : ByteArray} {wd : Nat} {C : List (Nat × Nat × Nat)} (h : Wr s.data.toList wd C) (hok : okWr wd C) :
    okZS s = true ∧ rdV (zx s) = wd ∧ (PZs (zy s)).length = C.length ∧ ∀ i, i < C.length * 3 → fS (PZs (zy s)) i = fC C i := by
  have hsz : s.data.toList.length = s.size := by rw [Array.length_toList]; rfl
  obtain ⟨⟨w0, w1⟩, hn6, _⟩ := okP_true hok
  have hp : pcs 119 s.data.toList = [Lib.decDigits wd, glue 44 (C.map tr)] := by
    unfold Wr at h
    rw [h, pcs_cons (no_bar _ (by decide)), pcs_one (no_w C)]
  have ex : zx s = Lib.decDigits wd := by simp [zx, hp]
  have ey : zy s = glue 44 (C.map tr) := by simp [zy, hp]
  have eP : PZs (zy s) = C.map tr := by rw [ey, PZs_tr]
  have hsm := okP_small hok
  have hat : ∀ j, j < C.length → (PZs (zy s)).getD j [] = tr (C.getD j (0, 0, 0)) := fun j hj => by simp [eP, List.getD, hj]
  have hsm' : ∀ j, j < C.length → small (C.getD j (0, 0, 0)) := fun j hj => by
    have hg : C.getD j (0, 0, 0) = C[j] := by simp [List.getD, hj]
    rw [hg]; exact hsm _ (List.getElem_mem hj)
  have hlen : (PZs (zy s)).length = C.length := by rw [eP, List.length_map]
  have hf : ∀ i, i < C.length * 3 → fS (PZs (zy s)) i = fC C i := tri_eq _ fun j hj => by
    obtain ⟨_, e1, e2, e3⟩ := tr_s (hat j hj) (hsm' j hj)
    exact ⟨e1, e2, e3⟩
  have hr : rdV (zx s) = wd := by rw [ex]; exact rdV_digits _ (by omega)
  refine ⟨?_, hr, hlen, hf⟩
  have hall : (PZs (zy s)).all sOK = true := List.all_eq_true.2 fun q hq => by
    rw [eP] at hq
    obtain ⟨c, hc, rfl⟩ := List.mem_map.1 hq
    exact (tr_s rfl (hsm c hc)).1
  have hok2 : okP (rdV (zx s)) (PZs (zy s)).length (fS (PZs (zy s))) = true := by
    rw [hlen, hr, okP_congr hf]; exact hok
  have hsize : s.size ≤ 100 := by
    rw [← hsz]
    unfold Wr at h
    rw [h, List.length_append, List.length_cons]
    have h1 := digits_len 2 wd (by omega)
    have h2 := glue_len (b := 44) (c := 11) (P := C.map tr) (fun p hp => by obtain ⟨c, hc, rfl⟩ := List.mem_map.1 hp; exact tr_len (hsm c hc))
    rw [List.length_map] at h2
    omega
  simp [okZS, hsize, hp, hall, hok2]
theorem W_of_S {s : ByteArray} (h : okZS s = true) : ∃ wd C, Wr s.data.toList wd C ∧ okWr wd C := by
  simp only [okZS, Bool.and_eq_true, decide_eq_true_eq, beq_iff_eq] at h
  obtain ⟨⟨hsize, h2⟩, hall, hok⟩ := h
  obtain ⟨⟨w0, w1⟩, hn6, hcs⟩ := okP_true hok
  have hgl := pcs_glue 119 s.data.toList
  match hp : pcs 119 s.data.toList, h2 with
  | [x, y], _ =>
    have ex : zx s = x := by simp [zx, hp]
    have ey : zy s = y := by simp [zy, hp]
    rw [hp] at hgl
    simp only [glue] at hgl
    rw [ex] at hok w0 w1
    rw [ey] at hok hall hn6 hcs
    obtain ⟨wd, hw, rfl⟩ := rdV_sound (l := x) (by omega)
    have hex : ∀ j, j < (PZs y).length → ∃ c : Nat × Nat × Nat, (PZs y).getD j [] = tr c ∧ sA ((PZs y).getD j []) = c.1 ∧ sB ((PZs y).getD j []) = c.2.1 ∧ sC ((PZs y).getD j []) = c.2.2 := fun j hj => by
      have hk := okCs_get hcs hj
      simp only [fS, tri_0, tri_1, tri_2] at hk
      have h1 := okK_kind hk
      obtain ⟨a0, a1, b0, b1, _⟩ := okK_bd hk
      refine tr_of_s (List.all_eq_true.1 hall _ ?_) (by omega) (by omega) (by omega)
      simp [List.getD, hj]
    obtain ⟨C, hC⟩ : ∃ C : List (Nat × Nat × Nat), PZs y = C.map tr ∧ C.length = (PZs y).length ∧ ∀ j, j < C.length → sA ((PZs y).getD j []) = (C.getD j (0, 0, 0)).1 ∧ sB ((PZs y).getD j []) = (C.getD j (0, 0, 0)).2.1 ∧ sC ((PZs y).getD j []) = (C.getD j (0, 0, 0)).2.2 := by
      generalize PZs y = Q at hex
      clear hok hall hn6 hcs
      induction Q with
      | nil => exact ⟨[], rfl, rfl, fun j hj => by simp at hj⟩
      | cons q Q ih =>
        obtain ⟨C, h1, h2, h3⟩ := ih fun j hj => hex (j + 1) (by simpa using hj)
        obtain ⟨c, h4, h5⟩ := hex 0 (by simp)
        refine ⟨c :: C, by simp at h4; simp [h1, h4], by simp [h2], fun j hj => ?_⟩
        cases j with
        | zero => exact h5
        | succ j => exact h3 j (by simpa using hj)
    obtain ⟨h1, h2, h3⟩ := hC
    refine ⟨wd, C, ?_, ?_⟩
    · unfold Wr
      rw [← hgl, ← h1]
      have : glue 44 (PZs y) = y := by
        unfold PZs
        split
        · rename_i h0; rw [List.length_eq_zero_iff.1 h0]; rfl
        · exact pcs_glue _ _
      rw [this]
    · unfold okWr
      rw [← hw, okP_congr (g := fS (PZs y)), h2]
      · exact hok
      · exact fun i hi => (tri_eq C.length (fun j hj => h3 j hj) i hi).symm
/-- the number of clues, the width, the clues that are read -/
def zN (s : ByteArray) : Nat := if okZI s then (QZ (cutB s 119)).length else 0
def zW (s : ByteArray) : Int := if okZI s then pnV (cutA s 119) else 0
def zF (s : ByteArray) : Nat → Int := fI (QZ (cutB s 119))
theorem zN_le (s : ByteArray) : zN s ≤ 6 := by
  unfold zN
  split
  · rename_i h
    simp only [okZI, Bool.and_eq_true] at h
    exact (okP_true h.2.2.2).2.1
  · omega
theorem same_ok (s : ByteArray) : okZI s = okZS s := by
  rw [Bool.eq_iff_iff]
  constructor
  · intro h
    obtain ⟨wd, C, h1, h2⟩ := W_of_I h
    exact (S_of_W h1 h2).1
  · intro h
    obtain ⟨wd, C, h1, h2⟩ := W_of_S h
    exact (I_of_W h1 h2).1
theorem same_val (s : ByteArray) (h : okZS s = true) : rdV (zx s) = zW s ∧ (PZs (zy s)).length = zN s ∧ ∀ i, i < zN s * 3 → fS (PZs (zy s)) i = zF s i := by
  obtain ⟨wd, C, h1, h2⟩ := W_of_S h
  obtain ⟨a1, a2, a3, a4⟩ := I_of_W h1 h2
  obtain ⟨b1, b2, b3, b4⟩ := S_of_W h1 h2
  have e1 : zW s = wd := by rw [zW, if_pos a1, a2]
  have e2 : zN s = C.length := by rw [zN, if_pos a1, a3]
  refine ⟨by rw [b2, e1], by rw [b3, e2], fun i hi => ?_⟩
  rw [e2] at hi
  rw [b4 i hi]
  exact (a4 i hi).symm
theorem join_glue : ∀ (P : List (List UInt8)), Lib.join P [44] = glue 44 P
  | [] => rfl
  | [x] => by rw [Lib.join_one]; rfl
  | x :: y :: r => by
    rw [Lib.join_cons, glue_cons 44 x (by simp), ← join_glue (y :: r), Lib.join_cons]
    simp [Lib.joinTail]
/-- the text of what is read is the text -/
theorem text_back {s : ByteArray} (h : okZS s = true) : ptx (pre (rdV (zx s))) (fS (PZs (zy s))) (PZs (zy s)).length = s := by
  obtain ⟨wd, C, h1, h2⟩ := W_of_S h
  obtain ⟨b1, b2, b3, b4⟩ := S_of_W h1 h2
  rw [b2, b3]
  have hpt : ∀ k, k ≤ C.length → (parts (fS (PZs (zy s))) k).map (·.data.toList) = (C.take k).map tr := by
    intro k
    induction k with
    | zero => intro _; rfl
    | succ k ih =>
      intro hk
      have e1 := b4 (k * 3) (by omega)
      have e2 := b4 (k * 3 + 1) (by omega)
      have e3 := b4 (k * 3 + 2) (by omega)
      simp only [fC, tri_0, tri_1, tri_2] at e1 e2 e3
      rw [parts, List.map_append, ih (by omega), e1, e2, e3, List.take_succ_eq_append_getElem (by omega), List.map_append]
      congr 1
      have hg : C.getD k (0, 0, 0) = C[k] := by simp [List.getD, show k < C.length from hk]
      simp only [List.map_cons, List.map_nil, hg, part, tr, dec, Lib.itoa_nonneg]
      simp
  apply ByteArray.ext
  apply Array.toList_inj.1
  rw [ptx_join, hpt _ (Nat.le_refl _), List.take_length, join_glue]
  unfold Wr at h1
  rw [h1]
  simp [pre, dec, Lib.itoa_nonneg]
end Go.Proofs.YtahcfjpplkemdaaDoor
