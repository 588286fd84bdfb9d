/- Walkers that are read back, by the program. -/
import Derived.Test.YtkcncjoekbbolaaDoorWKY
import Derived.Test.YtkcncjoekbbolaaDoorWKI
import Derived.Test.YtkcncjoekbbolaaDoorT6
namespace Go.Proofs.YtkcncjoekbbolaaDoor
open Go.RowKit
set_option linter.unusedVariables false
set_option linter.unusedSimpArgs false
theorem spec_ParseWalker (s : ByteArray) (hs : s.size ≤ 1048576) (w : World) :
    Calls Tryd.prog 8 #[.string s] w fun e w' => ∃ a b c ok, e = .returned (.tuple #[.agg #[.int .i64 a, .int .i64 b, .int .i64 c], .bool ok]) ∧ ReadW s a b c ok ∧ Below w.heap.size w w' := by
  go_enter Tryd.func8, Tryd.ntmps8
  go_wp2_with fail
  refine (wkParse_any s hs _).mono ?_
  rintro e w1 ⟨a, b, c, ok, rfl, hP, hb⟩
  have HP := Lib.hid hP
  clear hP
  obtain ⟨hc, hf⟩ := bcell hb
  have c0 : w1.cell? ⟨w.heap.size, 0, none⟩ = some (.int .i64 0) := by rw [hc _ _ (by simp)]; simp
  have c1 : w1.cell? ⟨w.heap.size, 1, none⟩ = some (.int .i64 0) := by rw [hc _ _ (by simp)]; simp
  have c2 : w1.cell? ⟨w.heap.size, 2, none⟩ = some (.int .i64 0) := by rw [hc _ _ (by simp)]; simp
  have f0 : w1.frozen? ⟨w.heap.size, 0, none⟩ = false := by rw [hf _ _ (by simp)]; simp
  have f1 : w1.frozen? ⟨w.heap.size, 1, none⟩ = false := by rw [hf _ _ (by simp)]; simp
  have f2 : w1.frozen? ⟨w.heap.size, 2, none⟩ = false := by rw [hf _ _ (by simp)]; simp
  have HB := Lib.hid (show Below w.heap.size w w1 from bl_trans hb (bl_alloc (Below.refl _ _) _))
  clear hc hf hb
  go_wp2
  refine bodyPost_ret (v := .tuple #[.agg #[.int .i64 a, .int .i64 b, .int .i64 c], .bool ok]) (by simp [results, Tryd.results8, go_sem, *]) rfl ⟨_, _, _, _, rfl, HP.out, bl_set (bl_set (bl_set HB.out (Nat.le_refl _) _) (Nat.le_refl _) _) (Nat.le_refl _) _⟩
def cutA (s : ByteArray) (b : UInt8) : ByteArray := ⟨(Lib.cut s.data.toList [b]).1.toArray⟩
def cutB (s : ByteArray) (b : UInt8) : ByteArray := ⟨(Lib.cut s.data.toList [b]).2.1.toArray⟩
theorem cut_size (s : ByteArray) (b : UInt8) : (cutA s b).size ≤ s.size ∧ (cutB s b).size ≤ s.size := by
  have hl : s.data.toList.length = s.size := by rw [Array.length_toList]; rfl
  have h1 : (cutA s b).size = (Lib.cut s.data.toList [b]).1.length := rfl
  have h2 : (cutB s b).size = (Lib.cut s.data.toList [b]).2.1.length := rfl
  rw [h1, h2, ← hl]
  unfold Lib.cut
  split
  · simp only [List.length_take, List.length_drop]; omega
  · simp
theorem cut_key (t : ByteArray) (b : UInt8) (hne : (cutB t b).data.toList ≠ []) : t.data.toList = (cutA t b).data.toList ++ b :: (cutB t b).data.toList := by
  have ha : (cutA t b).data.toList = (Lib.cut t.data.toList [b]).1 := by simp [cutA]
  have hb : (cutB t b).data.toList = (Lib.cut t.data.toList [b]).2.1 := by simp [cutB]
  rw [ha, hb]
  rw [hb] at hne
  rcases hq : Lib.cut t.data.toList [b] with ⟨x, y, f⟩
  rw [hq] at hne
  cases f
  · exact absurd (cut_lost hq).2 hne
  · exact cut_found hq
theorem ia_split : ∀ l : List UInt8, (Lib.indexAny l pm.data.toList = -1 ∧ ∀ b ∈ l, b ≠ 43 ∧ b ≠ 45) ∨ ∃ u c v, l = u ++ c :: v ∧ Lib.indexAny l pm.data.toList = (u.length : Int) ∧ (c = 43 ∨ c = 45) ∧ ∀ b ∈ u, b ≠ 43 ∧ b ≠ 45
  | [] => .inl ⟨rfl, fun b hb => by simp at hb⟩
  | x :: l => by
    have hc : pm.data.toList.contains x = (x == 43 || x == 45) := by
      show [(43 : UInt8), 45].contains x = _
      simp
      rfl
    cases hx : pm.data.toList.contains x
    · rw [hx] at hc
      have hne : x ≠ 43 ∧ x ≠ 45 := by
        refine ⟨?_, ?_⟩ <;> (rintro rfl; simp at hc)
      rcases ia_split l with ⟨h1, h2⟩ | ⟨u, c, v, h1, h2, h3, h4⟩
      · refine .inl ⟨?_, fun b hb => ?_⟩
        · rw [Lib.indexAny, hx, h1]; rfl
        · rcases List.mem_cons.1 hb with rfl | hb
          · exact hne
          · exact h2 b hb
      · refine .inr ⟨x :: u, c, v, by rw [h1]; rfl, ?_, h3, fun b hb => ?_⟩
        · rw [Lib.indexAny, hx, h2]
          have : ((u.length : Int) == -1) = false := by rw [beq_eq_false_iff_ne]; omega
          simp [this]
        · rcases List.mem_cons.1 hb with rfl | hb
          · exact hne
          · exact h4 b hb
    · rw [hx] at hc
      refine .inr ⟨[], x, l, rfl, ?_, ?_, fun b hb => by simp at hb⟩
      · rw [Lib.indexAny, hx]; rfl
      · simp only [Bool.true_eq, Bool.or_eq_true, beq_iff_eq] at hc; exact hc
theorem sign_unique : ∀ {u u' v v' : List UInt8} {c c' : UInt8}, (c = 43 ∨ c = 45) → (c' = 43 ∨ c' = 45) → (∀ b ∈ u, b ≠ 43 ∧ b ≠ 45) → (∀ b ∈ u', b ≠ 43 ∧ b ≠ 45) → u ++ c :: v = u' ++ c' :: v' → u = u' ∧ c = c' ∧ v = v'
  | [], [], _, _, _, _, _, _, _, _, e => by simp at e; exact ⟨rfl, e.1, e.2⟩
  | [], x :: u', _, _, _, _, hc, _, _, h', e => by
    simp at e
    have := h' x (by simp)
    rw [← e.1] at this
    rcases hc with rfl | rfl <;> simp at this
  | x :: u, [], _, _, _, _, _, hc', h, _, e => by
    simp at e
    have := h x (by simp)
    rw [e.1] at this
    rcases hc' with rfl | rfl <;> simp at this
  | x :: u, y :: u', _, _, _, _, hc, hc', h, h', e => by
    simp at e
    obtain ⟨q1, q2, q3⟩ := sign_unique hc hc' (fun b hb => h b (by simp [hb])) (fun b hb => h' b (by simp [hb])) e.2
    exact ⟨by rw [e.1, q1], q2, q3⟩
def csK (s : ByteArray) : Int := Lib.indexAny s.data.toList pm.data.toList
def csM (s : ByteArray) : Bool := s.data.toList.getD (csK s).toNat 0 == 45
def csA (s : ByteArray) : ByteArray := if csK s < 0 then ⟨#[]⟩ else s.extract 0 (csK s).toNat
def csV (s : ByteArray) : Int := if csK s < 0 then 0 else if csM s then psV (s.extract (csK s).toNat s.size) else pnV (s.extract ((csK s).toNat + 1) s.size)
def csB (s : ByteArray) : Bool := if csK s < 0 then false else if csM s then psB (s.extract (csK s).toNat s.size) else pnB (s.extract ((csK s).toNat + 1) s.size)
theorem ext_list (s : ByteArray) (a b : Nat) : (s.extract a b).data.toList = (s.data.toList.take b).drop a := by
  rw [ByteArray.data_extract, Array.toList_extract, List.extract_eq_take_drop, List.drop_take]
theorem ext_end (s : ByteArray) (a : Nat) : (s.extract a s.size).data.toList = s.data.toList.drop a := by
  rw [ext_list, List.take_of_length_le (by rw [len_data]; omega)]
theorem ext_size (s : ByteArray) (a b : Nat) : (s.extract a b).size ≤ s.size := by
  rw [ByteArray.size_extract]; omega
/-- what is cut off at the first sign -/
theorem cs_some {s : ByteArray} {u v : List UInt8} {c : UInt8} (e : s.data.toList = u ++ c :: v) (hk : csK s = (u.length : Int)) : (csA s).data.toList = u ∧ csM s = (c == 45) ∧ (s.extract u.length s.size).data.toList = c :: v ∧ (s.extract (u.length + 1) s.size).data.toList = v := by
  have hn : ¬ (u.length : Int) < 0 := by omega
  refine ⟨?_, ?_, ?_, ?_⟩
  · unfold csA
    rw [hk, if_neg hn, ext_list, e]
    simp
  · unfold csM
    rw [hk, e]
    simp [List.getD]
  · rw [ext_end, e]; simp
  · rw [ext_end, e]
    rw [show u.length + 1 = (u ++ [c]).length by simp, show u ++ c :: v = (u ++ [c]) ++ v by simp, List.drop_left]
theorem itoa_cases (n : Int) : (n < 0 ∧ Lib.itoa n = 45 :: Lib.decDigits (-n).toNat) ∨ (0 ≤ n ∧ Lib.itoa n = Lib.decDigits n.toNat) := by
  unfold Lib.itoa
  split
  · exact .inl ⟨by omega, by rw [show n.natAbs = (-n).toNat by omega]⟩
  · exact .inr ⟨by omega, rfl⟩
theorem cs_sound {s : ByteArray} (h : csB s = true) : s.data.toList = (csA s).data.toList ++ sb (csV s) :: Lib.decDigits (ab (csV s)) := by
  rcases ia_split s.data.toList with ⟨h1, h2⟩ | ⟨u, c, v, e, hk, hc, hu⟩
  · unfold csB csK at h
    rw [h1, if_pos (by decide)] at h
    cases h
  · obtain ⟨q1, q2, q3, q4⟩ := cs_some e hk
    have hn : ¬ csK s < 0 := by rw [show csK s = (u.length : Int) from hk]; omega
    have hN : (csK s).toNat = u.length := by rw [show csK s = (u.length : Int) from hk]; omega
    unfold csB at h
    rw [if_neg hn, q2, hN] at h
    have hV : csV s = if (c == 45) = true then psV (s.extract u.length s.size) else pnV (s.extract (u.length + 1) s.size) := by
      unfold csV
      rw [if_neg hn, q2, hN]
    rw [q1, e]
    congr 1
    rcases hc with rfl | rfl
    · rw [if_neg (by decide)] at h hV
      obtain ⟨p1, p2⟩ := pn_sound h
      rw [q4, ← hV] at p2
      rw [← hV] at p1
      unfold sb ab
      rw [if_neg (by omega), if_neg (by omega), p2]
    · rw [if_pos (by decide)] at h hV
      have p2 := ps_sound h
      rw [q3, ← hV] at p2
      rcases itoa_cases (csV s) with ⟨g, e2⟩ | ⟨g, e2⟩ <;> rw [e2] at p2
      · unfold sb ab
        rw [if_pos g, if_pos g, (List.cons.inj p2).2]
      · exact absurd (show (45 : UInt8) ∈ Lib.decDigits (csV s).toNat by rw [← p2]; simp) (not_in (.inl (by decide)))
theorem cs_complete {s : ByteArray} {p : Nat} {v : Int} (v1 : -50 ≤ v) (v2 : v ≤ 50) (e : s.data.toList = Lib.decDigits p ++ sb v :: Lib.decDigits (ab v)) : csB s = true ∧ csV s = v ∧ (csA s).data.toList = Lib.decDigits p := by
  have hsb : sb v = 43 ∨ sb v = 45 := by unfold sb; split <;> simp
  have hdg : ∀ b ∈ Lib.decDigits p, b ≠ 43 ∧ b ≠ 45 := fun b hb => by
    have := digits_of p b hb
    refine ⟨?_, ?_⟩ <;> (rintro rfl; simp at this)
  rcases ia_split s.data.toList with ⟨h1, h2⟩ | ⟨u, c, w, e', hk, hc, hu⟩
  · have := h2 (sb v) (by rw [e]; simp)
    rcases hsb with h | h <;> rw [h] at this <;> simp at this
  · obtain ⟨rfl, rfl, rfl⟩ := sign_unique hc hsb hu hdg (e'.symm.trans e)
    obtain ⟨q1, q2, q3, q4⟩ := cs_some e' hk
    have hn : ¬ csK s < 0 := by rw [show csK s = ((Lib.decDigits p).length : Int) from hk]; omega
    have hN : (csK s).toNat = (Lib.decDigits p).length := by rw [show csK s = ((Lib.decDigits p).length : Int) from hk]; omega
    unfold csB csV
    rw [if_neg hn, if_neg hn, q2, hN]
    by_cases g : v < 0
    · have hs45 : sb v = 45 := if_pos g
      have hb : (sb v == 45) = true := by rw [hs45]; rfl
      rw [hb, if_pos rfl, if_pos rfl]
      have hi : (s.extract (Lib.decDigits p).length s.size).data.toList = Lib.itoa v := by
        rw [q3, hs45]
        rcases itoa_cases v with ⟨_, e2⟩ | ⟨g2, e2⟩
        · rw [e2, show ab v = (-v).toNat from if_pos g]
        · omega
      obtain ⟨r1, r2⟩ := ps_complete (n := v) (by omega) (by omega) hi
      exact ⟨r1, r2, q1⟩
    · have hs43 : sb v = 43 := if_neg g
      have hb : (sb v == 45) = false := by rw [hs43]; rfl
      rw [hb, if_neg (by decide), if_neg (by decide)]
      obtain ⟨r1, r2⟩ := pn_complete (m := ab v) (by unfold ab; rw [if_neg g]; omega) q4
      refine ⟨r1, ?_, q1⟩
      rw [r2]
      unfold ab
      rw [if_neg g]
      omega
def wtH (s : ByteArray) : Int := pnV (cutA s 64)
def wtP (s : ByteArray) : Int := pnV (csA (cutB s 64))
def wtS (s : ByteArray) : Int := csV (cutB s 64)
def wtB (s : ByteArray) : Bool := (pnB (cutA s 64) && (pnB (csA (cutB s 64)) && csB (cutB s 64))) && okWk 200 (wtH s) (wtP s) (wtS s)
def ZT (ok : Bool) (x : Int) : Int := if ok then x else 0
theorem wt_read (s : ByteArray) : ReadW s (ZT (wtB s) (wtH s)) (ZT (wtB s) (wtP s)) (ZT (wtB s) (wtS s)) (wtB s) := by
  refine ⟨⟨fun h => ?_, fun a b c h e => ?_⟩, fun h => by simp [ZT, h]⟩
  · have h' := h
    simp only [wtB, Bool.and_eq_true] at h'
    obtain ⟨⟨h1, h2, h3⟩, h4⟩ := h'
    simp only [ZT, h, if_true]
    refine ⟨h4, ?_⟩
    obtain ⟨p1, e1⟩ := pn_sound h1
    obtain ⟨p2, e2⟩ := pn_sound h2
    have e3 := cs_sound h3
    apply bytes_eq
    rw [txW_list (h := wtH s) (p := wtP s) (s := wtS s) p1 p2, cut_key s 64 (by rw [e3]; simp), e3, e1, e2]
    rfl
  · obtain ⟨⟨⟨a1, a2⟩, ⟨b1, b2⟩, c1, c2⟩, e1, n1, n2, _⟩ := txW_parts h
    rw [e] at e1
    have q1 := cut_hit (y := Lib.decDigits b.toNat ++ sb c :: Lib.decDigits (ab c)) n1
    rw [← e1] at q1
    have x1 : (cutA s 64).data.toList = Lib.decDigits a.toNat := by simp [cutA, q1]
    have y1 : (cutB s 64).data.toList = Lib.decDigits b.toNat ++ sb c :: Lib.decDigits (ab c) := by
      show (Lib.cut s.data.toList [64]).2.1 = _
      rw [q1]
    obtain ⟨r1, s1⟩ := pn_complete (m := a.toNat) (by omega) x1
    obtain ⟨r3, s3, z3⟩ := cs_complete c1 c2 y1
    obtain ⟨r2, s2⟩ := pn_complete (m := b.toNat) (by omega) z3
    have w1 : wtH s = a := by unfold wtH; rw [s1]; omega
    have w2 : wtP s = b := by unfold wtP; rw [s2]; omega
    have w3 : wtS s = c := s3
    unfold wtB
    rw [r1, r2, r3, w1, w2, w3, h]
    rfl
def MaxL (w : World) : Prop := ∃ m, w.cell? ⟨0, 0, none⟩ = some (.int .i64 m)
theorem MaxL.below {w w' : World} (h : MaxL w) (hb : Below w.heap.size w w') : MaxL w' := by
  obtain ⟨m, hm⟩ := h
  have hlt : 0 < w.heap.size := by
    by_cases c : 0 < w.heap.size
    · exact c
    · simp [World.cell?, Array.getElem?_eq_none (Nat.le_of_not_lt c)] at hm
  exact ⟨m, by rw [(bcell hb).1 _ _ hlt]; exact hm⟩
theorem cut_max (s : ByteArray) (b : UInt8) (hs : s.size ≤ 1048576) {w0 w : World} (h : MaxL w0) (hb : Below w0.heap.size w0 w) :
    Calls Tryd.prog 16 #[.string s, .string ⟨#[b]⟩] w fun e w' => e = .returned (.tuple #[.string (cutA s b), .string (cutB s b), .bool (Lib.cut s.data.toList [b]).2.2]) ∧ ∃ n, w' = w.drewN n := by
  obtain ⟨m, hm⟩ := h.below hb
  exact Tryd.strings_Cut s ⟨#[b]⟩ m w (by omega) hm
theorem parse_at (s : ByteArray) (hs : s.size ≤ 1048576) {w0 w : World} (T : Tab w0) (E : Errs w0) (hb : Below w0.heap.size w0 w) :
    Calls Tryd.prog 18 #[.string s] w fun e w' => e = .returned (.tuple #[.int .i64 (pnV s), .bool (pnB s)]) ∧ Below w.heap.size w w' := parseNumber_any s hs w (T.below hb) (E.below hb)
theorem parse_atS (s : ByteArray) (hs : s.size ≤ 1048576) {w0 w : World} (T : Tab w0) (E : Errs w0) (hb : Below w0.heap.size w0 w) :
    Calls Tryd.prog 27 #[.string s] w fun e w' => e = .returned (.tuple #[.int .i64 (psV s), .bool (psB s)]) ∧ Below w.heap.size w w' := parseSigned_any s hs w (T.below hb) (E.below hb)
set_option maxHeartbeats 4000000 in
theorem cutSpeed_any (s : ByteArray) (hs : s.size ≤ 1048576) {w0 w : World} (T : Tab w0) (E : Errs w0) (hb : Below w0.heap.size w0 w) :
    Calls Tryd.prog 17 #[.string s] w fun e w' => e = .returned (.tuple #[.string (csA s), .int .i64 (csV s), .bool (csB s)]) ∧ Below w.heap.size w w' := by
  have HI := fun W => Lib.hid (indexAny_pm s hs W)
  rcases ia_split s.data.toList with ⟨h1, h2⟩ | ⟨u, c, v, e, hk, hc, hu⟩
  · have hK : csK s = -1 := h1
    have HA := Lib.hid (show csA s = ⟨#[]⟩ by unfold csA; rw [hK]; rfl)
    have HV := Lib.hid (show csV s = 0 by unfold csV; rw [hK]; rfl)
    have HB := Lib.hid (show csB s = false by unfold csB; rw [hK]; rfl)
    rw [h1] at HI
    clear h1 h2 hK T E hb
    go_enter Tryd.func17, Tryd.ntmps17
    go_wp2_with fail
    refine ((HI _).out).mono ?_
    rintro e w1 ⟨rfl, hb1⟩
    go_wp2
    go_ret3
    exact ⟨by rw [HA.out, HV.out, HB.out]; rfl, (by repeat (first | exact Below.refl _ _ | refine bl_alloc ?_ _ | refine bl_drewN ?_ _ | refine bl_trans (by assumption) ?_ | refine bl_set ?_ (by first | omega | (simp; done) | (simp; omega)) _))⟩
  · have hK : csK s = (u.length : Int) := hk
    obtain ⟨_, q2, _, _⟩ := cs_some e hk
    have hn : ¬ csK s < 0 := by omega
    have hN : (csK s).toNat = u.length := by omega
    have hsz : u.length < s.size := by
      rw [← len_data, e]; simp
    have hget : s[u.length]'hsz = c := by
      have := getD_data s u.length hsz
      rw [e] at this
      simp [List.getD] at this
      exact this.symm
    have HA := Lib.hid (show csA s = s.extract 0 u.length by unfold csA; rw [if_neg hn, hN])
    have HV := Lib.hid (show csV s = if (c == 45) = true then psV (s.extract u.length s.size) else pnV (s.extract (u.length + 1) s.size) by unfold csV; rw [if_neg hn, q2, hN])
    have HB := Lib.hid (show csB s = if (c == 45) = true then psB (s.extract u.length s.size) else pnB (s.extract (u.length + 1) s.size) by unfold csB; rw [if_neg hn, q2, hN])
    have P1 := fun {W : World} (h : Below w.heap.size w W) => Lib.hid (parse_atS (s.extract u.length s.size) (Nat.le_trans (ext_size _ _ _) hs) T E (bl_trans h hb))
    have P2 := fun {W : World} (h : Below w.heap.size w W) => Lib.hid (parse_at (s.extract (u.length + 1) s.size) (Nat.le_trans (ext_size _ _ _) hs) T E (bl_trans h hb))
    rw [hk] at HI
    clear hk hK q2 hn hN hu e T E hb
    generalize u.length = n at *
    have i0 : ¬ (n : Int) < 0 := by omega
    have i1 : (n : Int) < (s.size : Int) := by omega
    have i2 : (n : Int) ≤ (s.size : Int) := by omega
    have i3 : (n : Int) + 1 ≤ (s.size : Int) := by omega
    rcases hc with rfl | rfl
    · rw [if_neg (by decide)] at HV HB
      generalize pnV (s.extract (n + 1) s.size) = V at *
      generalize pnB (s.extract (n + 1) s.size) = B at *
      go_enter Tryd.func17, Tryd.ntmps17
      go_wp2_with fail
      refine ((HI _).out).mono ?_
      rintro e w1 ⟨rfl, hb1⟩
      go_wp2_with fail
      refine ((P2 (by repeat (first | exact Below.refl _ _ | refine bl_alloc ?_ _ | refine bl_drewN ?_ _ | refine bl_trans (by assumption) ?_ | refine bl_set ?_ (by first | omega | (simp; done) | (simp; omega)) _))).out).mono ?_
      rintro e w2 ⟨rfl, hb2⟩
      go_wp2
      go_ret3
      exact ⟨by rw [HA.out, HV.out, HB.out]; rfl, (by repeat (first | exact Below.refl _ _ | refine bl_alloc ?_ _ | refine bl_drewN ?_ _ | refine bl_trans (by assumption) ?_ | refine bl_set ?_ (by first | omega | (simp; done) | (simp; omega)) _))⟩
    · rw [if_pos (by decide)] at HV HB
      generalize psV (s.extract n s.size) = V at *
      generalize psB (s.extract n s.size) = B at *
      go_enter Tryd.func17, Tryd.ntmps17
      go_wp2_with fail
      refine ((HI _).out).mono ?_
      rintro e w1 ⟨rfl, hb1⟩
      go_wp2_with fail
      refine ((P1 (by repeat (first | exact Below.refl _ _ | refine bl_alloc ?_ _ | refine bl_drewN ?_ _ | refine bl_trans (by assumption) ?_ | refine bl_set ?_ (by first | omega | (simp; done) | (simp; omega)) _))).out).mono ?_
      rintro e w2 ⟨rfl, hb2⟩
      go_wp2
      go_ret3
      exact ⟨by rw [HA.out, HV.out, HB.out]; rfl, (by repeat (first | exact Below.refl _ _ | refine bl_alloc ?_ _ | refine bl_drewN ?_ _ | refine bl_trans (by assumption) ?_ | refine bl_set ?_ (by first | omega | (simp; done) | (simp; omega)) _))⟩
set_option maxHeartbeats 2000000 in
theorem impl_ParseWalker (s : ByteArray) (hs : s.size ≤ 1048576) (w : World) (T : Tab w) (E : Errs w) (M : MaxL w) :
    Calls Tryd.prog 9 #[.string s] w fun e w' => e = .returned (.tuple #[.agg #[.int .i64 (ZT (wtB s) (wtH s)), .int .i64 (ZT (wtB s) (wtP s)), .int .i64 (ZT (wtB s) (wtS s))], .bool (wtB s)]) ∧ Below w.heap.size w w' := by
  obtain ⟨s1, s2⟩ := cut_size s 64
  have s3 : (csA (cutB s 64)).size ≤ 1048576 := by
    unfold csA
    split
    · decide
    · exact Nat.le_trans (ext_size _ _ _) (Nat.le_trans s2 hs)
  have HP := Lib.hid (show wtB s = ((pnB (cutA s 64) && (pnB (csA (cutB s 64)) && csB (cutB s 64))) && okWk 200 (wtH s) (wtP s) (wtS s)) from rfl)
  have C1 := fun {W : World} (hb : Below w.heap.size w W) => Lib.hid (cut_max s 64 hs M hb)
  have P1 := fun {W : World} (hb : Below w.heap.size w W) => Lib.hid (parse_at (cutA s 64) (by omega) T E hb)
  have P2 := fun {W : World} (hb : Below w.heap.size w W) => Lib.hid (cutSpeed_any (cutB s 64) (by omega) T E hb)
  have P3 := fun {W : World} (hb : Below w.heap.size w W) => Lib.hid (parse_at (csA (cutB s 64)) s3 T E hb)
  clear T E M
  rw [show pnV (cutA s 64) = wtH s from rfl] at P1
  rw [show csV (cutB s 64) = wtS s from rfl] at P2
  rw [show pnV (csA (cutB s 64)) = wtP s from rfl] at P3
  generalize (Lib.cut s.data.toList [64]).2.2 = f1 at *
  generalize pnB (cutA s 64) = k1 at *
  generalize pnB (csA (cutB s 64)) = k2 at *
  generalize csB (cutB s 64) = k3 at *
  generalize wtH s = a at *
  generalize wtP s = b at *
  generalize wtS s = c at *
  generalize csA (cutB s 64) = x3 at *
  generalize cutA s 64 = x1 at *
  generalize cutB s 64 = x2 at *
  generalize wtB s = pt at *
  have HZ : Hid (∀ ok x, ZT ok x = if ok then x else 0) := Lib.hid fun _ _ => rfl
  go_enter Tryd.func9, Tryd.ntmps9
  go_wp2_with fail
  refine ((C1 (by repeat (first | exact Below.refl _ _ | refine bl_alloc ?_ _ | refine bl_drewN ?_ _ | refine bl_trans (by assumption) ?_ | refine bl_set ?_ (by first | omega | (simp; done) | (simp; omega)) _))).out).mono ?_
  rintro e w' ⟨rfl, m1, rfl⟩
  go_wp2_with fail
  refine ((P2 (by repeat (first | exact Below.refl _ _ | refine bl_alloc ?_ _ | refine bl_drewN ?_ _ | refine bl_trans (by assumption) ?_ | refine bl_set ?_ (by first | omega | (simp; done) | (simp; omega)) _))).out).mono ?_
  rintro e w1 ⟨rfl, hb1⟩
  obtain ⟨hc1, hf1⟩ := bcell hb1
  have hz1 := bsize hb1
  (try simp only [World.size_alloc, World.size_drewN] at hz1)
  have z1 : w.heap.size < w1.heap.size := by simp at hz1; omega
  have dr0 : w1.cell? ⟨w.heap.size, 0, none⟩ = some (.int .i64 0) := by simp [*]
  have dr1 : w1.cell? ⟨w.heap.size, 1, none⟩ = some (.int .i64 0) := by simp [*]
  have dr2 : w1.cell? ⟨w.heap.size, 2, none⟩ = some (.int .i64 0) := by simp [*]
  have fr0 : w1.frozen? ⟨w.heap.size, 0, none⟩ = false := by simp [*]
  have fr1 : w1.frozen? ⟨w.heap.size, 1, none⟩ = false := by simp [*]
  have fr2 : w1.frozen? ⟨w.heap.size, 2, none⟩ = false := by simp [*]
  have k1' : Below w.heap.size w w1 := (by repeat (first | exact Below.refl _ _ | refine bl_alloc ?_ _ | refine bl_drewN ?_ _ | refine bl_trans (by assumption) ?_ | refine bl_set ?_ (by first | omega | (simp; done) | (simp; omega)) _))
  have K1 := Lib.hid k1'
  clear k1' hc1 hf1 hb1 hz1
  go_wp2_with fail
  refine ((P1 K1.out).out).mono ?_
  rintro e w2 ⟨rfl, hb2⟩
  have dr0 := cell_after hb2 z1 dr0
  have dr1 := cell_after hb2 z1 dr1
  have dr2 := cell_after hb2 z1 dr2
  have fr0 := frozen_off hb2 z1 fr0
  have fr1 := frozen_off hb2 z1 fr1
  have fr2 := frozen_off hb2 z1 fr2
  have z2 := size_after hb2 z1
  have K2 := Lib.hid (bl_trans hb2 K1.out)
  clear hb2
  go_wp2_with fail
  refine ((P3 K2.out).out).mono ?_
  rintro e w3 ⟨rfl, hb3⟩
  have dr0 := cell_after hb3 z2 dr0
  have dr1 := cell_after hb3 z2 dr1
  have dr2 := cell_after hb3 z2 dr2
  have fr0 := frozen_off hb3 z2 fr0
  have fr1 := frozen_off hb3 z2 fr1
  have fr2 := frozen_off hb3 z2 fr2
  have z3 := size_after hb3 z2
  have K3 := Lib.hid (bl_trans hb3 K2.out)
  clear hb3
  cases k1
  · obtain rfl : pt = false := by rw [HP.out]; rfl
    go_wp2
    refine bodyPost_ret (v := .tuple #[.agg #[.int .i64 0, .int .i64 0, .int .i64 0], .bool false]) (by simp [results, Tryd.results9, go_sem, *]) rfl ⟨rfl, ?_⟩
    repeat (first | exact K3.out | refine bl_alloc ?_ _ | refine bl_set ?_ (by first | omega | (simp; done) | (simp; omega)) _)
  cases k2
  · obtain rfl : pt = false := by rw [HP.out]; rfl
    go_wp2
    refine bodyPost_ret (v := .tuple #[.agg #[.int .i64 0, .int .i64 0, .int .i64 0], .bool false]) (by simp [results, Tryd.results9, go_sem, *]) rfl ⟨rfl, ?_⟩
    repeat (first | exact K3.out | refine bl_alloc ?_ _ | refine bl_set ?_ (by first | omega | (simp; done) | (simp; omega)) _)
  cases k3
  · obtain rfl : pt = false := by rw [HP.out]; rfl
    go_wp2
    refine bodyPost_ret (v := .tuple #[.agg #[.int .i64 0, .int .i64 0, .int .i64 0], .bool false]) (by simp [results, Tryd.results9, go_sem, *]) rfl ⟨rfl, ?_⟩
    repeat (first | exact K3.out | refine bl_alloc ?_ _ | refine bl_set ?_ (by first | omega | (simp; done) | (simp; omega)) _)
  have P := Lib.hid (show pt = okWk 200 a b c by rw [HP.out]; rfl)
  clear HP
  have hbn : Below w3.heap.size w3 (w3.alloc (.cells #[.int .i64 a, .int .i64 b, .int .i64 c] 26)) := bl_alloc (Below.refl _ _) _
  have dr0 := cell_after hbn z3 dr0
  have dr1 := cell_after hbn z3 dr1
  have dr2 := cell_after hbn z3 dr2
  have fr0 := frozen_off hbn z3 fr0
  have fr1 := frozen_off hbn z3 fr1
  have fr2 := frozen_off hbn z3 fr2
  have q0 : (w3.alloc (.cells #[.int .i64 a, .int .i64 b, .int .i64 c] 26)).cell? ⟨w3.heap.size, 0, none⟩ = some (.int .i64 a) := by simp
  have q1 : (w3.alloc (.cells #[.int .i64 a, .int .i64 b, .int .i64 c] 26)).cell? ⟨w3.heap.size, 1, none⟩ = some (.int .i64 b) := by simp
  have q2 : (w3.alloc (.cells #[.int .i64 a, .int .i64 b, .int .i64 c] 26)).cell? ⟨w3.heap.size, 2, none⟩ = some (.int .i64 c) := by simp
  have lq : w3.heap.size < (w3.alloc (.cells #[.int .i64 a, .int .i64 b, .int .i64 c] 26)).heap.size := by simp
  have z4 := size_after hbn z3
  have K4 := Lib.hid (bl_trans hbn K3.out)
  clear hbn
  go_wp2_with fail
  refine (isWalkerOfSomeLamp_any _ _ _ _).mono ?_
  rintro e w5 ⟨rfl, hb5⟩
  have dr0 := cell_after hb5 z4 dr0
  have dr1 := cell_after hb5 z4 dr1
  have dr2 := cell_after hb5 z4 dr2
  have fr0 := frozen_off hb5 z4 fr0
  have fr1 := frozen_off hb5 z4 fr1
  have fr2 := frozen_off hb5 z4 fr2
  have q0 := cell_after hb5 lq q0
  have q1 := cell_after hb5 lq q1
  have q2 := cell_after hb5 lq q2
  have K5 := Lib.hid (bl_trans hb5 K4.out)
  clear hb5
  cases hok : okWk 200 a b c
  · obtain rfl : pt = false := by rw [P.out, hok]
    go_wp2
    refine bodyPost_ret (v := .tuple #[.agg #[.int .i64 0, .int .i64 0, .int .i64 0], .bool false]) (by simp [results, Tryd.results9, go_sem, *]) rfl ⟨rfl, ?_⟩
    repeat (first | exact K5.out | refine bl_alloc ?_ _ | refine bl_set ?_ (by first | omega | (simp; done) | (simp; omega)) _)
  · obtain rfl : pt = true := by rw [P.out, hok]
    go_wp2
    refine bodyPost_ret (v := .tuple #[.agg #[.int .i64 a, .int .i64 b, .int .i64 c], .bool true]) (by simp [results, Tryd.results9, go_sem, *]) rfl ⟨rfl, ?_⟩
    repeat (first | exact K5.out | refine bl_alloc ?_ _ | refine bl_set ?_ (by first | omega | (simp; done) | (simp; omega)) _)
end Go.Proofs.YtkcncjoekbbolaaDoor
