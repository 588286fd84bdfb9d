/- Spots that are read back, by the model. -/
import Derived.Test.YtppgcaennhghoaaDoorLWX
import Derived.Test.YtppgcaennhghoaaDoorT4
import Derived.Lib.ItoaMem
import Derived.Deep.Cut
import Derived.Deep.DeepCutAuto
import Derived.Deep.RegionLaw
namespace Go.Proofs.YtppgcaennhghoaaDoor
open Go.RowKit
set_option linter.unusedVariables false
set_option linter.unusedSimpArgs false
theorem frozen_after {u v : World} (hb : Below u.heap.size u v) {n o : Nat} (hn : n < u.heap.size) (hu : u.frozen? ⟨n, o, none⟩ = false) : v.frozen? ⟨n, o, none⟩ = false := by
  rw [(bcell hb).2 _ _ hn]; exact hu
theorem dec_itoa0 (n : Int) : (dec n).data.toList = Lib.itoa n := by simp [dec]
theorem not_in {n : Nat} {b : UInt8} (h : b.toNat < 48 ∨ 57 < b.toNat) : b ∉ Lib.decDigits n := fun hb => by
  have := digits_of n b hb; omega
theorem itoa_cases (n : Int) : (n < 0 ∧ Lib.itoa n = 45 :: Lib.decDigits (-n).toNat) ∨ (0 ≤ n ∧ Lib.itoa n = Lib.decDigits n.toNat) := by
  unfold Lib.itoa
  split
  · exact .inl ⟨by omega, by rw [show n.natAbs = (-n).toNat by omega]⟩
  · exact .inr ⟨by omega, rfl⟩
theorem not_in_itoa (n : Int) : (44 : UInt8) ∉ Lib.itoa n := by
  rcases itoa_cases n with ⟨_, e⟩ | ⟨_, e⟩ <;> rw [e]
  · simp only [List.mem_cons, not_or]
    exact ⟨by decide, not_in (.inl (by decide))⟩
  · exact not_in (.inl (by decide))
theorem itoa_ne (n : Int) : Lib.itoa n ≠ [] := by
  rcases itoa_cases n with ⟨_, e⟩ | ⟨_, e⟩ <;> rw [e]
  · simp
  · exact digits_ne _
theorem toList_inj {s t : ByteArray} (h : s.toList = t.toList) : s = t := by
  rw [Lib.toList_data, Lib.toList_data] at h
  exact ByteArray.ext (Array.toList_inj.1 h)
theorem bytes_eq {s t : ByteArray} (h : s.data.toList = t.data.toList) : s = t := ByteArray.ext (Array.toList_inj.1 h)
theorem txS_list (a b : Int) (hb : 0 ≤ b) : (txS a b).data.toList = Lib.itoa a ++ 44 :: Lib.decDigits b.toNat := by
  have h1 := dec_itoa0 a
  have h2 : (dec b).data.toList = Lib.decDigits b.toNat := by
    rw [dec_itoa0]; unfold Lib.itoa; rw [if_neg (by omega)]
  simp [txS, h1, h2]
theorem txS_parts {a b : Int} (h : okSp a b = true) : ((-1000 ≤ a ∧ a ≤ 1000) ∧ 1 ≤ b ∧ b ≤ 1000) ∧
    (txS a b).data.toList = Lib.itoa a ++ 44 :: Lib.decDigits b.toNat ∧ (44 : UInt8) ∉ Lib.itoa a ∧ (44 : UInt8) ∉ Lib.decDigits b.toNat ∧ (txS a b).size ≤ 10 := by
  obtain ⟨⟨a0, a1⟩, b0, b1⟩ := okSp_true h
  have e := txS_list a b (by omega)
  have l2 := digits_len 3 b.toNat (by omega)
  refine ⟨⟨⟨a0, a1⟩, b0, b1⟩, e, not_in_itoa a, not_in (.inl (by decide)), ?_⟩
  rw [← len_data, e]
  simp only [List.length_append, List.length_cons]
  rcases itoa_cases a with ⟨_, e⟩ | ⟨_, e⟩ <;> rw [e]
  · have l1 := digits_len 3 (-a).toNat (by omega)
    simp only [List.length_cons]
    omega
  · have l1 := digits_len 3 a.toNat (by omega)
    omega
theorem itoa_inj {a b : Int} (h : Lib.itoa a = Lib.itoa b) : a = b := by
  rcases itoa_cases a with ⟨h1, e1⟩ | ⟨h1, e1⟩ <;> rcases itoa_cases b with ⟨h2, e2⟩ | ⟨h2, e2⟩ <;> rw [e1, e2] at h
  · have := digits_inj (List.cons.inj h).2; omega
  · exact absurd (show (45 : UInt8) ∈ Lib.decDigits b.toNat by rw [← h]; simp) (not_in (.inl (by decide)))
  · exact absurd (show (45 : UInt8) ∈ Lib.decDigits a.toNat by rw [h]; simp) (not_in (.inl (by decide)))
  · have := digits_inj h; omega
theorem txS_inj {a b a' b' : Int} (h : okSp a b = true) (h' : okSp a' b' = true) (e : txS a b = txS a' b') : a = a' ∧ b = b' := by
  obtain ⟨k, e1, n1, n2, _⟩ := txS_parts h
  obtain ⟨k', e1', n1', n2', _⟩ := txS_parts h'
  rw [e, e1'] at e1
  obtain ⟨q1, q2⟩ := cut_unique n1' n1 e1
  have := itoa_inj q1; have := digits_inj q2
  omega
/-- the number ahead of the comma, as the model reads it -/
def rdX (l : List UInt8) : Int := if l.getD 0 0 = 45 then -(rdV (l.drop 1)) else rdV l
theorem rdX_itoa (n : Int) (h1 : -1000000 < n) (h2 : n < 1000000) : rdX (Lib.itoa n) = n := by
  unfold rdX
  rcases itoa_cases n with ⟨h, e⟩ | ⟨h, e⟩ <;> rw [e]
  · rw [if_pos (by simp)]
    simp only [List.drop_succ_cons, List.drop_zero]
    rw [rdV_digits _ (by omega)]
    omega
  · have hne := digits_ne n.toNat
    have hdg := digits_of n.toNat
    have : (Lib.decDigits n.toNat).getD 0 0 ≠ 45 := by
      cases hc : Lib.decDigits n.toNat with
      | nil => exact absurd hc hne
      | cons b r =>
        rw [hc] at hdg
        have hb := hdg b (by simp)
        simp only [List.getD_cons_zero]
        rintro rfl
        simp at hb
    rw [if_neg this, rdV_digits _ (by omega)]
    omega
theorem rdV_most (l : List UInt8) : rdV l ≤ 1000000 := by
  unfold rdV
  split
  · omega
  · rename_i hw
    split
    · omega
    · split
      · rename_i m hm
        have h6 := within_true (by simpa using hw)
        have := Lib.decFrom_lt _ 0 m hm
        have := pow_bd (k := l.length) (m := m) (by omega) (by simpa using this)
        omega
      · omega
theorem drop1 (s : ByteArray) : (s.extract 1 s.size).data.toList = s.data.toList.drop 1 := by
  have h : s.data.size = s.size := rfl
  rw [ByteArray.data_extract, Array.toList_extract, List.extract_eq_take_drop, List.take_of_length_le]
  simp only [List.length_drop, Array.length_toList]
  omega
def ParsedS (s : ByteArray) (a b : Int) (ok : Bool) : Prop := (ok = true → okSp a b = true ∧ txS a b = s) ∧ ∀ a' b', okSp a' b' = true → txS a' b' = s → ok = true
theorem parsedS_no {s : ByteArray} (h : ∀ a' b', okSp a' b' = true → txS a' b' ≠ s) (a b : Int) : ParsedS s a b false :=
  ⟨(fun e => by cases e), fun a' b' h1 h2 => absurd h2 (h a' b' h1)⟩
theorem P2_after {a u v : World} {g : Nat} {x y : Value} (hb : Below u.heap.size u v) (h : u.cell? ⟨g, 0, none⟩ = some x ∧ u.cell? ⟨g, 1, none⟩ = some y ∧ g < u.heap.size ∧ Below a.heap.size a u) : v.cell? ⟨g, 0, none⟩ = some x ∧ v.cell? ⟨g, 1, none⟩ = some y ∧ g < v.heap.size ∧ Below a.heap.size a v :=
  ⟨by rw [(bcell hb).1 _ _ h.2.2.1]; exact h.1, by rw [(bcell hb).1 _ _ h.2.2.1]; exact h.2.1, Nat.lt_of_lt_of_le h.2.2.1 hb.size, bl_trans hb h.2.2.2⟩
set_option maxHeartbeats 4000000 in
theorem lwParse_any (s : ByteArray) (hs : s.size ≤ 1048576) (w : World) :
    Calls Tryd.prog 15 #[.string s] w fun e w' => ∃ a b ok, e = .returned (.tuple #[.agg #[.int .i64 a, .int .i64 b], .bool ok]) ∧ ParsedS s a b ok ∧ Below w.heap.size w w' := by
  have hlen := len_data s
  go_enter Tryd.func15, Tryd.ntmps15
  go_wp2_with fail
  refine (l1Split_any s 44 44 rfl hs _).mono ?_
  rintro e w1 ⟨v1, rfl, r1, hb1⟩
  have R1 := Lib.hid r1
  clear r1
  obtain ⟨hc1, hf1⟩ := bcell hb1
  have hz1 := bsize hb1
  simp only [World.size_alloc] at hz1
  have z1 : w.heap.size < w1.heap.size := by omega
  by_cases hlong : 10 < s.size
  · have P := Lib.hid (parsedS_no (s := s) (fun a b h e => by obtain ⟨_, _, _, _, h14⟩ := txS_parts h; rw [e] at h14; omega) 0 0)
    have hl' : (10 : Int) < (s.size : Int) := by omega
    go_wp2
    refine bodyPost_ret (v := .tuple #[.agg #[.int .i64 0, .int .i64 0], .bool false]) (by simp [results, Tryd.results15, go_sem, *]) rfl ⟨_, _, _, rfl, P.out, (by repeat (first | exact Below.refl _ _ | refine bl_alloc ?_ _ | refine bl_drewN ?_ _ | refine bl_trans (by assumption) ?_ | refine bl_set ?_ (by first | omega | (simp; done) | (simp; omega)) _))⟩
  have hl' : ¬ (10 : Int) < (s.size : Int) := by omega
  by_cases hp : (sp 44 s.data.toList s.size).1.length ≠ 1
  · have P := Lib.hid (parsedS_no (s := s) (fun a b h e => by
      obtain ⟨_, e1, n1, n2, _⟩ := txS_parts h
      rw [e] at e1
      have := sp_two n1 n2
      rw [← e1, hlen] at this
      exact hp (by rw [this]; rfl)) 0 0)
    obtain ⟨g, cap, rfl, _, _, _⟩ := R1.out.open_ (by simp)
    have hl2 : (((((sp 44 s.data.toList s.size).1 ++ [(sp 44 s.data.toList s.size).2]).length : Nat) : Int) != 2) = true := by simp; omega
    generalize ((sp 44 s.data.toList s.size).1 ++ [(sp 44 s.data.toList s.size).2]).length = L at *
    go_wp2
    refine bodyPost_ret (v := .tuple #[.agg #[.int .i64 0, .int .i64 0], .bool false]) (by simp [results, Tryd.results15, go_sem, *]) rfl ⟨_, _, _, rfl, P.out, (by repeat (first | exact Below.refl _ _ | refine bl_alloc ?_ _ | refine bl_drewN ?_ _ | refine bl_trans (by assumption) ?_ | refine bl_set ?_ (by first | omega | (simp; done) | (simp; omega)) _))⟩
  have hp := Decidable.not_not.1 hp
  obtain ⟨x, y, hxy, hsplit, n1, n2⟩ := sp_of_one (b := 44) (l := s.data.toList) (by rw [hlen]; exact hp)
  rw [hlen] at hxy
  rw [hxy] at R1
  clear hp hxy
  have HS := Lib.hid hsplit
  clear hsplit
  obtain ⟨g, cap, rfl, hB1, hg, hcl⟩ := SRow.open_ R1.out (by simp)
  obtain ⟨sx, hsx⟩ : ∃ sx : ByteArray, sx = ⟨x.toArray⟩ := ⟨_, rfl⟩
  obtain ⟨sy, hsy⟩ : ∃ sy : ByteArray, sy = ⟨y.toArray⟩ := ⟨_, rfl⟩
  have cx : w1.cell? ⟨g, 0, none⟩ = some (.string sx) := by rw [hsx]; exact hcl 0 (by simp)
  have cy : w1.cell? ⟨g, 1, none⟩ = some (.string sy) := by rw [hsy]; exact hcl 1 (by simp)
  have lx : sx.data.toList = x := by rw [hsx]
  have ly : sy.data.toList = y := by rw [hsy]
  simp only [List.cons_append, List.nil_append, List.length_cons, List.length_nil] at *
  have hk : Below w.heap.size w w1 := (by repeat (first | exact Below.refl _ _ | refine bl_alloc ?_ _ | refine bl_drewN ?_ _ | refine bl_trans (by assumption) ?_ | refine bl_set ?_ (by first | omega | (simp; done) | (simp; omega)) _))
  have dr0 : w1.cell? ⟨w.heap.size, 0, none⟩ = some (.int .i64 0) := by simp [*]
  have dr1 : w1.cell? ⟨w.heap.size, 1, none⟩ = some (.int .i64 0) := by simp [*]
  have fr0 : w1.frozen? ⟨w.heap.size, 0, none⟩ = false := by simp [*]
  have fr1 : w1.frozen? ⟨w.heap.size, 1, none⟩ = false := by simp [*]
  have HK := Lib.hid hk
  clear hcl R1 hp hc1 hf1 hb1 hk hsx hsy
  have HLX := Lib.hid lx
  have HLY := Lib.hid ly
  clear lx ly
  by_cases hx0 : x = []
  · have P := Lib.hid (parsedS_no (s := s) (fun a b h e => by
      obtain ⟨_, e1, m1, m2, _⟩ := txS_parts h
      rw [e, HS.out] at e1
      obtain ⟨q1, q2⟩ := cut_unique n1 m1 e1
      exact itoa_ne a (q1.symm.trans hx0)) 0 0)
    obtain rfl : sx = ⟨#[]⟩ := bytes_eq (by rw [HLX.out, hx0])
    go_wp2
    have hfin : Below w.heap.size w ((w1.setCell ⟨w.heap.size, 0, none⟩ (.int .i64 0)).setCell ⟨w.heap.size, 1, none⟩ (.int .i64 0)) := bl_set (bl_set HK.out (Nat.le_refl _) _) (Nat.le_refl _) _
    refine bodyPost_ret (v := .tuple #[.agg #[.int .i64 0, .int .i64 0], .bool false]) (by simp [results, Tryd.results15, go_sem, *]) rfl ?_
    first | exact ⟨_, _, _, rfl, P.out, hfin⟩ | exact ⟨_, _, .inl ⟨rfl, P.out, hfin⟩⟩
  have hsz : 0 < sx.size := by
    rw [← len_data, HLX.out]; exact List.length_pos_iff.2 hx0
  have hszI : (0 : Int) < (sx.size : Int) := by omega
  have hszJ : (1 : Int) ≤ (sx.size : Int) := by omega
  have hnil2 : (sx.toList == (⟨#[]⟩ : ByteArray).toList) = false := beq_eq_false_iff_ne.2 (fun e => by have := toList_inj e; rw [this] at hsz; exact absurd hsz (by decide))
  have hnil3 : sx.size ≠ 0 := by omega
  have hnil4 : sx.toList ≠ [] := fun e => by rw [Lib.toList_data, HLX.out] at e; exact hx0 e
  have hnil5 : sx.toList.isEmpty = false := by cases hh : sx.toList with | nil => exact absurd hh hnil4 | cons _ _ => rfl
  clear hnil2 hnil3 hnil4
  have hS : w1.cell? ⟨g, 0, none⟩ = some (.string sx) ∧ w1.cell? ⟨g, 1, none⟩ = some (.string sy) ∧ g < w1.heap.size ∧ Below w1.heap.size w1 w1 := ⟨cx, cy, hg, Below.refl _ _⟩
  have HR : Hid (∀ a b, okSp a b = true → txS a b = s → rdX sx.data.toList = a ∧ rdV sy.data.toList = b) := by
    refine Lib.hid fun a b h e => ?_
    obtain ⟨⟨⟨a0, a1⟩, b0, b1⟩, e1, m1, m2, _⟩ := txS_parts h
    rw [e, HS.out] at e1
    obtain ⟨q1, q2⟩ := cut_unique n1 m1 e1
    exact ⟨by rw [HLX.out, q1, rdX_itoa _ (by omega) (by omega)], by rw [HLY.out, q2, rdV_digits _ (by omega)]; omega⟩
  have hx45 : sx.data.toList.getD 0 0 = sx[0] := getD_data sx 0 hsz
  have HZ := Lib.hid (drop1 sx)
  have hbz := rdV_bound (sx.data.toList.drop 1)
  have hmz := rdV_most (sx.data.toList.drop 1)
  have HXD := Lib.hid (show rdX sx.data.toList = if sx[0] = 45 then -(rdV (sx.data.toList.drop 1)) else rdV sx.data.toList by unfold rdX; rw [hx45])
  clear hx45 hx0 HLX HLY HS n1 n2
  go_upto_region 5 with fail
  go_cut [5] (fun s5 wx => s5 = .pointer (some ⟨w1.heap.size, 0, none⟩) ∧ wx = (w1.alloc (.cells #[.int .i64 (rdV sx.data.toList), .int .i64 (rdV sy.data.toList)] 26)).drew)
  case first =>
    go_region_held3 (fun w' => w'.cell? ⟨g, 0, none⟩ = some (.string sx) ∧ w'.cell? ⟨g, 1, none⟩ = some (.string sy) ∧ g < w'.heap.size ∧ Below w1.heap.size w1 w') (first | exact P2_after hb9 (by assumption) | exact P2_after (below_drewN (Below.refl _ _) _) (by assumption) | exact P2_after (Below.drew (Below.refl _ _)) (by assumption) | assumption | exact P2_after (Below.drew ((Below.refl _ _).alloc (Nat.le_refl _) _)) (by assumption) | exact P2_after ((Below.refl _ _).alloc (Nat.le_refl _) _) (by assumption)) (first | (go_at_call 26; refine (l1Read_any _ _).mono ?_; rintro e w9 ⟨rfl, rfl⟩))
    all_goals (go_wp2_with fail; go_meet; exact ⟨rfl, rfl⟩)
  case rest =>
    obtain ⟨rfl, rfl⟩ := hcut
    have PF : okSp (rdX sx.data.toList) (rdV sy.data.toList) = false → ParsedS s (rdX sx.data.toList) (rdV sy.data.toList) false := fun hok => parsedS_no (s := s) (fun a b h e => by
        obtain ⟨rfl, rfl⟩ := HR.out a b h e
        rw [h] at hok; cases hok) _ _
    have PB : okSp (rdX sx.data.toList) (rdV sy.data.toList) = true → ParsedS s (rdX sx.data.toList) (rdV sy.data.toList) ((txS (rdX sx.data.toList) (rdV sy.data.toList)).toList == s.toList) := fun hok => by
        by_cases h : txS (rdX sx.data.toList) (rdV sy.data.toList) = s
        · rw [h, beq_self_eq_true]; exact ⟨fun _ => ⟨hok, h⟩, fun _ _ _ _ => rfl⟩
        · rw [beq_eq_false_iff_ne.2 fun e => h (toList_inj e)]
          exact parsedS_no (fun a b h' e => by
            obtain ⟨rfl, rfl⟩ := HR.out a b h' e
            exact h e) _ _
    have QF := Lib.hid PF
    have QB := Lib.hid PB
    have HRZ := fun W => Lib.hid (l1Read_any (sx.extract 1 sx.size) W)
    rw [HZ.out] at HRZ
    clear PF PB HR hS HZ
    generalize rdX sx.data.toList = p1 at *
    generalize rdV sy.data.toList = p2 at *
    generalize rdV sx.data.toList = p0 at *
    generalize rdV (sx.data.toList.drop 1) = pz at *
    have hbb : Below w1.heap.size w1 (w1.alloc (.cells #[.int .i64 p0, .int .i64 p2] 26)).drew := Below.drew ((Below.refl _ _).alloc (Nat.le_refl _) _)
    have a0 : (w1.alloc (.cells #[.int .i64 p0, .int .i64 p2] 26)).drew.cell? ⟨w1.heap.size, 0, none⟩ = some (.int .i64 p0) := by simp
    have a1 : (w1.alloc (.cells #[.int .i64 p0, .int .i64 p2] 26)).drew.cell? ⟨w1.heap.size, 1, none⟩ = some (.int .i64 p2) := by simp
    have fq : (w1.alloc (.cells #[.int .i64 p0, .int .i64 p2] 26)).drew.frozen? ⟨w1.heap.size, 0, none⟩ = false := by simp
    have gx := cell_after hbb hg cx
    have b0 := cell_after hbb z1 dr0
    have b1 := cell_after hbb z1 dr1
    have f0 := frozen_after hbb z1 fr0
    have f1 := frozen_after hbb z1 fr1
    have l1 : w1.heap.size < (w1.alloc (.cells #[.int .i64 p0, .int .i64 p2] 26)).drew.heap.size := by simp
    have l2 := size_after hbb z1
    have hk8 : Below w.heap.size w (w1.alloc (.cells #[.int .i64 p0, .int .i64 p2] 26)).drew := Below.drew (bl_alloc HK.out _)
    have hne : w.heap.size ≠ w1.heap.size := by omega
    have hqw : w.heap.size ≤ w1.heap.size := by omega
    have hgq : g ≠ w1.heap.size := by omega
    clear hbb dr0 dr1 fr0 fr1 HK cx cy hg z1
    generalize (w1.alloc (.cells #[.int .i64 p0, .int .i64 p2] 26)).drew = w8 at *
    have HK := Lib.hid hk8
    clear hk8
    generalize w1.heap.size = q at *
    by_cases h45 : sx[0] = 45
    · have t45 : ((sx[0].toNat : Int) == 45) = true := by rw [h45]; rfl
      obtain rfl : p1 = -pz := by rw [HXD.out, if_pos h45]
      clear HXD h45
      go_wp2_with (go_at_call 26; refine ((HRZ _).out).mono ?_; rintro e w9 ⟨rfl, rfl⟩)
      have a0y : (w8.setCell ⟨q, 0, none⟩ (.int .i64 (-pz))).cell? ⟨q, 0, none⟩ = some (.int .i64 (-pz)) := World.cell?_setCell_same _ _ _ a0
      have a1y : (w8.setCell ⟨q, 0, none⟩ (.int .i64 (-pz))).cell? ⟨q, 1, none⟩ = some (.int .i64 p2) := by rw [World.cell?_setCell_other _ _ _ _ (by simp)]; exact a1
      have b0y : (w8.setCell ⟨q, 0, none⟩ (.int .i64 (-pz))).cell? ⟨w.heap.size, 0, none⟩ = some (.int .i64 0) := by rw [World.cell?_setCell_other _ _ _ _ (by first | (simp; done) | (simp; omega))]; exact b0
      have b1y : (w8.setCell ⟨q, 0, none⟩ (.int .i64 (-pz))).cell? ⟨w.heap.size, 1, none⟩ = some (.int .i64 0) := by rw [World.cell?_setCell_other _ _ _ _ (by simp)]; exact b1
      have f0y : (w8.setCell ⟨q, 0, none⟩ (.int .i64 (-pz))).frozen? ⟨w.heap.size, 0, none⟩ = false := by simpa using f0
      have f1y : (w8.setCell ⟨q, 0, none⟩ (.int .i64 (-pz))).frozen? ⟨w.heap.size, 1, none⟩ = false := by simpa using f1
      have l1y : q < (w8.setCell ⟨q, 0, none⟩ (.int .i64 (-pz))).heap.size := by simpa using l1
      have l2y : w.heap.size < (w8.setCell ⟨q, 0, none⟩ (.int .i64 (-pz))).heap.size := by simpa using l2
      have HK := Lib.hid (bl_set HK.out (p := ⟨q, 0, none⟩) hqw (.int .i64 (-pz)))
      clear a0 a1 b0 b1 f0 f1 l1 l2 fq gx HRZ
      have a0 := a0y
      have a1 := a1y
      have b0 := b0y
      have b1 := b1y
      have f0 := f0y
      have f1 := f1y
      have l1 := l1y
      have l2 := l2y
      clear a0y a1y b0y b1y f0y f1y l1y l2y
      generalize w8.setCell ⟨q, 0, none⟩ (.int .i64 (-pz)) = w8x at *
      generalize -pz = p1 at *
      cases hok : okSp p1 p2
      · have P := Lib.hid (QF.out hok)
        go_wp2_with fail
        first | (go_region_with (go_at_call 11; refine (spec_lwSpot _ _ _).mono ?_; rintro e w9 ⟨rfl, hb9⟩; have a0x := cell_after hb9 l1 a0; have a1x := cell_after hb9 l1 a1; have b0x := cell_after hb9 l2 b0; have b1x := cell_after hb9 l2 b1; have f0x := frozen_after hb9 l2 f0; have f1x := frozen_after hb9 l2 f1; rw [hok])) | fail
        all_goals
          go_wp2
          refine bodyPost_ret (v := .tuple #[.agg #[.int .i64 p1, .int .i64 p2], .bool false]) (by simp [results, Tryd.results15, go_sem, *]) rfl ⟨_, _, _, rfl, P.out, bl_set (bl_set (by repeat (first | exact Below.refl _ _ | refine bl_alloc ?_ _ | refine bl_drewN ?_ _ | refine bl_trans (by assumption) ?_ | refine bl_set ?_ (by first | omega | (simp; done) | (simp; omega)) _)) (Nat.le_refl _) _) (Nat.le_refl _) _⟩
      · have PB := Lib.hid (QB.out hok)
        go_wp2_with fail
        go_region_with (first | (go_at_call 11; refine (spec_lwSpot _ _ _).mono ?_; rintro e w9 ⟨rfl, hb9⟩; have a0x := cell_after hb9 l1 a0; have a1x := cell_after hb9 l1 a1; have b0x := cell_after hb9 l2 b0; have b1x := cell_after hb9 l2 b1; have f0x := frozen_after hb9 l2 f0; have f1x := frozen_after hb9 l2 f1; have l1x := size_after hb9 l1; have l2x := size_after hb9 l2; rw [hok]) | (go_at_call 12; refine (lwText_any _ _ hok _).mono ?_; rintro e w7 ⟨rfl, hb7⟩; have a0y := cell_after hb7 l1x a0x; have a1y := cell_after hb7 l1x a1x; have b0y := cell_after hb7 l2x b0x; have b1y := cell_after hb7 l2x b1x; have f0y := frozen_after hb7 l2x f0x; have f1y := frozen_after hb7 l2x f1x))
        all_goals
          go_wp2
          refine bodyPost_ret (v := .tuple #[.agg #[.int .i64 p1, .int .i64 p2], .bool ((txS p1 p2).toList == s.toList)]) (by simp [results, Tryd.results15, go_sem, *]) rfl ⟨_, _, _, rfl, PB.out, bl_set (bl_set (by repeat (first | exact HK.out | exact Below.refl _ _ | refine bl_alloc ?_ _ | refine bl_drewN ?_ _ | refine bl_trans (by assumption) ?_ | refine bl_set ?_ (by first | omega | (simp; done) | (simp; omega)) _)) (Nat.le_refl _) _) (Nat.le_refl _) _⟩
    · have t45 : ((sx[0].toNat : Int) == 45) = false := by
        rw [beq_eq_false_iff_ne]
        intro e
        have e2 : sx[0].toNat = 45 := by omega
        exact h45 (UInt8.toNat_inj.1 e2)
      obtain rfl : p1 = p0 := by rw [HXD.out, if_neg h45]
      clear HXD h45 fq HRZ
      go_wp2_with fail
      clear gx
      cases hok : okSp p1 p2
      · have P := Lib.hid (QF.out hok)
        go_wp2_with fail
        first | (go_region_with (go_at_call 11; refine (spec_lwSpot _ _ _).mono ?_; rintro e w9 ⟨rfl, hb9⟩; have a0x := cell_after hb9 l1 a0; have a1x := cell_after hb9 l1 a1; have b0x := cell_after hb9 l2 b0; have b1x := cell_after hb9 l2 b1; have f0x := frozen_after hb9 l2 f0; have f1x := frozen_after hb9 l2 f1; rw [hok])) | fail
        all_goals
          go_wp2
          refine bodyPost_ret (v := .tuple #[.agg #[.int .i64 p1, .int .i64 p2], .bool false]) (by simp [results, Tryd.results15, go_sem, *]) rfl ⟨_, _, _, rfl, P.out, bl_set (bl_set (by repeat (first | exact Below.refl _ _ | refine bl_alloc ?_ _ | refine bl_drewN ?_ _ | refine bl_trans (by assumption) ?_ | refine bl_set ?_ (by first | omega | (simp; done) | (simp; omega)) _)) (Nat.le_refl _) _) (Nat.le_refl _) _⟩
      · have PB := Lib.hid (QB.out hok)
        go_wp2_with fail
        go_region_with (first | (go_at_call 11; refine (spec_lwSpot _ _ _).mono ?_; rintro e w9 ⟨rfl, hb9⟩; have a0x := cell_after hb9 l1 a0; have a1x := cell_after hb9 l1 a1; have b0x := cell_after hb9 l2 b0; have b1x := cell_after hb9 l2 b1; have f0x := frozen_after hb9 l2 f0; have f1x := frozen_after hb9 l2 f1; have l1x := size_after hb9 l1; have l2x := size_after hb9 l2; rw [hok]) | (go_at_call 12; refine (lwText_any _ _ hok _).mono ?_; rintro e w7 ⟨rfl, hb7⟩; have a0y := cell_after hb7 l1x a0x; have a1y := cell_after hb7 l1x a1x; have b0y := cell_after hb7 l2x b0x; have b1y := cell_after hb7 l2x b1x; have f0y := frozen_after hb7 l2x f0x; have f1y := frozen_after hb7 l2x f1x))
        all_goals
          go_wp2
          refine bodyPost_ret (v := .tuple #[.agg #[.int .i64 p1, .int .i64 p2], .bool ((txS p1 p2).toList == s.toList)]) (by simp [results, Tryd.results15, go_sem, *]) rfl ⟨_, _, _, rfl, PB.out, bl_set (bl_set (by repeat (first | exact HK.out | exact Below.refl _ _ | refine bl_alloc ?_ _ | refine bl_drewN ?_ _ | refine bl_trans (by assumption) ?_ | refine bl_set ?_ (by first | omega | (simp; done) | (simp; omega)) _)) (Nat.le_refl _) _) (Nat.le_refl _) _⟩
end Go.Proofs.YtppgcaennhghoaaDoor
