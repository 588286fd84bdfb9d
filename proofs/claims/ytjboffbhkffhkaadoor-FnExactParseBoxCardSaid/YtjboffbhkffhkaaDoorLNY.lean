/- Boxes that are read back, by the model. -/
import Derived.Test.YtjboffbhkffhkaaDoorLNX
import Derived.Test.YtjboffbhkffhkaaDoorT4
import Derived.Deep.Cut
import Derived.Deep.DeepCutAuto
import Derived.Deep.RegionLaw
namespace Go.Proofs.YtjboffbhkffhkaaDoor
open Go.RowKit
set_option linter.unusedVariables false
set_option linter.unusedSimpArgs false
theorem dec_list (n : Int) (h : 0 ≤ n) : (dec n).data.toList = Lib.decDigits n.toNat := by
  unfold dec Lib.itoa
  rw [if_neg (by omega)]
theorem not_in {n : Nat} {b : UInt8} (h : b.toNat < 48 ∨ 57 < b.toNat) : b ∉ Lib.decDigits n := fun hb => by
  have := digits_of n b hb; omega
theorem toList_inj {s t : ByteArray} (h : s.toList = t.toList) : s = t := by
  rw [Lib.toList_data, Lib.toList_data] at h
  exact ByteArray.ext (Array.toList_inj.1 h)
theorem bytes_eq {s t : ByteArray} (h : s.data.toList = t.data.toList) : s = t := ByteArray.ext (Array.toList_inj.1 h)
theorem txB_list (a b : Int) (ha : 0 ≤ a) (hb : 0 ≤ b) : (txB a b).data.toList = Lib.decDigits a.toNat ++ 42 :: Lib.decDigits b.toNat := by
  have h1 := dec_list a ha; have h2 := dec_list b hb
  simp [txB, h1, h2]
theorem txB_parts {a b : Int} (h : okBx a b = true) : ∃ x y : Nat, (a = x ∧ b = y) ∧ (x < 1000000 ∧ y < 1000000) ∧
    (txB a b).data.toList = Lib.decDigits x ++ 42 :: Lib.decDigits y ∧ (42 : UInt8) ∉ Lib.decDigits x ∧ (42 : UInt8) ∉ Lib.decDigits y ∧ (txB a b).size ≤ 5 := by
  obtain ⟨⟨a0, a1⟩, b0, b1⟩ := okBx_true h
  have e := txB_list a b (by omega) (by omega)
  have l1 := digits_len 1 a.toNat (by omega); have l2 := digits_len 1 b.toNat (by omega)
  refine ⟨a.toNat, b.toNat, ⟨by omega, by omega⟩, ⟨by omega, by omega⟩, e, not_in (.inl (by decide)), not_in (.inl (by decide)), ?_⟩
  rw [← len_data, e]
  simp only [List.length_append, List.length_cons]
  omega
theorem txB_inj {a b a' b' : Int} (h : okBx a b = true) (h' : okBx a' b' = true) (e : txB a b = txB a' b') : a = a' ∧ b = b' := by
  obtain ⟨x, y, ⟨rfl, rfl⟩, _, e1, n1, n2, _⟩ := txB_parts h
  obtain ⟨x', y', ⟨rfl, rfl⟩, _, e1', n1', n2', _⟩ := txB_parts h'
  rw [e, e1'] at e1
  obtain ⟨q1, q2⟩ := cut_unique n1' n1 e1
  have := digits_inj q1; have := digits_inj q2
  omega
def ParsedT (s : ByteArray) (a b : Int) (ok : Bool) : Prop := (ok = true → okBx a b = true ∧ txB a b = s) ∧ ∀ a' b', okBx a' b' = true → txB a' b' = s → ok = true
theorem parsedT_no {s : ByteArray} (h : ∀ a' b', okBx a' b' = true → txB a' b' ≠ s) (a b : Int) : ParsedT s a b false :=
  ⟨(fun e => by cases e), fun a' b' h1 h2 => absurd h2 (h a' b' h1)⟩
/-- the boxes of a reading: the pieces (block g), then the table (q), the result (r) -/
theorem P2_after {a u v : World} {g : Nat} {x y : Value} (hb : Below u.heap.size u v) (h : u.cell? ⟨g, 0, none⟩ = some x ∧ u.cell? ⟨g, 1, none⟩ = some y ∧ g < u.heap.size ∧ Below a.heap.size a u) : v.cell? ⟨g, 0, none⟩ = some x ∧ v.cell? ⟨g, 1, none⟩ = some y ∧ g < v.heap.size ∧ Below a.heap.size a v :=
  ⟨by rw [(bcell hb).1 _ _ h.2.2.1]; exact h.1, by rw [(bcell hb).1 _ _ h.2.2.1]; exact h.2.1, Nat.lt_of_lt_of_le h.2.2.1 hb.size, bl_trans hb h.2.2.2⟩
set_option maxHeartbeats 2000000 in
theorem lnParse_any (s : ByteArray) (hs : s.size ≤ 1048576) (w : World) :
    Calls Tryd.prog 15 #[.string s] w fun e w' => ∃ a b ok, e = .returned (.tuple #[.agg #[.int .i64 a, .int .i64 b], .bool ok]) ∧ ParsedT s a b ok ∧ Below w.heap.size w w' := by
  have hlen := len_data s
  go_enter Tryd.func15, Tryd.ntmps15
  go_wp2_with fail
  refine (l1Split_any s 42 42 rfl hs _).mono ?_
  rintro e w1 ⟨v1, rfl, r1, hb1⟩
  have R1 := Lib.hid r1
  clear r1
  obtain ⟨hc1, hf1⟩ := bcell hb1
  have hz1 := bsize hb1
  simp only [World.size_alloc] at hz1
  have z1 : w.heap.size < w1.heap.size := by omega
  by_cases hlong : 5 < s.size
  · have P := Lib.hid (parsedT_no (s := s) (fun a b h e => by obtain ⟨_, _, _, _, _, _, _, h14⟩ := txB_parts h; rw [e] at h14; omega) 0 0)
    have hl' : (5 : Int) < (s.size : Int) := by omega
    go_wp2
    refine bodyPost_ret (v := .tuple #[.agg #[.int .i64 0, .int .i64 0], .bool false]) (by simp [results, Tryd.results15, go_sem, *]) rfl ⟨_, _, _, rfl, P.out, (by repeat (first | exact Below.refl _ _ | refine bl_alloc ?_ _ | refine bl_drewN ?_ _ | refine bl_trans (by assumption) ?_ | refine bl_set ?_ (by first | omega | (simp; done) | (simp; omega)) _))⟩
  have hl' : ¬ (5 : Int) < (s.size : Int) := by omega
  by_cases hp : (sp 42 s.data.toList s.size).1.length ≠ 1
  · have P := Lib.hid (parsedT_no (s := s) (fun a b h e => by
      obtain ⟨x, y, _, _, e1, n1, n2, _⟩ := txB_parts h
      rw [e] at e1
      have := sp_two n1 n2
      rw [← e1, hlen] at this
      exact hp (by rw [this]; rfl)) 0 0)
    obtain ⟨g, cap, rfl, _, _, _⟩ := R1.out.open_ (by simp)
    have hl2 : (((((sp 42 s.data.toList s.size).1 ++ [(sp 42 s.data.toList s.size).2]).length : Nat) : Int) != 2) = true := by simp; omega
    generalize ((sp 42 s.data.toList s.size).1 ++ [(sp 42 s.data.toList s.size).2]).length = L at *
    go_wp2
    refine bodyPost_ret (v := .tuple #[.agg #[.int .i64 0, .int .i64 0], .bool false]) (by simp [results, Tryd.results15, go_sem, *]) rfl ⟨_, _, _, rfl, P.out, (by repeat (first | exact Below.refl _ _ | refine bl_alloc ?_ _ | refine bl_drewN ?_ _ | refine bl_trans (by assumption) ?_ | refine bl_set ?_ (by first | omega | (simp; done) | (simp; omega)) _))⟩
  have hp := Decidable.not_not.1 hp
  obtain ⟨x, y, hxy, hsplit, n1, n2⟩ := sp_of_one (b := 42) (l := s.data.toList) (by rw [hlen]; exact hp)
  rw [hlen] at hxy
  rw [hxy] at R1
  clear hp hxy
  have HS := Lib.hid hsplit
  clear hsplit
  obtain ⟨g, cap, rfl, hB1, hg, hcl⟩ := SRow.open_ R1.out (by simp)
  have cx : w1.cell? ⟨g, 0, none⟩ = some (str x) := hcl 0 (by simp)
  have cy : w1.cell? ⟨g, 1, none⟩ = some (str y) := hcl 1 (by simp)
  simp only [List.cons_append, List.nil_append, List.length_cons, List.length_nil] at *
  have hk : Below w.heap.size w w1 := (by repeat (first | exact Below.refl _ _ | refine bl_alloc ?_ _ | refine bl_drewN ?_ _ | refine bl_trans (by assumption) ?_ | refine bl_set ?_ (by first | omega | (simp; done) | (simp; omega)) _))
  have dr0 : w1.cell? ⟨w.heap.size, 0, none⟩ = some (.int .i64 0) := by simp [*]
  have dr1 : w1.cell? ⟨w.heap.size, 1, none⟩ = some (.int .i64 0) := by simp [*]
  have fr0 : w1.frozen? ⟨w.heap.size, 0, none⟩ = false := by simp [*]
  have fr1 : w1.frozen? ⟨w.heap.size, 1, none⟩ = false := by simp [*]
  have HK := Lib.hid hk
  clear hcl R1 hp hc1 hf1 hb1 hk
  have hS : w1.cell? ⟨g, 0, none⟩ = some (str x) ∧ w1.cell? ⟨g, 1, none⟩ = some (str y) ∧ g < w1.heap.size ∧ Below w1.heap.size w1 w1 := ⟨cx, cy, hg, Below.refl _ _⟩
  clear cx cy
  have HR : Hid (∀ a b, okBx a b = true → txB a b = s → rdV x = a ∧ rdV y = b) := by
    refine Lib.hid fun a b h e => ?_
    obtain ⟨p, q, ⟨rfl, rfl⟩, ⟨l1, l2⟩, e1, m1, m2, _⟩ := txB_parts h
    rw [e, HS.out] at e1
    obtain ⟨q1, q2⟩ := cut_unique n1 m1 e1
    exact ⟨by rw [q1, rdV_digits _ l1], by rw [q2, rdV_digits _ l2]⟩
  go_upto_region 5 with fail
  go_cut [5] (fun s5 wx => s5 = .pointer (some ⟨w1.heap.size, 0, none⟩) ∧ wx = (w1.alloc (.cells #[.int .i64 (rdV x), .int .i64 (rdV y)] 26)).drew)
  case first =>
    go_region_held3 (fun w' => w'.cell? ⟨g, 0, none⟩ = some (str x) ∧ w'.cell? ⟨g, 1, none⟩ = some (str y) ∧ g < w'.heap.size ∧ Below w1.heap.size w1 w') (first | exact P2_after hb9 (by assumption) | exact P2_after (below_drewN (Below.refl _ _) _) (by assumption) | exact P2_after (Below.drew (Below.refl _ _)) (by assumption) | assumption | exact P2_after (Below.drew ((Below.refl _ _).alloc (Nat.le_refl _) _)) (by assumption) | exact P2_after ((Below.refl _ _).alloc (Nat.le_refl _) _) (by assumption)) (first | (go_at_call 23; refine (l1Read_any ⟨_⟩ _).mono ?_; rintro e w9 ⟨rfl, rfl⟩))
    all_goals (go_wp2_with fail; go_meet; exact ⟨rfl, rfl⟩)
  case rest =>
    obtain ⟨rfl, rfl⟩ := hcut
    have PF : okBx (rdV x) (rdV y) = false → ParsedT s (rdV x) (rdV y) false := fun hok => parsedT_no (s := s) (fun a b h e => by
        obtain ⟨rfl, rfl⟩ := HR.out a b h e
        rw [h] at hok; cases hok) _ _
    have PB : okBx (rdV x) (rdV y) = true → ParsedT s (rdV x) (rdV y) ((txB (rdV x) (rdV y)).toList == s.toList) := fun hok => by
        by_cases h : txB (rdV x) (rdV y) = s
        · rw [h, beq_self_eq_true]; exact ⟨fun _ => ⟨hok, h⟩, fun _ _ _ _ => rfl⟩
        · rw [beq_eq_false_iff_ne.2 fun e => h (toList_inj e)]
          exact parsedT_no (fun a b h' e => by
            obtain ⟨rfl, rfl⟩ := HR.out a b h' e
            exact h e) _ _
    have QF := Lib.hid PF
    have QB := Lib.hid PB
    clear PF PB HR hS HS n1 n2
    generalize rdV x = p1 at *
    generalize rdV y = p2 at *
    have hbb : Below w1.heap.size w1 (w1.alloc (.cells #[.int .i64 p1, .int .i64 p2] 26)).drew := Below.drew ((Below.refl _ _).alloc (Nat.le_refl _) _)
    have a0 : (w1.alloc (.cells #[.int .i64 p1, .int .i64 p2] 26)).drew.cell? ⟨w1.heap.size, 0, none⟩ = some (.int .i64 p1) := by simp
    have a1 : (w1.alloc (.cells #[.int .i64 p1, .int .i64 p2] 26)).drew.cell? ⟨w1.heap.size, 1, none⟩ = some (.int .i64 p2) := by simp
    have b0 := cell_after hbb z1 dr0
    have b1 := cell_after hbb z1 dr1
    have f0 := frozen_after hbb z1 fr0
    have f1 := frozen_after hbb z1 fr1
    have l1 : w1.heap.size < (w1.alloc (.cells #[.int .i64 p1, .int .i64 p2] 26)).drew.heap.size := by simp
    have l2 := size_after hbb z1
    have hk8 : Below w.heap.size w (w1.alloc (.cells #[.int .i64 p1, .int .i64 p2] 26)).drew := Below.drew (bl_alloc HK.out _)
    have hne : w.heap.size ≠ w1.heap.size := by omega
    clear hbb dr0 dr1 fr0 fr1 HK
    generalize (w1.alloc (.cells #[.int .i64 p1, .int .i64 p2] 26)).drew = w8 at *
    have HK := Lib.hid hk8
    clear hk8
    generalize w1.heap.size = q at *
    cases hok : okBx p1 p2
    · have P := Lib.hid (QF.out hok)
      go_wp2_with fail
      first | (go_region_with (go_at_call 11; refine (spec_lnBox _ _ _).mono ?_; rintro e w9 ⟨rfl, hb9⟩; have a0x := cell_after hb9 l1 a0; have a1x := cell_after hb9 l1 a1; have b0x := cell_after hb9 l2 b0; have b1x := cell_after hb9 l2 b1; have f0x := frozen_after hb9 l2 f0; have f1x := frozen_after hb9 l2 f1; rw [hok])) | fail
      all_goals
        go_wp2
        refine bodyPost_ret (v := .tuple #[.agg #[.int .i64 p1, .int .i64 p2], .bool false]) (by simp [results, Tryd.results15, go_sem, *]) rfl ⟨_, _, _, rfl, P.out, bl_set (bl_set (by repeat (first | exact Below.refl _ _ | refine bl_alloc ?_ _ | refine bl_drewN ?_ _ | refine bl_trans (by assumption) ?_ | refine bl_set ?_ (by first | omega | (simp; done) | (simp; omega)) _)) (Nat.le_refl _) _) (Nat.le_refl _) _⟩
    · have PB := Lib.hid (QB.out hok)
      go_wp2_with fail
      go_region_with (first | (go_at_call 11; refine (spec_lnBox _ _ _).mono ?_; rintro e w9 ⟨rfl, hb9⟩; have a0x := cell_after hb9 l1 a0; have a1x := cell_after hb9 l1 a1; have b0x := cell_after hb9 l2 b0; have b1x := cell_after hb9 l2 b1; have f0x := frozen_after hb9 l2 f0; have f1x := frozen_after hb9 l2 f1; have l1x := size_after hb9 l1; have l2x := size_after hb9 l2; rw [hok]) | (go_at_call 12; refine (lnText_any _ _ hok _).mono ?_; rintro e w7 ⟨rfl, hb7⟩; have a0y := cell_after hb7 l1x a0x; have a1y := cell_after hb7 l1x a1x; have b0y := cell_after hb7 l2x b0x; have b1y := cell_after hb7 l2x b1x; have f0y := frozen_after hb7 l2x f0x; have f1y := frozen_after hb7 l2x f1x))
      all_goals
        go_wp2
        refine bodyPost_ret (v := .tuple #[.agg #[.int .i64 p1, .int .i64 p2], .bool ((txB p1 p2).toList == s.toList)]) (by simp [results, Tryd.results15, go_sem, *]) rfl ⟨_, _, _, rfl, PB.out, bl_set (bl_set (by repeat (first | exact Below.refl _ _ | refine bl_alloc ?_ _ | refine bl_drewN ?_ _ | refine bl_trans (by assumption) ?_ | refine bl_set ?_ (by first | omega | (simp; done) | (simp; omega)) _)) (Nat.le_refl _) _) (Nat.le_refl _) _⟩
end Go.Proofs.YtjboffbhkffhkaaDoor
