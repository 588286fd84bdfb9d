/- What is drawn from bytes: numbers within bounds, whatever they are. -/
import Derived.Test.YtohlbnfncllhoaaDoorC4
import Derived.OwnWalk
import Derived.Laws.Bits64b
namespace Go.Proofs.YtohlbnfncllhoaaDoor
open Go.RowKit
set_option linter.unusedVariables false
set_option linter.unusedSimpArgs false
/-- cv is a slice of bytes in a block below b -/
def Bytes (w : World) (b : Nat) (cv : Value) : Prop :=
  (∃ a c, cv = .slice a 0 c) ∨ ∃ g off n cap, cv = .slice (some ⟨g, off, none⟩) n cap ∧ 0 < n ∧ n ≤ 9223372036854775807 ∧ g < b ∧ ∀ i, i < n → ∃ x : Int, 0 ≤ x ∧ x ≤ 255 ∧ w.cell? ⟨g, off + i, none⟩ = some (.int .u8 x)
/-- the drawer in block b, which has drawn at most k times -/
def Cur (w : World) (b : Nat) (cv : Value) (k : Nat) : Prop :=
  b < w.heap.size ∧ Bytes w b cv ∧ w.cell? ⟨b, 0, none⟩ = some cv ∧ (∃ a : Int, 0 ≤ a ∧ a ≤ (k : Int) ∧ w.cell? ⟨b, 1, none⟩ = some (.int .i64 a)) ∧ (∃ s : Int, w.cell? ⟨b, 2, none⟩ = some (.int .u64 s)) ∧ w.frozen? ⟨b, 1, none⟩ = false ∧ w.frozen? ⟨b, 2, none⟩ = false
theorem Bytes.shape {w : World} {b : Nat} {cv : Value} (h : Bytes w b cv) : ∃ a n c, cv = .slice a n c ∧ n ≤ 9223372036854775807 := by
  rcases h with ⟨a, c, rfl⟩ | ⟨g, off, n, cap, rfl, _, hn, _⟩
  · exact ⟨a, 0, c, rfl, by omega⟩
  · exact ⟨_, n, cap, rfl, hn⟩
theorem low8 (n : Int) : ∃ r : Int, wrap64 (bits BinOp.and IntKind.u64 (IntKind.u64.wrap n / 1099511627776) 255) = r ∧ 0 ≤ r ∧ r ≤ 255 := by
  have h0 : 0 ≤ IntKind.u64.wrap n := wrap_u64_nonneg n
  have h1 : IntKind.u64.wrap n < 18446744073709551616 := by rw [IntKind.wrap_u64]; omega
  obtain ⟨m, hm⟩ := Int.eq_ofNat_of_zero_le h0
  rw [hm] at h1 ⊢
  have e : ((m : Int) / 1099511627776) = ((m / 1099511627776 : Nat) : Int) := by omega
  have hd : m / 1099511627776 < 18446744073709551616 := by omega
  rw [e, show (255 : Int) = ((255 : Nat) : Int) from rfl, bits_and_u64_nat _ _ hd (by decide)]
  have h2 : (m / 1099511627776) &&& 255 ≤ 255 := Nat.and_le_right
  generalize (m / 1099511627776) &&& 255 = r at *
  exact ⟨r, IntWalk.wrap64_in _ ⟨by omega, by omega⟩, by omega, by omega⟩
theorem bytes_grown {w w' : World} {b : Nat} {cv : Value} (h : Bytes w b cv) (hc : ∀ g o, g < b → w'.cell? ⟨g, o, none⟩ = w.cell? ⟨g, o, none⟩) : Bytes w' b cv := by
  rcases h with h | ⟨g, off, n, cap, hv, h0, h1, hg, hx⟩
  · exact .inl h
  · refine .inr ⟨g, off, n, cap, hv, h0, h1, hg, fun i hi => ?_⟩
    obtain ⟨x, x0, x1, hx⟩ := hx i hi
    exact ⟨x, x0, x1, by rw [hc g _ hg]; exact hx⟩
theorem ne_off {b o p : Nat} (h : o ≠ p) : (⟨b, o, none⟩ : Addr) ≠ ⟨b, p, none⟩ := fun e => h (by injection e)
theorem ne_blk {b g o p : Nat} (h : g ≠ b) : (⟨b, o, none⟩ : Addr) ≠ ⟨g, p, none⟩ := fun e => h (by injection e with e1; exact e1.symm)
theorem cur_drawn {w : World} {b k m n j : Nat} {cv : Value} {s s' : Int} (hB : Bytes w b cv) (hb : b < w.heap.size) (c0 : w.cell? ⟨b, 0, none⟩ = some cv) (c1 : w.cell? ⟨b, 1, none⟩ = some (.int .i64 (j : Int))) (c2 : w.cell? ⟨b, 2, none⟩ = some (.int .u64 s))
    (f1 : w.frozen? ⟨b, 1, none⟩ = false) (f2 : w.frozen? ⟨b, 2, none⟩ = false) (hj : (j : Int) ≤ k) :
    Cur (((((w.drewN m).setCell ⟨b, 1, none⟩ (.int .i64 ((j : Int) + 1))).setCell ⟨b, 2, none⟩ (.int .u64 s')).drewN n)) b cv (k + 1) ∧ w.grownBy (((((w.drewN m).setCell ⟨b, 1, none⟩ (.int .i64 ((j : Int) + 1))).setCell ⟨b, 2, none⟩ (.int .u64 s')).drewN n)) (some b) := by
  have g1 : w.grownBy ((w.drewN m).setCell ⟨b, 1, none⟩ (.int .i64 ((j : Int) + 1))) (some b) := ⟨rfl, rfl, rfl, by simp [World.setCell], fun i hi hne => Below.heap_setCell _ _ _ i (fun e => hne (by rw [e]))⟩
  have g2 : w.grownBy (((((w.drewN m).setCell ⟨b, 1, none⟩ (.int .i64 ((j : Int) + 1))).setCell ⟨b, 2, none⟩ (.int .u64 s')).drewN n)) (some b) := ⟨rfl, rfl, rfl, by simp [World.setCell], fun i hi hne => (Below.heap_setCell _ _ _ i (fun e => hne (by rw [e]))).trans (g1.block i hi hne)⟩
  refine ⟨⟨by simpa [World.setCell] using hb, bytes_grown hB fun g o hg => ?_, ?_, ⟨(j : Int) + 1, by omega, by omega, ?_⟩, ⟨s', ?_⟩, ?_, ?_⟩, g2⟩
  · exact (World.cell?_setCell_other _ _ _ _ (ne_blk (by omega))).trans (World.cell?_setCell_other _ _ _ _ (ne_blk (by omega)))
  · exact (World.cell?_setCell_other _ _ _ _ (ne_off (by decide))).trans ((World.cell?_setCell_other _ _ _ _ (ne_off (by decide))).trans c0)
  · exact (World.cell?_setCell_other _ _ _ _ (ne_off (by decide))).trans (World.cell?_setCell_same _ _ _ c1)
  · exact World.cell?_setCell_same _ _ _ ((World.cell?_setCell_other _ _ _ _ (ne_off (by decide))).trans c2)
  · exact (World.frozen?_setCell _ _ _ _).trans ((World.frozen?_setCell _ _ _ _).trans f1)
  · exact (World.frozen?_setCell _ _ _ _).trans ((World.frozen?_setCell _ _ _ _).trans f2)
set_option maxHeartbeats 1000000 in
theorem next_any (b k : Nat) (cv : Value) (w : World) (hk : k ≤ 1000000) (h : Cur w b cv k) :
    Calls Tryd.prog 63 #[.pointer (some ⟨b, 0, none⟩)] w fun e w' => ∃ r : Int, e = .returned (.int .i64 r) ∧ (0 ≤ r ∧ r ≤ 255) ∧ Cur w' b cv (k + 1) ∧ w.grownBy w' (some b) := by
  obtain ⟨hb, hB, c0, ⟨a, a0, a1, c1⟩, ⟨s, c2⟩, f1, f2⟩ := h
  have HB := Lib.hid hB
  obtain ⟨ad, n, cap, rfl, hn⟩ := hB.shape
  clear hB
  by_cases hlt : a < (n : Int)
  · rcases HB.out with ⟨_, _, he⟩ | ⟨g, off, n', cap', he, _, _, hg, hc⟩
    · simp only [Value.slice.injEq] at he; omega
    simp only [Value.slice.injEq] at he
    obtain ⟨rfl, rfl, rfl⟩ := he
    obtain ⟨x, x0, x1, cx⟩ := hc a.toNat (by omega)
    obtain ⟨j, rfl⟩ := Int.eq_ofNat_of_zero_le a0
    simp only [Int.toNat_natCast] at cx
    clear hc
    go_enter Tryd.func63, Tryd.ntmps63
    go_wp2_with fail
    go_quiet (fail)
    go_wp2_with fail
    go_quiet (fail)
    go_wp2_with fail
    go_quiet (fail)
    go_wp2
    go_ret
    refine ⟨x, rfl, ⟨x0, x1⟩, ?_⟩
    exact cur_drawn HB.out hb c0 c1 c2 f1 f2 a1
  · have hlt' : ¬ a < (n : Int) := hlt
    obtain ⟨j, rfl⟩ := Int.eq_ofNat_of_zero_le a0
    have hle : ¬ (j : Int) + 1 ≤ (n : Int) := by omega
    go_enter Tryd.func63, Tryd.ntmps63
    go_wp2_with fail
    go_quiet (fail)
    go_wp2_with fail
    go_quiet (fail)
    obtain ⟨r, hr, r0, r1⟩ := low8 (IntKind.u64.wrap (IntKind.u64.wrap (s * 6364136223846793005)) + 1442695040888963407)
    have HR := Lib.hid hr
    clear hr
    go_wp2
    go_ret
    refine ⟨r, by rw [← HR.out]; rfl, ⟨r0, r1⟩, ?_⟩
    exact cur_drawn HB.out hb c0 c1 c2 f1 f2 a1
theorem Cur.mono {w : World} {b k m : Nat} {cv : Value} (h : Cur w b cv k) (hk : k ≤ m) : Cur w b cv m := by
  obtain ⟨h1, h2, h3, ⟨a, a0, a1, ha⟩, h5⟩ := h
  exact ⟨h1, h2, h3, ⟨a, a0, by omega, ha⟩, h5⟩
theorem grown_trans {u v w : World} {b : Nat} (h : u.grownBy v (some b)) (g : v.grownBy w (some b)) : u.grownBy w (some b) :=
  ⟨g.os.trans h.os, g.tape.trans h.tape, g.output.trans h.output, Nat.le_trans h.size g.size, fun i hi hne => (g.block i (Nat.lt_of_lt_of_le hi h.size) hne).trans (h.block i hi hne)⟩
theorem grown_cell {w w' : World} {b g o : Nat} (h : w.grownBy w' (some b)) (hg : g < w.heap.size) (hne : g ≠ b) : w'.cell? ⟨g, o, none⟩ = w.cell? ⟨g, o, none⟩ := World.cell?_of_block (w := w) (a := ⟨g, o, none⟩) (h.block g hg (fun e => hne (by injection e)))
/-- what is made behind the drawer's back leaves it as it is -/
theorem Cur.alloc {w : World} {b k : Nat} {cv : Value} (h : Cur w b cv k) (o : Obj) : Cur (w.alloc o) b cv k ∧ w.grownBy (w.alloc o) (some b) := by
  obtain ⟨h1, h2, h3, ⟨a, a0, a1, ha⟩, ⟨s, hs⟩, f1, f2⟩ := h
  have hB := Below.alloc (Below.refl w.heap.size w) (Nat.le_refl _) o
  have hc := fun o => (bcell hB).1 b o h1
  have hf := fun o => (bcell hB).2 b o h1
  exact ⟨⟨size_after hB h1, bytes_grown h2 (fun g o hg => (bcell hB).1 g o (by omega)), by rw [hc]; exact h3, ⟨a, a0, a1, by rw [hc]; exact ha⟩, ⟨s, by rw [hc]; exact hs⟩, by rw [hf]; exact f1, by rw [hf]; exact f2⟩,
    hB.os, hB.tape, hB.output, hB.size, fun i hi _ => hB.block i hi⟩
set_option maxHeartbeats 1000000 in
theorem pick_any (b k : Nat) (cv : Value) (n : Int) (n1 : 1 ≤ n) (n2 : n ≤ 4611686018427387904) (w : World) (hk : k ≤ 900000) (h : Cur w b cv k) :
    Calls Tryd.prog 50 #[.pointer (some ⟨b, 0, none⟩), .int .i64 n] w fun e w' => ∃ r : Int, e = .returned (.int .i64 r) ∧ (0 ≤ r ∧ r < n) ∧ Cur w' b cv (k + 2) ∧ w.grownBy w' (some b) := by
  by_cases h1 : n ≤ 1
  · have HC := Lib.hid (h.mono (show k ≤ k + 2 by omega))
    clear h
    go_enter Tryd.func50, Tryd.ntmps50
    go_wp2
    go_ret
    exact ⟨0, rfl, ⟨by omega, by omega⟩, HC.out, World.grownBy.refl _ _⟩
  have HN := fun k' (hk : k' ≤ 1000000) W h => Lib.hid (next_any b k' cv W hk h)
  have H0 := Lib.hid h
  clear h
  have hne : ((n == 0) : Bool) = false := by simp; omega
  by_cases h2 : 200 < n
  · go_enter Tryd.func50, Tryd.ntmps50
    go_wp2_with fail
    refine ((HN k (by omega) _ H0.out).out).mono ?_
    rintro e w1 ⟨r, rfl, ⟨r0, r1⟩, hc1, hg1⟩
    have H1 := Lib.hid hc1
    have G1 := Lib.hid hg1
    clear hc1 hg1
    go_wp2_with fail
    refine ((HN (k + 1) (by omega) _ H1.out).out).mono ?_
    rintro e w2 ⟨q, rfl, ⟨q0, q1⟩, hc2, hg2⟩
    have H2 := Lib.hid hc2
    have G2 := Lib.hid (grown_trans G1.out hg2)
    clear hc2 hg2
    obtain ⟨m0, m1⟩ : 0 ≤ (r * 256 + q) % n ∧ (r * 256 + q) % n < n := ⟨Int.emod_nonneg _ (by omega), Int.emod_lt_of_pos _ (by omega)⟩
    go_wp2
    go_ret
    exact ⟨(r * 256 + q) % n, rfl, ⟨m0, m1⟩, H2.out, G2.out⟩
  · go_enter Tryd.func50, Tryd.ntmps50
    go_wp2_with fail
    refine ((HN k (by omega) _ H0.out).out).mono ?_
    rintro e w1 ⟨r, rfl, ⟨r0, r1⟩, hc1, hg1⟩
    have H1 := Lib.hid (hc1.mono (show k + 1 ≤ k + 2 by omega))
    have G1 := Lib.hid hg1
    clear hc1 hg1
    obtain ⟨m0, m1⟩ : 0 ≤ r % n ∧ r % n < n := ⟨Int.emod_nonneg _ (by omega), Int.emod_lt_of_pos _ (by omega)⟩
    go_wp2
    go_ret
    exact ⟨r % n, rfl, ⟨m0, m1⟩, H1.out, G1.out⟩
set_option maxHeartbeats 1000000 in
theorem one_any (b k : Nat) (cv : Value) (n : Int) (n1 : 1 ≤ n) (n2 : n ≤ 4611686018427387904) (w : World) (hk : k ≤ 900000) (h : Cur w b cv k) :
    Calls Tryd.prog 49 #[.pointer (some ⟨b, 0, none⟩), .int .i64 n] w fun e w' => ∃ r : Bool, e = .returned (.bool r) ∧ Cur w' b cv (k + 2) ∧ w.grownBy w' (some b) := by
  have HN := fun W h => Lib.hid (pick_any b k cv n n1 n2 W hk h)
  have H0 := Lib.hid h
  clear h
  go_enter Tryd.func49, Tryd.ntmps49
  go_wp2_with fail
  refine ((HN _ H0.out).out).mono ?_
  rintro e w1 ⟨r, rfl, ⟨r0, r1⟩, hc1, hg1⟩
  have H1 := Lib.hid hc1
  have G1 := Lib.hid hg1
  clear hc1 hg1
  go_wp2
  go_ret
  exact ⟨_, rfl, H1.out, G1.out⟩
set_option maxHeartbeats 1000000 in
theorem among_any (b k g : Nat) (cv : Value) (n : Nat) (f : Nat → Int) (n1 : 1 ≤ n) (n2 : n ≤ 1000) (w : World) (hk : k ≤ 900000) (h : Cur w b cv k) (hg : g < w.heap.size) (hb : g ≠ b) (hf : ∀ i, i < n → w.cell? ⟨g, i, none⟩ = some (.int .i64 (f i))) :
    Calls Tryd.prog 55 #[.pointer (some ⟨b, 0, none⟩), .slice (some ⟨g, 0, none⟩) n n] w fun e w' => ∃ r : Int, e = .returned (.int .i64 r) ∧ Cur w' b cv (k + 2) ∧ w.grownBy w' (some b) := by
  have HN := fun W h => Lib.hid (pick_any b k cv n (by omega) (by omega) W hk h)
  have H0 := Lib.hid h
  have HF := Lib.hid hf
  clear h hf
  go_enter Tryd.func55, Tryd.ntmps55
  go_wp2_with fail
  refine ((HN _ H0.out).out).mono ?_
  rintro e w1 ⟨r, rfl, ⟨r0, r1⟩, hc1, hg1⟩
  have H1 := Lib.hid hc1
  have G1 := Lib.hid hg1
  obtain ⟨j, rfl⟩ := Int.eq_ofNat_of_zero_le r0
  have cj : w1.cell? ⟨g, j, none⟩ = some (.int .i64 (f j)) := (grown_cell hg1 hg hb).trans (HF.out j (by omega))
  clear hc1 hg1
  go_wp2
  go_ret
  exact ⟨_, rfl, H1.out, G1.out⟩
end Go.Proofs.YtohlbnfncllhoaaDoor
