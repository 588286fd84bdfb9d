/- The poles that are hidden; slices of poles that are numbered. -/
import Derived.Test.YtophkahaefbkiaaPL3
import Derived.Test.YtophkahaefbkiaaS2
import Derived.Test.YtophkahaefbkiaaR2
namespace Go.Proofs.Ytophkahaefbkiaa
open Go.RowKit
theorem cell_one_alloc (w : World) (x : Value) (t : TypeId) (n : Nat) (hn : n = w.heap.size) : ∀ j u, [x][j]? = some u → (w.alloc (.cells #[x] t)).cell? ((⟨n, 0, none⟩ : Addr).add j) = some u := by
  intro j u hj
  subst hn
  match j, hj with
  | 0, hj =>
    simp at hj
    subst hj
    simp [Addr.add]
theorem IRow.nil (w : World) (B : Nat) : IRow w B (.slice none 0 0) [] := World.ownsRow_nil w B _ 1
theorem IRow.push {W w1 : World} {B : Nat} {v v' : Value} {xs : List Int} {x : Int} {o : Obj} (hB : B ≤ W.heap.size) (h : IRow W B v xs)
    (hO : w1.ownsRow B 3 1 v' (xs.length + 1) (xs.map (Value.int .i64) ++ [.int .i64 x])) (hg : (W.alloc o).grownBy w1 v.ownBlock) : IRow w1 B v' (xs ++ [x]) ∧ Below B W w1 := by
  refine ⟨?_, ((Below.refl B W).alloc hB o).grown hg (by simp; omega) fun g e => (World.ownsRow.lt h g e).1⟩
  unfold IRow
  simpa using hO
def hidAny (l : Int) (f : Nat → Int) (q : Nat) : Nat → Bool
  | 0 => false
  | m + 1 => hidAny l f q m || hid_ l (f (m * 2)) (f (m * 2 + 1)) (f (q * 2)) (f (q * 2 + 1))
def hpTo (l : Int) (f : Nat → Int) : Nat → List Int
  | 0 => []
  | k + 1 => hpTo l f k ++ (if hidAny l f k k then [(k : Int)] else [])
def HPL (l : Int) (n : Nat) (f : Nat → Int) : List Int := if okG l n f then hpTo l f n else []
theorem hpTo_len (l : Int) (f : Nat → Int) (k : Nat) : (hpTo l f k).length ≤ k := by
  induction k with
  | zero => simp [hpTo]
  | succ m ih => simp only [hpTo]; split <;> simp <;> omega
theorem HPL_len (l : Int) (n : Nat) (f : Nat → Int) : (HPL l n f).length ≤ 4000000 := by
  unfold HPL
  split
  · rename_i h
    have := hpTo_len l f n
    have := (okG_true h).1
    omega
  · simp
theorem hidAny_more {l : Int} {f : Nat → Int} {q k m : Nat} (h : hidAny l f q k = true) (hm : k ≤ m) : hidAny l f q m = true := by
  obtain ⟨d, rfl⟩ : ∃ d, m = k + d := ⟨m - k, by omega⟩
  clear hm
  induction d with
  | zero => exact h
  | succ d ih =>
    show (hidAny l f q (k + d) || _) = true
    rw [ih]; rfl
theorem hp_yes {l : Int} {f : Nat → Int} {j : Nat} (h : hidAny l f j j = true) : hpTo l f (j + 1) = hpTo l f j ++ [(j : Int)] := by simp [hpTo, h]
theorem hp_no {l : Int} {f : Nat → Int} {j : Nat} (h : hidAny l f j j = false) : hpTo l f (j + 1) = hpTo l f j := by simp [hpTo, h]

def mixP (k : Int) (f : Nat → Int) (j : Nat) : Nat → Int := fun i => if i < j then k + (i : Int) else f i
set_option maxHeartbeats 800000 in
theorem markPoleS_any (v : Value) (k : Int) (n : Nat) (f : Nat → Int) (B : Nat) (w : World) (h : ORow w B v n f) (k0 : 0 ≤ k) (k1 : k + n * 2 ≤ 4611686018427387904) :
    Calls Try.prog 22 #[v, .int .i64 k] w fun e w' => e = .returned (.int .i64 (k + (n : Int) * 2)) ∧ ORow w' B v n (fun i => k + (i : Int)) ∧ w.grownBy w' v.ownBlock ∧ w'.heap.size = w.heap.size := by
  have hl := h.toP.len_le
  rcases h.open_ with ⟨rfl, rfl⟩ | ⟨g, cap, rfl, hB, hg, hnc, hm, hc, hf⟩
  · have HH := Lib.hid h
    clear h
    go_enter Try.func22, Try.ntmps22
    go_wp2
    go_loopw [1, 5] (fun c i wr => c = .int .i64 k ∧ i = .int .i64 0 ∧ wr = w) (fun _ _ _ => 0)
    case atStart => exact ⟨rfl, rfl, rfl⟩
    case round =>
      obtain ⟨rfl, rfl, rfl⟩ := hrel
      go_wp2
      go_ret
      exact ⟨by simp, HH.out.congr (fun i hi => absurd hi (by omega)), grown_refl' _ _, rfl⟩
  · have HH := Lib.hid h
    clear h hc hf
    go_enter Try.func22, Try.ntmps22
    go_wp2
    go_loopw [1, 5] (fun c i wr => ∃ j : Nat, j ≤ n ∧ c = .int .i64 (k + (j : Int) * 2) ∧ i = .int .i64 j ∧ ORow wr B (.slice (some ⟨g, 0, none⟩) n cap) n (mixP k f (j * 2)) ∧ w.grownBy wr (some g) ∧ wr.heap.size = w.heap.size) (fun _ i _ => n - (intOf i).toNat)
    case atStart => exact ⟨0, Nat.zero_le _, by simp, rfl, HH.out.congr (fun i _ => by simp [mixP]), grown_refl' _ _, rfl⟩
    case round =>
      obtain ⟨j, hj, rfl, rfl, hO, hG, hS⟩ := hrel
      by_cases hlt : j < n
      · rcases hO.open_ with ⟨he, _⟩ | ⟨g', cap', he, _, hg', _, _, hcc, hff⟩
        · cases he
        simp only [Value.slice.injEq, Option.some.injEq, Addr.mk.injEq, and_true, true_and] at he
        obtain ⟨rfl, rfl⟩ := he
        have d1 := hcc (j * 2) (by omega)
        have d2 := hcc (j * 2 + 1) (by omega)
        have f1 := hff (j * 2)
        have f2 := hff (j * 2 + 1)
        have s1 := hO.stored (j * 2) (k + (j : Int) * 2)
        have s2 := s1.1.stored (j * 2 + 1) (k + (j : Int) * 2 + 1)
        have S1 := Lib.hid s2.1
        have S2 := Lib.hid (grown_trans' hG (grown_trans' s1.2 s2.2))
        have HS := Lib.hid hS
        have hlt' : (j : Int) < (n : Int) := by omega
        clear hcc hff hO hG hS s1 s2
        go_wp2
        go_roundw
        case rel =>
          refine ⟨j + 1, by omega, by go_num, by go_num, S1.out.congr (fun i hi => ?_), S2.out, by simp [World.setCell, HS.out]⟩
          unfold mixP
          by_cases e1 : i = j * 2 + 1
          · rw [if_pos e1, if_pos (show i < (j + 1) * 2 by omega), e1]; push_cast; omega
          · by_cases e2 : i = j * 2
            · rw [if_neg e1, if_pos e2, if_pos (show i < (j + 1) * 2 by omega), e2]; push_cast; omega
            · by_cases e3 : i < j * 2
              · rw [if_neg e1, if_neg e2, if_pos e3, if_pos (show i < (j + 1) * 2 by omega)]
              · rw [if_neg e1, if_neg e2, if_neg e3, if_neg (show ¬ i < (j + 1) * 2 by omega)]
        case measure => simp only [intOf]; omega
      · obtain rfl : j = n := by omega
        have HO := Lib.hid hO
        have HG := Lib.hid hG
        have HS := Lib.hid hS
        clear hO hG hS
        go_wp2
        go_ret
        exact ⟨rfl, HO.out.congr (fun i hi => by simp [mixP, hi]), HG.out, HS.out⟩
theorem ne_block {u v : Value} {m : Nat} (hu : ∀ g, u.ownBlock = some g → g < m) (hv : ∀ g, v.ownBlock = some g → m ≤ g) : u.ownBlock = none ∨ u.ownBlock ≠ v.ownBlock := by
  cases e : u.ownBlock with
  | none => exact .inl rfl
  | some g =>
    refine .inr fun e' => ?_
    have := hu g e
    have := hv g e'.symm
    omega
theorem ORow.caps {w : World} {B : Nat} {v : Value} {n : Nat} {f : Nat → Int} (h : ORow w B v n f) : ∀ a m c, v = .slice a m c → m ≤ c := by
  intro a m c e
  rcases h.open_ with ⟨rfl, _⟩ | ⟨g, cap, rfl, _, _, hn, _⟩
  · cases e; exact Nat.le_refl _
  · cases e; exact hn
end Go.Proofs.Ytophkahaefbkiaa
