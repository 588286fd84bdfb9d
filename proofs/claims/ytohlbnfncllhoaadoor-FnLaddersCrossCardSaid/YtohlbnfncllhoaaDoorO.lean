/- The words that the program's start-up tells, cut at the first three: so that the kernel never lays out the whole text. -/
import Derived.Test.YtohlbnfncllhoaaDoorRows
import Derived.ProofKit
import Derived.OpenShut
namespace Go.Proofs.YtohlbnfncllhoaaDoor
def wa : List Char := [Char.ofNat 104, Char.ofNat 97, Char.ofNat 114, Char.ofNat 110, Char.ofNat 101, Char.ofNat 115, Char.ofNat 115]
def wb : List Char := [Char.ofNat 52, Char.ofNat 49, Char.ofNat 55, Char.ofNat 54, Char.ofNat 52, Char.ofNat 101, Char.ofNat 49, Char.ofNat 101, Char.ofNat 101, Char.ofNat 52, Char.ofNat 53, Char.ofNat 56, Char.ofNat 49, Char.ofNat 57, Char.ofNat 54, Char.ofNat 50, Char.ofNat 52, Char.ofNat 102, Char.ofNat 102, Char.ofNat 48, Char.ofNat 98, Char.ofNat 99, Char.ofNat 56, Char.ofNat 57, Char.ofNat 52, Char.ofNat 49, Char.ofNat 52, Char.ofNat 98, Char.ofNat 49, Char.ofNat 49, Char.ofNat 52, Char.ofNat 54, Char.ofNat 49, Char.ofNat 53, Char.ofNat 97, Char.ofNat 98, Char.ofNat 57, Char.ofNat 102, Char.ofNat 57, Char.ofNat 100, Char.ofNat 54, Char.ofNat 100, Char.ofNat 57, Char.ofNat 100, Char.ofNat 50, Char.ofNat 48, Char.ofNat 56, Char.ofNat 56, Char.ofNat 53, Char.ofNat 53, Char.ofNat 54, Char.ofNat 97, Char.ofNat 55, Char.ofNat 48, Char.ofNat 51, Char.ofNat 99, Char.ofNat 48, Char.ofNat 57, Char.ofNat 100, Char.ofNat 98, Char.ofNat 51, Char.ofNat 98, Char.ofNat 97, Char.ofNat 97]
def wc : List Char := [Char.ofNat 99, Char.ofNat 117, Char.ofNat 116]
def wr : List Char := [Char.ofNat 97, Char.ofNat 116, Char.ofNat 32, Char.ofNat 108, Char.ofNat 111, Char.ofNat 111, Char.ofNat 112, Char.ofNat 46, Char.ofNat 101, Char.ofNat 120, Char.ofNat 97, Char.ofNat 109, Char.ofNat 112, Char.ofNat 108, Char.ofNat 101, Char.ofNat 47, Char.ofNat 103, Char.ofNat 48, Char.ofNat 49, Char.ofNat 51, Char.ofNat 53, Char.ofNat 49, Char.ofNat 47, Char.ofNat 108, Char.ofNat 97, Char.ofNat 119, Char.ofNat 115, Char.ofNat 46, Char.ofNat 70, Char.ofNat 110, Char.ofNat 76, Char.ofNat 97, Char.ofNat 100, Char.ofNat 100, Char.ofNat 101, Char.ofNat 114, Char.ofNat 115, Char.ofNat 67, Char.ofNat 114, Char.ofNat 111, Char.ofNat 115, Char.ofNat 115, Char.ofNat 32, Char.ofNat 108, Char.ofNat 111, Char.ofNat 111, Char.ofNat 112, Char.ofNat 46, Char.ofNat 101, Char.ofNat 120, Char.ofNat 97, Char.ofNat 109, Char.ofNat 112, Char.ofNat 108, Char.ofNat 101, Char.ofNat 47, Char.ofNat 103, Char.ofNat 48, Char.ofNat 49, Char.ofNat 51, Char.ofNat 53, Char.ofNat 49, Char.ofNat 47, Char.ofNat 108, Char.ofNat 97, Char.ofNat 119, Char.ofNat 115, Char.ofNat 46, Char.ofNat 70, Char.ofNat 110, Char.ofNat 76, Char.ofNat 97, Char.ofNat 100, Char.ofNat 100, Char.ofNat 101, Char.ofNat 114, Char.ofNat 115, Char.ofNat 67, Char.ofNat 114, Char.ofNat 111, Char.ofNat 115, Char.ofNat 115, Char.ofNat 79, Char.ofNat 102, Char.ofNat 65, Char.ofNat 108, Char.ofNat 108]
def order : List Char := wa ++ Char.ofNat 32 :: (wb ++ Char.ofNat 32 :: (wc ++ Char.ofNat 32 :: wr))
theorem order0 : Tryd.pinned.checked.prog.initOrder = String.ofList order := by kernel_rfl
theorem orderIs : Tryd.pinned.checked.prog.initOrder.toList = order := by rw [order0, String.toList_ofList]
theorem ws_word : ∀ (w rest : List Char), (∀ c ∈ w, c ≠ Char.ofNat 32) → wordsSigns (w ++ Char.ofNat 32 :: rest) = w :: wordsSigns rest
  | [], rest, _ => by simp [wordsSigns]
  | c :: w, rest, h => by
    have ih := ws_word w rest (fun d hd => h d (List.mem_cons_of_mem _ hd))
    have hc := h c List.mem_cons_self
    show wordsSigns (c :: (w ++ Char.ofNat 32 :: rest)) = _
    rw [wordsSigns, ih]
    exact hc
theorem wsIs : wordsSigns order = wa :: wb :: wc :: wordsSigns wr := by
  unfold order
  rw [ws_word wa _ (by decide), ws_word wb _ (by decide), ws_word wc _ (by decide)]
theorem behind0 (X : List (List Char)) : behindMainWord (wa :: wb :: wc :: X) = wc :: X := by rfl
theorem behind : behindMainWord (wordsSigns Tryd.pinned.checked.prog.initOrder.toList) = wc :: wordsSigns wr := by rw [orderIs, wsIs, behind0]
theorem strip0 (X : List (List Char)) : stripLifts liftWords (wc :: X) = ([], wc :: X) := by rfl
theorem make_of (P : Program) (X : List (List Char)) (h : behindMainWord (wordsSigns P.initOrder.toList) = wc :: X) : P.make = some .cut := by
  unfold Program.make
  rw [h]
  rfl
theorem lifts_of (P : Program) (X : List (List Char)) (h : behindMainWord (wordsSigns P.initOrder.toList) = wc :: X) : P.liftsFinal = false := by
  unfold Program.liftsFinal Program.headLifts
  rw [h]
  simp only [strip0]
  rfl
theorem may_of (P : Program) (X : List (List Char)) (h : behindMainWord (wordsSigns P.initOrder.toList) = wc :: X) (h2 : P.laysLater = false) (h3 : P.bearsReflect = false) (h4 : P.doorFits [] = true) : P.mayEnter = true := by
  unfold Program.mayEnter
  rw [h]
  simp only [strip0, h2, h3, h4]
  rfl
theorem make : Tryd.pinned.checked.prog.make = some .cut := make_of _ _ behind
theorem lifts : Tryd.pinned.checked.prog.liftsFinal = false := lifts_of _ _ behind
theorem may : Tryd.pinned.checked.prog.mayEnter = true := may_of _ _ behind (by kernel_rfl) (by kernel_rfl) (by kernel_rfl)
end Go.Proofs.YtohlbnfncllhoaaDoor
