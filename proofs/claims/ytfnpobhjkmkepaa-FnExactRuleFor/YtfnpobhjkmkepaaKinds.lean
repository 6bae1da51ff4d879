/- Proved here: nothing of a program: kinds of values, told of each operation of a region. -/
import Derived.Test.YtfnpobhjkmkepaaBlk
namespace Go.Proofs.Ytfnpobhjkmkepaa
open Go.ChangeShapes Go.WideShapes Go.ChangeAt Go.RowKit
set_option linter.unusedVariables false

/-- a kind of value: what is said of it in a world -/
def Kp : Type := Value → World → Prop
def isP (x : Value) : Kp := fun v _ => v = x
def anyP : Kp := fun _ _ => True
def kpOf (ks : List Kp) (i : Nat) (v : Value) (w : World) : Prop := (ks.getD i anyP) v w
/-- it lasts while old memory stays -/
def LastsB (k : Kp) : Prop := ∀ v W W', k v W → Below W.heap.size W W' → k v W'
def AllLastB : List Kp → Prop
  | [] => True
  | k :: ks => LastsB k ∧ AllLastB ks
theorem all_lastB : ∀ (ks : List Kp), AllLastB ks → ∀ i v W W', kpOf ks i v W → Below W.heap.size W W' → kpOf ks i v W'
  | [], _, i, v, W, W', h, hg => by simp [kpOf, anyP]
  | k :: ks, hl, 0, v, W, W', h, hg => hl.1 v W W' h hg
  | k :: ks, hl, i + 1, v, W, W', h, hg => all_lastB ks hl.2 i v W W' h hg
end Go.Proofs.Ytfnpobhjkmkepaa
