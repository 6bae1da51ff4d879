/- Proved here: nothing of a program: the slot of a key in a chain. -/
import Derived.Test.YtjhkaideckgffaaSlabRight
namespace Go.Proofs.Ytjhkaideckgffaa
open Go.ChangeShapes Go.WideShapes Go.ChangeAt Go.RowKit
set_option linter.unusedVariables false
set_option linter.unusedSimpArgs false
set_option maxRecDepth 100000

/-- the first of these slots whose key it is -/
def findL (s : Slb) (key : Int) : List Int → Int
  | [] => -1
  | n :: l => if (slotN s n).key = key then n else findL s key l
def findSl (s : Slb) (key : Int) : Int := findL s key (chainOf s (key.tmod s.heads.length)).1
end Go.Proofs.Ytjhkaideckgffaa
