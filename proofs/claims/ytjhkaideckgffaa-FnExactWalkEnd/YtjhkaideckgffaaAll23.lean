/- Proved here: nothing of a program: what is known of a right slab's sizes and links. · Proved here: nothing of a program: the slot of a key in a chain. -/
import Derived.Test.YtjhkaideckgffaaSlabRight
section
namespace Go.Proofs.Ytjhkaideckgffaa
open Go.ChangeShapes Go.WideShapes Go.ChangeAt Go.RowKit
set_option linter.unusedVariables false
set_option linter.unusedSimpArgs false
set_option maxRecDepth 100000

theorem right_leads {s : Slb} (h : rightSl s = true) : Leads s ∧ 1 ≤ s.slots.length ∧ s.slots.length ≤ 24 ∧ 1 ≤ s.heads.length ∧ s.heads.length ≤ 4 := by
  unfold rightSl at h
  exact slotsB_leads (Bool.and_eq_true _ _ ▸ h).1
end Go.Proofs.Ytjhkaideckgffaa
end

section
namespace Go.Proofs.Ytjhkaideckgffaa
open Go.ChangeShapes Go.WideShapes Go.ChangeAt Go.RowKit
set_option linter.unusedVariables false
set_option linter.unusedSimpArgs false
set_option maxRecDepth 100000

/-- the first of these slots whose key it is -/
def findL (s : Slb) (key : Int) : List Int → Int
  | [] => -1
  | n :: l => if (slotN s n).key = key then n else findL s key l
def findSl (s : Slb) (key : Int) : Int := findL s key (chainOf s (key.tmod s.heads.length)).1
end Go.Proofs.Ytjhkaideckgffaa
end
