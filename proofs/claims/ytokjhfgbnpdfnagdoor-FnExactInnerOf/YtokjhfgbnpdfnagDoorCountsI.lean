/- Proved here: impl.countsAt answers a new list of places; all old memory stays (no conditions). -/
import Derived.Test.YtokjhfgbnpdfnagDoorCheckI
import Derived.Test.YtokjhfgbnpdfnagDoorAll18
import Derived.Test.YtokjhfgbnpdfnagDoorAll3
namespace Go.Proofs.YtokjhfgbnpdfnagDoor
open Go.ChangeShapes Go.WideShapes Go.ChangeAt Go.RowKit
set_option linter.unusedVariables false
set_option maxRecDepth 100000

def intsV (l : List Nat) : List Value := l.map fun n : Nat => Value.int .i64 (n : Int)
theorem Tryd.infoInt : (Tryd.prog.info? 3).map (fun i => (i.zero, i.size, i.bytes)) = some (some (.int .i64 0), 1, 8) := by kernel_rfl
/-- what countsAt answers -/
def Counts (B : Nat) (l : List Nat) (e : Ending) (w' : World) : Prop := ∃ v, e = .returned v ∧ w'.ownsRow B 3 1 v l.length (intsV l)
theorem own_new (w : World) (vs : List Value) (h : vs.length ≤ 1000) : (w.alloc (.cells vs.toArray 3)).ownsRow w.heap.size 3 1 (.slice (some ⟨w.heap.size, 0, none⟩) vs.length vs.length) vs.length vs :=
  ⟨by simp, Or.inr ⟨w.heap.size, vs.length, vs.toArray, rfl, Nat.le_refl _, heap_new _ _, Nat.le_refl _, by unfold maxLen; omega, by simp, by simp⟩⟩

theorem countsAt_udp (v : Value) (w : World) :
    Calls Tryd.prog 53 #[.iface 108 v] w fun e w' => Counts w.heap.size [2, 24] e w' ∧ Below w.heap.size w w' := by
  have h2 := as_udp_udp v
  have ho := hidS (own_new w (intsV [2, 24]) (by decide))
  have hB := hidS ((Below.refl w.heap.size w).alloc (Nat.le_refl _) (.cells (intsV [2, 24]).toArray 3))
  go_enter Tryd.func53, Tryd.ntmps53
  go_wp2
  go_ret
  exact ⟨⟨_, rfl, ho.out⟩, hB.out⟩
theorem countsAt_tcp (v : Value) (w : World) :
    Calls Tryd.prog 53 #[.iface 106 v] w fun e w' => Counts w.heap.size [2] e w' ∧ Below w.heap.size w w' := by
  have h2 := as_tcp_udp v
  have ho := hidS (own_new w (intsV [2]) (by decide))
  have hB := hidS ((Below.refl w.heap.size w).alloc (Nat.le_refl _) (.cells (intsV [2]).toArray 3))
  go_enter Tryd.func53, Tryd.ntmps53
  go_wp2
  go_ret
  exact ⟨⟨_, rfl, ho.out⟩, hB.out⟩
theorem countsAt_err (v : Value) (w : World) :
    Calls Tryd.prog 53 #[.iface 110 v] w fun e w' => Counts w.heap.size [2] e w' ∧ Below w.heap.size w w' := by
  have h2 := as_err_udp v
  have ho := hidS (own_new w (intsV [2]) (by decide))
  have hB := hidS ((Below.refl w.heap.size w).alloc (Nat.le_refl _) (.cells (intsV [2]).toArray 3))
  go_enter Tryd.func53, Tryd.ntmps53
  go_wp2
  go_ret
  exact ⟨⟨_, rfl, ho.out⟩, hB.out⟩
theorem countsAt_echo (v : Value) (w : World) :
    Calls Tryd.prog 53 #[.iface 112 v] w fun e w' => Counts w.heap.size [2] e w' ∧ Below w.heap.size w w' := by
  have h2 := as_echo_udp v
  have ho := hidS (own_new w (intsV [2]) (by decide))
  have hB := hidS ((Below.refl w.heap.size w).alloc (Nat.le_refl _) (.cells (intsV [2]).toArray 3))
  go_enter Tryd.func53, Tryd.ntmps53
  go_wp2
  go_ret
  exact ⟨⟨_, rfl, ho.out⟩, hB.out⟩
theorem countsAt_none (w : World) :
    Calls Tryd.prog 53 #[.nilIface] w fun e w' => Counts w.heap.size [2] e w' ∧ Below w.heap.size w w' := by
  have h2 := as_none_udp
  have ho := hidS (own_new w (intsV [2]) (by decide))
  have hB := hidS ((Below.refl w.heap.size w).alloc (Nat.le_refl _) (.cells (intsV [2]).toArray 3))
  go_enter Tryd.func53, Tryd.ntmps53
  go_wp2
  go_ret
  exact ⟨⟨_, rfl, ho.out⟩, hB.out⟩
end Go.Proofs.YtokjhfgbnpdfnagDoor
