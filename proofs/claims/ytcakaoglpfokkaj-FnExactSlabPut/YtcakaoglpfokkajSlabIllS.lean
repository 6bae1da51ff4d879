/- Proved here: spec.l06Ill answers the empty slab, the place 0 and the code; old memory stays. -/
import Derived.Test.YtcakaoglpfokkajSlabOwn
namespace Go.Proofs.Ytcakaoglpfokkaj
open Go.ChangeShapes Go.WideShapes Go.ChangeAt Go.RowKit
set_option linter.unusedVariables false
set_option linter.unusedSimpArgs false
set_option maxRecDepth 100000
/-- an answer that hands a slab back, with a place and a code -/
def OutAns (s : Slb) (at_ code : Int) (w : World) (e : Ending) (w' : World) : Prop :=
  ∃ aS cS aH cH, e = .returned (.agg #[.slice aS s.slots.length cS, .slice aH s.heads.length cH, .int .i64 at_, .int .i64 code]) ∧ SlabO w.heap.size w'.heap.size aS aH s w' ∧ Below w.heap.size w w'
set_option maxHeartbeats 2000000 in
theorem l06Ill_any (c : Int) (w : World) :
    Calls Try.prog 33 #[.int .i64 c] w fun e w' => e = .returned (.agg #[.slice none 0 0, .slice none 0 0, .int .i64 0, .int .i64 c]) ∧ Below w.heap.size w w' := by
  have hR0 := heap_newG w (.cells #[.slice none 0 0, .slice none 0 0, .int .i64 0, .int .i64 0] 31)
  have HB0 := hidS ((Below.refl w.heap.size w).alloc (Nat.le_refl _) (.cells #[.slice none 0 0, .slice none 0 0, .int .i64 0, .int .i64 0] 31))
  go_enter Try.func33, Try.ntmps33
  go_wp2_with fail
  have hR1 := heap_newG w (.cells #[.slice none 0 0, .slice none 0 0, .int .i64 0, .int .i64 c] 31)
  have HB1 := hidS ((Below.refl w.heap.size w).alloc (Nat.le_refl _) (.cells #[.slice none 0 0, .slice none 0 0, .int .i64 0, .int .i64 c] 31))
  have k0 := blk_cell hR1 0
  have k1 := blk_cell hR1 1
  have k2 := blk_cell hR1 2
  have k3 := blk_cell hR1 3
  simp at k0 k1 k2 k3
  exact bodyPost_ret (v := .agg #[.slice none 0 0, .slice none 0 0, .int .i64 0, .int .i64 c]) (by simp [results, Try.results33, go_sem, *]) rfl ⟨rfl, HB1.out⟩
theorem ill_out {c : Int} {w w' : World} {e : Ending} (h : e = .returned (.agg #[.slice none 0 0, .slice none 0 0, .int .i64 0, .int .i64 c]) ∧ Below w.heap.size w w') : OutAns ⟨[], []⟩ 0 c w e w' :=
  ⟨none, 0, none, 0, h.1, ⟨.inl rfl, .inl rfl, fun _ _ _ _ e => by cases e⟩, h.2⟩
end Go.Proofs.Ytcakaoglpfokkaj
