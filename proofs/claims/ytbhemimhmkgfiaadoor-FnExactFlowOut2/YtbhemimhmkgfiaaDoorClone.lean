/- Proved here: strings.Clone returns its text, and leaves all old memory alone (condition: at most 2^40 bytes). -/
import Derived.Test.YtbhemimhmkgfiaaDoorOwn
import Derived.Lib.BufferWrite
import Derived.Laws.CopyOwn
import Derived.Deep.OwnRows
namespace Go.Proofs.YtbhemimhmkgfiaaDoor
open Go.ChangeShapes Go.WideShapes Go.ChangeAt Go.RowKit
open Go.ChangeMaps (open_string shut_string)
set_option linter.unusedVariables false

theorem cell_of_heap {w : World} {g : Nat} {cs : Array Value} {e : TypeId} {fr : Nat × Nat} (h : w.heap[g]? = some (.cells cs e fr)) (j : Nat) : w.cell? ⟨g, j, none⟩ = cs[j]? := by
  simp [World.cell?, h]
theorem shape_of_heap {w : World} {g : Nat} {cs : Array Value} {e : TypeId} {fr : Nat × Nat} (h : w.heap[g]? = some (.cells cs e fr)) : w.shape? g = some (e, cs.size) := by
  simp [World.shape?, h]

set_option maxRecDepth 100000 in
theorem cloneIn_any (s : ByteArray) (w : World) (hs : s.size ≤ 1099511627776) :
    Calls Tryd.prog 68 #[.string s] w fun e w' => e = .returned (.string s) ∧ Below w.heap.size w w' := by
  by_cases h : s.size = 0
  · have hE : s = ⟨#[]⟩ := ByteArray.ext (Array.eq_empty_of_size_eq_zero h)
    subst hE
    go_enter Tryd.func68, Tryd.ntmps68
    go_wp2
    go_ret
    exact ⟨rfl, Below.refl _ _⟩
  · have h' : ((s.size : Int) == 0) = false := beq_eq_false_iff_ne.2 (by omega)
    have hpos : 0 < s.size := by omega
    have hmk : ∀ W, (Instr.makeSlice 73 (.int .i64 (s.size : Int)) (.int .i64 (s.size : Int))).run Tryd.prog W = .ok (.slice (some ⟨W.heap.size, 0, none⟩) s.size s.size) (W.alloc (.cells (madeCells #[.int .u8 0] s.size) 5)) := fun W =>
      run_make_row' (P := Tryd.prog) 73 5 (.int .u8 0) 1 Tryd.underlying73 Tryd.infoU8 rfl .i64 .i64 s.size (by omega) (by omega) W
    have hsl : s.data.toList.length = s.size := by simp
    have hg0 := heap_new w (.cells (madeCells #[.int .u8 0] s.size) 5)
    have hr1 := Lib.run_copy_row_string (P := Tryd.prog) (w.alloc (.cells (madeCells #[.int .u8 0] s.size) 5)) 73 9 3 5 w.heap.size 0 s.size s.size s _ 5 Tryd.underlying73 (by kernel_rfl) hg0 (Nat.le_refl _) (by rw [size_madeCells]; omega)
    have hrow : ((madeCells #[Value.int .u8 0] s.size).toList.take 0 ++ Lib.byteCells s.data.toList ++ (madeCells #[Value.int .u8 0] s.size).toList.drop (0 + s.size)).toArray = (Lib.byteCells s.data.toList).toArray := by
      rw [List.drop_of_length_le (by rw [Array.length_toList, size_madeCells]; omega)]
      simp
    rw [hrow] at hr1
    have hg1 := setRow_heap _ w.heap.size _ (Lib.byteCells s.data.toList).toArray _ _ hg0
    have hbel1 : Below w.heap.size w ((w.alloc (.cells (madeCells #[.int .u8 0] s.size) 5)).setRow w.heap.size (Lib.byteCells s.data.toList).toArray) := below_setRow ((Below.refl _ _).alloc (Nat.le_refl _) _) (Nat.le_refl _) _
    generalize (w.alloc (.cells (madeCells #[.int .u8 0] s.size) 5)).setRow w.heap.size (Lib.byteCells s.data.toList).toArray = w1 at hr1 hg1 hbel1
    have hus := Lib.run_unsafeString_row (P := Tryd.prog) (w := w1) 98 3 9 5 Tryd.underlying98 (by kernel_rfl) w.heap.size _ (shape_of_heap hg1) s.data.toList (by intro e; rw [e] at hsl; simp at hsl; omega) (by simp [Lib.byteCells]) (by omega) (fun j x hx => by
      rw [Addr.add_lit, Nat.zero_add, cell_of_heap hg1]
      simp [Lib.byteCells, hx])
    rw [hsl] at hus
    have hbel2 := Lib.below_freeze hbel1 (p := ⟨w.heap.size, 0, none⟩) (Nat.le_refl _) s.size
    clear hg0 hg1 hrow hsl hbel1
    go_enter Tryd.func68, Tryd.ntmps68
    go_wp2
    go_ret
    exact ⟨rfl, hbel2⟩

theorem clone_any (s : ByteArray) (w : World) (hs : s.size ≤ 1099511627776) :
    Calls Tryd.prog 58 #[.string s] w fun e w' => e = .returned (.string s) ∧ Below w.heap.size w w' := by
  go_enter Tryd.func58, Tryd.ntmps58
  go_wp2_with (go_at_call 68; refine (cloneIn_any _ _ hs).mono ?_; rintro e w1 ⟨rfl, hb1⟩)
  go_ret
  exact ⟨rfl, hb1⟩
end Go.Proofs.YtbhemimhmkgfiaaDoor
