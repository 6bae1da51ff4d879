/- Proved here: what impl.Unseal answers: the text ahead of the last four bytes if these are its CRC, else a code; all old memory stays (no conditions but that a string is one). -/
import Derived.Test.YtldaebdioljnlaaSeal
import Derived.Deep.RegionHeld3
import Derived.Lib.BufferWrite
import Derived.Laws.CopyOwn
namespace Go.Proofs.Ytldaebdioljnlaa
open Go.ChangeShapes Go.WideShapes Go.ChangeAt Go.RowKit
open Go.ChangeMaps (open_string shut_string)
set_option linter.unusedVariables false

theorem cell_of_heap {w : World} {g : Nat} {cs : Array Value} {e : TypeId} {fr : Nat × Nat} (h : w.heap[g]? = some (.cells cs e fr)) (j : Nat) : w.cell? ⟨g, j, none⟩ = cs[j]? := by
  simp [World.cell?, h]
theorem shape_of_heap {w : World} {g : Nat} {cs : Array Value} {e : TypeId} {fr : Nat × Nat} (h : w.heap[g]? = some (.cells cs e fr)) : w.shape? g = some (e, cs.size) := by
  simp [World.shape?, h]

set_option maxRecDepth 100000 in
theorem cloneIn_any (s : ByteArray) (w : World) (hs : s.size ≤ 1099511627776) :
    Calls Try.prog 25 #[.string s] w fun e w' => e = .returned (.string s) ∧ Below w.heap.size w w' := by
  by_cases h : s.size = 0
  · have hE : s = ⟨#[]⟩ := ByteArray.ext (Array.eq_empty_of_size_eq_zero h)
    subst hE
    go_enter Try.func25, Try.ntmps25
    go_wp2
    go_ret
    exact ⟨rfl, Below.refl _ _⟩
  · have h' : ((s.size : Int) == 0) = false := beq_eq_false_iff_ne.2 (by omega)
    have hpos : 0 < s.size := by omega
    have hmk : ∀ W, (Instr.makeSlice 22 (.int .i64 (s.size : Int)) (.int .i64 (s.size : Int))).run Try.prog W = .ok (.slice (some ⟨W.heap.size, 0, none⟩) s.size s.size) (W.alloc (.cells (madeCells #[.int .u8 0] s.size) 5)) := fun W =>
      run_make_row' (P := Try.prog) 22 5 (.int .u8 0) 1 Try.underlying22 Try.infoU8 rfl .i64 .i64 s.size (by omega) (by omega) W
    have hsl : s.data.toList.length = s.size := by simp
    have hg0 := heap_new w (.cells (madeCells #[.int .u8 0] s.size) 5)
    have hr1 := Lib.run_copy_row_string (P := Try.prog) (w.alloc (.cells (madeCells #[.int .u8 0] s.size) 5)) 22 9 3 5 w.heap.size 0 s.size s.size s _ 5 Try.underlying22 (by kernel_rfl) hg0 (Nat.le_refl _) (by rw [size_madeCells]; omega)
    have hrow : ((madeCells #[Value.int .u8 0] s.size).toList.take 0 ++ Lib.byteCells s.data.toList ++ (madeCells #[Value.int .u8 0] s.size).toList.drop (0 + s.size)).toArray = (Lib.byteCells s.data.toList).toArray := by
      rw [List.drop_of_length_le (by rw [Array.length_toList, size_madeCells]; omega)]
      simp
    rw [hrow] at hr1
    have hg1 := setRow_heap _ w.heap.size _ (Lib.byteCells s.data.toList).toArray _ _ hg0
    have hbel1 : Below w.heap.size w ((w.alloc (.cells (madeCells #[.int .u8 0] s.size) 5)).setRow w.heap.size (Lib.byteCells s.data.toList).toArray) := below_setRow ((Below.refl _ _).alloc (Nat.le_refl _) _) (Nat.le_refl _) _
    generalize (w.alloc (.cells (madeCells #[.int .u8 0] s.size) 5)).setRow w.heap.size (Lib.byteCells s.data.toList).toArray = w1 at hr1 hg1 hbel1
    have hus := Lib.run_unsafeString_row (P := Try.prog) (w := w1) 50 3 9 5 Try.underlying50 (by kernel_rfl) w.heap.size _ (shape_of_heap hg1) s.data.toList (by intro e; rw [e] at hsl; simp at hsl; omega) (by simp [Lib.byteCells]) (by omega) (fun j x hx => by
      rw [Addr.add_lit, Nat.zero_add, cell_of_heap hg1]
      simp [Lib.byteCells, hx])
    rw [hsl] at hus
    have hbel2 := Lib.below_freeze hbel1 (p := ⟨w.heap.size, 0, none⟩) (Nat.le_refl _) s.size
    clear hg0 hg1 hrow hsl hbel1
    go_enter Try.func25, Try.ntmps25
    go_wp2
    go_ret
    exact ⟨rfl, hbel2⟩

theorem clone_any (s : ByteArray) (w : World) (hs : s.size ≤ 1099511627776) :
    Calls Try.prog 21 #[.string s] w fun e w' => e = .returned (.string s) ∧ Below w.heap.size w w' := by
  go_enter Try.func21, Try.ntmps21
  go_wp2_with (go_at_call 25; refine (cloneIn_any _ _ hs).mono ?_; rintro e w1 ⟨rfl, hb1⟩)
  go_ret
  exact ⟨rfl, hb1⟩

theorem bcell {W w1 : World} (hb : Below W.heap.size W w1) : (∀ b o, b < W.heap.size → w1.cell? ⟨b, o, none⟩ = W.cell? ⟨b, o, none⟩) ∧ (∀ b o, b < W.heap.size → w1.frozen? ⟨b, o, none⟩ = W.frozen? ⟨b, o, none⟩) :=
  ⟨fun b o h => hb.cell (p := ⟨b, o, none⟩) h, fun b o h => hb.frozen (p := ⟨b, o, none⟩) h⟩

/-- all but the last four bytes -/
def headOf (s : ByteArray) : ByteArray := s.extract 0 (s.size - 4)
/-- are the last four bytes the CRC of those ahead of them? -/
def sealedB (s : ByteArray) : Bool := four (crcOf 0 (s.extract 0 (s.size - 4)).data.toList) == (s.extract (s.size - 4) s.size).toList
/-- what Unseal is to answer: the text -/
def openT (s : ByteArray) : ByteArray := if 8000 < s.size ∨ s.size < 4 then ⟨#[]⟩ else if sealedB s then s.extract 0 (s.size - 4) else ⟨#[]⟩
/-- .. and the code -/
def openC (s : ByteArray) : Int := if 8000 < s.size then 2 else if s.size < 4 then 4 else if sealedB s then 0 else 5

theorem app_data (a b : ByteArray) : (a ++ b).data.toList = a.data.toList ++ b.data.toList := by simp

theorem sealed_cmp {s : ByteArray} (h1 : ¬ 8000 < s.size) (h2 : ¬ s.size < 4) : ((sealB (s.extract 0 (s.size - 4))).toList == s.toList) = sealedB s := by
  have hsz : (s.extract 0 (s.size - 4)).size = s.size - 4 := by simp only [ByteArray.size_extract]; omega
  have e : sealB (s.extract 0 (s.size - 4)) = s.extract 0 (s.size - 4) ++ ⟨(four (crcOf 0 (s.extract 0 (s.size - 4)).data.toList)).toArray⟩ := if_neg (by omega)
  rw [e]
  unfold sealedB
  generalize four (crcOf 0 (s.extract 0 (s.size - 4)).data.toList) = f
  have hl : s.data.toList.length = s.size := by simp
  rw [Bool.eq_iff_iff, beq_iff_eq, beq_iff_eq, ByteArray.toList_eq, ByteArray.toList_eq, app_data, Lib.extract_data, Lib.extract_toList]
  have h3 : s.data.toList = (s.data.toList.drop 0).take (s.size - 4 - 0) ++ (s.data.toList.drop (s.size - 4)).take (s.size - (s.size - 4)) := by
    rw [List.drop_zero, Nat.sub_zero, List.take_of_length_le (l := s.data.toList.drop (s.size - 4)) (by rw [List.length_drop]; omega), List.take_append_drop]
  constructor
  · intro h
    rw [h3] at h
    have h5 := List.append_inj_right h (by simp)
    simpa [hl] using h5
  · intro h
    rw [h]
    exact h3.symm

set_option maxRecDepth 100000 in
set_option maxHeartbeats 1000000 in
theorem implUnseal_any (s : ByteArray) (w : World) (hs : s.size ≤ maxLen) :
    Calls Try.prog 8 #[.string s] w fun e w' => e = .returned (.agg #[.string (openT s), .int .i64 0, .int .i64 (openC s)]) ∧ Below w.heap.size w w' := by
  have hs' : s.size ≤ 2 ^ 63 - 1 := hs
  by_cases h1 : 8000 < s.size
  · have e1 : openT s = ⟨#[]⟩ := if_pos (Or.inl h1)
    have e2 : openC s = 2 := if_pos h1
    rw [e1, e2]
    clear e1 e2
    go_enter Try.func8, Try.ntmps8
    go_wp2
    go_returns
    exact ⟨rfl, by go_grown⟩
  by_cases h2 : s.size < 4
  · have e1 : openT s = ⟨#[]⟩ := if_pos (Or.inr h2)
    have e2 : openC s = 4 := by unfold openC; rw [if_neg h1, if_pos h2]
    rw [e1, e2]
    clear e1 e2
    go_enter Try.func8, Try.ntmps8
    go_wp2
    go_returns
    exact ⟨rfl, by go_grown⟩
  have hcmp := sealed_cmp h1 h2
  have hsz : (s.extract 0 (s.size - 4)).size ≤ s.size := by simp only [ByteArray.size_extract]; omega
  cases hb : sealedB s
  · have e1 : openT s = ⟨#[]⟩ := by unfold openT; rw [if_neg (by omega), if_neg (by rw [hb]; simp)]
    have e2 : openC s = 5 := by unfold openC; rw [if_neg h1, if_neg h2, if_neg (by rw [hb]; simp)]
    rw [hb] at hcmp
    rw [e1, e2]
    clear e1 e2 hb
    go_enter Try.func8, Try.ntmps8
    go_wp2_with fail
    refine (implSeal_any _ _ (Nat.le_trans hsz hs)).mono ?_
    rintro e w1 ⟨rfl, hb1⟩
    obtain ⟨hc, hf⟩ := bcell hb1
    have hz : w.heap.size < w1.heap.size := by have := hb1.size; simp at this; omega
    have hb2 : Below w.heap.size w w1 := ((Below.refl _ _).alloc (Nat.le_refl _) _).trans (hb1.mono (by simp))
    go_wp2
    exact bodyPost_ret (v := .agg #[.string ⟨#[]⟩, .int .i64 0, .int .i64 5]) (by simp [results, Try.results8, go_sem, hc]) rfl ⟨rfl, by go_grown⟩
  · have e1 : openT s = s.extract 0 (s.size - 4) := by unfold openT; rw [if_neg (by omega), if_pos hb]
    have e2 : openC s = 0 := by unfold openC; rw [if_neg h1, if_neg h2, if_pos hb]
    rw [hb] at hcmp
    rw [e1, e2]
    clear e1 e2 hb
    go_enter Try.func8, Try.ntmps8
    go_wp2_with fail
    refine (implSeal_any _ _ (Nat.le_trans hsz hs)).mono ?_
    rintro e w1 ⟨rfl, hb1⟩
    obtain ⟨hc, hf⟩ := bcell hb1
    have hz : w.heap.size < w1.heap.size := by have := hb1.size; simp at this; omega
    have hb2 : Below w.heap.size w w1 := ((Below.refl _ _).alloc (Nat.le_refl _) _).trans (hb1.mono (by simp))
    go_wp2_with fail
    refine (clone_any _ _ (by omega)).mono ?_
    rintro e w3 ⟨rfl, hb3⟩
    obtain ⟨hc3, hf3⟩ := bcell hb3
    have hz3 : w.heap.size < w3.heap.size := by have := hb3.size; omega
    have hb4 : Below w.heap.size w w3 := hb2.trans (hb3.mono (by omega))
    go_wp2
    exact bodyPost_ret (v := .agg #[.string (s.extract 0 (s.size - 4)), .int .i64 0, .int .i64 0]) (by simp [results, Try.results8, go_sem, hc, hz, hc3]) rfl ⟨rfl, by go_grown⟩
end Go.Proofs.Ytldaebdioljnlaa
