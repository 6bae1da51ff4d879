/- Proved here: impl.joinTexts of two texts returns the one followed by the other, and leaves all old memory alone (condition: the list of parts has these two strings, together of at most 2^40 bytes). -/
import Derived.Test.YtbhemimhmkgfiaaDoorOwn
import Derived.Lib.LazyBuf
import Derived.Lib.SlBuf
namespace Go.Proofs.YtbhemimhmkgfiaaDoor
open Go.ChangeShapes Go.WideShapes Go.ChangeAt Go.RowKit
open Go.ChangeMaps (open_string shut_string)
set_option linter.unusedVariables false

set_option maxRecDepth 1000000 in
theorem Tryd.sizeU8 (w : World) : (Go.sizeOf 5).run Tryd.prog w = .ok 1 w := by rfl

/-- 'copy(b[bp:], s)', s a string, bp = how much is filled -/
theorem copy_text (w0 wr : World) (h N : Nat) (acc : List UInt8) (s : ByteArray) (ty : TypeId) (hh : w0.heap.size ≤ h)
    (hb : Lib.Buf w0 wr h N acc) (hfit : acc.length + s.size ≤ N) :
    ∃ wr', (Builtin.copy_ #[73, 9] ty #[Lib.tailV h N acc.length, .string s]).run Tryd.prog wr = .ok (.int .i64 (s.size : Int)) wr' ∧ Lib.Buf w0 wr' h N (acc ++ s.data.toList) := by
  have hsl : s.data.toList.length = s.size := by simp
  by_cases hl : s.size = 0
  · have he : s.data.toList = [] := List.length_eq_zero_iff.1 (by rw [hsl]; exact hl)
    refine ⟨wr, ?_, by rw [he]; simpa using hb⟩
    unfold Lib.tailV
    have := run_copy_string (P := Tryd.prog) wr 73 9 ty 5 h (if N = acc.length then 0 else acc.length) (N - acc.length) (N - acc.length) s Tryd.underlying73 Tryd.sizeU8 (by omega) (fun j hj => by omega) (fun j hj => by omega)
    rw [he] at this
    split <;> simp_all [World.setCells, goInt]
  · have hne : ¬ N = acc.length := by omega
    have hr := run_copy_string (P := Tryd.prog) wr 73 9 ty 5 h acc.length (N - acc.length) (N - acc.length) s Tryd.underlying73 Tryd.sizeU8 (by omega)
      (fun j hj => hb.there _ (by omega)) (fun j hj => hb.free _ (by omega))
    refine ⟨_, by unfold Lib.tailV; rw [if_neg hne]; exact hr, ?_⟩
    have hin := World.cell?_setCells_in h (s.data.toList.map fun x => Value.int .u8 (x.toNat : Int)) acc.length wr (fun j hj => by rw [List.length_map, hsl] at hj; exact hb.there _ (by omega))
    have hout := World.cell?_setCells_out h (s.data.toList.map fun x => Value.int .u8 (x.toNat : Int)) acc.length wr
    refine ⟨?_, ?_, ?_, ?_, by rw [List.length_append, hsl]; exact hfit⟩
    · exact Lib.below_setCells h (Nat.le_refl _) _ _ hb.below
    · intro j hj
      by_cases h1 : acc.length ≤ j ∧ j < acc.length + s.size
      · obtain ⟨d, rfl⟩ : ∃ d, j = acc.length + d := ⟨j - acc.length, by omega⟩
        rw [hin d (by rw [List.length_map, hsl]; omega)]
        rfl
      · rw [hout ⟨h, j, none⟩ (fun _ _ => by rw [List.length_map, hsl]; show j < _ ∨ _ ≤ j; omega)]
        exact hb.there j hj
    · intro j hj
      rw [World.frozen?_setCells]
      exact hb.free j hj
    · intro j x hx
      by_cases h1 : j < acc.length
      · rw [List.getElem?_append_left h1] at hx
        rw [hout ⟨h, j, none⟩ (fun _ _ => Or.inl h1)]
        exact hb.holds j x hx
      · rw [List.getElem?_append_right (by omega)] at hx
        obtain ⟨d, rfl⟩ : ∃ d, j = acc.length + d := ⟨j - acc.length, by omega⟩
        rw [Nat.add_sub_cancel_left] at hx
        have hd : d < s.data.toList.length := (List.getElem?_eq_some_iff.1 hx).1
        rw [hin d (by rw [List.length_map]; exact hd)]
        simp only [List.getElem_map]
        rw [(List.getElem?_eq_some_iff.1 hx).2]

/-- the buffer filled, as a string -/
theorem conv_buf {w0 wr : World} {h N : Nat} {acc : List UInt8} (hb : Lib.Buf w0 wr h N acc) (hN : acc.length = N) :
    (convert 73 9 (.slice (some ⟨h, 0, none⟩) N N)).run Tryd.prog wr = .ok (.string ⟨acc.toArray⟩) wr := by
  subst hN
  exact run_convert_bytes_back (P := Tryd.prog) wr 73 9 5 ⟨h, 0, none⟩ acc.length acc Tryd.underlying73 Tryd.underlying5 Tryd.underlying9 (fun j hj => by
      rw [Addr.add_lit, Nat.zero_add]
      exact hb.holds j _ (List.getElem?_eq_getElem hj))

set_option maxRecDepth 100000 in
set_option maxHeartbeats 1000000 in
theorem joinTexts_two (a b : ByteArray) (k : Nat) (w : World) (ha : w.cell? ⟨k, 0, none⟩ = some (.string a)) (hb : w.cell? ⟨k, 1, none⟩ = some (.string b)) (hs : a.size + b.size ≤ 1099511627776) :
    Calls Tryd.prog 28 #[.slice (some ⟨k, 0, none⟩) 2 2] w fun e w' => e = .returned (.string (a ++ b)) ∧ Below w.heap.size w w' := by
  obtain ⟨N, hN⟩ : ∃ N, N = a.size + b.size := ⟨_, rfl⟩
  have hmk : ∀ W, (Instr.makeSlice 73 (.int .i64 ((a.size : Int) + (b.size : Int))) (.int .i64 ((a.size : Int) + (b.size : Int)))).run Tryd.prog W = .ok (.slice (some ⟨W.heap.size, 0, none⟩) N N) (W.alloc (.cells (madeCells #[.int .u8 0] N) 5)) := by
    intro W
    have := run_make_row' (P := Tryd.prog) 73 5 (.int .u8 0) 1 Tryd.underlying73 Tryd.infoU8 rfl .i64 .i64 N (by omega) (by omega) W
    rw [show ((N : Nat) : Int) = (a.size : Int) + (b.size : Int) from by omega] at this
    exact this
  have hsl0 : ∀ W, (Instr.slice 73 (.slice (some ⟨w.heap.size, 0, none⟩) N N) (some (.int .i64 0)) none none).run Tryd.prog W = .ok (Lib.tailV w.heap.size N 0) W := fun W => Lib.run_slice_tailV W 73 5 Tryd.underlying73 Tryd.sizeU8 w.heap.size N 0 (by omega)
  have hsl1 : ∀ W, (Instr.slice 73 (.slice (some ⟨w.heap.size, 0, none⟩) N N) (some (.int .i64 (a.size : Int))) none none).run Tryd.prog W = .ok (Lib.tailV w.heap.size N a.size) W := fun W => Lib.run_slice_tailV W 73 5 Tryd.underlying73 Tryd.sizeU8 w.heap.size N a.size (by omega)
  have hk : k < w.heap.size := World.block_lt_of_cell? w ⟨k, 0, none⟩ ha
  have hbuf0 : Lib.Buf w (w.alloc (.cells (madeCells #[.int .u8 0] N) 5)) w.heap.size N [] := Lib.Buf.start w _ 5 N 0 (by rw [size_madeCells]; omega)
  obtain ⟨w1, hr1, hbuf1⟩ := copy_text w _ w.heap.size N [] a 3 (Nat.le_refl _) hbuf0 (by simp; omega)
  obtain ⟨w2, hr2, hbuf2⟩ := copy_text w w1 w.heap.size N _ b 3 (Nat.le_refl _) hbuf1 (by simp; omega)
  have hlen : ([] ++ a.data.toList).length = a.size := by simp
  rw [hlen] at hr2
  have hb1 : w1.cell? ⟨k, 1, none⟩ = some (.string b) := (hbuf1.below.cell (p := ⟨k, 1, none⟩) hk).trans hb
  have hcv := conv_buf hbuf2 (by simp; omega)
  have hend : (⟨(([] ++ a.data.toList) ++ b.data.toList).toArray⟩ : ByteArray) = a ++ b := ByteArray.ext (by simp)
  rw [hend] at hcv
  have hbel : Below w.heap.size w w2 := hbuf2.below
  have HN : Hid (N = a.size + b.size) := hN
  clear hN hbuf0 hbuf1 hbuf2 hlen hend
  simp only [List.length_nil] at hr1
  go_enter Tryd.func28, Tryd.ntmps28
  go_wp2
  refine wp_loop_rounds 3 ?_
  rw [rounds_succ]
  go_wp2
  rw [rounds_succ]
  go_wp2
  rw [rounds_succ]
  go_wp2
  refine wp_loop_rounds 3 ?_
  rw [rounds_succ]
  go_wp2
  rw [rounds_succ]
  go_wp2
  rw [rounds_succ]
  go_wp2
  go_ret
  exact ⟨rfl, hbel⟩
end Go.Proofs.YtbhemimhmkgfiaaDoor
