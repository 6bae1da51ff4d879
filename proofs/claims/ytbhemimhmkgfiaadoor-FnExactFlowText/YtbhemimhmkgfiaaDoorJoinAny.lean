/- Proved here: impl.joinTexts returns its texts, one behind another, and leaves all old memory alone (condition: the list holds these strings, at most 1000 of at most 100000 bytes). -/
import Derived.Test.YtbhemimhmkgfiaaDoorJoin
import Derived.Test.YtbhemimhmkgfiaaDoorWordsH
namespace Go.Proofs.YtbhemimhmkgfiaaDoor
open Go.ChangeShapes Go.WideShapes Go.ChangeAt Go.RowKit
open Go.ChangeMaps (open_string shut_string)
set_option linter.unusedVariables false

/-- several texts, one behind another -/
def catL (ts : List ByteArray) : List UInt8 := ts.flatMap fun t => t.data.toList
def catT (ts : List ByteArray) : ByteArray := ⟨(catL ts).toArray⟩
theorem catL_snoc (ts : List ByteArray) (t : ByteArray) : catL (ts ++ [t]) = catL ts ++ t.data.toList := by simp [catL]
theorem catL_take_succ (ts : List ByteArray) (k : Nat) (h : k < ts.length) : catL (ts.take (k + 1)) = catL (ts.take k) ++ ts[k].data.toList := by rw [List.take_succ_eq_append_getElem h, catL_snoc]
theorem catL_take_le (ts : List ByteArray) (k : Nat) : (catL (ts.take k)).length ≤ (catL ts).length := by
  have : catL ts = catL (ts.take k) ++ catL (ts.drop k) := by unfold catL; rw [← List.flatMap_append, List.take_append_drop]
  rw [this, List.length_append]; omega
theorem catL_len (n : Nat) (ts : List ByteArray) (h : ∀ t ∈ ts, t.size ≤ 100000) (hl : ts.length ≤ n) : (catL ts).length ≤ 100000 * n := by
  induction ts generalizing n with
  | nil => simp [catL]
  | cons t ts ih =>
    cases n with
    | zero => simp at hl
    | succ n =>
      have h1 := ih n (fun x hx => h x (List.mem_cons_of_mem _ hx)) (by simpa using hl)
      have h3 := h t List.mem_cons_self
      have h4 : t.data.toList.length = t.size := by simp
      have e : catL (t :: ts) = t.data.toList ++ catL ts := rfl
      rw [e, List.length_append]
      omega

set_option maxRecDepth 100000 in
set_option maxHeartbeats 1000000 in
theorem joinTexts_any (g : Nat) (ts : List ByteArray) (w : World) (hc : ∀ j, (h : j < ts.length) → w.cell? ⟨g, j, none⟩ = some (.string ts[j])) (hg : g < w.heap.size) (hl : ts.length ≤ 1000) (hs : ∀ t ∈ ts, t.size ≤ 100000) :
    Calls Tryd.prog 28 #[.slice (some ⟨g, 0, none⟩) ts.length ts.length] w fun e w' => e = .returned (.string (catT ts)) ∧ Below w.heap.size w w' := by
  have HC := hidS hc
  have HS := hidS hs
  clear hc hs
  obtain ⟨N, hN⟩ : ∃ N, N = (catL ts).length := ⟨_, rfl⟩
  have hNle : (N : Int) ≤ 100000000 := by have := catL_len 1000 ts HS.out hl; omega
  have hmk : ∀ W, (Instr.makeSlice 73 (.int .i64 (N : Int)) (.int .i64 (N : Int))).run Tryd.prog W = .ok (.slice (some ⟨W.heap.size, 0, none⟩) N N) (W.alloc (.cells (madeCells #[.int .u8 0] N) 5)) := fun W =>
    run_make_row' (P := Tryd.prog) 73 5 (.int .u8 0) 1 Tryd.underlying73 Tryd.infoU8 rfl .i64 .i64 N (by omega) (by omega) W
  have hsl := fun W (k : Nat) (hk : k ≤ N) => Lib.run_slice_tailV (P := Tryd.prog) W 73 5 Tryd.underlying73 Tryd.sizeU8 w.heap.size N k (by omega)
  have HN : Hid (N = (catL ts).length) := hN
  have HSL := hidS hsl
  clear hN hsl
  have hbuf0 : Lib.Buf w (w.alloc (.cells (madeCells #[.int .u8 0] N) 5)) w.heap.size N [] := Lib.Buf.start w _ 5 N 0 (by rw [size_madeCells]; omega)
  have HB0 := hidS hbuf0
  clear hbuf0
  go_enter Tryd.func28, Tryd.ntmps28
  go_wp2
  go_loop [3, 12] (fun v i => ∃ k x : Nat, k ≤ ts.length ∧ i = .int .i64 k ∧ v = .int .i64 x ∧ (x : Int) ≤ 100000000 ∧ Hid (x = (catL (ts.take k)).length)) (fun _ i => ts.length - (intOf i).toNat)
  case atStart => exact ⟨0, 0, by omega, rfl, rfl, by omega, rfl⟩
  case round =>
    obtain ⟨k, x, hk, rfl, rfl, hx, hX⟩ := hrel
    by_cases h : k < ts.length
    · have h' : (k : Int) < (ts.length : Int) := by omega
      have hck := HC.out k h
      have hE : Hid (x + ts[k].size = (catL (ts.take (k + 1))).length) := by show _ = _; rw [catL_take_succ ts k h, List.length_append, ← hX.out]; simp
      have hle : x + ts[k].size ≤ N := by rw [hE.out, HN.out]; exact catL_take_le ts (k + 1)
      generalize ts[k] = t at *
      clear hX
      go_wp2
      go_round
      case rel => exact ⟨k + 1, x + t.size, by omega, by go_num, by go_num, by omega, hE⟩
      case measure => simp [intOf]; omega
    · have h' : ¬ (k : Int) < (ts.length : Int) := by omega
      obtain rfl : x = N := by have := hX.out; rw [List.take_of_length_le (by omega)] at this; rw [HN.out]; exact this
      clear hX
      go_wp2
      have HCW : Hid (∀ j, (h : j < ts.length) → ∀ wr, Below w.heap.size w wr → wr.cell? ⟨g, j, none⟩ = some (.string ts[j])) := fun j h wr hb => (hb.cell (p := ⟨g, j, none⟩) hg).trans (HC.out j h)
      clear HC hmk
      go_loopw [7, 25] (fun v i wr => ∃ k : Nat, k ≤ ts.length ∧ i = .int .i64 k ∧ v = .int .i64 ((catL (ts.take k)).length : Nat) ∧ Hid (Lib.Buf w wr w.heap.size x (catL (ts.take k)))) (fun _ i _ => ts.length - (intOf i).toNat)
      case atStart => exact ⟨0, by omega, rfl, rfl, HB0⟩
      case round =>
        obtain ⟨k, hk, rfl, rfl, hBuf⟩ := hrel
        by_cases h : k < ts.length
        · have h' : (k : Int) < (ts.length : Int) := by omega
          have hck := HCW.out k h wr hBuf.out.below
          have hle : (catL (ts.take k)).length + ts[k].size ≤ x := by
            have := catL_take_le ts (k + 1)
            rw [catL_take_succ ts k h, List.length_append, ← HN.out] at this
            simpa using this
          have hsl := HSL.out wr (catL (ts.take k)).length (by omega)
          obtain ⟨w1, hr1, hbuf1⟩ := copy_text w wr w.heap.size x (catL (ts.take k)) ts[k] 3 (Nat.le_refl _) hBuf.out hle
          have HB1 : Hid (Lib.Buf w w1 w.heap.size x (catL (ts.take (k + 1)))) := by rw [catL_take_succ ts k h]; exact hbuf1
          have hE : Hid ((catL (ts.take (k + 1))).length = (catL (ts.take k)).length + ts[k].size) := by show _ = _; rw [catL_take_succ ts k h, List.length_append]; simp
          clear hbuf1 hBuf
          generalize ts[k] = t at *
          generalize (catL (ts.take k)).length = m at *
          go_wp2
          go_roundw
          case rel => exact ⟨k + 1, by omega, by go_num, by rw [hE.out]; go_num, HB1⟩
          case measure => simp [intOf]; omega
        · have h' : ¬ (k : Int) < (ts.length : Int) := by omega
          have hB2 : Lib.Buf w wr w.heap.size x (catL ts) := by have := hBuf.out; rw [List.take_of_length_le (by omega)] at this; exact this
          have hcv := conv_buf hB2 HN.out.symm
          have hbel := hidS hB2.below
          clear hB2 hBuf
          go_wp2
          go_ret
          exact ⟨rfl, hbel.out⟩
end Go.Proofs.YtbhemimhmkgfiaaDoor
