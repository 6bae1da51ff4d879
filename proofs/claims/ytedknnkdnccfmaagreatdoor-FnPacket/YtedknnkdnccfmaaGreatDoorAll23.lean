/- Proved here: nothing of a program: what is scanned of a text, byte by byte. · Proved here: impl.joinTexts of two texts returns the one followed by the other, and leaves all old memory alone (condition: the list of parts has these two strings, together of at most 2^40 bytes). · Proved here: impl.joinTexts returns its texts, one behind another, and leaves all old memory alone (condition: the list holds these strings, at most 1000 of at most 100000 bytes). · Proved here: what WordText answers, of impl; all old memory stays (no conditions). -/
import Derived.Test.YtedknnkdnccfmaaGreatDoorScan
import Derived.Test.YtedknnkdnccfmaaGreatDoorAll0
import Derived.Lib.LazyBuf
import Derived.Lib.SlBuf
import Derived.Test.YtedknnkdnccfmaaGreatDoorAll1
import Derived.Test.YtedknnkdnccfmaaGreatDoorWords
import Derived.Test.YtedknnkdnccfmaaGreatDoorAll6
section
namespace Go.Proofs.YtedknnkdnccfmaaGreatDoor
open Go.ChangeShapes Go.WideShapes Go.ChangeAt Go.RowKit
set_option linter.unusedVariables false

theorem numN_one (s : ByteArray) (k : Nat) : numN s k 1 = byteN s k := by simp [numN]
theorem numN_two (s : ByteArray) (k : Nat) : numN s k 2 = word2 s k := by simp [numN, word2]
theorem numN_four (s : ByteArray) (k : Nat) : numN s k 4 = word4 s k := by simp [numN, word4, word2, Nat.add_assoc]; omega
theorem byteN_list (s : ByteArray) (k : Nat) : byteN s k = (s.data.toList.getD k 0).toNat := by
  unfold byteN
  rw [Array.getD_eq_getD_getElem?, List.getD_eq_getElem?_getD, Array.getElem?_toList]
theorem ext_list (s : ByteArray) (a b : Nat) : (s.extract a b).data.toList = (s.data.toList.drop a).take (b - a) := by
  rw [ByteArray.data_extract, Array.toList_extract, List.extract_eq_take_drop]
theorem byteN_ext (s : ByteArray) (a j : Nat) : byteN (s.extract a s.size) j = byteN s (a + j) := by
  rw [byteN_list, byteN_list, ext_list]
  have e : (s.data.toList.drop a).take (s.size - a) = s.data.toList.drop a := List.take_of_length_le (by simp)
  rw [e, List.getD_eq_getElem?_getD, List.getD_eq_getElem?_getD, List.getElem?_drop]
theorem word2_ext (s : ByteArray) (a j : Nat) : word2 (s.extract a s.size) j = word2 s (a + j) := by
  unfold word2; rw [byteN_ext, byteN_ext, Nat.add_assoc]
theorem word4_ext (s : ByteArray) (a j : Nat) : word4 (s.extract a s.size) j = word4 s (a + j) := by
  unfold word4; rw [word2_ext, word2_ext, Nat.add_assoc]
theorem body_ext (s : ByteArray) (a b : Nat) (h : a + b ≤ s.size) : (s.extract a s.size).extract (min b (s.extract a s.size).size) (s.extract a s.size).size = s.extract (a + b) s.size := by
  have hz : (s.extract a s.size).size = s.size - a := by simp
  rw [hz, ByteArray.extract_extract, Nat.min_eq_left (by omega), show a + (s.size - a) = s.size by omega, Nat.min_self]
theorem scan_proto (s : ByteArray) : (scanPk s).proto = (byteN s 9 : Int) := by
  unfold scanPk scanOf
  rw [numN_one]
  split
  · rename_i h; rw [h]; rfl
  · split
    · rename_i h; rw [h]; rfl
    · split
      · rename_i h; rw [h]; rfl
      · rfl
end Go.Proofs.YtedknnkdnccfmaaGreatDoor
end

section
namespace Go.Proofs.YtedknnkdnccfmaaGreatDoor
open Go.ChangeShapes Go.WideShapes Go.ChangeAt Go.RowKit
open Go.ChangeMaps (open_string shut_string)
set_option linter.unusedVariables false

set_option maxRecDepth 1000000 in
theorem Tryz.sizeU8 (w : World) : (Go.sizeOf 5).run Tryz.prog w = .ok 1 w := by rfl

/-- 'copy(b[bp:], s)', s a string, bp = how much is filled -/
theorem copy_text (w0 wr : World) (h N : Nat) (acc : List UInt8) (s : ByteArray) (ty : TypeId) (hh : w0.heap.size ≤ h)
    (hb : Lib.Buf w0 wr h N acc) (hfit : acc.length + s.size ≤ N) :
    ∃ wr', (Builtin.copy_ #[22, 9] ty #[Lib.tailV h N acc.length, .string s]).run Tryz.prog wr = .ok (.int .i64 (s.size : Int)) wr' ∧ Lib.Buf w0 wr' h N (acc ++ s.data.toList) := by
  have hsl : s.data.toList.length = s.size := by simp
  by_cases hl : s.size = 0
  · have he : s.data.toList = [] := List.length_eq_zero_iff.1 (by rw [hsl]; exact hl)
    refine ⟨wr, ?_, by rw [he]; simpa using hb⟩
    unfold Lib.tailV
    have := run_copy_string (P := Tryz.prog) wr 22 9 ty 5 h (if N = acc.length then 0 else acc.length) (N - acc.length) (N - acc.length) s Tryz.underlying22 Tryz.sizeU8 (by omega) (fun j hj => by omega) (fun j hj => by omega)
    rw [he] at this
    split <;> simp_all [World.setCells, goInt]
  · have hne : ¬ N = acc.length := by omega
    have hr := run_copy_string (P := Tryz.prog) wr 22 9 ty 5 h acc.length (N - acc.length) (N - acc.length) s Tryz.underlying22 Tryz.sizeU8 (by omega)
      (fun j hj => hb.there _ (by omega)) (fun j hj => hb.free _ (by omega))
    refine ⟨_, by unfold Lib.tailV; rw [if_neg hne]; exact hr, ?_⟩
    have hin := World.cell?_setCells_in h (s.data.toList.map fun x => Value.int .u8 (x.toNat : Int)) acc.length wr (fun j hj => by rw [List.length_map, hsl] at hj; exact hb.there _ (by omega))
    have hout := World.cell?_setCells_out h (s.data.toList.map fun x => Value.int .u8 (x.toNat : Int)) acc.length wr
    refine ⟨?_, ?_, ?_, ?_, by rw [List.length_append, hsl]; exact hfit⟩
    · exact Lib.below_setCells h (Nat.le_refl _) _ _ hb.below
    · intro j hj
      by_cases h1 : acc.length ≤ j ∧ j < acc.length + s.size
      · obtain ⟨d, rfl⟩ : ∃ d, j = acc.length + d := ⟨j - acc.length, by omega⟩
        rw [hin d (by rw [List.length_map, hsl]; omega)]
        rfl
      · rw [hout ⟨h, j, none⟩ (fun _ _ => by rw [List.length_map, hsl]; show j < _ ∨ _ ≤ j; omega)]
        exact hb.there j hj
    · intro j hj
      rw [World.frozen?_setCells]
      exact hb.free j hj
    · intro j x hx
      by_cases h1 : j < acc.length
      · rw [List.getElem?_append_left h1] at hx
        rw [hout ⟨h, j, none⟩ (fun _ _ => Or.inl h1)]
        exact hb.holds j x hx
      · rw [List.getElem?_append_right (by omega)] at hx
        obtain ⟨d, rfl⟩ : ∃ d, j = acc.length + d := ⟨j - acc.length, by omega⟩
        rw [Nat.add_sub_cancel_left] at hx
        have hd : d < s.data.toList.length := (List.getElem?_eq_some_iff.1 hx).1
        rw [hin d (by rw [List.length_map]; exact hd)]
        simp only [List.getElem_map]
        rw [(List.getElem?_eq_some_iff.1 hx).2]

/-- the buffer filled, as a string -/
theorem conv_buf {w0 wr : World} {h N : Nat} {acc : List UInt8} (hb : Lib.Buf w0 wr h N acc) (hN : acc.length = N) :
    (convert 22 9 (.slice (some ⟨h, 0, none⟩) N N)).run Tryz.prog wr = .ok (.string ⟨acc.toArray⟩) wr := by
  subst hN
  exact run_convert_bytes_back (P := Tryz.prog) wr 22 9 5 ⟨h, 0, none⟩ acc.length acc Tryz.underlying22 Tryz.underlying5 Tryz.underlying9 (fun j hj => by
      rw [Addr.add_lit, Nat.zero_add]
      exact hb.holds j _ (List.getElem?_eq_getElem hj))

set_option maxRecDepth 100000 in
set_option maxHeartbeats 1000000 in
theorem joinTexts_two (a b : ByteArray) (k : Nat) (w : World) (ha : w.cell? ⟨k, 0, none⟩ = some (.string a)) (hb : w.cell? ⟨k, 1, none⟩ = some (.string b)) (hs : a.size + b.size ≤ 1099511627776) :
    Calls Tryz.prog 44 #[.slice (some ⟨k, 0, none⟩) 2 2] w fun e w' => e = .returned (.string (a ++ b)) ∧ Below w.heap.size w w' := by
  obtain ⟨N, hN⟩ : ∃ N, N = a.size + b.size := ⟨_, rfl⟩
  have hmk : ∀ W, (Instr.makeSlice 22 (.int .i64 ((a.size : Int) + (b.size : Int))) (.int .i64 ((a.size : Int) + (b.size : Int)))).run Tryz.prog W = .ok (.slice (some ⟨W.heap.size, 0, none⟩) N N) (W.alloc (.cells (madeCells #[.int .u8 0] N) 5)) := by
    intro W
    have := run_make_row' (P := Tryz.prog) 22 5 (.int .u8 0) 1 Tryz.underlying22 Tryz.infoU8 rfl .i64 .i64 N (by omega) (by omega) W
    rw [show ((N : Nat) : Int) = (a.size : Int) + (b.size : Int) from by omega] at this
    exact this
  have hsl0 : ∀ W, (Instr.slice 22 (.slice (some ⟨w.heap.size, 0, none⟩) N N) (some (.int .i64 0)) none none).run Tryz.prog W = .ok (Lib.tailV w.heap.size N 0) W := fun W => Lib.run_slice_tailV W 22 5 Tryz.underlying22 Tryz.sizeU8 w.heap.size N 0 (by omega)
  have hsl1 : ∀ W, (Instr.slice 22 (.slice (some ⟨w.heap.size, 0, none⟩) N N) (some (.int .i64 (a.size : Int))) none none).run Tryz.prog W = .ok (Lib.tailV w.heap.size N a.size) W := fun W => Lib.run_slice_tailV W 22 5 Tryz.underlying22 Tryz.sizeU8 w.heap.size N a.size (by omega)
  have hk : k < w.heap.size := World.block_lt_of_cell? w ⟨k, 0, none⟩ ha
  have hbuf0 : Lib.Buf w (w.alloc (.cells (madeCells #[.int .u8 0] N) 5)) w.heap.size N [] := Lib.Buf.start w _ 5 N 0 (by rw [size_madeCells]; omega)
  obtain ⟨w1, hr1, hbuf1⟩ := copy_text w _ w.heap.size N [] a 3 (Nat.le_refl _) hbuf0 (by simp; omega)
  obtain ⟨w2, hr2, hbuf2⟩ := copy_text w w1 w.heap.size N _ b 3 (Nat.le_refl _) hbuf1 (by simp; omega)
  have hlen : ([] ++ a.data.toList).length = a.size := by simp
  rw [hlen] at hr2
  have hb1 : w1.cell? ⟨k, 1, none⟩ = some (.string b) := (hbuf1.below.cell (p := ⟨k, 1, none⟩) hk).trans hb
  have hcv := conv_buf hbuf2 (by simp; omega)
  have hend : (⟨(([] ++ a.data.toList) ++ b.data.toList).toArray⟩ : ByteArray) = a ++ b := ByteArray.ext (by simp)
  rw [hend] at hcv
  have hbel : Below w.heap.size w w2 := hbuf2.below
  have HN : Hid (N = a.size + b.size) := hN
  clear hN hbuf0 hbuf1 hbuf2 hlen hend
  simp only [List.length_nil] at hr1
  go_enter Tryz.func44, Tryz.ntmps44
  go_wp2
  refine wp_loop_rounds 3 ?_
  rw [rounds_succ]
  go_wp2
  rw [rounds_succ]
  go_wp2
  rw [rounds_succ]
  go_wp2
  refine wp_loop_rounds 3 ?_
  rw [rounds_succ]
  go_wp2
  rw [rounds_succ]
  go_wp2
  rw [rounds_succ]
  go_wp2
  go_ret
  exact ⟨rfl, hbel⟩
end Go.Proofs.YtedknnkdnccfmaaGreatDoor
end

section
namespace Go.Proofs.YtedknnkdnccfmaaGreatDoor
open Go.ChangeShapes Go.WideShapes Go.ChangeAt Go.RowKit
open Go.ChangeMaps (open_string shut_string)
set_option linter.unusedVariables false

/-- several texts, one behind another -/
def catL (ts : List ByteArray) : List UInt8 := ts.flatMap fun t => t.data.toList
def catT (ts : List ByteArray) : ByteArray := ⟨(catL ts).toArray⟩
theorem catL_snoc (ts : List ByteArray) (t : ByteArray) : catL (ts ++ [t]) = catL ts ++ t.data.toList := by simp [catL]
theorem catL_take_succ (ts : List ByteArray) (k : Nat) (h : k < ts.length) : catL (ts.take (k + 1)) = catL (ts.take k) ++ ts[k].data.toList := by rw [List.take_succ_eq_append_getElem h, catL_snoc]
theorem catL_take_le (ts : List ByteArray) (k : Nat) : (catL (ts.take k)).length ≤ (catL ts).length := by
  have : catL ts = catL (ts.take k) ++ catL (ts.drop k) := by unfold catL; rw [← List.flatMap_append, List.take_append_drop]
  rw [this, List.length_append]; omega
theorem catL_len (n : Nat) (ts : List ByteArray) (h : ∀ t ∈ ts, t.size ≤ 100000) (hl : ts.length ≤ n) : (catL ts).length ≤ 100000 * n := by
  induction ts generalizing n with
  | nil => simp [catL]
  | cons t ts ih =>
    cases n with
    | zero => simp at hl
    | succ n =>
      have h1 := ih n (fun x hx => h x (List.mem_cons_of_mem _ hx)) (by simpa using hl)
      have h3 := h t List.mem_cons_self
      have h4 : t.data.toList.length = t.size := by simp
      have e : catL (t :: ts) = t.data.toList ++ catL ts := rfl
      rw [e, List.length_append]
      omega

set_option maxRecDepth 100000 in
set_option maxHeartbeats 1000000 in
theorem joinTexts_any (g : Nat) (ts : List ByteArray) (w : World) (hc : ∀ j, (h : j < ts.length) → w.cell? ⟨g, j, none⟩ = some (.string ts[j])) (hg : g < w.heap.size) (hl : ts.length ≤ 1000) (hs : ∀ t ∈ ts, t.size ≤ 100000) :
    Calls Tryz.prog 44 #[.slice (some ⟨g, 0, none⟩) ts.length ts.length] w fun e w' => e = .returned (.string (catT ts)) ∧ Below w.heap.size w w' := by
  have HC := hidS hc
  have HS := hidS hs
  clear hc hs
  obtain ⟨N, hN⟩ : ∃ N, N = (catL ts).length := ⟨_, rfl⟩
  have hNle : (N : Int) ≤ 100000000 := by have := catL_len 1000 ts HS.out hl; omega
  have hmk : ∀ W, (Instr.makeSlice 22 (.int .i64 (N : Int)) (.int .i64 (N : Int))).run Tryz.prog W = .ok (.slice (some ⟨W.heap.size, 0, none⟩) N N) (W.alloc (.cells (madeCells #[.int .u8 0] N) 5)) := fun W =>
    run_make_row' (P := Tryz.prog) 22 5 (.int .u8 0) 1 Tryz.underlying22 Tryz.infoU8 rfl .i64 .i64 N (by omega) (by omega) W
  have hsl := fun W (k : Nat) (hk : k ≤ N) => Lib.run_slice_tailV (P := Tryz.prog) W 22 5 Tryz.underlying22 Tryz.sizeU8 w.heap.size N k (by omega)
  have HN : Hid (N = (catL ts).length) := hN
  have HSL := hidS hsl
  clear hN hsl
  have hbuf0 : Lib.Buf w (w.alloc (.cells (madeCells #[.int .u8 0] N) 5)) w.heap.size N [] := Lib.Buf.start w _ 5 N 0 (by rw [size_madeCells]; omega)
  have HB0 := hidS hbuf0
  clear hbuf0
  go_enter Tryz.func44, Tryz.ntmps44
  go_wp2
  go_loop [3, 12] (fun v i => ∃ k x : Nat, k ≤ ts.length ∧ i = .int .i64 k ∧ v = .int .i64 x ∧ (x : Int) ≤ 100000000 ∧ Hid (x = (catL (ts.take k)).length)) (fun _ i => ts.length - (intOf i).toNat)
  case atStart => exact ⟨0, 0, by omega, rfl, rfl, by omega, rfl⟩
  case round =>
    obtain ⟨k, x, hk, rfl, rfl, hx, hX⟩ := hrel
    by_cases h : k < ts.length
    · have h' : (k : Int) < (ts.length : Int) := by omega
      have hck := HC.out k h
      have hE : Hid (x + ts[k].size = (catL (ts.take (k + 1))).length) := by show _ = _; rw [catL_take_succ ts k h, List.length_append, ← hX.out]; simp
      have hle : x + ts[k].size ≤ N := by rw [hE.out, HN.out]; exact catL_take_le ts (k + 1)
      generalize ts[k] = t at *
      clear hX
      go_wp2
      go_round
      case rel => exact ⟨k + 1, x + t.size, by omega, by go_num, by go_num, by omega, hE⟩
      case measure => simp [intOf]; omega
    · have h' : ¬ (k : Int) < (ts.length : Int) := by omega
      obtain rfl : x = N := by have := hX.out; rw [List.take_of_length_le (by omega)] at this; rw [HN.out]; exact this
      clear hX
      go_wp2
      have HCW : Hid (∀ j, (h : j < ts.length) → ∀ wr, Below w.heap.size w wr → wr.cell? ⟨g, j, none⟩ = some (.string ts[j])) := fun j h wr hb => (hb.cell (p := ⟨g, j, none⟩) hg).trans (HC.out j h)
      clear HC hmk
      go_loopw [7, 25] (fun v i wr => ∃ k : Nat, k ≤ ts.length ∧ i = .int .i64 k ∧ v = .int .i64 ((catL (ts.take k)).length : Nat) ∧ Hid (Lib.Buf w wr w.heap.size x (catL (ts.take k)))) (fun _ i _ => ts.length - (intOf i).toNat)
      case atStart => exact ⟨0, by omega, rfl, rfl, HB0⟩
      case round =>
        obtain ⟨k, hk, rfl, rfl, hBuf⟩ := hrel
        by_cases h : k < ts.length
        · have h' : (k : Int) < (ts.length : Int) := by omega
          have hck := HCW.out k h wr hBuf.out.below
          have hle : (catL (ts.take k)).length + ts[k].size ≤ x := by
            have := catL_take_le ts (k + 1)
            rw [catL_take_succ ts k h, List.length_append, ← HN.out] at this
            simpa using this
          have hsl := HSL.out wr (catL (ts.take k)).length (by omega)
          obtain ⟨w1, hr1, hbuf1⟩ := copy_text w wr w.heap.size x (catL (ts.take k)) ts[k] 3 (Nat.le_refl _) hBuf.out hle
          have HB1 : Hid (Lib.Buf w w1 w.heap.size x (catL (ts.take (k + 1)))) := by rw [catL_take_succ ts k h]; exact hbuf1
          have hE : Hid ((catL (ts.take (k + 1))).length = (catL (ts.take k)).length + ts[k].size) := by show _ = _; rw [catL_take_succ ts k h, List.length_append]; simp
          clear hbuf1 hBuf
          generalize ts[k] = t at *
          generalize (catL (ts.take k)).length = m at *
          go_wp2
          go_roundw
          case rel => exact ⟨k + 1, by omega, by go_num, by rw [hE.out]; go_num, HB1⟩
          case measure => simp [intOf]; omega
        · have h' : ¬ (k : Int) < (ts.length : Int) := by omega
          have hB2 : Lib.Buf w wr w.heap.size x (catL ts) := by have := hBuf.out; rw [List.take_of_length_le (by omega)] at this; exact this
          have hcv := conv_buf hB2 HN.out.symm
          have hbel := hidS hB2.below
          clear hB2 hBuf
          go_wp2
          go_ret
          exact ⟨rfl, hbel.out⟩
end Go.Proofs.YtedknnkdnccfmaaGreatDoor
end

section
namespace Go.Proofs.YtedknnkdnccfmaaGreatDoor
open Go.ChangeShapes Go.WideShapes Go.ChangeAt Go.RowKit
open Go.ChangeMaps (open_string shut_string)
set_option linter.unusedVariables false

theorem implWordText_any (n : Int) (w : World) :
    Calls Tryz.prog 90 #[.int .i64 n] w fun e w' => e = .returned (.string (wordT n)) ∧ Below w.heap.size w w' := by
  have hB := fun o => (Below.refl w.heap.size w).alloc (Nat.le_refl _) o
  have HB := hidS hB
  clear hB
  by_cases h : allW [n] = true
  · have h1 : wordB n = true := by simpa [allW] using h
    have e : Hid (wordT n = ⟨#[UInt8.ofNat (n.toNat / 256), UInt8.ofNat (n.toNat % 256)]⟩) := if_pos h1
    obtain ⟨m, rfl⟩ : ∃ m : Nat, n = m := ⟨n.toNat, by have := wordB_iff.1 h1; omega⟩
    have hm := (wordB_iff.1 h1).2
    clear h1
    go_enter Tryz.func90, Tryz.ntmps90
    go_wp2_with fail
    refine (areWords_any w.heap.size [(m : Int)] _ (one_cell _ _ _) (by simp)).mono ?_
    rintro e w1 ⟨rfl, rfl⟩
    rw [h]
    have hcv := conv_two ((w.alloc (.cells #[.int .i64 (m : Int)] 2)).alloc (.cells #[.int .u8 ((m : Int) / 256), .int .u8 ((m : Int) % 256)] 5)) (w.heap.size + 1) m (by omega) (cell_at1 _ _ _ _) (cell_at1 _ _ _ _)
    have hbb := hidS ((HB.out (.cells #[.int .i64 (m : Int)] 2)).alloc (by simp) (.cells #[.int .u8 ((m : Int) / 256), .int .u8 ((m : Int) % 256)] 5))
    go_wp2
    go_ret
    exact ⟨by rw [e.out]; rfl, hbb.out⟩
  · have e : Hid (wordT n = ⟨#[]⟩) := if_neg (fun g => h (by simpa [allW] using g))
    have h' : allW [n] = false := by simpa using h
    clear h
    go_enter Tryz.func90, Tryz.ntmps90
    go_wp2_with fail
    refine (areWords_any w.heap.size [n] _ (one_cell _ _ _) (by simp)).mono ?_
    rintro e w1 ⟨rfl, rfl⟩
    rw [h']
    go_wp2
    go_ret
    exact ⟨by rw [e.out]; rfl, HB.out _⟩
end Go.Proofs.YtedknnkdnccfmaaGreatDoor
end
