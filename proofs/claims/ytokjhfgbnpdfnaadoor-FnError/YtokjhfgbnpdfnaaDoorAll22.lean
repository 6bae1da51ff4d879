/- Proved here: nothing of a program: what is scanned of a text, byte by byte. · Proved here: spec.l03Inner answers of whom 28 bytes speak; all old memory stays (condition: at most 8000 bytes). -/
import Derived.Test.YtokjhfgbnpdfnaaDoorScan
import Derived.Test.YtokjhfgbnpdfnaaDoorAll18
import Derived.Test.YtokjhfgbnpdfnaaDoorAll2
import Derived.Test.YtokjhfgbnpdfnaaDoorAll4
section
namespace Go.Proofs.YtokjhfgbnpdfnaaDoor
open Go.ChangeShapes Go.WideShapes Go.ChangeAt Go.RowKit
set_option linter.unusedVariables false

theorem numN_one (s : ByteArray) (k : Nat) : numN s k 1 = byteN s k := by simp [numN]
theorem numN_two (s : ByteArray) (k : Nat) : numN s k 2 = word2 s k := by simp [numN, word2]
theorem numN_four (s : ByteArray) (k : Nat) : numN s k 4 = word4 s k := by simp [numN, word4, word2, Nat.add_assoc]; omega
theorem byteN_list (s : ByteArray) (k : Nat) : byteN s k = (s.data.toList.getD k 0).toNat := by
  unfold byteN
  rw [Array.getD_eq_getD_getElem?, List.getD_eq_getElem?_getD, Array.getElem?_toList]
theorem ext_list (s : ByteArray) (a b : Nat) : (s.extract a b).data.toList = (s.data.toList.drop a).take (b - a) := by
  rw [ByteArray.data_extract, Array.toList_extract, List.extract_eq_take_drop]
theorem byteN_ext (s : ByteArray) (a j : Nat) : byteN (s.extract a s.size) j = byteN s (a + j) := by
  rw [byteN_list, byteN_list, ext_list]
  have e : (s.data.toList.drop a).take (s.size - a) = s.data.toList.drop a := List.take_of_length_le (by simp)
  rw [e, List.getD_eq_getElem?_getD, List.getD_eq_getElem?_getD, List.getElem?_drop]
theorem word2_ext (s : ByteArray) (a j : Nat) : word2 (s.extract a s.size) j = word2 s (a + j) := by
  unfold word2; rw [byteN_ext, byteN_ext, Nat.add_assoc]
theorem word4_ext (s : ByteArray) (a j : Nat) : word4 (s.extract a s.size) j = word4 s (a + j) := by
  unfold word4; rw [word2_ext, word2_ext, Nat.add_assoc]
theorem body_ext (s : ByteArray) (a b : Nat) (h : a + b ≤ s.size) : (s.extract a s.size).extract (min b (s.extract a s.size).size) (s.extract a s.size).size = s.extract (a + b) s.size := by
  have hz : (s.extract a s.size).size = s.size - a := by simp
  rw [hz, ByteArray.extract_extract, Nat.min_eq_left (by omega), show a + (s.size - a) = s.size by omega, Nat.min_self]
theorem scan_proto (s : ByteArray) : (scanPk s).proto = (byteN s 9 : Int) := by
  unfold scanPk scanOf
  rw [numN_one]
  split
  · rename_i h; rw [h]; rfl
  · split
    · rename_i h; rw [h]; rfl
    · split
      · rename_i h; rw [h]; rfl
      · rfl
end Go.Proofs.YtokjhfgbnpdfnaaDoor
end

section
namespace Go.Proofs.YtokjhfgbnpdfnaaDoor
open Go.ChangeShapes Go.WideShapes Go.ChangeAt Go.RowKit
set_option linter.unusedVariables false
set_option maxRecDepth 100000
set_option linter.unusedSimpArgs false

/-- of whom 28 bytes speak, whatever they are -/
def innerPk (s : ByteArray) : Pk :=
  if byteN s 9 = 6 then ⟨word4 s 12, word4 s 16, byteN s 9, word2 s 20, word2 s 22, 0, 0, word4 s 24, 0, ⟨#[]⟩⟩
  else if byteN s 9 = 1 then ⟨word4 s 12, word4 s 16, byteN s 9, word2 s 24, 0, byteN s 20, 0, word2 s 26, 0, ⟨#[]⟩⟩
  else ⟨word4 s 12, word4 s 16, byteN s 9, word2 s 20, word2 s 22, 0, 0, 0, 0, ⟨#[]⟩⟩

set_option maxHeartbeats 4000000 in
theorem l03Inner_any (s : ByteArray) (w : World) (h1 : 28 ≤ s.size) (hs : s.size ≤ 8000) :
    Calls Tryd.prog 41 #[.string s] w fun e w' => e = .returned (.agg #[.int .i64 (innerPk s).src, .int .i64 (innerPk s).dst, .int .i64 (innerPk s).proto, .int .i64 (innerPk s).a, .int .i64 (innerPk s).b, .int .i64 (innerPk s).kind, .int .i64 (innerPk s).flags, .int .i64 (innerPk s).seq, .int .i64 (innerPk s).ack, .string (innerPk s).body]) ∧ Below w.heap.size w w' := by
  have h9 : 9 < s.size := by omega
  have h9i : (9 : Int) < (s.size : Int) := by omega
  have hb9 : s[9].toNat = byteN s 9 := byteN_get h9
  have lb9 := byteN_lt s 9
  have hw9 : IntKind.i64.wrap (byteN s 9 : Int) = (byteN s 9 : Int) := IntWalk.i64_in _ (by omega)
  have hB1 := hidS ((Below.refl w.heap.size w).alloc (Nat.le_refl _) (.cells #[.int .i64 0, .int .i64 0, .int .i64 0, .int .i64 0, .int .i64 0, .int .i64 0, .int .i64 0, .int .i64 0, .int .i64 0, .string ⟨#[]⟩] 35))
  have hG1 : (w.alloc (.cells #[.int .i64 0, .int .i64 0, .int .i64 0, .int .i64 0, .int .i64 0, .int .i64 0, .int .i64 0, .int .i64 0, .int .i64 0, .string ⟨#[]⟩] 35)).heap[w.heap.size]? = some (.cells #[.int .i64 0, .int .i64 0, .int .i64 0, .int .i64 0, .int .i64 0, .int .i64 0, .int .i64 0, .int .i64 0, .int .i64 0, .string ⟨#[]⟩] 35) := heap_newG _ _
  go_enter Tryd.func41, Tryd.ntmps41
  go_wp2_with fail
  generalize w.alloc (.cells #[.int .i64 0, .int .i64 0, .int .i64 0, .int .i64 0, .int .i64 0, .int .i64 0, .int .i64 0, .int .i64 0, .int .i64 0, .string ⟨#[]⟩] 35) = w1 at hB1 hG1 ⊢
  refine grow_struct 13 _ [.is (.string s), .is (.int .i64 (word4 s 12 : Nat)), .is (.string s), .is (.int .i64 (word4 s 16 : Nat)), .is (.string s), .is (.int .u8 (byteN s 9 : Int)), .is (.int .i64 (byteN s 9 : Int)), .is (.string s), .is (.int .i64 (word2 s 20 : Nat)), .is (.string s), .is (.int .i64 (word2 s 22 : Nat)), .is (.agg #[.int .i64 (word4 s 12 : Nat), .int .i64 (word4 s 16 : Nat), .int .i64 (byteN s 9 : Int), .int .i64 (word2 s 20 : Nat), .int .i64 (word2 s 22 : Nat), .int .i64 0, .int .i64 0, .int .i64 0, .int .i64 0, .string ⟨#[]⟩]), .blk w1.heap.size #[.int .i64 0, .int .i64 0, .int .i64 0, .int .i64 0, .int .i64 0, .int .i64 0, .int .i64 0, .int .i64 0, .int .i64 0, .string ⟨#[]⟩] 35] 12 11 3 15 35 35 #[.int .i64 0, .int .i64 0, .int .i64 0, .int .i64 0, .int .i64 0, .int .i64 0, .int .i64 0, .int .i64 0, .int .i64 0, .string ⟨#[]⟩] #[.int .i64 (word4 s 12 : Nat), .int .i64 (word4 s 16 : Nat), .int .i64 (byteN s 9 : Int), .int .i64 (word2 s 20 : Nat), .int .i64 (word2 s 22 : Nat), .int .i64 0, .int .i64 0, .int .i64 0, .int .i64 0, .string ⟨#[]⟩] rfl rfl rfl (by kernel_rfl) (by kernel_rfl) (by kernel_rfl) rfl rfl rfl rfl (by decide) (by decide) rfl rfl rfl (by first | kernel_rfl | simp [Value.oneCell']) (by kernel_rfl) ?steps ?fin
  case steps =>
    refine ⟨?_, ?_, ?_, ?_, ?_, ?_, ?_, ?_, ?_, ?_, ?_, ?_, ?_, trivial⟩
    · refine ⟨rfl, fun v W ρ hC kc kf ks ki kd => ?_⟩
      have t0 : ρ (.tmp 0) = .string s := ki 0 (by decide)
      simp [execOp, go_sem, t0]
      exact ⟨hC, Below.refl _ _, rfl⟩
    · refine ⟨rfl, fun v W ρ hC kc kf ks ki kd => ?_⟩
      have d0 : v 0 = .string s := kd _ (Array.mem_of_getElem? (i := 0) rfl) rfl
      have t4 : ρ (.tmp 4) = v 0 := ks 0 4 (by decide) rfl
      rw [d0] at t4
      simp [execOp, go_sem, t4, kf, kc]
      exact Calls.mono (l03Long_any s 12 _ (by omega) hs) (fun e x h => ⟨_, h.1, hC.trans (h.2.mono hC.size), h.2, rfl⟩)
    · refine ⟨rfl, fun v W ρ hC kc kf ks ki kd => ?_⟩
      have t0 : ρ (.tmp 0) = .string s := ki 0 (by decide)
      simp [execOp, go_sem, t0]
      exact ⟨hC, Below.refl _ _, rfl⟩
    · refine ⟨rfl, fun v W ρ hC kc kf ks ki kd => ?_⟩
      have d2 : v 2 = .string s := kd _ (Array.mem_of_getElem? (i := 0) rfl) rfl
      have t6 : ρ (.tmp 6) = v 2 := ks 2 6 (by decide) rfl
      rw [d2] at t6
      simp [execOp, go_sem, t6, kf, kc]
      exact Calls.mono (l03Long_any s 16 _ (by omega) hs) (fun e x h => ⟨_, h.1, hC.trans (h.2.mono hC.size), h.2, rfl⟩)
    · refine ⟨rfl, fun v W ρ hC kc kf ks ki kd => ?_⟩
      have t0 : ρ (.tmp 0) = .string s := ki 0 (by decide)
      simp [execOp, go_sem, t0]
      exact ⟨hC, Below.refl _ _, rfl⟩
    · refine ⟨rfl, fun v W ρ hC kc kf ks ki kd => ?_⟩
      have d4 : v 4 = .string s := kd _ (Array.mem_of_getElem? (i := 0) rfl) rfl
      have t8 : ρ (.tmp 8) = v 4 := ks 4 8 (by decide) rfl
      rw [d4] at t8
      simp [execOp, go_sem, t8, h9, h9i, hb9, kc]
      exact ⟨hC, Below.refl _ _, rfl⟩
    · refine ⟨rfl, fun v W ρ hC kc kf ks ki kd => ?_⟩
      have d5 : v 5 = .int .u8 (byteN s 9 : Int) := kd _ (Array.mem_of_getElem? (i := 0) rfl) rfl
      have t9 : ρ (.tmp 9) = v 5 := ks 5 9 (by decide) rfl
      rw [d5] at t9
      simp [execOp, go_sem, t9, hw9]
      exact ⟨hC, Below.refl _ _, rfl⟩
    · refine ⟨rfl, fun v W ρ hC kc kf ks ki kd => ?_⟩
      have t0 : ρ (.tmp 0) = .string s := ki 0 (by decide)
      simp [execOp, go_sem, t0]
      exact ⟨hC, Below.refl _ _, rfl⟩
    · refine ⟨rfl, fun v W ρ hC kc kf ks ki kd => ?_⟩
      have d7 : v 7 = .string s := kd _ (Array.mem_of_getElem? (i := 0) rfl) rfl
      have t11 : ρ (.tmp 11) = v 7 := ks 7 11 (by decide) rfl
      rw [d7] at t11
      simp [execOp, go_sem, t11, kf, kc]
      exact Calls.mono (l03Word_any s 20 _ (by omega) hs) (fun e x h => ⟨_, h.1, hC.trans (h.2.mono hC.size), h.2, rfl⟩)
    · refine ⟨rfl, fun v W ρ hC kc kf ks ki kd => ?_⟩
      have t0 : ρ (.tmp 0) = .string s := ki 0 (by decide)
      simp [execOp, go_sem, t0]
      exact ⟨hC, Below.refl _ _, rfl⟩
    · refine ⟨rfl, fun v W ρ hC kc kf ks ki kd => ?_⟩
      have d9 : v 9 = .string s := kd _ (Array.mem_of_getElem? (i := 0) rfl) rfl
      have t13 : ρ (.tmp 13) = v 9 := ks 9 13 (by decide) rfl
      rw [d9] at t13
      simp [execOp, go_sem, t13, kf, kc]
      exact Calls.mono (l03Word_any s 22 _ (by omega) hs) (fun e x h => ⟨_, h.1, hC.trans (h.2.mono hC.size), h.2, rfl⟩)
    · refine ⟨rfl, fun v W ρ hC kc kf ks ki kd => ?_⟩
      have d1 : v 1 = .int .i64 (word4 s 12 : Nat) := kd _ (Array.mem_of_getElem? (i := 0) rfl) rfl
      have t5 : ρ (.tmp 5) = v 1 := ks 1 5 (by decide) rfl
      rw [d1] at t5
      have d3 : v 3 = .int .i64 (word4 s 16 : Nat) := kd _ (Array.mem_of_getElem? (i := 1) rfl) rfl
      have t7 : ρ (.tmp 7) = v 3 := ks 3 7 (by decide) rfl
      rw [d3] at t7
      have d6 : v 6 = .int .i64 (byteN s 9 : Int) := kd _ (Array.mem_of_getElem? (i := 2) rfl) rfl
      have t10 : ρ (.tmp 10) = v 6 := ks 6 10 (by decide) rfl
      rw [d6] at t10
      have d8 : v 8 = .int .i64 (word2 s 20 : Nat) := kd _ (Array.mem_of_getElem? (i := 3) rfl) rfl
      have t12 : ρ (.tmp 12) = v 8 := ks 8 12 (by decide) rfl
      rw [d8] at t12
      have d10 : v 10 = .int .i64 (word2 s 22 : Nat) := kd _ (Array.mem_of_getElem? (i := 4) rfl) rfl
      have t14 : ρ (.tmp 14) = v 10 := ks 10 14 (by decide) rfl
      rw [d10] at t14
      simp [execOp, go_sem, t5, t7, t10, t12, t14]
      exact ⟨hC, Below.refl _ _, rfl⟩
    · refine ⟨rfl, fun v W ρ hC kc kf ks ki kd => ?_⟩
      simp [execOp, go_sem, ]
      exact ⟨hC.alloc hC.size _, (Below.refl _ _).alloc (Nat.le_refl _) _, W.heap.size, rfl, hC.size, heap_newG _ _⟩
  case fin =>
    intro v W B hC hvB hn hB hall
    simp [upto, Act.put]
    rw [hvB]
    clear hall
    have hB2 := hidS (hB1.out.trans (hC.mono hB1.out.size))
    have hG2 := blk_later hG1 hC
    have hgl := blk_lt hG1
    have hne : w.heap.size ≠ B := by omega
    have c2 := blk_cell hB 2
    simp at c2
    clear hB1 hG1 hC hvB
    by_cases p6 : byteN s 9 = 6
    · have p6' : ((byteN s 9 : Int) == 6) = true := by rw [p6]; rfl
      have eR : Hid (innerPk s = ⟨word4 s 12, word4 s 16, byteN s 9, word2 s 20, word2 s 22, 0, 0, word4 s 24, 0, ⟨#[]⟩⟩) := by unfold innerPk; rw [if_pos p6]; rfl
      clear p6
      have hB0 := hB
      have hG0 := hG2
      have hL0 := hB2
      clear hB hG2 hB2
      go_wp2_with fail
      refine (l03Long_any s 24 _ (by omega) hs).mono ?_
      rintro _ x1 ⟨rfl, hx1⟩
      have hB1 := blk_later hB0 hx1
      have hG1 := blk_later hG0 hx1
      have hL1 := hidS (hL0.out.trans (hx1.mono hL0.out.size))
      clear hB0 hG0 hL0 hx1
      have c7 := blk_cell hB1 7
      have f7 := blk_free hB1 7
      simp at c7
      have c0 := blk_cell hB1 0
      simp at c0
      have c1 := blk_cell hB1 1
      simp at c1
      have c2 := blk_cell hB1 2
      simp at c2
      have c3 := blk_cell hB1 3
      simp at c3
      have c4 := blk_cell hB1 4
      simp at c4
      have c5 := blk_cell hB1 5
      simp at c5
      have c6 := blk_cell hB1 6
      simp at c6
      have c8 := blk_cell hB1 8
      simp at c8
      have c9 := blk_cell hB1 9
      simp at c9
      have g0 := blk_cell hG1
      have gf := blk_free hG1
      have hneB : B ≠ w.heap.size := fun q => hne q.symm
      have hL := hL1
      go_wp2
      refine bodyPost_ret (v := .agg #[.int .i64 ((word4 s 12 : Nat) : Int), .int .i64 ((word4 s 16 : Nat) : Int), .int .i64 ((byteN s 9 : Nat) : Int), .int .i64 ((word2 s 20 : Nat) : Int), .int .i64 ((word2 s 22 : Nat) : Int), .int .i64 0, .int .i64 0, .int .i64 ((word4 s 24 : Nat) : Int), .int .i64 0, .string ⟨#[]⟩]) (by simp [results, Tryd.results41, go_sem, g0]) rfl ⟨by rw [eR.out], ?_⟩
      iterate 10 (refine below_at ?_ (Nat.le_refl _))
      iterate 1 (refine below_at ?_ (show w.heap.size ≤ B by omega))
      exact hL.out
    have p6' : ((byteN s 9 : Int) == 6) = false := beq_eq_false_iff_ne.2 (by omega)
    by_cases p1 : byteN s 9 = 1
    · have p1' : ((byteN s 9 : Int) == 1) = true := by rw [p1]; rfl
      have eR : Hid (innerPk s = ⟨word4 s 12, word4 s 16, byteN s 9, word2 s 24, 0, byteN s 20, 0, word2 s 26, 0, ⟨#[]⟩⟩) := by unfold innerPk; rw [if_neg p6, if_pos p1]; rfl
      have h20 : 20 < s.size := by omega
      have h20i : (20 : Int) < (s.size : Int) := by omega
      have hb20 : s[20].toNat = byteN s 20 := byteN_get h20
      have lb20 := byteN_lt s 20
      have hw20 : wrap64 (byteN s 20 : Int) = (byteN s 20 : Int) := IntWalk.wrap64_in _ (by omega)
      clear p6 p1
      have hB0 := hB
      have hG0 := hG2
      have hL0 := hB2
      clear hB hG2 hB2
      have c5 := blk_cell hB0 5
      have f5 := blk_free hB0 5
      simp at c5
      go_wp2_with fail
      have hB0s := blk_set hB0 5 (.int .i64 ((byteN s 20 : Nat) : Int))
      have hG0s := blk_other hG0 hne 5 (.int .i64 ((byteN s 20 : Nat) : Int))
      have hL0s := hidS (Below.setCell hL0.out (p := ⟨B, 5, none⟩) (show w.heap.size ≤ B by omega) (.int .i64 ((byteN s 20 : Nat) : Int)))
      simp at hB0s
      generalize W.setCell ⟨B, 5, none⟩ (.int .i64 ((byteN s 20 : Nat) : Int)) = y1 at hB0s hG0s hL0s ⊢
      clear hB0 hG0 hL0 c5 f5
      have hB1 := hB0s
      have hG1 := hG0s
      have hL1 := hL0s
      clear hB0s hG0s hL0s
      refine (l03Word_any s 24 _ (by omega) hs).mono ?_
      rintro _ x2 ⟨rfl, hx2⟩
      have hB2 := blk_later hB1 hx2
      have hG2 := blk_later hG1 hx2
      have hL2 := hidS (hL1.out.trans (hx2.mono hL1.out.size))
      clear hB1 hG1 hL1 hx2
      have c3 := blk_cell hB2 3
      have f3 := blk_free hB2 3
      simp at c3
      have c4 := blk_cell hB2 4
      have f4 := blk_free hB2 4
      simp at c4
      go_wp2_with fail
      have hB2s := blk_set hB2 3 (.int .i64 ((word2 s 24 : Nat) : Int))
      have hG2s := blk_other hG2 hne 3 (.int .i64 ((word2 s 24 : Nat) : Int))
      have hL2s := hidS (Below.setCell hL2.out (p := ⟨B, 3, none⟩) (show w.heap.size ≤ B by omega) (.int .i64 ((word2 s 24 : Nat) : Int)))
      simp at hB2s
      generalize x2.setCell ⟨B, 3, none⟩ (.int .i64 ((word2 s 24 : Nat) : Int)) = y3 at hB2s hG2s hL2s ⊢
      clear hB2 hG2 hL2 c3 f3
      have hB3 := hB2s
      have hG3 := hG2s
      have hL3 := hL2s
      clear hB2s hG2s hL2s
      have hB3s := blk_set hB3 4 (.int .i64 0)
      have hG3s := blk_other hG3 hne 4 (.int .i64 0)
      have hL3s := hidS (Below.setCell hL3.out (p := ⟨B, 4, none⟩) (show w.heap.size ≤ B by omega) (.int .i64 0))
      simp at hB3s
      generalize y3.setCell ⟨B, 4, none⟩ (.int .i64 0) = y4 at hB3s hG3s hL3s ⊢
      clear hB3 hG3 hL3 c4 f4
      have hB4 := hB3s
      have hG4 := hG3s
      have hL4 := hL3s
      clear hB3s hG3s hL3s
      refine (l03Word_any s 26 _ (by omega) hs).mono ?_
      rintro _ x5 ⟨rfl, hx5⟩
      have hB5 := blk_later hB4 hx5
      have hG5 := blk_later hG4 hx5
      have hL5 := hidS (hL4.out.trans (hx5.mono hL4.out.size))
      clear hB4 hG4 hL4 hx5
      have c7 := blk_cell hB5 7
      have f7 := blk_free hB5 7
      simp at c7
      have c0 := blk_cell hB5 0
      simp at c0
      have c1 := blk_cell hB5 1
      simp at c1
      have c2 := blk_cell hB5 2
      simp at c2
      have c3 := blk_cell hB5 3
      simp at c3
      have c4 := blk_cell hB5 4
      simp at c4
      have c5 := blk_cell hB5 5
      simp at c5
      have c6 := blk_cell hB5 6
      simp at c6
      have c8 := blk_cell hB5 8
      simp at c8
      have c9 := blk_cell hB5 9
      simp at c9
      have g0 := blk_cell hG5
      have gf := blk_free hG5
      have hneB : B ≠ w.heap.size := fun q => hne q.symm
      have hL := hL5
      go_wp2
      refine bodyPost_ret (v := .agg #[.int .i64 ((word4 s 12 : Nat) : Int), .int .i64 ((word4 s 16 : Nat) : Int), .int .i64 ((byteN s 9 : Nat) : Int), .int .i64 ((word2 s 24 : Nat) : Int), .int .i64 0, .int .i64 ((byteN s 20 : Nat) : Int), .int .i64 0, .int .i64 ((word2 s 26 : Nat) : Int), .int .i64 0, .string ⟨#[]⟩]) (by simp [results, Tryd.results41, go_sem, g0]) rfl ⟨by rw [eR.out], ?_⟩
      iterate 10 (refine below_at ?_ (Nat.le_refl _))
      iterate 1 (refine below_at ?_ (show w.heap.size ≤ B by omega))
      exact hL.out
    · have p1' : ((byteN s 9 : Int) == 1) = false := beq_eq_false_iff_ne.2 (by omega)
      have eR : Hid (innerPk s = ⟨word4 s 12, word4 s 16, byteN s 9, word2 s 20, word2 s 22, 0, 0, 0, 0, ⟨#[]⟩⟩) := by unfold innerPk; rw [if_neg p6, if_neg p1]; rfl
      clear p6 p1
      have hB0 := hB
      have hG0 := hG2
      have hL0 := hB2
      clear hB hG2 hB2
      have c0 := blk_cell hB0 0
      simp at c0
      have c1 := blk_cell hB0 1
      simp at c1
      have c2 := blk_cell hB0 2
      simp at c2
      have c3 := blk_cell hB0 3
      simp at c3
      have c4 := blk_cell hB0 4
      simp at c4
      have c5 := blk_cell hB0 5
      simp at c5
      have c6 := blk_cell hB0 6
      simp at c6
      have c7 := blk_cell hB0 7
      simp at c7
      have c8 := blk_cell hB0 8
      simp at c8
      have c9 := blk_cell hB0 9
      simp at c9
      have g0 := blk_cell hG0
      have gf := blk_free hG0
      have hneB : B ≠ w.heap.size := fun q => hne q.symm
      have hL := hL0
      go_wp2
      refine bodyPost_ret (v := .agg #[.int .i64 ((word4 s 12 : Nat) : Int), .int .i64 ((word4 s 16 : Nat) : Int), .int .i64 ((byteN s 9 : Nat) : Int), .int .i64 ((word2 s 20 : Nat) : Int), .int .i64 ((word2 s 22 : Nat) : Int), .int .i64 0, .int .i64 0, .int .i64 0, .int .i64 0, .string ⟨#[]⟩]) (by simp [results, Tryd.results41, go_sem, g0]) rfl ⟨by rw [eR.out], ?_⟩
      iterate 10 (refine below_at ?_ (Nat.le_refl _))
      iterate 0 (refine below_at ?_ (show w.heap.size ≤ B by omega))
      exact hL.out
end Go.Proofs.YtokjhfgbnpdfnaaDoor
end
