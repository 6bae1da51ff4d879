/- Proved here: spec.l03Read answers the packet that a text of at least 28 bytes tells; all old memory stays (condition: at most 8000 bytes). -/
import Derived.Test.YtedknnkdnccfmaaGreatDoorAll15
import Derived.Test.YtedknnkdnccfmaaGreatDoorAll1
import Derived.Test.YtedknnkdnccfmaaGreatDoorAll3
namespace Go.Proofs.YtedknnkdnccfmaaGreatDoor
open Go.ChangeShapes Go.WideShapes Go.ChangeAt Go.RowKit
set_option linter.unusedVariables false
set_option maxRecDepth 100000
set_option linter.unusedSimpArgs false

/-- the packet that a text of at least 28 bytes tells, whatever it is -/
def readPk (s : ByteArray) : Pk :=
  if byteN s 9 = 6 then
    if s.size < 40 then ⟨0, 0, 0, 0, 0, 0, 0, 0, 0, ⟨#[]⟩⟩
    else ⟨word4 s 12, word4 s 16, byteN s 9, word2 s 20, word2 s 22, 0, byteN s 33, word4 s 24, word4 s 28, s.extract 40 s.size⟩
  else if byteN s 9 = 17 then ⟨word4 s 12, word4 s 16, byteN s 9, word2 s 20, word2 s 22, 0, 0, 0, 0, s.extract 28 s.size⟩
  else ⟨word4 s 12, word4 s 16, byteN s 9, word2 s 24, 0, byteN s 20, 0, word2 s 26, 0, s.extract 28 s.size⟩

set_option maxHeartbeats 4000000 in
theorem l03Read_any (s : ByteArray) (w : World) (h1 : 28 ≤ s.size) (hs : s.size ≤ 8000) :
    Calls Tryz.prog 62 #[.string s] w fun e w' => e = .returned (.agg #[.int .i64 (readPk s).src, .int .i64 (readPk s).dst, .int .i64 (readPk s).proto, .int .i64 (readPk s).a, .int .i64 (readPk s).b, .int .i64 (readPk s).kind, .int .i64 (readPk s).flags, .int .i64 (readPk s).seq, .int .i64 (readPk s).ack, .string (readPk s).body]) ∧ Below w.heap.size w w' := by
  have h9 : 9 < s.size := by omega
  have h9i : (9 : Int) < (s.size : Int) := by omega
  have hb9 : s[9].toNat = byteN s 9 := byteN_get h9
  have lb9 := byteN_lt s 9
  have hw9 : IntKind.i64.wrap (byteN s 9 : Int) = (byteN s 9 : Int) := IntWalk.i64_in _ (by omega)
  have hB1 := hidS ((Below.refl w.heap.size w).alloc (Nat.le_refl _) (.cells #[.int .i64 0, .int .i64 0, .int .i64 0, .int .i64 0, .int .i64 0, .int .i64 0, .int .i64 0, .int .i64 0, .int .i64 0, .string ⟨#[]⟩] 24))
  have hG1 : (w.alloc (.cells #[.int .i64 0, .int .i64 0, .int .i64 0, .int .i64 0, .int .i64 0, .int .i64 0, .int .i64 0, .int .i64 0, .int .i64 0, .string ⟨#[]⟩] 24)).heap[w.heap.size]? = some (.cells #[.int .i64 0, .int .i64 0, .int .i64 0, .int .i64 0, .int .i64 0, .int .i64 0, .int .i64 0, .int .i64 0, .int .i64 0, .string ⟨#[]⟩] 24) := heap_newG _ _
  go_enter Tryz.func62, Tryz.ntmps62
  go_wp2_with fail
  generalize w.alloc (.cells #[.int .i64 0, .int .i64 0, .int .i64 0, .int .i64 0, .int .i64 0, .int .i64 0, .int .i64 0, .int .i64 0, .int .i64 0, .string ⟨#[]⟩] 24) = w1 at hB1 hG1 ⊢
  refine grow_struct 9 _ [.is (.string s), .is (.int .i64 (word4 s 12 : Nat)), .is (.string s), .is (.int .i64 (word4 s 16 : Nat)), .is (.string s), .is (.int .u8 (byteN s 9 : Int)), .is (.int .i64 (byteN s 9 : Int)), .is (.agg #[.int .i64 (word4 s 12 : Nat), .int .i64 (word4 s 16 : Nat), .int .i64 (byteN s 9 : Int), .int .i64 0, .int .i64 0, .int .i64 0, .int .i64 0, .int .i64 0, .int .i64 0, .string ⟨#[]⟩]), .blk w1.heap.size #[.int .i64 0, .int .i64 0, .int .i64 0, .int .i64 0, .int .i64 0, .int .i64 0, .int .i64 0, .int .i64 0, .int .i64 0, .string ⟨#[]⟩] 24] 8 7 3 11 24 24 #[.int .i64 0, .int .i64 0, .int .i64 0, .int .i64 0, .int .i64 0, .int .i64 0, .int .i64 0, .int .i64 0, .int .i64 0, .string ⟨#[]⟩] #[.int .i64 (word4 s 12 : Nat), .int .i64 (word4 s 16 : Nat), .int .i64 (byteN s 9 : Int), .int .i64 0, .int .i64 0, .int .i64 0, .int .i64 0, .int .i64 0, .int .i64 0, .string ⟨#[]⟩] rfl rfl rfl (by kernel_rfl) (by kernel_rfl) (by kernel_rfl) rfl rfl rfl rfl (by decide) (by decide) rfl rfl rfl (by first | kernel_rfl | simp [Value.oneCell']) (by kernel_rfl) ?steps ?fin
  case steps =>
    refine ⟨?_, ?_, ?_, ?_, ?_, ?_, ?_, ?_, ?_, trivial⟩
    · refine ⟨rfl, fun v W ρ hC kc kf ks ki kd => ?_⟩
      have t0 : ρ (.tmp 0) = .string s := ki 0 (by decide)
      simp [execOp, go_sem, t0]
      exact ⟨hC, Below.refl _ _, rfl⟩
    · refine ⟨rfl, fun v W ρ hC kc kf ks ki kd => ?_⟩
      have d0 : v 0 = .string s := kd _ (Array.mem_of_getElem? (i := 0) rfl) rfl
      have t4 : ρ (.tmp 4) = v 0 := ks 0 4 (by decide) rfl
      rw [d0] at t4
      simp [execOp, go_sem, t4, kf, kc]
      exact Calls.mono (l03Long_any s 12 _ (by omega) hs) (fun e x h => ⟨_, h.1, hC.trans (h.2.mono hC.size), h.2, rfl⟩)
    · refine ⟨rfl, fun v W ρ hC kc kf ks ki kd => ?_⟩
      have t0 : ρ (.tmp 0) = .string s := ki 0 (by decide)
      simp [execOp, go_sem, t0]
      exact ⟨hC, Below.refl _ _, rfl⟩
    · refine ⟨rfl, fun v W ρ hC kc kf ks ki kd => ?_⟩
      have d2 : v 2 = .string s := kd _ (Array.mem_of_getElem? (i := 0) rfl) rfl
      have t6 : ρ (.tmp 6) = v 2 := ks 2 6 (by decide) rfl
      rw [d2] at t6
      simp [execOp, go_sem, t6, kf, kc]
      exact Calls.mono (l03Long_any s 16 _ (by omega) hs) (fun e x h => ⟨_, h.1, hC.trans (h.2.mono hC.size), h.2, rfl⟩)
    · refine ⟨rfl, fun v W ρ hC kc kf ks ki kd => ?_⟩
      have t0 : ρ (.tmp 0) = .string s := ki 0 (by decide)
      simp [execOp, go_sem, t0]
      exact ⟨hC, Below.refl _ _, rfl⟩
    · refine ⟨rfl, fun v W ρ hC kc kf ks ki kd => ?_⟩
      have d4 : v 4 = .string s := kd _ (Array.mem_of_getElem? (i := 0) rfl) rfl
      have t8 : ρ (.tmp 8) = v 4 := ks 4 8 (by decide) rfl
      rw [d4] at t8
      simp [execOp, go_sem, t8, h9, h9i, hb9, kc]
      exact ⟨hC, Below.refl _ _, rfl⟩
    · refine ⟨rfl, fun v W ρ hC kc kf ks ki kd => ?_⟩
      have d5 : v 5 = .int .u8 (byteN s 9 : Int) := kd _ (Array.mem_of_getElem? (i := 0) rfl) rfl
      have t9 : ρ (.tmp 9) = v 5 := ks 5 9 (by decide) rfl
      rw [d5] at t9
      simp [execOp, go_sem, t9, hw9]
      exact ⟨hC, Below.refl _ _, rfl⟩
    · refine ⟨rfl, fun v W ρ hC kc kf ks ki kd => ?_⟩
      have d1 : v 1 = .int .i64 (word4 s 12 : Nat) := kd _ (Array.mem_of_getElem? (i := 0) rfl) rfl
      have t5 : ρ (.tmp 5) = v 1 := ks 1 5 (by decide) rfl
      rw [d1] at t5
      have d3 : v 3 = .int .i64 (word4 s 16 : Nat) := kd _ (Array.mem_of_getElem? (i := 1) rfl) rfl
      have t7 : ρ (.tmp 7) = v 3 := ks 3 7 (by decide) rfl
      rw [d3] at t7
      have d6 : v 6 = .int .i64 (byteN s 9 : Int) := kd _ (Array.mem_of_getElem? (i := 2) rfl) rfl
      have t10 : ρ (.tmp 10) = v 6 := ks 6 10 (by decide) rfl
      rw [d6] at t10
      simp [execOp, go_sem, t5, t7, t10]
      exact ⟨hC, Below.refl _ _, rfl⟩
    · refine ⟨rfl, fun v W ρ hC kc kf ks ki kd => ?_⟩
      simp [execOp, go_sem, ]
      exact ⟨hC.alloc hC.size _, (Below.refl _ _).alloc (Nat.le_refl _) _, W.heap.size, rfl, hC.size, heap_newG _ _⟩
  case fin =>
    intro v W B hC hvB hn hB hall
    simp [upto, Act.put]
    rw [hvB]
    clear hall
    have hB2 := hidS (hB1.out.trans (hC.mono hB1.out.size))
    have hG2 := blk_later hG1 hC
    have hgl := blk_lt hG1
    have hne : w.heap.size ≠ B := by omega
    have c2 := blk_cell hB 2
    simp at c2
    clear hB1 hG1 hC hvB
    by_cases p6 : byteN s 9 = 6
    · have p6' : ((byteN s 9 : Int) == 6) = true := by rw [p6]; rfl
      by_cases h40 : s.size < 40
      · have eR : Hid (readPk s = ⟨0, 0, 0, 0, 0, 0, 0, 0, 0, ⟨#[]⟩⟩) := by unfold readPk; rw [if_pos p6, if_pos h40]; rfl
        have h40' : (s.size : Int) < 40 := by omega
        have g0 := blk_cell hG2
        have gf := blk_free hG2
        have hL := hB2
        clear p6 h40
        go_wp2
        refine bodyPost_ret (v := .agg #[.int .i64 0, .int .i64 0, .int .i64 0, .int .i64 0, .int .i64 0, .int .i64 0, .int .i64 0, .int .i64 0, .int .i64 0, .string ⟨#[]⟩]) (by simp [results, Tryz.results62, go_sem, g0]) rfl ⟨by rw [eR.out], ?_⟩
        iterate 10 (refine below_at ?_ (Nat.le_refl _))
        exact hL.out
      have eR : Hid (readPk s = ⟨word4 s 12, word4 s 16, byteN s 9, word2 s 20, word2 s 22, 0, byteN s 33, word4 s 24, word4 s 28, s.extract 40 s.size⟩) := by unfold readPk; rw [if_pos p6, if_neg h40]; rfl
      have h40' : (40 : Int) ≤ (s.size : Int) := by omega
      have h40n : 40 ≤ s.size := by omega
      have h33 : 33 < s.size := by omega
      have h33i : (33 : Int) < (s.size : Int) := by omega
      have hb33 : s[33].toNat = byteN s 33 := byteN_get h33
      have lb33 := byteN_lt s 33
      have hw33 : wrap64 (byteN s 33 : Int) = (byteN s 33 : Int) := IntWalk.wrap64_in _ (by omega)
      clear p6 h40
      have hB0 := hB
      have hG0 := hG2
      have hL0 := hB2
      clear hB hG2 hB2
      go_wp2_with fail
      refine (l03Word_any s 20 _ (by omega) hs).mono ?_
      rintro _ x1 ⟨rfl, hx1⟩
      have hB1 := blk_later hB0 hx1
      have hG1 := blk_later hG0 hx1
      have hL1 := hidS (hL0.out.trans (hx1.mono hL0.out.size))
      clear hB0 hG0 hL0 hx1
      have c3 := blk_cell hB1 3
      have f3 := blk_free hB1 3
      simp at c3
      go_wp2_with fail
      have hB1s := blk_set hB1 3 (.int .i64 ((word2 s 20 : Nat) : Int))
      have hG1s := blk_other hG1 hne 3 (.int .i64 ((word2 s 20 : Nat) : Int))
      have hL1s := hidS (Below.setCell hL1.out (p := ⟨B, 3, none⟩) (show w.heap.size ≤ B by omega) (.int .i64 ((word2 s 20 : Nat) : Int)))
      simp at hB1s
      generalize x1.setCell ⟨B, 3, none⟩ (.int .i64 ((word2 s 20 : Nat) : Int)) = y2 at hB1s hG1s hL1s ⊢
      clear hB1 hG1 hL1 c3 f3
      have hB2 := hB1s
      have hG2 := hG1s
      have hL2 := hL1s
      clear hB1s hG1s hL1s
      refine (l03Word_any s 22 _ (by omega) hs).mono ?_
      rintro _ x3 ⟨rfl, hx3⟩
      have hB3 := blk_later hB2 hx3
      have hG3 := blk_later hG2 hx3
      have hL3 := hidS (hL2.out.trans (hx3.mono hL2.out.size))
      clear hB2 hG2 hL2 hx3
      have c4 := blk_cell hB3 4
      have f4 := blk_free hB3 4
      simp at c4
      go_wp2_with fail
      have hB3s := blk_set hB3 4 (.int .i64 ((word2 s 22 : Nat) : Int))
      have hG3s := blk_other hG3 hne 4 (.int .i64 ((word2 s 22 : Nat) : Int))
      have hL3s := hidS (Below.setCell hL3.out (p := ⟨B, 4, none⟩) (show w.heap.size ≤ B by omega) (.int .i64 ((word2 s 22 : Nat) : Int)))
      simp at hB3s
      generalize x3.setCell ⟨B, 4, none⟩ (.int .i64 ((word2 s 22 : Nat) : Int)) = y4 at hB3s hG3s hL3s ⊢
      clear hB3 hG3 hL3 c4 f4
      have hB4 := hB3s
      have hG4 := hG3s
      have hL4 := hL3s
      clear hB3s hG3s hL3s
      refine (l03Long_any s 24 _ (by omega) hs).mono ?_
      rintro _ x5 ⟨rfl, hx5⟩
      have hB5 := blk_later hB4 hx5
      have hG5 := blk_later hG4 hx5
      have hL5 := hidS (hL4.out.trans (hx5.mono hL4.out.size))
      clear hB4 hG4 hL4 hx5
      have c7 := blk_cell hB5 7
      have f7 := blk_free hB5 7
      simp at c7
      go_wp2_with fail
      have hB5s := blk_set hB5 7 (.int .i64 ((word4 s 24 : Nat) : Int))
      have hG5s := blk_other hG5 hne 7 (.int .i64 ((word4 s 24 : Nat) : Int))
      have hL5s := hidS (Below.setCell hL5.out (p := ⟨B, 7, none⟩) (show w.heap.size ≤ B by omega) (.int .i64 ((word4 s 24 : Nat) : Int)))
      simp at hB5s
      generalize x5.setCell ⟨B, 7, none⟩ (.int .i64 ((word4 s 24 : Nat) : Int)) = y6 at hB5s hG5s hL5s ⊢
      clear hB5 hG5 hL5 c7 f7
      have hB6 := hB5s
      have hG6 := hG5s
      have hL6 := hL5s
      clear hB5s hG5s hL5s
      refine (l03Long_any s 28 _ (by omega) hs).mono ?_
      rintro _ x7 ⟨rfl, hx7⟩
      have hB7 := blk_later hB6 hx7
      have hG7 := blk_later hG6 hx7
      have hL7 := hidS (hL6.out.trans (hx7.mono hL6.out.size))
      clear hB6 hG6 hL6 hx7
      have c8 := blk_cell hB7 8
      have f8 := blk_free hB7 8
      simp at c8
      have c6 := blk_cell hB7 6
      have f6 := blk_free hB7 6
      simp at c6
      have c9 := blk_cell hB7 9
      have f9 := blk_free hB7 9
      simp at c9
      have c0 := blk_cell hB7 0
      simp at c0
      have c1 := blk_cell hB7 1
      simp at c1
      have c2 := blk_cell hB7 2
      simp at c2
      have c3 := blk_cell hB7 3
      simp at c3
      have c4 := blk_cell hB7 4
      simp at c4
      have c5 := blk_cell hB7 5
      simp at c5
      have c7 := blk_cell hB7 7
      simp at c7
      have g0 := blk_cell hG7
      have gf := blk_free hG7
      have hneB : B ≠ w.heap.size := fun q => hne q.symm
      have hL := hL7
      go_wp2
      refine bodyPost_ret (v := .agg #[.int .i64 ((word4 s 12 : Nat) : Int), .int .i64 ((word4 s 16 : Nat) : Int), .int .i64 ((byteN s 9 : Nat) : Int), .int .i64 ((word2 s 20 : Nat) : Int), .int .i64 ((word2 s 22 : Nat) : Int), .int .i64 0, .int .i64 ((byteN s 33 : Nat) : Int), .int .i64 ((word4 s 24 : Nat) : Int), .int .i64 ((word4 s 28 : Nat) : Int), .string (s.extract 40 s.size)]) (by simp [results, Tryz.results62, go_sem, g0]) rfl ⟨by rw [eR.out], ?_⟩
      iterate 10 (refine below_at ?_ (Nat.le_refl _))
      iterate 3 (refine below_at ?_ (show w.heap.size ≤ B by omega))
      exact hL.out
    have p6' : ((byteN s 9 : Int) == 6) = false := beq_eq_false_iff_ne.2 (by omega)
    by_cases p17 : byteN s 9 = 17
    · have p17' : ((byteN s 9 : Int) == 17) = true := by rw [p17]; rfl
      have eR : Hid (readPk s = ⟨word4 s 12, word4 s 16, byteN s 9, word2 s 20, word2 s 22, 0, 0, 0, 0, s.extract 28 s.size⟩) := by unfold readPk; rw [if_neg p6, if_pos p17]; rfl
      have h28' : (28 : Int) ≤ (s.size : Int) := by omega
      clear p6 p17
      have hB0 := hB
      have hG0 := hG2
      have hL0 := hB2
      clear hB hG2 hB2
      go_wp2_with fail
      refine (l03Word_any s 20 _ (by omega) hs).mono ?_
      rintro _ x1 ⟨rfl, hx1⟩
      have hB1 := blk_later hB0 hx1
      have hG1 := blk_later hG0 hx1
      have hL1 := hidS (hL0.out.trans (hx1.mono hL0.out.size))
      clear hB0 hG0 hL0 hx1
      have c3 := blk_cell hB1 3
      have f3 := blk_free hB1 3
      simp at c3
      go_wp2_with fail
      have hB1s := blk_set hB1 3 (.int .i64 ((word2 s 20 : Nat) : Int))
      have hG1s := blk_other hG1 hne 3 (.int .i64 ((word2 s 20 : Nat) : Int))
      have hL1s := hidS (Below.setCell hL1.out (p := ⟨B, 3, none⟩) (show w.heap.size ≤ B by omega) (.int .i64 ((word2 s 20 : Nat) : Int)))
      simp at hB1s
      generalize x1.setCell ⟨B, 3, none⟩ (.int .i64 ((word2 s 20 : Nat) : Int)) = y2 at hB1s hG1s hL1s ⊢
      clear hB1 hG1 hL1 c3 f3
      have hB2 := hB1s
      have hG2 := hG1s
      have hL2 := hL1s
      clear hB1s hG1s hL1s
      refine (l03Word_any s 22 _ (by omega) hs).mono ?_
      rintro _ x3 ⟨rfl, hx3⟩
      have hB3 := blk_later hB2 hx3
      have hG3 := blk_later hG2 hx3
      have hL3 := hidS (hL2.out.trans (hx3.mono hL2.out.size))
      clear hB2 hG2 hL2 hx3
      have c4 := blk_cell hB3 4
      have f4 := blk_free hB3 4
      simp at c4
      have c9 := blk_cell hB3 9
      have f9 := blk_free hB3 9
      simp at c9
      have c0 := blk_cell hB3 0
      simp at c0
      have c1 := blk_cell hB3 1
      simp at c1
      have c2 := blk_cell hB3 2
      simp at c2
      have c3 := blk_cell hB3 3
      simp at c3
      have c5 := blk_cell hB3 5
      simp at c5
      have c6 := blk_cell hB3 6
      simp at c6
      have c7 := blk_cell hB3 7
      simp at c7
      have c8 := blk_cell hB3 8
      simp at c8
      have g0 := blk_cell hG3
      have gf := blk_free hG3
      have hneB : B ≠ w.heap.size := fun q => hne q.symm
      have hL := hL3
      go_wp2
      refine bodyPost_ret (v := .agg #[.int .i64 ((word4 s 12 : Nat) : Int), .int .i64 ((word4 s 16 : Nat) : Int), .int .i64 ((byteN s 9 : Nat) : Int), .int .i64 ((word2 s 20 : Nat) : Int), .int .i64 ((word2 s 22 : Nat) : Int), .int .i64 0, .int .i64 0, .int .i64 0, .int .i64 0, .string (s.extract 28 s.size)]) (by simp [results, Tryz.results62, go_sem, g0]) rfl ⟨by rw [eR.out], ?_⟩
      iterate 10 (refine below_at ?_ (Nat.le_refl _))
      iterate 2 (refine below_at ?_ (show w.heap.size ≤ B by omega))
      exact hL.out
    · have p17' : ((byteN s 9 : Int) == 17) = false := beq_eq_false_iff_ne.2 (by omega)
      have eR : Hid (readPk s = ⟨word4 s 12, word4 s 16, byteN s 9, word2 s 24, 0, byteN s 20, 0, word2 s 26, 0, s.extract 28 s.size⟩) := by unfold readPk; rw [if_neg p6, if_neg p17]; rfl
      have h28' : (28 : Int) ≤ (s.size : Int) := by omega
      have h20 : 20 < s.size := by omega
      have h20i : (20 : Int) < (s.size : Int) := by omega
      have hb20 : s[20].toNat = byteN s 20 := byteN_get h20
      have lb20 := byteN_lt s 20
      have hw20 : wrap64 (byteN s 20 : Int) = (byteN s 20 : Int) := IntWalk.wrap64_in _ (by omega)
      clear p6 p17
      have hB0 := hB
      have hG0 := hG2
      have hL0 := hB2
      clear hB hG2 hB2
      have c5 := blk_cell hB0 5
      have f5 := blk_free hB0 5
      simp at c5
      go_wp2_with fail
      have hB0s := blk_set hB0 5 (.int .i64 ((byteN s 20 : Nat) : Int))
      have hG0s := blk_other hG0 hne 5 (.int .i64 ((byteN s 20 : Nat) : Int))
      have hL0s := hidS (Below.setCell hL0.out (p := ⟨B, 5, none⟩) (show w.heap.size ≤ B by omega) (.int .i64 ((byteN s 20 : Nat) : Int)))
      simp at hB0s
      generalize W.setCell ⟨B, 5, none⟩ (.int .i64 ((byteN s 20 : Nat) : Int)) = y1 at hB0s hG0s hL0s ⊢
      clear hB0 hG0 hL0 c5 f5
      have hB1 := hB0s
      have hG1 := hG0s
      have hL1 := hL0s
      clear hB0s hG0s hL0s
      refine (l03Word_any s 24 _ (by omega) hs).mono ?_
      rintro _ x2 ⟨rfl, hx2⟩
      have hB2 := blk_later hB1 hx2
      have hG2 := blk_later hG1 hx2
      have hL2 := hidS (hL1.out.trans (hx2.mono hL1.out.size))
      clear hB1 hG1 hL1 hx2
      have c3 := blk_cell hB2 3
      have f3 := blk_free hB2 3
      simp at c3
      go_wp2_with fail
      have hB2s := blk_set hB2 3 (.int .i64 ((word2 s 24 : Nat) : Int))
      have hG2s := blk_other hG2 hne 3 (.int .i64 ((word2 s 24 : Nat) : Int))
      have hL2s := hidS (Below.setCell hL2.out (p := ⟨B, 3, none⟩) (show w.heap.size ≤ B by omega) (.int .i64 ((word2 s 24 : Nat) : Int)))
      simp at hB2s
      generalize x2.setCell ⟨B, 3, none⟩ (.int .i64 ((word2 s 24 : Nat) : Int)) = y3 at hB2s hG2s hL2s ⊢
      clear hB2 hG2 hL2 c3 f3
      have hB3 := hB2s
      have hG3 := hG2s
      have hL3 := hL2s
      clear hB2s hG2s hL2s
      refine (l03Word_any s 26 _ (by omega) hs).mono ?_
      rintro _ x4 ⟨rfl, hx4⟩
      have hB4 := blk_later hB3 hx4
      have hG4 := blk_later hG3 hx4
      have hL4 := hidS (hL3.out.trans (hx4.mono hL3.out.size))
      clear hB3 hG3 hL3 hx4
      have c7 := blk_cell hB4 7
      have f7 := blk_free hB4 7
      simp at c7
      have c9 := blk_cell hB4 9
      have f9 := blk_free hB4 9
      simp at c9
      have c0 := blk_cell hB4 0
      simp at c0
      have c1 := blk_cell hB4 1
      simp at c1
      have c2 := blk_cell hB4 2
      simp at c2
      have c3 := blk_cell hB4 3
      simp at c3
      have c4 := blk_cell hB4 4
      simp at c4
      have c5 := blk_cell hB4 5
      simp at c5
      have c6 := blk_cell hB4 6
      simp at c6
      have c8 := blk_cell hB4 8
      simp at c8
      have g0 := blk_cell hG4
      have gf := blk_free hG4
      have hneB : B ≠ w.heap.size := fun q => hne q.symm
      have hL := hL4
      go_wp2
      refine bodyPost_ret (v := .agg #[.int .i64 ((word4 s 12 : Nat) : Int), .int .i64 ((word4 s 16 : Nat) : Int), .int .i64 ((byteN s 9 : Nat) : Int), .int .i64 ((word2 s 24 : Nat) : Int), .int .i64 0, .int .i64 ((byteN s 20 : Nat) : Int), .int .i64 0, .int .i64 ((word2 s 26 : Nat) : Int), .int .i64 0, .string (s.extract 28 s.size)]) (by simp [results, Tryz.results62, go_sem, g0]) rfl ⟨by rw [eR.out], ?_⟩
      iterate 10 (refine below_at ?_ (Nat.le_refl _))
      iterate 2 (refine below_at ?_ (show w.heap.size ≤ B by omega))
      exact hL.out
end Go.Proofs.YtedknnkdnccfmaaGreatDoor
