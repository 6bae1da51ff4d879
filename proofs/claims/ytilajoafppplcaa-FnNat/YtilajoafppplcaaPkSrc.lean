/- Proved here: spec's source draws a packet of at most 101 bytes of body; the source's block alone turns of old memory (condition: a source). -/
import Derived.Test.YtilajoafppplcaaAll9
import Derived.Test.YtilajoafppplcaaAll6
import Derived.Test.YtilajoafppplcaaAll4
import Derived.Test.YtilajoafppplcaaAll5
import Derived.Test.YtilajoafppplcaaAll1
import Derived.Deep.Cut
import Derived.Deep.DeepCutAuto
import Derived.Deep.CutBlock
namespace Go.Proofs.Ytilajoafppplcaa
open Go.ChangeShapes Go.WideShapes Go.ChangeAt Go.RowKit
set_option linter.unusedVariables false
set_option linter.unusedSimpArgs false
set_option maxRecDepth 100000

/-- a new packet of few bytes -/
def NewP (new : Array Value) : Prop := ∃ p : Pk, new = #[.int .i64 p.src, .int .i64 p.dst, .int .i64 p.proto, .int .i64 p.a, .int .i64 p.b, .int .i64 p.kind, .int .i64 p.flags, .int .i64 p.seq, .int .i64 p.ack, .string p.body] ∧ p.body.size ≤ 8
theorem four_cells (j : Nat) (h : j < 4) : ∃ z : Int, 1 ≤ z ∧ z ≤ 17 ∧ (#[.int .i64 6, .int .i64 6, .int .i64 17, .int .i64 1] : Array Value)[j]? = some (.int .i64 z) := by
  rcases (by omega : j = 0 ∨ j = 1 ∨ j = 2 ∨ j = 3) with rfl | rfl | rfl | rfl
  all_goals exact ⟨_, by decide, by decide, rfl⟩

/-- so many bytes 0 -/
def zerosT (k : Nat) : ByteArray := ⟨(List.replicate (99 + k) 0).toArray⟩
theorem zerosT_size (k : Nat) : (zerosT k).size = 99 + k := by show (List.replicate (99 + k) (0 : UInt8)).toArray.size = _; simp
theorem zeros_make (k : Nat) (hk : k ≤ 2) (W : World) : (Instr.makeSlice 22 (.int .i64 (99 + (k : Int))) (.int .i64 (99 + (k : Int)))).run Try.prog W = .ok (.slice (some ⟨W.heap.size, 0, none⟩) (99 + k) (99 + k)) (W.alloc (.cells (madeCells #[.int .u8 0] (99 + k)) 5)) := by
  have h := run_make_row' (P := Try.prog) 22 5 (.int .u8 0) 1 Try.underlying22 Try.infoU8 rfl .i64 .i64 (99 + k) (by omega) (by omega) W
  rw [show ((99 + k : Nat) : Int) = 99 + (k : Int) by omega] at h
  exact h
theorem zeros_conv (k : Nat) (W : World) : (convert 22 9 (.slice (some ⟨W.heap.size, 0, none⟩) (99 + k) (99 + k))).run Try.prog (W.alloc (.cells (madeCells #[.int .u8 0] (99 + k)) 5)) = .ok (.string (zerosT k)) (W.alloc (.cells (madeCells #[.int .u8 0] (99 + k)) 5)) := by
  have hg := heap_newG W (.cells (madeCells #[.int .u8 0] (99 + k)) 5)
  have h := run_convert_bytes_back (P := Try.prog) (W.alloc (.cells (madeCells #[.int .u8 0] (99 + k)) 5)) 22 9 5 ⟨W.heap.size, 0, none⟩ (99 + k) (List.replicate (99 + k) 0) Try.underlying22 Try.underlying5 Try.underlying9 (fun j hj => by
    rw [Addr.add_lit, Nat.zero_add, blk_cell hg j]
    have hj' : j < 99 + k := by simpa using hj
    simp [madeCells, hj', Nat.mod_one])
  rw [List.length_replicate] at h
  exact h

set_option maxHeartbeats 4000000 in
theorem srcPacket_any (B : Nat) (a : Option Addr) (len cap : Nat) (w : World) (hS : Src B a len cap w) :
    Calls Try.prog 108 #[.pointer (some ⟨B, 0, none⟩)] w fun e w' => ∃ p : Pk, e = .returned (.agg #[.int .i64 p.src, .int .i64 p.dst, .int .i64 p.proto, .int .i64 p.a, .int .i64 p.b, .int .i64 p.kind, .int .i64 p.flags, .int .i64 p.seq, .int .i64 p.ack, .string p.body]) ∧ p.body.size ≤ 101 ∧ Src B a len cap w' ∧ w.grownBy w' (some B) := by
  have hlt := hS.lt
  have hS1 := hidS (hS.kept (w' := w.alloc (.cells #[.int .i64 0, .int .i64 0, .int .i64 0, .int .i64 0, .int .i64 0, .int .i64 0, .int .i64 0, .int .i64 0, .int .i64 0, .string ⟨#[]⟩] 119)) fun k hk => Below.heap_alloc _ _ _ (by omega))
  have hG1 := hidS (World.grownBy_alloc w (.cells #[.int .i64 0, .int .i64 0, .int .i64 0, .int .i64 0, .int .i64 0, .int .i64 0, .int .i64 0, .int .i64 0, .int .i64 0, .string ⟨#[]⟩] 119) (some B))
  have hR1 := hidS (heap_newG w (.cells #[.int .i64 0, .int .i64 0, .int .i64 0, .int .i64 0, .int .i64 0, .int .i64 0, .int .i64 0, .int .i64 0, .int .i64 0, .string ⟨#[]⟩] 119))
  clear hS
  go_enter Try.func108, Try.ntmps108
  go_wp2_with fail
  generalize w.alloc (.cells #[.int .i64 0, .int .i64 0, .int .i64 0, .int .i64 0, .int .i64 0, .int .i64 0, .int .i64 0, .int .i64 0, .int .i64 0, .string ⟨#[]⟩] 119) = w1 at hS1 hG1 hR1 ⊢
  refine grow_src B a len cap 15 _ [isP (.pointer (some ⟨B, 0, none⟩)), numP (-1) 4294967296, isP (.pointer (some ⟨B, 0, none⟩)), numP (-1) 4294967296, rowP B #[.int .i64 6, .int .i64 6, .int .i64 17, .int .i64 1] 2, isP (.pointer (some ⟨B, 0, none⟩)), numP 0 3, ptrP B #[.int .i64 6, .int .i64 6, .int .i64 17, .int .i64 1] 2, numP 1 17, isP (.pointer (some ⟨B, 0, none⟩)), isP (.pointer (some ⟨B, 0, none⟩)), numP 0 8, strP 8, (fun v _ => ∃ new, v = .agg new ∧ NewP new), blkP B w1.heap.size #[.int .i64 0, .int .i64 0, .int .i64 0, .int .i64 0, .int .i64 0, .int .i64 0, .int .i64 0, .int .i64 0, .int .i64 0, .string ⟨#[]⟩] 119] 14 13 3 17 119 119 #[.int .i64 0, .int .i64 0, .int .i64 0, .int .i64 0, .int .i64 0, .int .i64 0, .int .i64 0, .int .i64 0, .int .i64 0, .string ⟨#[]⟩] NewP hS1.out rfl rfl rfl (by kernel_rfl) (by kernel_rfl) (by kernel_rfl) rfl rfl rfl rfl (by decide) (by decide) rfl rfl (fun new h => ?size) ?lasts ?steps ?fin
  case size =>
    obtain ⟨p, rfl, _⟩ := h
    exact ⟨rfl, by simp [Value.oneCell'], by kernel_rfl⟩
  case lasts =>
    exact ⟨isP_last _ _, numP_last _ _ _, isP_last _ _, numP_last _ _ _, rowP_last _ _ _, isP_last _ _, numP_last _ _ _, ptrP_last _ _ _, numP_last _ _ _, isP_last _ _, isP_last _ _, numP_last _ _ _, strP_last _ _, (fun _ _ _ h _ => h), blkP_last _ _ _ _, trivial⟩
  case steps =>
    refine ⟨?_, ?_, ?_, ?_, ?_, ?_, ?_, ?_, ?_, ?_, ?_, ?_, ?_, ?_, ?_, trivial⟩
    · refine ⟨rfl, fun v W ρ hC kc kf ks ki kd => ?_⟩
      have t0 : ρ (.tmp 0) = .pointer (some ⟨B, 0, none⟩) := ki 0 (by decide)
      simp [execOp, go_sem, t0]
      exact ⟨hC, grown_refl _ _, rfl⟩
    · refine ⟨rfl, fun v W ρ hC kc kf ks ki kd => ?_⟩
      have d0 : v 0 = .pointer (some ⟨B, 0, none⟩) := kd _ (Array.mem_of_getElem? (i := 0) rfl) rfl
      have t4 : ρ (.tmp 4) = v 0 := ks 0 4 (by decide) rfl
      rw [d0] at t4
      simp [execOp, go_sem, t4, kf]
      exact Calls.mono (srcAddr_any B a len cap W hC.1) (fun e x h => by obtain ⟨r, rfl, h1, h2, h3, h4⟩ := h; exact ⟨_, rfl, ⟨h3, grown_trans hC.2 h4⟩, h4, r, rfl, h1, h2⟩)
    · refine ⟨rfl, fun v W ρ hC kc kf ks ki kd => ?_⟩
      have t0 : ρ (.tmp 0) = .pointer (some ⟨B, 0, none⟩) := ki 0 (by decide)
      simp [execOp, go_sem, t0]
      exact ⟨hC, grown_refl _ _, rfl⟩
    · refine ⟨rfl, fun v W ρ hC kc kf ks ki kd => ?_⟩
      have d2 : v 2 = .pointer (some ⟨B, 0, none⟩) := kd _ (Array.mem_of_getElem? (i := 0) rfl) rfl
      have t6 : ρ (.tmp 6) = v 2 := ks 2 6 (by decide) rfl
      rw [d2] at t6
      simp [execOp, go_sem, t6, kf]
      exact Calls.mono (srcAddr_any B a len cap W hC.1) (fun e x h => by obtain ⟨r, rfl, h1, h2, h3, h4⟩ := h; exact ⟨_, rfl, ⟨h3, grown_trans hC.2 h4⟩, h4, r, rfl, h1, h2⟩)
    · refine ⟨rfl, fun v W ρ hC kc kf ks ki kd => ?_⟩
      simp [execOp, go_sem, kc]
      exact ⟨⟨hC.1.kept fun k hk => Below.heap_alloc _ _ _ (by have := hC.1.lt; omega), grown_trans hC.2 (World.grownBy_alloc _ _ _)⟩, World.grownBy_alloc _ _ _, W.heap.size, rfl, (by have := hC.1.lt; omega), heap_newG _ _⟩
    · refine ⟨rfl, fun v W ρ hC kc kf ks ki kd => ?_⟩
      have t0 : ρ (.tmp 0) = .pointer (some ⟨B, 0, none⟩) := ki 0 (by decide)
      simp [execOp, go_sem, t0]
      exact ⟨hC, grown_refl _ _, rfl⟩
    · refine ⟨rfl, fun v W ρ hC kc kf ks ki kd => ?_⟩
      have d5 : v 5 = .pointer (some ⟨B, 0, none⟩) := kd _ (Array.mem_of_getElem? (i := 0) rfl) rfl
      have t9 : ρ (.tmp 9) = v 5 := ks 5 9 (by decide) rfl
      rw [d5] at t9
      simp [execOp, go_sem, t9, kf, kc]
      exact Calls.mono (srcN_any B a len cap 4 W hC.1 (by omega)) (fun e x h => by obtain ⟨r, rfl, h1, h2, h3, h4⟩ := h; exact ⟨_, rfl, ⟨h3, grown_trans hC.2 h4.grown⟩, h4.grown, r, rfl, h1, by omega⟩)
    · refine ⟨rfl, fun v W ρ hC kc kf ks ki kd => ?_⟩
      obtain ⟨g, d4, hgB, hg⟩ : ∃ g, v 4 = .slice (some ⟨g, 0, none⟩) 4 4 ∧ g ≠ B ∧ W.heap[g]? = some (.cells #[.int .i64 6, .int .i64 6, .int .i64 17, .int .i64 1] 2) := kd _ (Array.mem_of_getElem? (i := 0) rfl) rfl
      have t8 : ρ (.tmp 8) = v 4 := ks 4 8 (by decide) rfl
      rw [d4] at t8
      obtain ⟨n, d6, nl, nh⟩ : ∃ n : Int, v 6 = .int .i64 n ∧ (0 : Int) ≤ n ∧ n ≤ 3 := kd _ (Array.mem_of_getElem? (i := 1) rfl) rfl
      have t10 : ρ (.tmp 10) = v 6 := ks 6 10 (by decide) rfl
      rw [d6] at t10
      obtain ⟨j, rfl⟩ : ∃ j : Nat, n = j := ⟨n.toNat, by omega⟩
      have hj : (0 : Int) ≤ (j : Int) ∧ (j : Int) < 4 := by omega
      simp [execOp, go_sem, t8, t10, hj]
      exact ⟨hC, grown_refl _ _, g, j, rfl, (show j < 4 by omega), hgB, hg⟩
    · refine ⟨rfl, fun v W ρ hC kc kf ks ki kd => ?_⟩
      obtain ⟨g, k, d7, hk, hgB, hg⟩ : ∃ g k, v 7 = .pointer (some ⟨g, k, none⟩) ∧ k < 4 ∧ g ≠ B ∧ W.heap[g]? = some (.cells #[.int .i64 6, .int .i64 6, .int .i64 17, .int .i64 1] 2) := kd _ (Array.mem_of_getElem? (i := 0) rfl) rfl
      have t11 : ρ (.tmp 11) = v 7 := ks 7 11 (by decide) rfl
      rw [d7] at t11
      obtain ⟨z, z1, z2, hz⟩ := four_cells k hk
      have hc := (blk_cell hg k).trans hz
      simp [execOp, go_sem, t11, hc]
      exact ⟨hC, grown_refl _ _, z, rfl, z1, z2⟩
    · refine ⟨rfl, fun v W ρ hC kc kf ks ki kd => ?_⟩
      have t0 : ρ (.tmp 0) = .pointer (some ⟨B, 0, none⟩) := ki 0 (by decide)
      simp [execOp, go_sem, t0]
      exact ⟨hC, grown_refl _ _, rfl⟩
    · refine ⟨rfl, fun v W ρ hC kc kf ks ki kd => ?_⟩
      have t0 : ρ (.tmp 0) = .pointer (some ⟨B, 0, none⟩) := ki 0 (by decide)
      simp [execOp, go_sem, t0]
      exact ⟨hC, grown_refl _ _, rfl⟩
    · refine ⟨rfl, fun v W ρ hC kc kf ks ki kd => ?_⟩
      have d10 : v 10 = .pointer (some ⟨B, 0, none⟩) := kd _ (Array.mem_of_getElem? (i := 0) rfl) rfl
      have t14 : ρ (.tmp 14) = v 10 := ks 10 14 (by decide) rfl
      rw [d10] at t14
      simp [execOp, go_sem, t14, kf, kc]
      exact Calls.mono (srcN_any B a len cap 9 W hC.1 (by omega)) (fun e x h => by obtain ⟨r, rfl, h1, h2, h3, h4⟩ := h; exact ⟨_, rfl, ⟨h3, grown_trans hC.2 h4.grown⟩, h4.grown, r, rfl, h1, by omega⟩)
    · refine ⟨rfl, fun v W ρ hC kc kf ks ki kd => ?_⟩
      have d9 : v 9 = .pointer (some ⟨B, 0, none⟩) := kd _ (Array.mem_of_getElem? (i := 0) rfl) rfl
      have t13 : ρ (.tmp 13) = v 9 := ks 9 13 (by decide) rfl
      rw [d9] at t13
      obtain ⟨n, d11, nl, nh⟩ : ∃ n : Int, v 11 = .int .i64 n ∧ (0 : Int) ≤ n ∧ n ≤ 8 := kd _ (Array.mem_of_getElem? (i := 1) rfl) rfl
      have t15 : ρ (.tmp 15) = v 11 := ks 11 15 (by decide) rfl
      rw [d11] at t15
      simp [execOp, go_sem, t13, t15, kf]
      exact Calls.mono (srcBytes_g B a len cap n W hC.1 (by omega)) (fun e x h => by obtain ⟨s, rfl, h1, h2, h3⟩ := h; exact ⟨_, rfl, ⟨h2, grown_trans hC.2 h3⟩, h3, s, rfl, by omega⟩)
    · refine ⟨rfl, fun v W ρ hC kc kf ks ki kd => ?_⟩
      obtain ⟨x, d1, xl, xh⟩ : ∃ n : Int, v 1 = .int .i64 n ∧ (-1 : Int) ≤ n ∧ n ≤ 4294967296 := kd _ (Array.mem_of_getElem? (i := 0) rfl) rfl
      have t5 : ρ (.tmp 5) = v 1 := ks 1 5 (by decide) rfl
      rw [d1] at t5
      obtain ⟨y, d3, yl, yh⟩ : ∃ n : Int, v 3 = .int .i64 n ∧ (-1 : Int) ≤ n ∧ n ≤ 4294967296 := kd _ (Array.mem_of_getElem? (i := 1) rfl) rfl
      have t7 : ρ (.tmp 7) = v 3 := ks 3 7 (by decide) rfl
      rw [d3] at t7
      obtain ⟨z, d8, zl, zh⟩ : ∃ n : Int, v 8 = .int .i64 n ∧ (1 : Int) ≤ n ∧ n ≤ 17 := kd _ (Array.mem_of_getElem? (i := 2) rfl) rfl
      have t12 : ρ (.tmp 12) = v 8 := ks 8 12 (by decide) rfl
      rw [d8] at t12
      obtain ⟨s, d12, hs⟩ : ∃ s : ByteArray, v 12 = .string s ∧ s.size ≤ 8 := kd _ (Array.mem_of_getElem? (i := 3) rfl) rfl
      have t16 : ρ (.tmp 16) = v 12 := ks 12 16 (by decide) rfl
      rw [d12] at t16
      simp [execOp, go_sem, t5, t7, t12, t16]
      exact ⟨hC, grown_refl _ _, _, rfl, ⟨x, y, z, 0, 0, 0, 0, 0, 0, s⟩, rfl, hs⟩
    · refine ⟨rfl, fun v W ρ hC kc kf ks ki kd => ?_⟩
      simp [execOp, go_sem]
      exact ⟨⟨hC.1.kept fun k hk => Below.heap_alloc _ _ _ (by have := hC.1.lt; omega), grown_trans hC.2 (World.grownBy_alloc _ _ _)⟩, World.grownBy_alloc _ _ _, W.heap.size, rfl, hC.2.size, (by have := hC.1.lt; omega), heap_newG _ _⟩
  case fin =>
    intro v W g new hSW hGW hv hg hN hW
    obtain ⟨p, rfl, hp⟩ := hN
    simp [upto, Act.put]
    rw [hv]
    have hP : PkSt B a len cap w g p W := ⟨hSW, grown_trans hG1.out hGW, (hGW.block _ (blk_lt hR1.out) (fun e => by injection e with e; omega)).trans hR1.out, hW, Nat.lt_of_lt_of_le (blk_lt hR1.out) hg, hlt, by omega⟩
    clear hSW hGW hv hg hW hS1 hG1 hR1 hp
    have HP := hidS hP
    have c2 := blk_cell hP.loc 2
    simp at c2
    clear hP
    go_upto_block 0 with fail
    go_cut [] (fun wx => ∃ q : Pk, PkSt B a len cap w g q wx)
    case first =>
      by_cases h6 : p.proto = 6
      · have h6' : (p.proto == 6) = true := beq_iff_eq.2 h6
        clear h6
        go_wp2_with fail
        refine (srcN_any B a len cap 4 _ HP.out.src (by omega)).mono ?_
        rintro _ V1 ⟨r1, rfl, ra1, rb1, hS, hO⟩
        have HQ1 := hidS (HP.out.only hS hO)
        have rc1 : r1 ≤ 3 := by omega
        have ck := blk_cell HQ1.out.loc 3
        simp at ck
        have fk := blk_free HQ1.out.loc 3
        clear hS hO rb1
        go_upto_region 8 with fail
        have HP1 := hidS (HQ1.out.set_a (1000 + r1))
        clear ck fk HQ1
        generalize V1.setCell ⟨g, 3, none⟩ (.int .i64 (1000 + r1)) = U1 at HP1 ⊢
        clear ra1 rc1
        go_wp2_with fail
        refine (srcN_any B a len cap 2 _ HP1.out.src (by omega)).mono ?_
        rintro _ V2 ⟨r2, rfl, ra2, rb2, hS, hO⟩
        have HQ2 := hidS (HP1.out.only hS hO)
        have rc2 : r2 ≤ 1 := by omega
        have ck := blk_cell HQ2.out.loc 4
        simp at ck
        have fk := blk_free HQ2.out.loc 4
        clear hS hO rb2
        go_upto_region 9 with fail
        have HP2 := hidS (HQ2.out.set_b (80 + r2))
        clear ck fk HQ2
        generalize V2.setCell ⟨g, 4, none⟩ (.int .i64 (80 + r2)) = U2 at HP2 ⊢
        clear ra2 rc2
        have HA3 := hidS (HP2.out.alloc (.cells #[.int .i64 2, .int .i64 18, .int .i64 16, .int .i64 17, .int .i64 4, .int .i64 0, .int .i64 20, .int .i64 63] 2))
        have hr0 := hidS (heap_newG U2 (.cells #[.int .i64 2, .int .i64 18, .int .i64 16, .int .i64 17, .int .i64 4, .int .i64 0, .int .i64 20, .int .i64 63] 2))
        have hwB : B ≠ U2.heap.size := by have := HP2.out.src.lt; omega
        have hwg : g < U2.heap.size := blk_lt HP2.out.loc
        go_wp2_with fail
        refine (srcN_any B a len cap 8 _ HA3.out.src (by omega)).mono ?_
        rintro _ V3 ⟨r3, rfl, ra3, rb3, hS, hO⟩
        have HQ3 := hidS (HA3.out.only hS hO)
        obtain ⟨z3, hz3⟩ : ∃ z : Int, V3.cell? ⟨U2.heap.size, r3.toNat, none⟩ = some (.int .i64 z) := by
          have hh := (hO.block U2.heap.size (fun e => hwB e.symm)).trans hr0.out
          obtain ⟨j, rfl⟩ : ∃ j : Nat, r3 = j := ⟨r3.toNat, by omega⟩
          rw [Int.toNat_natCast, blk_cell hh j]
          rcases (by omega : j = 0 ∨ j = 1 ∨ j = 2 ∨ j = 3 ∨ j = 4 ∨ j = 5 ∨ j = 6 ∨ j = 7) with rfl | rfl | rfl | rfl | rfl | rfl | rfl | rfl
          all_goals exact ⟨_, rfl⟩
        have rc3 : r3 < 8 := by omega
        have ck := blk_cell HQ3.out.loc 6
        simp at ck
        have fk := blk_free HQ3.out.loc 6
        clear hS hO rb3 hr0 HA3
        go_upto_region 10 with fail
        have HP3 := hidS (HQ3.out.set_flags z3)
        clear ck fk HQ3
        generalize V3.setCell ⟨g, 6, none⟩ (.int .i64 z3) = U3 at HP3 ⊢
        clear ra3 rc3 hz3 hwB hwg
        go_wp2_with fail
        refine (srcN_any B a len cap 1000 _ HP3.out.src (by omega)).mono ?_
        rintro _ V4 ⟨r4, rfl, ra4, rb4, hS, hO⟩
        have HQ4 := hidS (HP3.out.only hS hO)
        have rc4 : r4 ≤ 999 := by omega
        have ck := blk_cell HQ4.out.loc 7
        simp at ck
        have fk := blk_free HQ4.out.loc 7
        clear hS hO rb4
        go_upto_region 11 with fail
        have HP4 := hidS (HQ4.out.set_seq (r4))
        clear ck fk HQ4
        generalize V4.setCell ⟨g, 7, none⟩ (.int .i64 (r4)) = U4 at HP4 ⊢
        clear ra4 rc4
        go_wp2_with fail
        refine (srcN_any B a len cap 1000 _ HP4.out.src (by omega)).mono ?_
        rintro _ V5 ⟨r5, rfl, ra5, rb5, hS, hO⟩
        have HQ5 := hidS (HP4.out.only hS hO)
        have rc5 : r5 ≤ 999 := by omega
        have ck := blk_cell HQ5.out.loc 8
        simp at ck
        have fk := blk_free HQ5.out.loc 8
        clear hS hO rb5
        go_wp2_with fail
        go_meet
        exact ⟨_, HQ5.out.set_ack _⟩
      have h6' : (p.proto == 6) = false := beq_eq_false_iff_ne.2 h6
      by_cases h17 : p.proto = 17
      · have h17' : (p.proto == 17) = true := beq_iff_eq.2 h17
        clear h17 h6
        go_wp2_with fail
        refine (srcN_any B a len cap 4 _ HP.out.src (by omega)).mono ?_
        rintro _ V1 ⟨r1, rfl, ra1, rb1, hS, hO⟩
        have HQ1 := hidS (HP.out.only hS hO)
        have rc1 : r1 ≤ 3 := by omega
        have ck := blk_cell HQ1.out.loc 3
        simp at ck
        have fk := blk_free HQ1.out.loc 3
        clear hS hO rb1
        go_upto_region 14 with fail
        have HP1 := hidS (HQ1.out.set_a (2000 + r1))
        clear ck fk HQ1
        generalize V1.setCell ⟨g, 3, none⟩ (.int .i64 (2000 + r1)) = U1 at HP1 ⊢
        clear ra1 rc1
        have ck := blk_cell HP1.out.loc 4
        simp at ck
        have fk := blk_free HP1.out.loc 4
        go_wp2_with fail
        go_meet
        exact ⟨_, HP1.out.set_b _⟩
      have h17' : (p.proto == 17) = false := beq_eq_false_iff_ne.2 h17
      clear h6 h17
      have HA1 := hidS (HP.out.alloc (.cells #[.int .i64 8, .int .i64 8, .int .i64 0] 2))
      have hr0 := hidS (heap_newG W (.cells #[.int .i64 8, .int .i64 8, .int .i64 0] 2))
      have hwB : B ≠ W.heap.size := by have := HP.out.src.lt; omega
      have hwg : g < W.heap.size := blk_lt HP.out.loc
      go_wp2_with fail
      refine (srcN_any B a len cap 3 _ HA1.out.src (by omega)).mono ?_
      rintro _ V1 ⟨r1, rfl, ra1, rb1, hS, hO⟩
      have HQ1 := hidS (HA1.out.only hS hO)
      obtain ⟨z1, hz1⟩ : ∃ z : Int, V1.cell? ⟨W.heap.size, r1.toNat, none⟩ = some (.int .i64 z) := by
        have hh := (hO.block W.heap.size (fun e => hwB e.symm)).trans hr0.out
        obtain ⟨j, rfl⟩ : ∃ j : Nat, r1 = j := ⟨r1.toNat, by omega⟩
        rw [Int.toNat_natCast, blk_cell hh j]
        rcases (by omega : j = 0 ∨ j = 1 ∨ j = 2) with rfl | rfl | rfl
        all_goals exact ⟨_, rfl⟩
      have rc1 : r1 < 3 := by omega
      have ck := blk_cell HQ1.out.loc 5
      simp at ck
      have fk := blk_free HQ1.out.loc 5
      clear hS hO rb1 hr0 HA1
      go_upto_region 4 with fail
      have HP1 := hidS (HQ1.out.set_kind z1)
      clear ck fk HQ1
      generalize V1.setCell ⟨g, 5, none⟩ (.int .i64 z1) = U1 at HP1 ⊢
      clear ra1 rc1 hz1 hwB hwg
      go_wp2_with fail
      refine (srcN_any B a len cap 9 _ HP1.out.src (by omega)).mono ?_
      rintro _ V2 ⟨r2, rfl, ra2, rb2, hS, hO⟩
      have HQ2 := hidS (HP1.out.only hS hO)
      have rc2 : r2 ≤ 8 := by omega
      have ck := blk_cell HQ2.out.loc 3
      simp at ck
      have fk := blk_free HQ2.out.loc 3
      clear hS hO rb2
      go_upto_region 5 with fail
      have HP2 := hidS (HQ2.out.set_a (r2))
      clear ck fk HQ2
      generalize V2.setCell ⟨g, 3, none⟩ (.int .i64 (r2)) = U2 at HP2 ⊢
      clear ra2 rc2
      go_wp2_with fail
      refine (srcN_any B a len cap 9 _ HP2.out.src (by omega)).mono ?_
      rintro _ V3 ⟨r3, rfl, ra3, rb3, hS, hO⟩
      have HQ3 := hidS (HP2.out.only hS hO)
      have rc3 : r3 ≤ 8 := by omega
      have ck := blk_cell HQ3.out.loc 7
      simp at ck
      have fk := blk_free HQ3.out.loc 7
      clear hS hO rb3
      go_wp2_with fail
      go_meet
      exact ⟨_, HQ3.out.set_seq _⟩
    case rest =>
      obtain ⟨q, hq⟩ := hcut
      have HQ := hidS hq
      clear hq HP c2
      go_wp2_with fail
      refine (srcOne_any B a len cap 15 _ HQ.out.src (by omega)).mono ?_
      rintro _ W1 ⟨c, rfl, hS, hO⟩
      have HP1 := hidS (HQ.out.only hS hO)
      clear hS hO HQ
      cases c
      · have hl := HP1.out.loc
        have x0 := blk_cell hl 0
        have x1 := blk_cell hl 1
        have x2 := blk_cell hl 2
        have x3 := blk_cell hl 3
        have x4 := blk_cell hl 4
        have x5 := blk_cell hl 5
        have x6 := blk_cell hl 6
        have x7 := blk_cell hl 7
        have x8 := blk_cell hl 8
        have x9 := blk_cell hl 9
        simp at x0 x1 x2 x3 x4 x5 x6 x7 x8 x9
        have kR := blk_cell HP1.out.res
        have fR := blk_free HP1.out.res
        have hgr := hidS HP1.out.grown
        have hsr := hidS HP1.out.src
        have hbd := hidS HP1.out.body
        have hlt9 := HP1.out.lt
        clear hl HP1
        go_wp2_with fail
        refine bodyPost_ret (v := .agg #[.int .i64 q.src, .int .i64 q.dst, .int .i64 q.proto, .int .i64 q.a, .int .i64 q.b, .int .i64 q.kind, .int .i64 q.flags, .int .i64 q.seq, .int .i64 q.ack, .string q.body]) (by simp [results, Try.results108, go_sem, *]) rfl ⟨q, rfl, hbd.out, ?_, ?_⟩
        · refine hsr.out.kept fun k hk => ?_
          iterate 10 (rw [Below.heap_setCell _ _ _ _ (show k ≠ _ by simp; omega)])
        · iterate 10 (refine grown_set _ _ ?_)
          exact hgr.out
      go_wp2_with fail
      refine (srcN_any B a len cap 4 _ HP1.out.src (by omega)).mono ?_
      rintro _ W2 ⟨r, rfl, ra, rb, hS, hO⟩
      have HP2 := hidS (HP1.out.only hS hO)
      have rc : r ≤ 3 := by omega
      clear hS hO rb HP1
      by_cases h0 : r = 0
      · have q0 : (r == 0) = true := beq_iff_eq.2 h0
        clear h0 ra rc
        go_wp2_with fail
        refine (srcWord_g B a len cap _ HP2.out.src).mono ?_
        rintro _ W3 ⟨x, rfl, xa, xb, hS, hg⟩
        have HQ1 := hidS (HP2.out.later hS hg)
        have ck := blk_cell HQ1.out.loc 3
        simp at ck
        have fk := blk_free HQ1.out.loc 3
        clear hS hg HP2
        go_upto_region 24 with fail
        have HP3 := hidS (HQ1.out.set_a x)
        clear ck fk HQ1
        generalize W3.setCell ⟨g, 3, none⟩ (.int .i64 x) = U3 at HP3 ⊢
        generalize ({ q with a := x } : Pk) = q3 at HP3
        have hl := HP3.out.loc
        have x0 := blk_cell hl 0
        have x1 := blk_cell hl 1
        have x2 := blk_cell hl 2
        have x3 := blk_cell hl 3
        have x4 := blk_cell hl 4
        have x5 := blk_cell hl 5
        have x6 := blk_cell hl 6
        have x7 := blk_cell hl 7
        have x8 := blk_cell hl 8
        have x9 := blk_cell hl 9
        simp at x0 x1 x2 x3 x4 x5 x6 x7 x8 x9
        have kR := blk_cell HP3.out.res
        have fR := blk_free HP3.out.res
        have hgr := hidS HP3.out.grown
        have hsr := hidS HP3.out.src
        have hbd := hidS HP3.out.body
        have hlt9 := HP3.out.lt
        clear hl HP3
        go_wp2_with fail
        refine bodyPost_ret (v := .agg #[.int .i64 q3.src, .int .i64 q3.dst, .int .i64 q3.proto, .int .i64 q3.a, .int .i64 q3.b, .int .i64 q3.kind, .int .i64 q3.flags, .int .i64 q3.seq, .int .i64 q3.ack, .string q3.body]) (by simp [results, Try.results108, go_sem, *]) rfl ⟨q3, rfl, hbd.out, ?_, ?_⟩
        · refine hsr.out.kept fun k hk => ?_
          iterate 10 (rw [Below.heap_setCell _ _ _ _ (show k ≠ _ by simp; omega)])
        · iterate 10 (refine grown_set _ _ ?_)
          exact hgr.out
      have q0 : (r == 0) = false := beq_eq_false_iff_ne.2 h0
      by_cases h1 : r = 1
      · have q1 : (r == 1) = true := beq_iff_eq.2 h1
        clear h0 h1 ra rc
        have HA3 := hidS (HP2.out.alloc (.cells #[.int .i64 0, .int .i64 2, .int .i64 6, .int .i64 17] 2))
        have hr0 := hidS (heap_newG W2 (.cells #[.int .i64 0, .int .i64 2, .int .i64 6, .int .i64 17] 2))
        have hwB : B ≠ W2.heap.size := by have := HP2.out.src.lt; omega
        have hwg : g < W2.heap.size := blk_lt HP2.out.loc
        go_wp2_with fail
        refine (srcN_any B a len cap 4 _ HA3.out.src (by omega)).mono ?_
        rintro _ V3 ⟨r3, rfl, ra3, rb3, hS, hO⟩
        have HQ3 := hidS (HA3.out.only hS hO)
        obtain ⟨z3, hz3⟩ : ∃ z : Int, V3.cell? ⟨W2.heap.size, r3.toNat, none⟩ = some (.int .i64 z) := by
          have hh := (hO.block W2.heap.size (fun e => hwB e.symm)).trans hr0.out
          obtain ⟨j, rfl⟩ : ∃ j : Nat, r3 = j := ⟨r3.toNat, by omega⟩
          rw [Int.toNat_natCast, blk_cell hh j]
          rcases (by omega : j = 0 ∨ j = 1 ∨ j = 2 ∨ j = 3) with rfl | rfl | rfl | rfl
          all_goals exact ⟨_, rfl⟩
        have rc3 : r3 < 4 := by omega
        have ck := blk_cell HQ3.out.loc 2
        simp at ck
        have fk := blk_free HQ3.out.loc 2
        clear hS hO rb3 hr0 HA3
        go_upto_region 24 with fail
        have HP3 := hidS (HQ3.out.set_proto z3)
        clear ck fk HQ3
        generalize V3.setCell ⟨g, 2, none⟩ (.int .i64 z3) = U3 at HP3 ⊢
        clear ra3 rc3 hz3 hwB hwg
        generalize ({ q with proto := z3 } : Pk) = q3 at HP3
        have hl := HP3.out.loc
        have x0 := blk_cell hl 0
        have x1 := blk_cell hl 1
        have x2 := blk_cell hl 2
        have x3 := blk_cell hl 3
        have x4 := blk_cell hl 4
        have x5 := blk_cell hl 5
        have x6 := blk_cell hl 6
        have x7 := blk_cell hl 7
        have x8 := blk_cell hl 8
        have x9 := blk_cell hl 9
        simp at x0 x1 x2 x3 x4 x5 x6 x7 x8 x9
        have kR := blk_cell HP3.out.res
        have fR := blk_free HP3.out.res
        have hgr := hidS HP3.out.grown
        have hsr := hidS HP3.out.src
        have hbd := hidS HP3.out.body
        have hlt9 := HP3.out.lt
        clear hl HP3
        go_wp2_with fail
        refine bodyPost_ret (v := .agg #[.int .i64 q3.src, .int .i64 q3.dst, .int .i64 q3.proto, .int .i64 q3.a, .int .i64 q3.b, .int .i64 q3.kind, .int .i64 q3.flags, .int .i64 q3.seq, .int .i64 q3.ack, .string q3.body]) (by simp [results, Try.results108, go_sem, *]) rfl ⟨q3, rfl, hbd.out, ?_, ?_⟩
        · refine hsr.out.kept fun k hk => ?_
          iterate 10 (rw [Below.heap_setCell _ _ _ _ (show k ≠ _ by simp; omega)])
        · iterate 10 (refine grown_set _ _ ?_)
          exact hgr.out
      have q1 : (r == 1) = false := beq_eq_false_iff_ne.2 h1
      by_cases h2 : r = 2
      · have q2 : (r == 2) = true := beq_iff_eq.2 h2
        clear h0 h1 h2 ra rc
        have HA3 := hidS (HP2.out.alloc (.cells #[.int .i64 (-1), .int .i64 63, .int .i64 64] 2))
        have hr0 := hidS (heap_newG W2 (.cells #[.int .i64 (-1), .int .i64 63, .int .i64 64] 2))
        have hwB : B ≠ W2.heap.size := by have := HP2.out.src.lt; omega
        have hwg : g < W2.heap.size := blk_lt HP2.out.loc
        go_wp2_with fail
        refine (srcN_any B a len cap 3 _ HA3.out.src (by omega)).mono ?_
        rintro _ V3 ⟨r3, rfl, ra3, rb3, hS, hO⟩
        have HQ3 := hidS (HA3.out.only hS hO)
        obtain ⟨z3, hz3⟩ : ∃ z : Int, V3.cell? ⟨W2.heap.size, r3.toNat, none⟩ = some (.int .i64 z) := by
          have hh := (hO.block W2.heap.size (fun e => hwB e.symm)).trans hr0.out
          obtain ⟨j, rfl⟩ : ∃ j : Nat, r3 = j := ⟨r3.toNat, by omega⟩
          rw [Int.toNat_natCast, blk_cell hh j]
          rcases (by omega : j = 0 ∨ j = 1 ∨ j = 2) with rfl | rfl | rfl
          all_goals exact ⟨_, rfl⟩
        have rc3 : r3 < 3 := by omega
        have ck := blk_cell HQ3.out.loc 6
        simp at ck
        have fk := blk_free HQ3.out.loc 6
        clear hS hO rb3 hr0 HA3
        go_upto_region 24 with fail
        have HP3 := hidS (HQ3.out.set_flags z3)
        clear ck fk HQ3
        generalize V3.setCell ⟨g, 6, none⟩ (.int .i64 z3) = U3 at HP3 ⊢
        clear ra3 rc3 hz3 hwB hwg
        generalize ({ q with flags := z3 } : Pk) = q3 at HP3
        have hl := HP3.out.loc
        have x0 := blk_cell hl 0
        have x1 := blk_cell hl 1
        have x2 := blk_cell hl 2
        have x3 := blk_cell hl 3
        have x4 := blk_cell hl 4
        have x5 := blk_cell hl 5
        have x6 := blk_cell hl 6
        have x7 := blk_cell hl 7
        have x8 := blk_cell hl 8
        have x9 := blk_cell hl 9
        simp at x0 x1 x2 x3 x4 x5 x6 x7 x8 x9
        have kR := blk_cell HP3.out.res
        have fR := blk_free HP3.out.res
        have hgr := hidS HP3.out.grown
        have hsr := hidS HP3.out.src
        have hbd := hidS HP3.out.body
        have hlt9 := HP3.out.lt
        clear hl HP3
        go_wp2_with fail
        refine bodyPost_ret (v := .agg #[.int .i64 q3.src, .int .i64 q3.dst, .int .i64 q3.proto, .int .i64 q3.a, .int .i64 q3.b, .int .i64 q3.kind, .int .i64 q3.flags, .int .i64 q3.seq, .int .i64 q3.ack, .string q3.body]) (by simp [results, Try.results108, go_sem, *]) rfl ⟨q3, rfl, hbd.out, ?_, ?_⟩
        · refine hsr.out.kept fun k hk => ?_
          iterate 10 (rw [Below.heap_setCell _ _ _ _ (show k ≠ _ by simp; omega)])
        · iterate 10 (refine grown_set _ _ ?_)
          exact hgr.out
      have q2 : (r == 2) = false := beq_eq_false_iff_ne.2 h2
      clear h0 h1 h2 ra rc
      go_wp2_with fail
      refine (srcN_any B a len cap 3 _ HP2.out.src (by omega)).mono ?_
      rintro _ W3 ⟨x, rfl, xa, xb, hS, hO⟩
      have HQ1 := hidS (HP2.out.only hS hO)
      obtain ⟨k, rfl⟩ : ∃ k : Nat, x = k := ⟨x.toNat, by omega⟩
      have hk : k ≤ 2 := by omega
      have hmk := zeros_make k hk
      have hcv := zeros_conv k W3
      have hz : (zerosT k).size ≤ 101 := by rw [zerosT_size]; omega
      have HQ2 := hidS (HQ1.out.alloc (.cells (madeCells #[.int .u8 0] (99 + k)) 5))
      have hwg : g < W3.heap.size := blk_lt HQ1.out.loc
      have ck := blk_cell HQ1.out.loc 9
      simp at ck
      have fk := blk_free HQ1.out.loc 9
      clear hS hO HP2 xa xb
      go_upto_region 24 with fail
      have HP3 := hidS ((HQ1.out.set_body (zerosT k) hz).alloc (.cells (madeCells #[.int .u8 0] (99 + k)) 5))
      clear ck fk HQ1 HQ2 hmk hcv
      generalize (W3.setCell ⟨g, 9, none⟩ (.string (zerosT k))).alloc (.cells (madeCells #[.int .u8 0] (99 + k)) 5) = U3 at HP3 ⊢
      generalize ({ q with body := zerosT k } : Pk) = q3 at HP3
      have hl := HP3.out.loc
      have x0 := blk_cell hl 0
      have x1 := blk_cell hl 1
      have x2 := blk_cell hl 2
      have x3 := blk_cell hl 3
      have x4 := blk_cell hl 4
      have x5 := blk_cell hl 5
      have x6 := blk_cell hl 6
      have x7 := blk_cell hl 7
      have x8 := blk_cell hl 8
      have x9 := blk_cell hl 9
      simp at x0 x1 x2 x3 x4 x5 x6 x7 x8 x9
      have kR := blk_cell HP3.out.res
      have fR := blk_free HP3.out.res
      have hgr := hidS HP3.out.grown
      have hsr := hidS HP3.out.src
      have hbd := hidS HP3.out.body
      have hlt9 := HP3.out.lt
      clear hl HP3
      go_wp2_with fail
      refine bodyPost_ret (v := .agg #[.int .i64 q3.src, .int .i64 q3.dst, .int .i64 q3.proto, .int .i64 q3.a, .int .i64 q3.b, .int .i64 q3.kind, .int .i64 q3.flags, .int .i64 q3.seq, .int .i64 q3.ack, .string q3.body]) (by simp [results, Try.results108, go_sem, *]) rfl ⟨q3, rfl, hbd.out, ?_, ?_⟩
      · refine hsr.out.kept fun k hk => ?_
        iterate 10 (rw [Below.heap_setCell _ _ _ _ (show k ≠ _ by simp; omega)])
      · iterate 10 (refine grown_set _ _ ?_)
        exact hgr.out
end Go.Proofs.Ytilajoafppplcaa
