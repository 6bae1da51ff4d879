/- Proved here: spec.RuleRight answers whether a rule is right; all old memory stays (no conditions). -/
import Derived.Test.YtilajoafppplcaaAll18
import Derived.Test.YtilajoafppplcaaAll11
import Derived.Deep.Cut
import Derived.Deep.CutBlock
import Derived.Deep.DeepCutAuto
namespace Go.Proofs.Ytilajoafppplcaa
open Go.ChangeShapes Go.WideShapes Go.ChangeAt Go.RowKit
set_option linter.unusedVariables false
set_option linter.unusedSimpArgs false
set_option maxRecDepth 100000

set_option maxHeartbeats 8000000 in
theorem specRR_any (r : Rl) (w : World) :
    Calls Try.prog 31 #[.agg #[.int .i64 r.kind, .int .i64 r.proto, .int .i64 r.net, .int .i64 r.bits, .int .i64 r.goal, .int .i64 r.low, .int .i64 r.high]] w fun e w' => e = .returned (.bool (rightR r)) ∧ Below w.heap.size w w' := by
  have hE : Hid (rightR r = (kindB r.kind && protoB r.proto && netB r.net r.bits && addrB r.goal && wordB r.low && wordB r.high && decide (r.low ≤ r.high) && (r.kind == 1 || r.low == r.high))) := rfl
  have hGR0 : Hid ((w.alloc (.cells #[.int .i64 r.kind, .int .i64 r.proto, .int .i64 r.net, .int .i64 r.bits, .int .i64 r.goal, .int .i64 r.low, .int .i64 r.high] 64)).heap[w.heap.size]? = some (.cells #[.int .i64 r.kind, .int .i64 r.proto, .int .i64 r.net, .int .i64 r.bits, .int .i64 r.goal, .int .i64 r.low, .int .i64 r.high] 64)) := by
    show _ = _
    have := heap_newG w (.cells #[.int .i64 r.kind, .int .i64 r.proto, .int .i64 r.net, .int .i64 r.bits, .int .i64 r.goal, .int .i64 r.low, .int .i64 r.high] 64)
    simpa using this
  have hL0 := hidS ((Below.refl w.heap.size w).alloc (Nat.le_refl _) (.cells #[.int .i64 r.kind, .int .i64 r.proto, .int .i64 r.net, .int .i64 r.bits, .int .i64 r.goal, .int .i64 r.low, .int .i64 r.high] 64))
  go_enter Try.func31, Try.ntmps31
  go_upto_region 1 with fail
  generalize (w.alloc (.cells #[.int .i64 r.kind, .int .i64 r.proto, .int .i64 r.net, .int .i64 r.bits, .int .i64 r.goal, .int .i64 r.low, .int .i64 r.high] 64)) = w0 at hGR0 hL0 ⊢
  have HA := hidS (fun W => sameB (l02Addr_any r.net W))
  have HB := hidS (fun W => sameB (l02Is_any r.bits 0 32 W))
  have HT := hidS (fun W => sameB (l02Addr_any r.goal W))
  have HLo := hidS (fun W => sameB (l02Word_any r.low W))
  have HHi := hidS (fun W => sameB (l02Word_any r.high W))
  have cR0 := blk_cell hGR0.out 0
  have cR1 := blk_cell hGR0.out 1
  have cR2 := blk_cell hGR0.out 2
  have cR3 := blk_cell hGR0.out 3
  have cR4 := blk_cell hGR0.out 4
  have cR5 := blk_cell hGR0.out 5
  have cR6 := blk_cell hGR0.out 6
  simp at cR0 cR1 cR2 cR3 cR4 cR5 cR6
  go_cut [0, 30] (fun v0 v30 wx => wx = w0 ∧ v30 = .bool (!(kindB r.kind && protoB r.proto)))
  case first =>
    clear HA HB HT HLo HHi
    go_wp2_with fail
    all_goals
      go_meet
      refine ⟨rfl, congrArg Value.bool ?_⟩
      unfold kindB protoB
      first
      | (simp [bne, *]; done)
      | (cases (r.proto == 0) <;> cases (r.proto == 6) <;> cases (r.proto == 17) <;> cases (r.proto == 1) <;> simp_all [bne]; done)
  case rest =>
    obtain ⟨hwx, h30⟩ := hcut
    rw [hwx, h30]
    clear hwx wc h30
    cases hk : kindB r.kind
    · have E : Hid (rightR r = false) := hE.out.trans (by rw [hk] <;> simp)
      clear hE
      go_wp2_with fail
      go_ret
      exact ⟨by rw [E.out]; rfl, hL0.out⟩
    cases hp : protoB r.proto
    · have E : Hid (rightR r = false) := hE.out.trans (by rw [hk, hp] <;> simp)
      clear hE
      go_wp2_with fail
      go_ret
      exact ⟨by rw [E.out]; rfl, hL0.out⟩
    clear cR0 cR1 cR2 cR3 cR4 cR5 cR6
    have hN : Hid (netB r.net r.bits = (addrB r.net && bitsB r.bits && headN r.net r.bits == r.net)) := rfl
    have eB : Hid ((decide ((0:Int) ≤ r.bits) && decide (r.bits ≤ 32)) = bitsB r.bits) := rfl
    rw [eB.out] at HB
    cases h0 : (addrB r.net)
    · rw [h0] at HA
      go_wp2_with fail
      refine grow_guarded 45 [.is (.pointer (some ⟨w.heap.size, 2, none⟩)), .is (.int .i64 r.net), .is (.bool false), .is (.bool true), .is (.bool true), .is (undef), .is (undef), .is (undef), .is (undef), .is (.bool true), .is (.bool true), .is (undef), .is (undef), .is (undef), .is (undef), .is (undef), .is (undef), .is (undef), .is (undef), .is (.bool true), .is (.bool true), .is (undef), .is (undef), .is (undef), .is (undef), .is (.bool true), .is (.bool true), .is (undef), .is (undef), .is (undef), .is (undef), .is (.bool true), .is (.bool true), .is (undef), .is (undef), .is (undef), .is (undef), .is (.bool true), .is (.bool true), .is (undef), .is (undef), .is (undef), .is (undef), .is (undef), .is (.bool true)] rfl (by kernel_rfl) (by kernel_rfl) ?stepsF0 ?finF0
      case stepsF0 =>
        refine ⟨?_, ?_, ?_, ?_, ?_, ?_, ?_, ?_, ?_, ?_, ?_, ?_, ?_, ?_, ?_, ?_, ?_, ?_, ?_, ?_, ?_, ?_, ?_, ?_, ?_, ?_, ?_, ?_, ?_, ?_, ?_, ?_, ?_, ?_, ?_, ?_, ?_, ?_, ?_, ?_, ?_, ?_, ?_, ?_, ?_, trivial⟩
        · refine stepW_of_u ⟨rfl, fun v W ρ hC kc kf ks ki kd => ?_⟩
          have t1 : ρ (.tmp 1) = .pointer (some ⟨w.heap.size, 0, none⟩) := ki 1 (by decide)
          simp [execOp, go_sem, kc, t1]
          exact ⟨hC, Below.refl _ _, rfl⟩
        · refine stepW_of_u ⟨rfl, fun v W ρ hC kc kf ks ki kd => ?_⟩
          have d0 : v 0 = .pointer (some ⟨w.heap.size, 2, none⟩) := by first | exact kd _ (mem0 rfl) rfl | exact kd _ (mem1 rfl) rfl | exact kd _ (mem2 rfl) rfl | exact kd _ (mem3 rfl) rfl | exact kd _ (mem4 rfl) rfl | exact kd _ (mem5 rfl) rfl
          have t31 : ρ (.tmp 31) = .pointer (some ⟨w.heap.size, 2, none⟩) := (ks 0 31 (by decide) rfl).trans d0
          have hg := blk_later hGR0.out hC
          have c2 := blk_cell hg 2
          simp at c2
          simp [execOp, go_sem, kc, t31, c2]
          exact ⟨hC, Below.refl _ _, rfl⟩
        · refine stepW_of_u ⟨rfl, fun v W ρ hC kc kf ks ki kd => ?_⟩
          have d1 : v 1 = .int .i64 r.net := by first | exact kd _ (mem0 rfl) rfl | exact kd _ (mem1 rfl) rfl | exact kd _ (mem2 rfl) rfl | exact kd _ (mem3 rfl) rfl | exact kd _ (mem4 rfl) rfl | exact kd _ (mem5 rfl) rfl
          have t32 : ρ (.tmp 32) = .int .i64 r.net := (ks 1 32 (by decide) rfl).trans d1
          simp [execOp, go_sem, kc, t32, kf]
          exact Calls.mono (HA.out W) (fun e x h => ⟨_, h.1, hC.trans (h.2.mono hC.size), h.2, rfl⟩)
        · refine stepW_of_u ⟨rfl, fun v W ρ hC kc kf ks ki kd => ?_⟩
          have d2 : v 2 = .bool false := by first | exact kd _ (mem0 rfl) rfl | exact kd _ (mem1 rfl) rfl | exact kd _ (mem2 rfl) rfl | exact kd _ (mem3 rfl) rfl | exact kd _ (mem4 rfl) rfl | exact kd _ (mem5 rfl) rfl
          have t33 : ρ (.tmp 33) = .bool false := (ks 2 33 (by decide) rfl).trans d2
          simp [execOp, go_sem, kc, t33]
          exact ⟨hC, Below.refl _ _, rfl⟩
        · refine stepW_of_u ⟨rfl, fun v W ρ hC kc kf ks ki kd => ?_⟩
          have d3 : v 3 = .bool true := by first | exact kd _ (mem0 rfl) rfl | exact kd _ (mem1 rfl) rfl | exact kd _ (mem2 rfl) rfl | exact kd _ (mem3 rfl) rfl | exact kd _ (mem4 rfl) rfl | exact kd _ (mem5 rfl) rfl
          have t34 : ρ (.tmp 34) = .bool true := (ks 3 34 (by decide) rfl).trans d3
          simp [execOp, go_sem, kc, t34]
          exact ⟨hC, Below.refl _ _, rfl⟩
        · intro v W ρ y hC kc kf ks ki ky ku kd
          have dg : v 4 = .bool true := by first | exact kd _ (mem0 rfl) rfl | exact kd _ (mem1 rfl) rfl | exact kd _ (mem2 rfl) rfl | exact kd _ (mem3 rfl) rfl | exact kd _ (mem4 rfl) rfl | exact kd _ (mem5 rfl) rfl
          have hy := ky 4 35 true (by decide) rfl dg
          rw [if_neg (by simp [Region.wanted, hy])]
          exact ⟨Below.refl _ _, rfl⟩
        · intro v W ρ y hC kc kf ks ki ky ku kd
          have dg : v 4 = .bool true := by first | exact kd _ (mem0 rfl) rfl | exact kd _ (mem1 rfl) rfl | exact kd _ (mem2 rfl) rfl | exact kd _ (mem3 rfl) rfl | exact kd _ (mem4 rfl) rfl | exact kd _ (mem5 rfl) rfl
          have hy := ky 4 35 true (by decide) rfl dg
          rw [if_neg (by simp [Region.wanted, hy])]
          exact ⟨Below.refl _ _, rfl⟩
        · intro v W ρ y hC kc kf ks ki ky ku kd
          have dg : v 4 = .bool true := by first | exact kd _ (mem0 rfl) rfl | exact kd _ (mem1 rfl) rfl | exact kd _ (mem2 rfl) rfl | exact kd _ (mem3 rfl) rfl | exact kd _ (mem4 rfl) rfl | exact kd _ (mem5 rfl) rfl
          have hy := ky 4 35 true (by decide) rfl dg
          rw [if_neg (by simp [Region.wanted, hy])]
          exact ⟨Below.refl _ _, rfl⟩
        · intro v W ρ y hC kc kf ks ki ky ku kd
          have dg : v 4 = .bool true := by first | exact kd _ (mem0 rfl) rfl | exact kd _ (mem1 rfl) rfl | exact kd _ (mem2 rfl) rfl | exact kd _ (mem3 rfl) rfl | exact kd _ (mem4 rfl) rfl | exact kd _ (mem5 rfl) rfl
          have hy := ky 4 35 true (by decide) rfl dg
          rw [if_neg (by simp [Region.wanted, hy])]
          exact ⟨Below.refl _ _, rfl⟩
        · refine stepW_of_u ⟨rfl, fun v W ρ hC kc kf ks ki kd => ?_⟩
          have d4 : v 4 = .bool true := by first | exact kd _ (mem0 rfl) rfl | exact kd _ (mem1 rfl) rfl | exact kd _ (mem2 rfl) rfl | exact kd _ (mem3 rfl) rfl | exact kd _ (mem4 rfl) rfl | exact kd _ (mem5 rfl) rfl
          have t35 : ρ (.tmp 35) = .bool true := (ks 4 35 (by decide) rfl).trans d4
          simp [execOp, go_sem, kc, t35]
          exact ⟨hC, Below.refl _ _, rfl⟩
        · refine stepW_of_u ⟨rfl, fun v W ρ hC kc kf ks ki kd => ?_⟩
          have d9 : v 9 = .bool true := by first | exact kd _ (mem0 rfl) rfl | exact kd _ (mem1 rfl) rfl | exact kd _ (mem2 rfl) rfl | exact kd _ (mem3 rfl) rfl | exact kd _ (mem4 rfl) rfl | exact kd _ (mem5 rfl) rfl
          have t40 : ρ (.tmp 40) = .bool true := (ks 9 40 (by decide) rfl).trans d9
          simp [execOp, go_sem, kc, t40]
          exact ⟨hC, Below.refl _ _, rfl⟩
        · intro v W ρ y hC kc kf ks ki ky ku kd
          have dg : v 10 = .bool true := by first | exact kd _ (mem0 rfl) rfl | exact kd _ (mem1 rfl) rfl | exact kd _ (mem2 rfl) rfl | exact kd _ (mem3 rfl) rfl | exact kd _ (mem4 rfl) rfl | exact kd _ (mem5 rfl) rfl
          have hy := ky 10 41 true (by decide) rfl dg
          rw [if_neg (by simp [Region.wanted, hy])]
          exact ⟨Below.refl _ _, rfl⟩
        · intro v W ρ y hC kc kf ks ki ky ku kd
          have dg : v 10 = .bool true := by first | exact kd _ (mem0 rfl) rfl | exact kd _ (mem1 rfl) rfl | exact kd _ (mem2 rfl) rfl | exact kd _ (mem3 rfl) rfl | exact kd _ (mem4 rfl) rfl | exact kd _ (mem5 rfl) rfl
          have hy := ky 10 41 true (by decide) rfl dg
          rw [if_neg (by simp [Region.wanted, hy])]
          exact ⟨Below.refl _ _, rfl⟩
        · intro v W ρ y hC kc kf ks ki ky ku kd
          have dg : v 10 = .bool true := by first | exact kd _ (mem0 rfl) rfl | exact kd _ (mem1 rfl) rfl | exact kd _ (mem2 rfl) rfl | exact kd _ (mem3 rfl) rfl | exact kd _ (mem4 rfl) rfl | exact kd _ (mem5 rfl) rfl
          have hy := ky 10 41 true (by decide) rfl dg
          rw [if_neg (by simp [Region.wanted, hy])]
          exact ⟨Below.refl _ _, rfl⟩
        · intro v W ρ y hC kc kf ks ki ky ku kd
          have dg : v 10 = .bool true := by first | exact kd _ (mem0 rfl) rfl | exact kd _ (mem1 rfl) rfl | exact kd _ (mem2 rfl) rfl | exact kd _ (mem3 rfl) rfl | exact kd _ (mem4 rfl) rfl | exact kd _ (mem5 rfl) rfl
          have hy := ky 10 41 true (by decide) rfl dg
          rw [if_neg (by simp [Region.wanted, hy])]
          exact ⟨Below.refl _ _, rfl⟩
        · intro v W ρ y hC kc kf ks ki ky ku kd
          have dg : v 10 = .bool true := by first | exact kd _ (mem0 rfl) rfl | exact kd _ (mem1 rfl) rfl | exact kd _ (mem2 rfl) rfl | exact kd _ (mem3 rfl) rfl | exact kd _ (mem4 rfl) rfl | exact kd _ (mem5 rfl) rfl
          have hy := ky 10 41 true (by decide) rfl dg
          rw [if_neg (by simp [Region.wanted, hy])]
          exact ⟨Below.refl _ _, rfl⟩
        · intro v W ρ y hC kc kf ks ki ky ku kd
          have dg : v 10 = .bool true := by first | exact kd _ (mem0 rfl) rfl | exact kd _ (mem1 rfl) rfl | exact kd _ (mem2 rfl) rfl | exact kd _ (mem3 rfl) rfl | exact kd _ (mem4 rfl) rfl | exact kd _ (mem5 rfl) rfl
          have hy := ky 10 41 true (by decide) rfl dg
          rw [if_neg (by simp [Region.wanted, hy])]
          exact ⟨Below.refl _ _, rfl⟩
        · intro v W ρ y hC kc kf ks ki ky ku kd
          have dg : v 10 = .bool true := by first | exact kd _ (mem0 rfl) rfl | exact kd _ (mem1 rfl) rfl | exact kd _ (mem2 rfl) rfl | exact kd _ (mem3 rfl) rfl | exact kd _ (mem4 rfl) rfl | exact kd _ (mem5 rfl) rfl
          have hy := ky 10 41 true (by decide) rfl dg
          rw [if_neg (by simp [Region.wanted, hy])]
          exact ⟨Below.refl _ _, rfl⟩
        · intro v W ρ y hC kc kf ks ki ky ku kd
          have dg : v 10 = .bool true := by first | exact kd _ (mem0 rfl) rfl | exact kd _ (mem1 rfl) rfl | exact kd _ (mem2 rfl) rfl | exact kd _ (mem3 rfl) rfl | exact kd _ (mem4 rfl) rfl | exact kd _ (mem5 rfl) rfl
          have hy := ky 10 41 true (by decide) rfl dg
          rw [if_neg (by simp [Region.wanted, hy])]
          exact ⟨Below.refl _ _, rfl⟩
        · refine stepW_of_u ⟨rfl, fun v W ρ hC kc kf ks ki kd => ?_⟩
          have d10 : v 10 = .bool true := by first | exact kd _ (mem0 rfl) rfl | exact kd _ (mem1 rfl) rfl | exact kd _ (mem2 rfl) rfl | exact kd _ (mem3 rfl) rfl | exact kd _ (mem4 rfl) rfl | exact kd _ (mem5 rfl) rfl
          have t41 : ρ (.tmp 41) = .bool true := (ks 10 41 (by decide) rfl).trans d10
          simp [execOp, go_sem, kc, t41]
          exact ⟨hC, Below.refl _ _, rfl⟩
        · refine stepW_of_u ⟨rfl, fun v W ρ hC kc kf ks ki kd => ?_⟩
          have d19 : v 19 = .bool true := by first | exact kd _ (mem0 rfl) rfl | exact kd _ (mem1 rfl) rfl | exact kd _ (mem2 rfl) rfl | exact kd _ (mem3 rfl) rfl | exact kd _ (mem4 rfl) rfl | exact kd _ (mem5 rfl) rfl
          have t50 : ρ (.tmp 50) = .bool true := (ks 19 50 (by decide) rfl).trans d19
          simp [execOp, go_sem, kc, t50]
          exact ⟨hC, Below.refl _ _, rfl⟩
        · intro v W ρ y hC kc kf ks ki ky ku kd
          have dg : v 20 = .bool true := by first | exact kd _ (mem0 rfl) rfl | exact kd _ (mem1 rfl) rfl | exact kd _ (mem2 rfl) rfl | exact kd _ (mem3 rfl) rfl | exact kd _ (mem4 rfl) rfl | exact kd _ (mem5 rfl) rfl
          have hy := ky 20 51 true (by decide) rfl dg
          rw [if_neg (by simp [Region.wanted, hy])]
          exact ⟨Below.refl _ _, rfl⟩
        · intro v W ρ y hC kc kf ks ki ky ku kd
          have dg : v 20 = .bool true := by first | exact kd _ (mem0 rfl) rfl | exact kd _ (mem1 rfl) rfl | exact kd _ (mem2 rfl) rfl | exact kd _ (mem3 rfl) rfl | exact kd _ (mem4 rfl) rfl | exact kd _ (mem5 rfl) rfl
          have hy := ky 20 51 true (by decide) rfl dg
          rw [if_neg (by simp [Region.wanted, hy])]
          exact ⟨Below.refl _ _, rfl⟩
        · intro v W ρ y hC kc kf ks ki ky ku kd
          have dg : v 20 = .bool true := by first | exact kd _ (mem0 rfl) rfl | exact kd _ (mem1 rfl) rfl | exact kd _ (mem2 rfl) rfl | exact kd _ (mem3 rfl) rfl | exact kd _ (mem4 rfl) rfl | exact kd _ (mem5 rfl) rfl
          have hy := ky 20 51 true (by decide) rfl dg
          rw [if_neg (by simp [Region.wanted, hy])]
          exact ⟨Below.refl _ _, rfl⟩
        · intro v W ρ y hC kc kf ks ki ky ku kd
          have dg : v 20 = .bool true := by first | exact kd _ (mem0 rfl) rfl | exact kd _ (mem1 rfl) rfl | exact kd _ (mem2 rfl) rfl | exact kd _ (mem3 rfl) rfl | exact kd _ (mem4 rfl) rfl | exact kd _ (mem5 rfl) rfl
          have hy := ky 20 51 true (by decide) rfl dg
          rw [if_neg (by simp [Region.wanted, hy])]
          exact ⟨Below.refl _ _, rfl⟩
        · refine stepW_of_u ⟨rfl, fun v W ρ hC kc kf ks ki kd => ?_⟩
          have d20 : v 20 = .bool true := by first | exact kd _ (mem0 rfl) rfl | exact kd _ (mem1 rfl) rfl | exact kd _ (mem2 rfl) rfl | exact kd _ (mem3 rfl) rfl | exact kd _ (mem4 rfl) rfl | exact kd _ (mem5 rfl) rfl
          have t51 : ρ (.tmp 51) = .bool true := (ks 20 51 (by decide) rfl).trans d20
          simp [execOp, go_sem, kc, t51]
          exact ⟨hC, Below.refl _ _, rfl⟩
        · refine stepW_of_u ⟨rfl, fun v W ρ hC kc kf ks ki kd => ?_⟩
          have d25 : v 25 = .bool true := by first | exact kd _ (mem0 rfl) rfl | exact kd _ (mem1 rfl) rfl | exact kd _ (mem2 rfl) rfl | exact kd _ (mem3 rfl) rfl | exact kd _ (mem4 rfl) rfl | exact kd _ (mem5 rfl) rfl
          have t56 : ρ (.tmp 56) = .bool true := (ks 25 56 (by decide) rfl).trans d25
          simp [execOp, go_sem, kc, t56]
          exact ⟨hC, Below.refl _ _, rfl⟩
        · intro v W ρ y hC kc kf ks ki ky ku kd
          have dg : v 26 = .bool true := by first | exact kd _ (mem0 rfl) rfl | exact kd _ (mem1 rfl) rfl | exact kd _ (mem2 rfl) rfl | exact kd _ (mem3 rfl) rfl | exact kd _ (mem4 rfl) rfl | exact kd _ (mem5 rfl) rfl
          have hy := ky 26 57 true (by decide) rfl dg
          rw [if_neg (by simp [Region.wanted, hy])]
          exact ⟨Below.refl _ _, rfl⟩
        · intro v W ρ y hC kc kf ks ki ky ku kd
          have dg : v 26 = .bool true := by first | exact kd _ (mem0 rfl) rfl | exact kd _ (mem1 rfl) rfl | exact kd _ (mem2 rfl) rfl | exact kd _ (mem3 rfl) rfl | exact kd _ (mem4 rfl) rfl | exact kd _ (mem5 rfl) rfl
          have hy := ky 26 57 true (by decide) rfl dg
          rw [if_neg (by simp [Region.wanted, hy])]
          exact ⟨Below.refl _ _, rfl⟩
        · intro v W ρ y hC kc kf ks ki ky ku kd
          have dg : v 26 = .bool true := by first | exact kd _ (mem0 rfl) rfl | exact kd _ (mem1 rfl) rfl | exact kd _ (mem2 rfl) rfl | exact kd _ (mem3 rfl) rfl | exact kd _ (mem4 rfl) rfl | exact kd _ (mem5 rfl) rfl
          have hy := ky 26 57 true (by decide) rfl dg
          rw [if_neg (by simp [Region.wanted, hy])]
          exact ⟨Below.refl _ _, rfl⟩
        · intro v W ρ y hC kc kf ks ki ky ku kd
          have dg : v 26 = .bool true := by first | exact kd _ (mem0 rfl) rfl | exact kd _ (mem1 rfl) rfl | exact kd _ (mem2 rfl) rfl | exact kd _ (mem3 rfl) rfl | exact kd _ (mem4 rfl) rfl | exact kd _ (mem5 rfl) rfl
          have hy := ky 26 57 true (by decide) rfl dg
          rw [if_neg (by simp [Region.wanted, hy])]
          exact ⟨Below.refl _ _, rfl⟩
        · refine stepW_of_u ⟨rfl, fun v W ρ hC kc kf ks ki kd => ?_⟩
          have d26 : v 26 = .bool true := by first | exact kd _ (mem0 rfl) rfl | exact kd _ (mem1 rfl) rfl | exact kd _ (mem2 rfl) rfl | exact kd _ (mem3 rfl) rfl | exact kd _ (mem4 rfl) rfl | exact kd _ (mem5 rfl) rfl
          have t57 : ρ (.tmp 57) = .bool true := (ks 26 57 (by decide) rfl).trans d26
          simp [execOp, go_sem, kc, t57]
          exact ⟨hC, Below.refl _ _, rfl⟩
        · refine stepW_of_u ⟨rfl, fun v W ρ hC kc kf ks ki kd => ?_⟩
          have d31 : v 31 = .bool true := by first | exact kd _ (mem0 rfl) rfl | exact kd _ (mem1 rfl) rfl | exact kd _ (mem2 rfl) rfl | exact kd _ (mem3 rfl) rfl | exact kd _ (mem4 rfl) rfl | exact kd _ (mem5 rfl) rfl
          have t62 : ρ (.tmp 62) = .bool true := (ks 31 62 (by decide) rfl).trans d31
          simp [execOp, go_sem, kc, t62]
          exact ⟨hC, Below.refl _ _, rfl⟩
        · intro v W ρ y hC kc kf ks ki ky ku kd
          have dg : v 32 = .bool true := by first | exact kd _ (mem0 rfl) rfl | exact kd _ (mem1 rfl) rfl | exact kd _ (mem2 rfl) rfl | exact kd _ (mem3 rfl) rfl | exact kd _ (mem4 rfl) rfl | exact kd _ (mem5 rfl) rfl
          have hy := ky 32 63 true (by decide) rfl dg
          rw [if_neg (by simp [Region.wanted, hy])]
          exact ⟨Below.refl _ _, rfl⟩
        · intro v W ρ y hC kc kf ks ki ky ku kd
          have dg : v 32 = .bool true := by first | exact kd _ (mem0 rfl) rfl | exact kd _ (mem1 rfl) rfl | exact kd _ (mem2 rfl) rfl | exact kd _ (mem3 rfl) rfl | exact kd _ (mem4 rfl) rfl | exact kd _ (mem5 rfl) rfl
          have hy := ky 32 63 true (by decide) rfl dg
          rw [if_neg (by simp [Region.wanted, hy])]
          exact ⟨Below.refl _ _, rfl⟩
        · intro v W ρ y hC kc kf ks ki ky ku kd
          have dg : v 32 = .bool true := by first | exact kd _ (mem0 rfl) rfl | exact kd _ (mem1 rfl) rfl | exact kd _ (mem2 rfl) rfl | exact kd _ (mem3 rfl) rfl | exact kd _ (mem4 rfl) rfl | exact kd _ (mem5 rfl) rfl
          have hy := ky 32 63 true (by decide) rfl dg
          rw [if_neg (by simp [Region.wanted, hy])]
          exact ⟨Below.refl _ _, rfl⟩
        · intro v W ρ y hC kc kf ks ki ky ku kd
          have dg : v 32 = .bool true := by first | exact kd _ (mem0 rfl) rfl | exact kd _ (mem1 rfl) rfl | exact kd _ (mem2 rfl) rfl | exact kd _ (mem3 rfl) rfl | exact kd _ (mem4 rfl) rfl | exact kd _ (mem5 rfl) rfl
          have hy := ky 32 63 true (by decide) rfl dg
          rw [if_neg (by simp [Region.wanted, hy])]
          exact ⟨Below.refl _ _, rfl⟩
        · refine stepW_of_u ⟨rfl, fun v W ρ hC kc kf ks ki kd => ?_⟩
          have d32 : v 32 = .bool true := by first | exact kd _ (mem0 rfl) rfl | exact kd _ (mem1 rfl) rfl | exact kd _ (mem2 rfl) rfl | exact kd _ (mem3 rfl) rfl | exact kd _ (mem4 rfl) rfl | exact kd _ (mem5 rfl) rfl
          have t63 : ρ (.tmp 63) = .bool true := (ks 32 63 (by decide) rfl).trans d32
          simp [execOp, go_sem, kc, t63]
          exact ⟨hC, Below.refl _ _, rfl⟩
        · refine stepW_of_u ⟨rfl, fun v W ρ hC kc kf ks ki kd => ?_⟩
          have d37 : v 37 = .bool true := by first | exact kd _ (mem0 rfl) rfl | exact kd _ (mem1 rfl) rfl | exact kd _ (mem2 rfl) rfl | exact kd _ (mem3 rfl) rfl | exact kd _ (mem4 rfl) rfl | exact kd _ (mem5 rfl) rfl
          have t68 : ρ (.tmp 68) = .bool true := (ks 37 68 (by decide) rfl).trans d37
          simp [execOp, go_sem, kc, t68]
          exact ⟨hC, Below.refl _ _, rfl⟩
        · intro v W ρ y hC kc kf ks ki ky ku kd
          have dg : v 38 = .bool true := by first | exact kd _ (mem0 rfl) rfl | exact kd _ (mem1 rfl) rfl | exact kd _ (mem2 rfl) rfl | exact kd _ (mem3 rfl) rfl | exact kd _ (mem4 rfl) rfl | exact kd _ (mem5 rfl) rfl
          have hy := ky 38 69 true (by decide) rfl dg
          rw [if_neg (by simp [Region.wanted, hy])]
          exact ⟨Below.refl _ _, rfl⟩
        · intro v W ρ y hC kc kf ks ki ky ku kd
          have dg : v 38 = .bool true := by first | exact kd _ (mem0 rfl) rfl | exact kd _ (mem1 rfl) rfl | exact kd _ (mem2 rfl) rfl | exact kd _ (mem3 rfl) rfl | exact kd _ (mem4 rfl) rfl | exact kd _ (mem5 rfl) rfl
          have hy := ky 38 69 true (by decide) rfl dg
          rw [if_neg (by simp [Region.wanted, hy])]
          exact ⟨Below.refl _ _, rfl⟩
        · intro v W ρ y hC kc kf ks ki ky ku kd
          have dg : v 38 = .bool true := by first | exact kd _ (mem0 rfl) rfl | exact kd _ (mem1 rfl) rfl | exact kd _ (mem2 rfl) rfl | exact kd _ (mem3 rfl) rfl | exact kd _ (mem4 rfl) rfl | exact kd _ (mem5 rfl) rfl
          have hy := ky 38 69 true (by decide) rfl dg
          rw [if_neg (by simp [Region.wanted, hy])]
          exact ⟨Below.refl _ _, rfl⟩
        · intro v W ρ y hC kc kf ks ki ky ku kd
          have dg : v 38 = .bool true := by first | exact kd _ (mem0 rfl) rfl | exact kd _ (mem1 rfl) rfl | exact kd _ (mem2 rfl) rfl | exact kd _ (mem3 rfl) rfl | exact kd _ (mem4 rfl) rfl | exact kd _ (mem5 rfl) rfl
          have hy := ky 38 69 true (by decide) rfl dg
          rw [if_neg (by simp [Region.wanted, hy])]
          exact ⟨Below.refl _ _, rfl⟩
        · intro v W ρ y hC kc kf ks ki ky ku kd
          have dg : v 38 = .bool true := by first | exact kd _ (mem0 rfl) rfl | exact kd _ (mem1 rfl) rfl | exact kd _ (mem2 rfl) rfl | exact kd _ (mem3 rfl) rfl | exact kd _ (mem4 rfl) rfl | exact kd _ (mem5 rfl) rfl
          have hy := ky 38 69 true (by decide) rfl dg
          rw [if_neg (by simp [Region.wanted, hy])]
          exact ⟨Below.refl _ _, rfl⟩
        · refine stepW_of_u ⟨rfl, fun v W ρ hC kc kf ks ki kd => ?_⟩
          have d38 : v 38 = .bool true := by first | exact kd _ (mem0 rfl) rfl | exact kd _ (mem1 rfl) rfl | exact kd _ (mem2 rfl) rfl | exact kd _ (mem3 rfl) rfl | exact kd _ (mem4 rfl) rfl | exact kd _ (mem5 rfl) rfl
          have t69 : ρ (.tmp 69) = .bool true := (ks 38 69 (by decide) rfl).trans d38
          simp [execOp, go_sem, kc, t69]
          exact ⟨hC, Below.refl _ _, rfl⟩
      intro vF0 WF0 hbF0 hall
      have hvF0 : vF0 44 = .bool true := hall 44 (by decide)
      simp [upto, Act.put]
      rw [hvF0]
      clear hall hvF0
      have hL1 := hidS (hL0.out.trans (hbF0.mono hL0.out.size))
      have E : Hid (rightR r = false) := hE.out.trans (by rw [show netB r.net r.bits = false by rw [hN.out, h0]; rfl] <;> simp)
      clear hE
      go_wp2_with fail
      go_ret
      exact ⟨by rw [E.out]; rfl, hL1.out⟩
    rw [h0] at HA
    cases h1 : (bitsB r.bits)
    · rw [h1] at HB
      go_wp2_with fail
      refine grow_guarded 45 [.is (.pointer (some ⟨w.heap.size, 2, none⟩)), .is (.int .i64 r.net), .is (.bool true), .is (.bool false), .is (.bool false), .is (.pointer (some ⟨w.heap.size, 3, none⟩)), .is (.int .i64 r.bits), .is (.bool false), .is (.bool true), .is (.bool true), .is (.bool true), .is (undef), .is (undef), .is (undef), .is (undef), .is (undef), .is (undef), .is (undef), .is (undef), .is (.bool true), .is (.bool true), .is (undef), .is (undef), .is (undef), .is (undef), .is (.bool true), .is (.bool true), .is (undef), .is (undef), .is (undef), .is (undef), .is (.bool true), .is (.bool true), .is (undef), .is (undef), .is (undef), .is (undef), .is (.bool true), .is (.bool true), .is (undef), .is (undef), .is (undef), .is (undef), .is (undef), .is (.bool true)] rfl (by kernel_rfl) (by kernel_rfl) ?stepsF1 ?finF1
      case stepsF1 =>
        refine ⟨?_, ?_, ?_, ?_, ?_, ?_, ?_, ?_, ?_, ?_, ?_, ?_, ?_, ?_, ?_, ?_, ?_, ?_, ?_, ?_, ?_, ?_, ?_, ?_, ?_, ?_, ?_, ?_, ?_, ?_, ?_, ?_, ?_, ?_, ?_, ?_, ?_, ?_, ?_, ?_, ?_, ?_, ?_, ?_, ?_, trivial⟩
        · refine stepW_of_u ⟨rfl, fun v W ρ hC kc kf ks ki kd => ?_⟩
          have t1 : ρ (.tmp 1) = .pointer (some ⟨w.heap.size, 0, none⟩) := ki 1 (by decide)
          simp [execOp, go_sem, kc, t1]
          exact ⟨hC, Below.refl _ _, rfl⟩
        · refine stepW_of_u ⟨rfl, fun v W ρ hC kc kf ks ki kd => ?_⟩
          have d0 : v 0 = .pointer (some ⟨w.heap.size, 2, none⟩) := by first | exact kd _ (mem0 rfl) rfl | exact kd _ (mem1 rfl) rfl | exact kd _ (mem2 rfl) rfl | exact kd _ (mem3 rfl) rfl | exact kd _ (mem4 rfl) rfl | exact kd _ (mem5 rfl) rfl
          have t31 : ρ (.tmp 31) = .pointer (some ⟨w.heap.size, 2, none⟩) := (ks 0 31 (by decide) rfl).trans d0
          have hg := blk_later hGR0.out hC
          have c2 := blk_cell hg 2
          simp at c2
          simp [execOp, go_sem, kc, t31, c2]
          exact ⟨hC, Below.refl _ _, rfl⟩
        · refine stepW_of_u ⟨rfl, fun v W ρ hC kc kf ks ki kd => ?_⟩
          have d1 : v 1 = .int .i64 r.net := by first | exact kd _ (mem0 rfl) rfl | exact kd _ (mem1 rfl) rfl | exact kd _ (mem2 rfl) rfl | exact kd _ (mem3 rfl) rfl | exact kd _ (mem4 rfl) rfl | exact kd _ (mem5 rfl) rfl
          have t32 : ρ (.tmp 32) = .int .i64 r.net := (ks 1 32 (by decide) rfl).trans d1
          simp [execOp, go_sem, kc, t32, kf]
          exact Calls.mono (HA.out W) (fun e x h => ⟨_, h.1, hC.trans (h.2.mono hC.size), h.2, rfl⟩)
        · refine stepW_of_u ⟨rfl, fun v W ρ hC kc kf ks ki kd => ?_⟩
          have d2 : v 2 = .bool true := by first | exact kd _ (mem0 rfl) rfl | exact kd _ (mem1 rfl) rfl | exact kd _ (mem2 rfl) rfl | exact kd _ (mem3 rfl) rfl | exact kd _ (mem4 rfl) rfl | exact kd _ (mem5 rfl) rfl
          have t33 : ρ (.tmp 33) = .bool true := (ks 2 33 (by decide) rfl).trans d2
          simp [execOp, go_sem, kc, t33]
          exact ⟨hC, Below.refl _ _, rfl⟩
        · refine stepW_of_u ⟨rfl, fun v W ρ hC kc kf ks ki kd => ?_⟩
          have d3 : v 3 = .bool false := by first | exact kd _ (mem0 rfl) rfl | exact kd _ (mem1 rfl) rfl | exact kd _ (mem2 rfl) rfl | exact kd _ (mem3 rfl) rfl | exact kd _ (mem4 rfl) rfl | exact kd _ (mem5 rfl) rfl
          have t34 : ρ (.tmp 34) = .bool false := (ks 3 34 (by decide) rfl).trans d3
          simp [execOp, go_sem, kc, t34]
          exact ⟨hC, Below.refl _ _, rfl⟩
        · intro v W ρ y hC kc kf ks ki ky ku kd
          have dg : v 4 = .bool false := by first | exact kd _ (mem0 rfl) rfl | exact kd _ (mem1 rfl) rfl | exact kd _ (mem2 rfl) rfl | exact kd _ (mem3 rfl) rfl | exact kd _ (mem4 rfl) rfl | exact kd _ (mem5 rfl) rfl
          have hy := ky 4 35 false (by decide) rfl dg
          rw [if_pos (by simp [Region.wanted, hy])]
          have t1 : ρ (.tmp 1) = .pointer (some ⟨w.heap.size, 0, none⟩) := ki 1 (by decide)
          simp [execOp, go_sem, kc, t1]
          exact ⟨hC, Below.refl _ _, rfl⟩
        · intro v W ρ y hC kc kf ks ki ky ku kd
          have dg : v 4 = .bool false := by first | exact kd _ (mem0 rfl) rfl | exact kd _ (mem1 rfl) rfl | exact kd _ (mem2 rfl) rfl | exact kd _ (mem3 rfl) rfl | exact kd _ (mem4 rfl) rfl | exact kd _ (mem5 rfl) rfl
          have hy := ky 4 35 false (by decide) rfl dg
          rw [if_pos (by simp [Region.wanted, hy])]
          have d5 : v 5 = .pointer (some ⟨w.heap.size, 3, none⟩) := by first | exact kd _ (mem0 rfl) rfl | exact kd _ (mem1 rfl) rfl | exact kd _ (mem2 rfl) rfl | exact kd _ (mem3 rfl) rfl | exact kd _ (mem4 rfl) rfl | exact kd _ (mem5 rfl) rfl
          have t36 : ρ (.tmp 36) = .pointer (some ⟨w.heap.size, 3, none⟩) := (ks 5 36 (by decide) rfl).trans d5
          have hg := blk_later hGR0.out hC
          have c3 := blk_cell hg 3
          simp at c3
          simp [execOp, go_sem, kc, t36, c3]
          exact ⟨hC, Below.refl _ _, rfl⟩
        · intro v W ρ y hC kc kf ks ki ky ku kd
          have dg : v 4 = .bool false := by first | exact kd _ (mem0 rfl) rfl | exact kd _ (mem1 rfl) rfl | exact kd _ (mem2 rfl) rfl | exact kd _ (mem3 rfl) rfl | exact kd _ (mem4 rfl) rfl | exact kd _ (mem5 rfl) rfl
          have hy := ky 4 35 false (by decide) rfl dg
          rw [if_pos (by simp [Region.wanted, hy])]
          have d6 : v 6 = .int .i64 r.bits := by first | exact kd _ (mem0 rfl) rfl | exact kd _ (mem1 rfl) rfl | exact kd _ (mem2 rfl) rfl | exact kd _ (mem3 rfl) rfl | exact kd _ (mem4 rfl) rfl | exact kd _ (mem5 rfl) rfl
          have t37 : ρ (.tmp 37) = .int .i64 r.bits := (ks 6 37 (by decide) rfl).trans d6
          simp [execOp, go_sem, kc, t37, kf]
          exact Calls.mono (HB.out W) (fun e x h => ⟨_, h.1, hC.trans (h.2.mono hC.size), h.2, rfl⟩)
        · intro v W ρ y hC kc kf ks ki ky ku kd
          have dg : v 4 = .bool false := by first | exact kd _ (mem0 rfl) rfl | exact kd _ (mem1 rfl) rfl | exact kd _ (mem2 rfl) rfl | exact kd _ (mem3 rfl) rfl | exact kd _ (mem4 rfl) rfl | exact kd _ (mem5 rfl) rfl
          have hy := ky 4 35 false (by decide) rfl dg
          rw [if_pos (by simp [Region.wanted, hy])]
          have d7 : v 7 = .bool false := by first | exact kd _ (mem0 rfl) rfl | exact kd _ (mem1 rfl) rfl | exact kd _ (mem2 rfl) rfl | exact kd _ (mem3 rfl) rfl | exact kd _ (mem4 rfl) rfl | exact kd _ (mem5 rfl) rfl
          have t38 : ρ (.tmp 38) = .bool false := (ks 7 38 (by decide) rfl).trans d7
          simp [execOp, go_sem, kc, t38]
          exact ⟨hC, Below.refl _ _, rfl⟩
        · refine stepW_of_u ⟨rfl, fun v W ρ hC kc kf ks ki kd => ?_⟩
          have d4 : v 4 = .bool false := by first | exact kd _ (mem0 rfl) rfl | exact kd _ (mem1 rfl) rfl | exact kd _ (mem2 rfl) rfl | exact kd _ (mem3 rfl) rfl | exact kd _ (mem4 rfl) rfl | exact kd _ (mem5 rfl) rfl
          have t35 : ρ (.tmp 35) = .bool false := (ks 4 35 (by decide) rfl).trans d4
          have d8 : v 8 = .bool true := by first | exact kd _ (mem0 rfl) rfl | exact kd _ (mem1 rfl) rfl | exact kd _ (mem2 rfl) rfl | exact kd _ (mem3 rfl) rfl | exact kd _ (mem4 rfl) rfl | exact kd _ (mem5 rfl) rfl
          have t39 : ρ (.tmp 39) = .bool true := (ks 8 39 (by decide) rfl).trans d8
          simp [execOp, go_sem, kc, t35, t39]
          exact ⟨hC, Below.refl _ _, rfl⟩
        · refine stepW_of_u ⟨rfl, fun v W ρ hC kc kf ks ki kd => ?_⟩
          have d9 : v 9 = .bool true := by first | exact kd _ (mem0 rfl) rfl | exact kd _ (mem1 rfl) rfl | exact kd _ (mem2 rfl) rfl | exact kd _ (mem3 rfl) rfl | exact kd _ (mem4 rfl) rfl | exact kd _ (mem5 rfl) rfl
          have t40 : ρ (.tmp 40) = .bool true := (ks 9 40 (by decide) rfl).trans d9
          simp [execOp, go_sem, kc, t40]
          exact ⟨hC, Below.refl _ _, rfl⟩
        · intro v W ρ y hC kc kf ks ki ky ku kd
          have dg : v 10 = .bool true := by first | exact kd _ (mem0 rfl) rfl | exact kd _ (mem1 rfl) rfl | exact kd _ (mem2 rfl) rfl | exact kd _ (mem3 rfl) rfl | exact kd _ (mem4 rfl) rfl | exact kd _ (mem5 rfl) rfl
          have hy := ky 10 41 true (by decide) rfl dg
          rw [if_neg (by simp [Region.wanted, hy])]
          exact ⟨Below.refl _ _, rfl⟩
        · intro v W ρ y hC kc kf ks ki ky ku kd
          have dg : v 10 = .bool true := by first | exact kd _ (mem0 rfl) rfl | exact kd _ (mem1 rfl) rfl | exact kd _ (mem2 rfl) rfl | exact kd _ (mem3 rfl) rfl | exact kd _ (mem4 rfl) rfl | exact kd _ (mem5 rfl) rfl
          have hy := ky 10 41 true (by decide) rfl dg
          rw [if_neg (by simp [Region.wanted, hy])]
          exact ⟨Below.refl _ _, rfl⟩
        · intro v W ρ y hC kc kf ks ki ky ku kd
          have dg : v 10 = .bool true := by first | exact kd _ (mem0 rfl) rfl | exact kd _ (mem1 rfl) rfl | exact kd _ (mem2 rfl) rfl | exact kd _ (mem3 rfl) rfl | exact kd _ (mem4 rfl) rfl | exact kd _ (mem5 rfl) rfl
          have hy := ky 10 41 true (by decide) rfl dg
          rw [if_neg (by simp [Region.wanted, hy])]
          exact ⟨Below.refl _ _, rfl⟩
        · intro v W ρ y hC kc kf ks ki ky ku kd
          have dg : v 10 = .bool true := by first | exact kd _ (mem0 rfl) rfl | exact kd _ (mem1 rfl) rfl | exact kd _ (mem2 rfl) rfl | exact kd _ (mem3 rfl) rfl | exact kd _ (mem4 rfl) rfl | exact kd _ (mem5 rfl) rfl
          have hy := ky 10 41 true (by decide) rfl dg
          rw [if_neg (by simp [Region.wanted, hy])]
          exact ⟨Below.refl _ _, rfl⟩
        · intro v W ρ y hC kc kf ks ki ky ku kd
          have dg : v 10 = .bool true := by first | exact kd _ (mem0 rfl) rfl | exact kd _ (mem1 rfl) rfl | exact kd _ (mem2 rfl) rfl | exact kd _ (mem3 rfl) rfl | exact kd _ (mem4 rfl) rfl | exact kd _ (mem5 rfl) rfl
          have hy := ky 10 41 true (by decide) rfl dg
          rw [if_neg (by simp [Region.wanted, hy])]
          exact ⟨Below.refl _ _, rfl⟩
        · intro v W ρ y hC kc kf ks ki ky ku kd
          have dg : v 10 = .bool true := by first | exact kd _ (mem0 rfl) rfl | exact kd _ (mem1 rfl) rfl | exact kd _ (mem2 rfl) rfl | exact kd _ (mem3 rfl) rfl | exact kd _ (mem4 rfl) rfl | exact kd _ (mem5 rfl) rfl
          have hy := ky 10 41 true (by decide) rfl dg
          rw [if_neg (by simp [Region.wanted, hy])]
          exact ⟨Below.refl _ _, rfl⟩
        · intro v W ρ y hC kc kf ks ki ky ku kd
          have dg : v 10 = .bool true := by first | exact kd _ (mem0 rfl) rfl | exact kd _ (mem1 rfl) rfl | exact kd _ (mem2 rfl) rfl | exact kd _ (mem3 rfl) rfl | exact kd _ (mem4 rfl) rfl | exact kd _ (mem5 rfl) rfl
          have hy := ky 10 41 true (by decide) rfl dg
          rw [if_neg (by simp [Region.wanted, hy])]
          exact ⟨Below.refl _ _, rfl⟩
        · intro v W ρ y hC kc kf ks ki ky ku kd
          have dg : v 10 = .bool true := by first | exact kd _ (mem0 rfl) rfl | exact kd _ (mem1 rfl) rfl | exact kd _ (mem2 rfl) rfl | exact kd _ (mem3 rfl) rfl | exact kd _ (mem4 rfl) rfl | exact kd _ (mem5 rfl) rfl
          have hy := ky 10 41 true (by decide) rfl dg
          rw [if_neg (by simp [Region.wanted, hy])]
          exact ⟨Below.refl _ _, rfl⟩
        · refine stepW_of_u ⟨rfl, fun v W ρ hC kc kf ks ki kd => ?_⟩
          have d10 : v 10 = .bool true := by first | exact kd _ (mem0 rfl) rfl | exact kd _ (mem1 rfl) rfl | exact kd _ (mem2 rfl) rfl | exact kd _ (mem3 rfl) rfl | exact kd _ (mem4 rfl) rfl | exact kd _ (mem5 rfl) rfl
          have t41 : ρ (.tmp 41) = .bool true := (ks 10 41 (by decide) rfl).trans d10
          simp [execOp, go_sem, kc, t41]
          exact ⟨hC, Below.refl _ _, rfl⟩
        · refine stepW_of_u ⟨rfl, fun v W ρ hC kc kf ks ki kd => ?_⟩
          have d19 : v 19 = .bool true := by first | exact kd _ (mem0 rfl) rfl | exact kd _ (mem1 rfl) rfl | exact kd _ (mem2 rfl) rfl | exact kd _ (mem3 rfl) rfl | exact kd _ (mem4 rfl) rfl | exact kd _ (mem5 rfl) rfl
          have t50 : ρ (.tmp 50) = .bool true := (ks 19 50 (by decide) rfl).trans d19
          simp [execOp, go_sem, kc, t50]
          exact ⟨hC, Below.refl _ _, rfl⟩
        · intro v W ρ y hC kc kf ks ki ky ku kd
          have dg : v 20 = .bool true := by first | exact kd _ (mem0 rfl) rfl | exact kd _ (mem1 rfl) rfl | exact kd _ (mem2 rfl) rfl | exact kd _ (mem3 rfl) rfl | exact kd _ (mem4 rfl) rfl | exact kd _ (mem5 rfl) rfl
          have hy := ky 20 51 true (by decide) rfl dg
          rw [if_neg (by simp [Region.wanted, hy])]
          exact ⟨Below.refl _ _, rfl⟩
        · intro v W ρ y hC kc kf ks ki ky ku kd
          have dg : v 20 = .bool true := by first | exact kd _ (mem0 rfl) rfl | exact kd _ (mem1 rfl) rfl | exact kd _ (mem2 rfl) rfl | exact kd _ (mem3 rfl) rfl | exact kd _ (mem4 rfl) rfl | exact kd _ (mem5 rfl) rfl
          have hy := ky 20 51 true (by decide) rfl dg
          rw [if_neg (by simp [Region.wanted, hy])]
          exact ⟨Below.refl _ _, rfl⟩
        · intro v W ρ y hC kc kf ks ki ky ku kd
          have dg : v 20 = .bool true := by first | exact kd _ (mem0 rfl) rfl | exact kd _ (mem1 rfl) rfl | exact kd _ (mem2 rfl) rfl | exact kd _ (mem3 rfl) rfl | exact kd _ (mem4 rfl) rfl | exact kd _ (mem5 rfl) rfl
          have hy := ky 20 51 true (by decide) rfl dg
          rw [if_neg (by simp [Region.wanted, hy])]
          exact ⟨Below.refl _ _, rfl⟩
        · intro v W ρ y hC kc kf ks ki ky ku kd
          have dg : v 20 = .bool true := by first | exact kd _ (mem0 rfl) rfl | exact kd _ (mem1 rfl) rfl | exact kd _ (mem2 rfl) rfl | exact kd _ (mem3 rfl) rfl | exact kd _ (mem4 rfl) rfl | exact kd _ (mem5 rfl) rfl
          have hy := ky 20 51 true (by decide) rfl dg
          rw [if_neg (by simp [Region.wanted, hy])]
          exact ⟨Below.refl _ _, rfl⟩
        · refine stepW_of_u ⟨rfl, fun v W ρ hC kc kf ks ki kd => ?_⟩
          have d20 : v 20 = .bool true := by first | exact kd _ (mem0 rfl) rfl | exact kd _ (mem1 rfl) rfl | exact kd _ (mem2 rfl) rfl | exact kd _ (mem3 rfl) rfl | exact kd _ (mem4 rfl) rfl | exact kd _ (mem5 rfl) rfl
          have t51 : ρ (.tmp 51) = .bool true := (ks 20 51 (by decide) rfl).trans d20
          simp [execOp, go_sem, kc, t51]
          exact ⟨hC, Below.refl _ _, rfl⟩
        · refine stepW_of_u ⟨rfl, fun v W ρ hC kc kf ks ki kd => ?_⟩
          have d25 : v 25 = .bool true := by first | exact kd _ (mem0 rfl) rfl | exact kd _ (mem1 rfl) rfl | exact kd _ (mem2 rfl) rfl | exact kd _ (mem3 rfl) rfl | exact kd _ (mem4 rfl) rfl | exact kd _ (mem5 rfl) rfl
          have t56 : ρ (.tmp 56) = .bool true := (ks 25 56 (by decide) rfl).trans d25
          simp [execOp, go_sem, kc, t56]
          exact ⟨hC, Below.refl _ _, rfl⟩
        · intro v W ρ y hC kc kf ks ki ky ku kd
          have dg : v 26 = .bool true := by first | exact kd _ (mem0 rfl) rfl | exact kd _ (mem1 rfl) rfl | exact kd _ (mem2 rfl) rfl | exact kd _ (mem3 rfl) rfl | exact kd _ (mem4 rfl) rfl | exact kd _ (mem5 rfl) rfl
          have hy := ky 26 57 true (by decide) rfl dg
          rw [if_neg (by simp [Region.wanted, hy])]
          exact ⟨Below.refl _ _, rfl⟩
        · intro v W ρ y hC kc kf ks ki ky ku kd
          have dg : v 26 = .bool true := by first | exact kd _ (mem0 rfl) rfl | exact kd _ (mem1 rfl) rfl | exact kd _ (mem2 rfl) rfl | exact kd _ (mem3 rfl) rfl | exact kd _ (mem4 rfl) rfl | exact kd _ (mem5 rfl) rfl
          have hy := ky 26 57 true (by decide) rfl dg
          rw [if_neg (by simp [Region.wanted, hy])]
          exact ⟨Below.refl _ _, rfl⟩
        · intro v W ρ y hC kc kf ks ki ky ku kd
          have dg : v 26 = .bool true := by first | exact kd _ (mem0 rfl) rfl | exact kd _ (mem1 rfl) rfl | exact kd _ (mem2 rfl) rfl | exact kd _ (mem3 rfl) rfl | exact kd _ (mem4 rfl) rfl | exact kd _ (mem5 rfl) rfl
          have hy := ky 26 57 true (by decide) rfl dg
          rw [if_neg (by simp [Region.wanted, hy])]
          exact ⟨Below.refl _ _, rfl⟩
        · intro v W ρ y hC kc kf ks ki ky ku kd
          have dg : v 26 = .bool true := by first | exact kd _ (mem0 rfl) rfl | exact kd _ (mem1 rfl) rfl | exact kd _ (mem2 rfl) rfl | exact kd _ (mem3 rfl) rfl | exact kd _ (mem4 rfl) rfl | exact kd _ (mem5 rfl) rfl
          have hy := ky 26 57 true (by decide) rfl dg
          rw [if_neg (by simp [Region.wanted, hy])]
          exact ⟨Below.refl _ _, rfl⟩
        · refine stepW_of_u ⟨rfl, fun v W ρ hC kc kf ks ki kd => ?_⟩
          have d26 : v 26 = .bool true := by first | exact kd _ (mem0 rfl) rfl | exact kd _ (mem1 rfl) rfl | exact kd _ (mem2 rfl) rfl | exact kd _ (mem3 rfl) rfl | exact kd _ (mem4 rfl) rfl | exact kd _ (mem5 rfl) rfl
          have t57 : ρ (.tmp 57) = .bool true := (ks 26 57 (by decide) rfl).trans d26
          simp [execOp, go_sem, kc, t57]
          exact ⟨hC, Below.refl _ _, rfl⟩
        · refine stepW_of_u ⟨rfl, fun v W ρ hC kc kf ks ki kd => ?_⟩
          have d31 : v 31 = .bool true := by first | exact kd _ (mem0 rfl) rfl | exact kd _ (mem1 rfl) rfl | exact kd _ (mem2 rfl) rfl | exact kd _ (mem3 rfl) rfl | exact kd _ (mem4 rfl) rfl | exact kd _ (mem5 rfl) rfl
          have t62 : ρ (.tmp 62) = .bool true := (ks 31 62 (by decide) rfl).trans d31
          simp [execOp, go_sem, kc, t62]
          exact ⟨hC, Below.refl _ _, rfl⟩
        · intro v W ρ y hC kc kf ks ki ky ku kd
          have dg : v 32 = .bool true := by first | exact kd _ (mem0 rfl) rfl | exact kd _ (mem1 rfl) rfl | exact kd _ (mem2 rfl) rfl | exact kd _ (mem3 rfl) rfl | exact kd _ (mem4 rfl) rfl | exact kd _ (mem5 rfl) rfl
          have hy := ky 32 63 true (by decide) rfl dg
          rw [if_neg (by simp [Region.wanted, hy])]
          exact ⟨Below.refl _ _, rfl⟩
        · intro v W ρ y hC kc kf ks ki ky ku kd
          have dg : v 32 = .bool true := by first | exact kd _ (mem0 rfl) rfl | exact kd _ (mem1 rfl) rfl | exact kd _ (mem2 rfl) rfl | exact kd _ (mem3 rfl) rfl | exact kd _ (mem4 rfl) rfl | exact kd _ (mem5 rfl) rfl
          have hy := ky 32 63 true (by decide) rfl dg
          rw [if_neg (by simp [Region.wanted, hy])]
          exact ⟨Below.refl _ _, rfl⟩
        · intro v W ρ y hC kc kf ks ki ky ku kd
          have dg : v 32 = .bool true := by first | exact kd _ (mem0 rfl) rfl | exact kd _ (mem1 rfl) rfl | exact kd _ (mem2 rfl) rfl | exact kd _ (mem3 rfl) rfl | exact kd _ (mem4 rfl) rfl | exact kd _ (mem5 rfl) rfl
          have hy := ky 32 63 true (by decide) rfl dg
          rw [if_neg (by simp [Region.wanted, hy])]
          exact ⟨Below.refl _ _, rfl⟩
        · intro v W ρ y hC kc kf ks ki ky ku kd
          have dg : v 32 = .bool true := by first | exact kd _ (mem0 rfl) rfl | exact kd _ (mem1 rfl) rfl | exact kd _ (mem2 rfl) rfl | exact kd _ (mem3 rfl) rfl | exact kd _ (mem4 rfl) rfl | exact kd _ (mem5 rfl) rfl
          have hy := ky 32 63 true (by decide) rfl dg
          rw [if_neg (by simp [Region.wanted, hy])]
          exact ⟨Below.refl _ _, rfl⟩
        · refine stepW_of_u ⟨rfl, fun v W ρ hC kc kf ks ki kd => ?_⟩
          have d32 : v 32 = .bool true := by first | exact kd _ (mem0 rfl) rfl | exact kd _ (mem1 rfl) rfl | exact kd _ (mem2 rfl) rfl | exact kd _ (mem3 rfl) rfl | exact kd _ (mem4 rfl) rfl | exact kd _ (mem5 rfl) rfl
          have t63 : ρ (.tmp 63) = .bool true := (ks 32 63 (by decide) rfl).trans d32
          simp [execOp, go_sem, kc, t63]
          exact ⟨hC, Below.refl _ _, rfl⟩
        · refine stepW_of_u ⟨rfl, fun v W ρ hC kc kf ks ki kd => ?_⟩
          have d37 : v 37 = .bool true := by first | exact kd _ (mem0 rfl) rfl | exact kd _ (mem1 rfl) rfl | exact kd _ (mem2 rfl) rfl | exact kd _ (mem3 rfl) rfl | exact kd _ (mem4 rfl) rfl | exact kd _ (mem5 rfl) rfl
          have t68 : ρ (.tmp 68) = .bool true := (ks 37 68 (by decide) rfl).trans d37
          simp [execOp, go_sem, kc, t68]
          exact ⟨hC, Below.refl _ _, rfl⟩
        · intro v W ρ y hC kc kf ks ki ky ku kd
          have dg : v 38 = .bool true := by first | exact kd _ (mem0 rfl) rfl | exact kd _ (mem1 rfl) rfl | exact kd _ (mem2 rfl) rfl | exact kd _ (mem3 rfl) rfl | exact kd _ (mem4 rfl) rfl | exact kd _ (mem5 rfl) rfl
          have hy := ky 38 69 true (by decide) rfl dg
          rw [if_neg (by simp [Region.wanted, hy])]
          exact ⟨Below.refl _ _, rfl⟩
        · intro v W ρ y hC kc kf ks ki ky ku kd
          have dg : v 38 = .bool true := by first | exact kd _ (mem0 rfl) rfl | exact kd _ (mem1 rfl) rfl | exact kd _ (mem2 rfl) rfl | exact kd _ (mem3 rfl) rfl | exact kd _ (mem4 rfl) rfl | exact kd _ (mem5 rfl) rfl
          have hy := ky 38 69 true (by decide) rfl dg
          rw [if_neg (by simp [Region.wanted, hy])]
          exact ⟨Below.refl _ _, rfl⟩
        · intro v W ρ y hC kc kf ks ki ky ku kd
          have dg : v 38 = .bool true := by first | exact kd _ (mem0 rfl) rfl | exact kd _ (mem1 rfl) rfl | exact kd _ (mem2 rfl) rfl | exact kd _ (mem3 rfl) rfl | exact kd _ (mem4 rfl) rfl | exact kd _ (mem5 rfl) rfl
          have hy := ky 38 69 true (by decide) rfl dg
          rw [if_neg (by simp [Region.wanted, hy])]
          exact ⟨Below.refl _ _, rfl⟩
        · intro v W ρ y hC kc kf ks ki ky ku kd
          have dg : v 38 = .bool true := by first | exact kd _ (mem0 rfl) rfl | exact kd _ (mem1 rfl) rfl | exact kd _ (mem2 rfl) rfl | exact kd _ (mem3 rfl) rfl | exact kd _ (mem4 rfl) rfl | exact kd _ (mem5 rfl) rfl
          have hy := ky 38 69 true (by decide) rfl dg
          rw [if_neg (by simp [Region.wanted, hy])]
          exact ⟨Below.refl _ _, rfl⟩
        · intro v W ρ y hC kc kf ks ki ky ku kd
          have dg : v 38 = .bool true := by first | exact kd _ (mem0 rfl) rfl | exact kd _ (mem1 rfl) rfl | exact kd _ (mem2 rfl) rfl | exact kd _ (mem3 rfl) rfl | exact kd _ (mem4 rfl) rfl | exact kd _ (mem5 rfl) rfl
          have hy := ky 38 69 true (by decide) rfl dg
          rw [if_neg (by simp [Region.wanted, hy])]
          exact ⟨Below.refl _ _, rfl⟩
        · refine stepW_of_u ⟨rfl, fun v W ρ hC kc kf ks ki kd => ?_⟩
          have d38 : v 38 = .bool true := by first | exact kd _ (mem0 rfl) rfl | exact kd _ (mem1 rfl) rfl | exact kd _ (mem2 rfl) rfl | exact kd _ (mem3 rfl) rfl | exact kd _ (mem4 rfl) rfl | exact kd _ (mem5 rfl) rfl
          have t69 : ρ (.tmp 69) = .bool true := (ks 38 69 (by decide) rfl).trans d38
          simp [execOp, go_sem, kc, t69]
          exact ⟨hC, Below.refl _ _, rfl⟩
      intro vF1 WF1 hbF1 hall
      have hvF1 : vF1 44 = .bool true := hall 44 (by decide)
      simp [upto, Act.put]
      rw [hvF1]
      clear hall hvF1
      have hL1 := hidS (hL0.out.trans (hbF1.mono hL0.out.size))
      have E : Hid (rightR r = false) := hE.out.trans (by rw [show netB r.net r.bits = false by rw [hN.out, h0, h1]; rfl] <;> simp)
      clear hE
      go_wp2_with fail
      go_ret
      exact ⟨by rw [E.out]; rfl, hL1.out⟩
    rw [h1] at HB
    have HH := hidS (fun W => sameB (l08Head_any r.net r.bits (addr_iff.1 h0).1 (addr_iff.1 h0).2 (bits_iff.1 h1).1 (bits_iff.1 h1).2 W))
    cases h2 : (headN r.net r.bits == r.net)
    · have hh : (headN r.net r.bits != r.net) = true := by unfold bne; rw [h2]; rfl
      go_wp2_with fail
      refine grow_guarded 45 [.is (.pointer (some ⟨w.heap.size, 2, none⟩)), .is (.int .i64 r.net), .is (.bool true), .is (.bool false), .is (.bool false), .is (.pointer (some ⟨w.heap.size, 3, none⟩)), .is (.int .i64 r.bits), .is (.bool true), .is (.bool false), .is (.bool false), .is (.bool false), .is (.pointer (some ⟨w.heap.size, 2, none⟩)), .is (.int .i64 r.net), .is (.pointer (some ⟨w.heap.size, 3, none⟩)), .is (.int .i64 r.bits), .is (.int .i64 (headN r.net r.bits)), .is (.pointer (some ⟨w.heap.size, 2, none⟩)), .is (.int .i64 r.net), .is (.bool true), .is (.bool true), .is (.bool true), .is (undef), .is (undef), .is (undef), .is (undef), .is (.bool true), .is (.bool true), .is (undef), .is (undef), .is (undef), .is (undef), .is (.bool true), .is (.bool true), .is (undef), .is (undef), .is (undef), .is (undef), .is (.bool true), .is (.bool true), .is (undef), .is (undef), .is (undef), .is (undef), .is (undef), .is (.bool true)] rfl (by kernel_rfl) (by kernel_rfl) ?stepsF2 ?finF2
      case stepsF2 =>
        refine ⟨?_, ?_, ?_, ?_, ?_, ?_, ?_, ?_, ?_, ?_, ?_, ?_, ?_, ?_, ?_, ?_, ?_, ?_, ?_, ?_, ?_, ?_, ?_, ?_, ?_, ?_, ?_, ?_, ?_, ?_, ?_, ?_, ?_, ?_, ?_, ?_, ?_, ?_, ?_, ?_, ?_, ?_, ?_, ?_, ?_, trivial⟩
        · refine stepW_of_u ⟨rfl, fun v W ρ hC kc kf ks ki kd => ?_⟩
          have t1 : ρ (.tmp 1) = .pointer (some ⟨w.heap.size, 0, none⟩) := ki 1 (by decide)
          simp [execOp, go_sem, kc, t1]
          exact ⟨hC, Below.refl _ _, rfl⟩
        · refine stepW_of_u ⟨rfl, fun v W ρ hC kc kf ks ki kd => ?_⟩
          have d0 : v 0 = .pointer (some ⟨w.heap.size, 2, none⟩) := by first | exact kd _ (mem0 rfl) rfl | exact kd _ (mem1 rfl) rfl | exact kd _ (mem2 rfl) rfl | exact kd _ (mem3 rfl) rfl | exact kd _ (mem4 rfl) rfl | exact kd _ (mem5 rfl) rfl
          have t31 : ρ (.tmp 31) = .pointer (some ⟨w.heap.size, 2, none⟩) := (ks 0 31 (by decide) rfl).trans d0
          have hg := blk_later hGR0.out hC
          have c2 := blk_cell hg 2
          simp at c2
          simp [execOp, go_sem, kc, t31, c2]
          exact ⟨hC, Below.refl _ _, rfl⟩
        · refine stepW_of_u ⟨rfl, fun v W ρ hC kc kf ks ki kd => ?_⟩
          have d1 : v 1 = .int .i64 r.net := by first | exact kd _ (mem0 rfl) rfl | exact kd _ (mem1 rfl) rfl | exact kd _ (mem2 rfl) rfl | exact kd _ (mem3 rfl) rfl | exact kd _ (mem4 rfl) rfl | exact kd _ (mem5 rfl) rfl
          have t32 : ρ (.tmp 32) = .int .i64 r.net := (ks 1 32 (by decide) rfl).trans d1
          simp [execOp, go_sem, kc, t32, kf]
          exact Calls.mono (HA.out W) (fun e x h => ⟨_, h.1, hC.trans (h.2.mono hC.size), h.2, rfl⟩)
        · refine stepW_of_u ⟨rfl, fun v W ρ hC kc kf ks ki kd => ?_⟩
          have d2 : v 2 = .bool true := by first | exact kd _ (mem0 rfl) rfl | exact kd _ (mem1 rfl) rfl | exact kd _ (mem2 rfl) rfl | exact kd _ (mem3 rfl) rfl | exact kd _ (mem4 rfl) rfl | exact kd _ (mem5 rfl) rfl
          have t33 : ρ (.tmp 33) = .bool true := (ks 2 33 (by decide) rfl).trans d2
          simp [execOp, go_sem, kc, t33]
          exact ⟨hC, Below.refl _ _, rfl⟩
        · refine stepW_of_u ⟨rfl, fun v W ρ hC kc kf ks ki kd => ?_⟩
          have d3 : v 3 = .bool false := by first | exact kd _ (mem0 rfl) rfl | exact kd _ (mem1 rfl) rfl | exact kd _ (mem2 rfl) rfl | exact kd _ (mem3 rfl) rfl | exact kd _ (mem4 rfl) rfl | exact kd _ (mem5 rfl) rfl
          have t34 : ρ (.tmp 34) = .bool false := (ks 3 34 (by decide) rfl).trans d3
          simp [execOp, go_sem, kc, t34]
          exact ⟨hC, Below.refl _ _, rfl⟩
        · intro v W ρ y hC kc kf ks ki ky ku kd
          have dg : v 4 = .bool false := by first | exact kd _ (mem0 rfl) rfl | exact kd _ (mem1 rfl) rfl | exact kd _ (mem2 rfl) rfl | exact kd _ (mem3 rfl) rfl | exact kd _ (mem4 rfl) rfl | exact kd _ (mem5 rfl) rfl
          have hy := ky 4 35 false (by decide) rfl dg
          rw [if_pos (by simp [Region.wanted, hy])]
          have t1 : ρ (.tmp 1) = .pointer (some ⟨w.heap.size, 0, none⟩) := ki 1 (by decide)
          simp [execOp, go_sem, kc, t1]
          exact ⟨hC, Below.refl _ _, rfl⟩
        · intro v W ρ y hC kc kf ks ki ky ku kd
          have dg : v 4 = .bool false := by first | exact kd _ (mem0 rfl) rfl | exact kd _ (mem1 rfl) rfl | exact kd _ (mem2 rfl) rfl | exact kd _ (mem3 rfl) rfl | exact kd _ (mem4 rfl) rfl | exact kd _ (mem5 rfl) rfl
          have hy := ky 4 35 false (by decide) rfl dg
          rw [if_pos (by simp [Region.wanted, hy])]
          have d5 : v 5 = .pointer (some ⟨w.heap.size, 3, none⟩) := by first | exact kd _ (mem0 rfl) rfl | exact kd _ (mem1 rfl) rfl | exact kd _ (mem2 rfl) rfl | exact kd _ (mem3 rfl) rfl | exact kd _ (mem4 rfl) rfl | exact kd _ (mem5 rfl) rfl
          have t36 : ρ (.tmp 36) = .pointer (some ⟨w.heap.size, 3, none⟩) := (ks 5 36 (by decide) rfl).trans d5
          have hg := blk_later hGR0.out hC
          have c3 := blk_cell hg 3
          simp at c3
          simp [execOp, go_sem, kc, t36, c3]
          exact ⟨hC, Below.refl _ _, rfl⟩
        · intro v W ρ y hC kc kf ks ki ky ku kd
          have dg : v 4 = .bool false := by first | exact kd _ (mem0 rfl) rfl | exact kd _ (mem1 rfl) rfl | exact kd _ (mem2 rfl) rfl | exact kd _ (mem3 rfl) rfl | exact kd _ (mem4 rfl) rfl | exact kd _ (mem5 rfl) rfl
          have hy := ky 4 35 false (by decide) rfl dg
          rw [if_pos (by simp [Region.wanted, hy])]
          have d6 : v 6 = .int .i64 r.bits := by first | exact kd _ (mem0 rfl) rfl | exact kd _ (mem1 rfl) rfl | exact kd _ (mem2 rfl) rfl | exact kd _ (mem3 rfl) rfl | exact kd _ (mem4 rfl) rfl | exact kd _ (mem5 rfl) rfl
          have t37 : ρ (.tmp 37) = .int .i64 r.bits := (ks 6 37 (by decide) rfl).trans d6
          simp [execOp, go_sem, kc, t37, kf]
          exact Calls.mono (HB.out W) (fun e x h => ⟨_, h.1, hC.trans (h.2.mono hC.size), h.2, rfl⟩)
        · intro v W ρ y hC kc kf ks ki ky ku kd
          have dg : v 4 = .bool false := by first | exact kd _ (mem0 rfl) rfl | exact kd _ (mem1 rfl) rfl | exact kd _ (mem2 rfl) rfl | exact kd _ (mem3 rfl) rfl | exact kd _ (mem4 rfl) rfl | exact kd _ (mem5 rfl) rfl
          have hy := ky 4 35 false (by decide) rfl dg
          rw [if_pos (by simp [Region.wanted, hy])]
          have d7 : v 7 = .bool true := by first | exact kd _ (mem0 rfl) rfl | exact kd _ (mem1 rfl) rfl | exact kd _ (mem2 rfl) rfl | exact kd _ (mem3 rfl) rfl | exact kd _ (mem4 rfl) rfl | exact kd _ (mem5 rfl) rfl
          have t38 : ρ (.tmp 38) = .bool true := (ks 7 38 (by decide) rfl).trans d7
          simp [execOp, go_sem, kc, t38]
          exact ⟨hC, Below.refl _ _, rfl⟩
        · refine stepW_of_u ⟨rfl, fun v W ρ hC kc kf ks ki kd => ?_⟩
          have d4 : v 4 = .bool false := by first | exact kd _ (mem0 rfl) rfl | exact kd _ (mem1 rfl) rfl | exact kd _ (mem2 rfl) rfl | exact kd _ (mem3 rfl) rfl | exact kd _ (mem4 rfl) rfl | exact kd _ (mem5 rfl) rfl
          have t35 : ρ (.tmp 35) = .bool false := (ks 4 35 (by decide) rfl).trans d4
          have d8 : v 8 = .bool false := by first | exact kd _ (mem0 rfl) rfl | exact kd _ (mem1 rfl) rfl | exact kd _ (mem2 rfl) rfl | exact kd _ (mem3 rfl) rfl | exact kd _ (mem4 rfl) rfl | exact kd _ (mem5 rfl) rfl
          have t39 : ρ (.tmp 39) = .bool false := (ks 8 39 (by decide) rfl).trans d8
          simp [execOp, go_sem, kc, t35, t39]
          exact ⟨hC, Below.refl _ _, rfl⟩
        · refine stepW_of_u ⟨rfl, fun v W ρ hC kc kf ks ki kd => ?_⟩
          have d9 : v 9 = .bool false := by first | exact kd _ (mem0 rfl) rfl | exact kd _ (mem1 rfl) rfl | exact kd _ (mem2 rfl) rfl | exact kd _ (mem3 rfl) rfl | exact kd _ (mem4 rfl) rfl | exact kd _ (mem5 rfl) rfl
          have t40 : ρ (.tmp 40) = .bool false := (ks 9 40 (by decide) rfl).trans d9
          simp [execOp, go_sem, kc, t40]
          exact ⟨hC, Below.refl _ _, rfl⟩
        · intro v W ρ y hC kc kf ks ki ky ku kd
          have dg : v 10 = .bool false := by first | exact kd _ (mem0 rfl) rfl | exact kd _ (mem1 rfl) rfl | exact kd _ (mem2 rfl) rfl | exact kd _ (mem3 rfl) rfl | exact kd _ (mem4 rfl) rfl | exact kd _ (mem5 rfl) rfl
          have hy := ky 10 41 false (by decide) rfl dg
          rw [if_pos (by simp [Region.wanted, hy])]
          have t1 : ρ (.tmp 1) = .pointer (some ⟨w.heap.size, 0, none⟩) := ki 1 (by decide)
          simp [execOp, go_sem, kc, t1]
          exact ⟨hC, Below.refl _ _, rfl⟩
        · intro v W ρ y hC kc kf ks ki ky ku kd
          have dg : v 10 = .bool false := by first | exact kd _ (mem0 rfl) rfl | exact kd _ (mem1 rfl) rfl | exact kd _ (mem2 rfl) rfl | exact kd _ (mem3 rfl) rfl | exact kd _ (mem4 rfl) rfl | exact kd _ (mem5 rfl) rfl
          have hy := ky 10 41 false (by decide) rfl dg
          rw [if_pos (by simp [Region.wanted, hy])]
          have d11 : v 11 = .pointer (some ⟨w.heap.size, 2, none⟩) := by first | exact kd _ (mem0 rfl) rfl | exact kd _ (mem1 rfl) rfl | exact kd _ (mem2 rfl) rfl | exact kd _ (mem3 rfl) rfl | exact kd _ (mem4 rfl) rfl | exact kd _ (mem5 rfl) rfl
          have t42 : ρ (.tmp 42) = .pointer (some ⟨w.heap.size, 2, none⟩) := (ks 11 42 (by decide) rfl).trans d11
          have hg := blk_later hGR0.out hC
          have c2 := blk_cell hg 2
          simp at c2
          simp [execOp, go_sem, kc, t42, c2]
          exact ⟨hC, Below.refl _ _, rfl⟩
        · intro v W ρ y hC kc kf ks ki ky ku kd
          have dg : v 10 = .bool false := by first | exact kd _ (mem0 rfl) rfl | exact kd _ (mem1 rfl) rfl | exact kd _ (mem2 rfl) rfl | exact kd _ (mem3 rfl) rfl | exact kd _ (mem4 rfl) rfl | exact kd _ (mem5 rfl) rfl
          have hy := ky 10 41 false (by decide) rfl dg
          rw [if_pos (by simp [Region.wanted, hy])]
          have t1 : ρ (.tmp 1) = .pointer (some ⟨w.heap.size, 0, none⟩) := ki 1 (by decide)
          simp [execOp, go_sem, kc, t1]
          exact ⟨hC, Below.refl _ _, rfl⟩
        · intro v W ρ y hC kc kf ks ki ky ku kd
          have dg : v 10 = .bool false := by first | exact kd _ (mem0 rfl) rfl | exact kd _ (mem1 rfl) rfl | exact kd _ (mem2 rfl) rfl | exact kd _ (mem3 rfl) rfl | exact kd _ (mem4 rfl) rfl | exact kd _ (mem5 rfl) rfl
          have hy := ky 10 41 false (by decide) rfl dg
          rw [if_pos (by simp [Region.wanted, hy])]
          have d13 : v 13 = .pointer (some ⟨w.heap.size, 3, none⟩) := by first | exact kd _ (mem0 rfl) rfl | exact kd _ (mem1 rfl) rfl | exact kd _ (mem2 rfl) rfl | exact kd _ (mem3 rfl) rfl | exact kd _ (mem4 rfl) rfl | exact kd _ (mem5 rfl) rfl
          have t44 : ρ (.tmp 44) = .pointer (some ⟨w.heap.size, 3, none⟩) := (ks 13 44 (by decide) rfl).trans d13
          have hg := blk_later hGR0.out hC
          have c3 := blk_cell hg 3
          simp at c3
          simp [execOp, go_sem, kc, t44, c3]
          exact ⟨hC, Below.refl _ _, rfl⟩
        · intro v W ρ y hC kc kf ks ki ky ku kd
          have dg : v 10 = .bool false := by first | exact kd _ (mem0 rfl) rfl | exact kd _ (mem1 rfl) rfl | exact kd _ (mem2 rfl) rfl | exact kd _ (mem3 rfl) rfl | exact kd _ (mem4 rfl) rfl | exact kd _ (mem5 rfl) rfl
          have hy := ky 10 41 false (by decide) rfl dg
          rw [if_pos (by simp [Region.wanted, hy])]
          have d12 : v 12 = .int .i64 r.net := by first | exact kd _ (mem0 rfl) rfl | exact kd _ (mem1 rfl) rfl | exact kd _ (mem2 rfl) rfl | exact kd _ (mem3 rfl) rfl | exact kd _ (mem4 rfl) rfl | exact kd _ (mem5 rfl) rfl
          have t43 : ρ (.tmp 43) = .int .i64 r.net := (ks 12 43 (by decide) rfl).trans d12
          have d14 : v 14 = .int .i64 r.bits := by first | exact kd _ (mem0 rfl) rfl | exact kd _ (mem1 rfl) rfl | exact kd _ (mem2 rfl) rfl | exact kd _ (mem3 rfl) rfl | exact kd _ (mem4 rfl) rfl | exact kd _ (mem5 rfl) rfl
          have t45 : ρ (.tmp 45) = .int .i64 r.bits := (ks 14 45 (by decide) rfl).trans d14
          simp [execOp, go_sem, kc, t43, t45, kf]
          exact Calls.mono (HH.out W) (fun e x h => ⟨_, h.1, hC.trans (h.2.mono hC.size), h.2, rfl⟩)
        · intro v W ρ y hC kc kf ks ki ky ku kd
          have dg : v 10 = .bool false := by first | exact kd _ (mem0 rfl) rfl | exact kd _ (mem1 rfl) rfl | exact kd _ (mem2 rfl) rfl | exact kd _ (mem3 rfl) rfl | exact kd _ (mem4 rfl) rfl | exact kd _ (mem5 rfl) rfl
          have hy := ky 10 41 false (by decide) rfl dg
          rw [if_pos (by simp [Region.wanted, hy])]
          have t1 : ρ (.tmp 1) = .pointer (some ⟨w.heap.size, 0, none⟩) := ki 1 (by decide)
          simp [execOp, go_sem, kc, t1]
          exact ⟨hC, Below.refl _ _, rfl⟩
        · intro v W ρ y hC kc kf ks ki ky ku kd
          have dg : v 10 = .bool false := by first | exact kd _ (mem0 rfl) rfl | exact kd _ (mem1 rfl) rfl | exact kd _ (mem2 rfl) rfl | exact kd _ (mem3 rfl) rfl | exact kd _ (mem4 rfl) rfl | exact kd _ (mem5 rfl) rfl
          have hy := ky 10 41 false (by decide) rfl dg
          rw [if_pos (by simp [Region.wanted, hy])]
          have d16 : v 16 = .pointer (some ⟨w.heap.size, 2, none⟩) := by first | exact kd _ (mem0 rfl) rfl | exact kd _ (mem1 rfl) rfl | exact kd _ (mem2 rfl) rfl | exact kd _ (mem3 rfl) rfl | exact kd _ (mem4 rfl) rfl | exact kd _ (mem5 rfl) rfl
          have t47 : ρ (.tmp 47) = .pointer (some ⟨w.heap.size, 2, none⟩) := (ks 16 47 (by decide) rfl).trans d16
          have hg := blk_later hGR0.out hC
          have c2 := blk_cell hg 2
          simp at c2
          simp [execOp, go_sem, kc, t47, c2]
          exact ⟨hC, Below.refl _ _, rfl⟩
        · intro v W ρ y hC kc kf ks ki ky ku kd
          have dg : v 10 = .bool false := by first | exact kd _ (mem0 rfl) rfl | exact kd _ (mem1 rfl) rfl | exact kd _ (mem2 rfl) rfl | exact kd _ (mem3 rfl) rfl | exact kd _ (mem4 rfl) rfl | exact kd _ (mem5 rfl) rfl
          have hy := ky 10 41 false (by decide) rfl dg
          rw [if_pos (by simp [Region.wanted, hy])]
          have d15 : v 15 = .int .i64 (headN r.net r.bits) := by first | exact kd _ (mem0 rfl) rfl | exact kd _ (mem1 rfl) rfl | exact kd _ (mem2 rfl) rfl | exact kd _ (mem3 rfl) rfl | exact kd _ (mem4 rfl) rfl | exact kd _ (mem5 rfl) rfl
          have t46 : ρ (.tmp 46) = .int .i64 (headN r.net r.bits) := (ks 15 46 (by decide) rfl).trans d15
          have d17 : v 17 = .int .i64 r.net := by first | exact kd _ (mem0 rfl) rfl | exact kd _ (mem1 rfl) rfl | exact kd _ (mem2 rfl) rfl | exact kd _ (mem3 rfl) rfl | exact kd _ (mem4 rfl) rfl | exact kd _ (mem5 rfl) rfl
          have t48 : ρ (.tmp 48) = .int .i64 r.net := (ks 17 48 (by decide) rfl).trans d17
          simp [execOp, go_sem, kc, t46, t48, hh]
          exact ⟨hC, Below.refl _ _, rfl⟩
        · refine stepW_of_u ⟨rfl, fun v W ρ hC kc kf ks ki kd => ?_⟩
          have d10 : v 10 = .bool false := by first | exact kd _ (mem0 rfl) rfl | exact kd _ (mem1 rfl) rfl | exact kd _ (mem2 rfl) rfl | exact kd _ (mem3 rfl) rfl | exact kd _ (mem4 rfl) rfl | exact kd _ (mem5 rfl) rfl
          have t41 : ρ (.tmp 41) = .bool false := (ks 10 41 (by decide) rfl).trans d10
          have d18 : v 18 = .bool true := by first | exact kd _ (mem0 rfl) rfl | exact kd _ (mem1 rfl) rfl | exact kd _ (mem2 rfl) rfl | exact kd _ (mem3 rfl) rfl | exact kd _ (mem4 rfl) rfl | exact kd _ (mem5 rfl) rfl
          have t49 : ρ (.tmp 49) = .bool true := (ks 18 49 (by decide) rfl).trans d18
          simp [execOp, go_sem, kc, t41, t49]
          exact ⟨hC, Below.refl _ _, rfl⟩
        · refine stepW_of_u ⟨rfl, fun v W ρ hC kc kf ks ki kd => ?_⟩
          have d19 : v 19 = .bool true := by first | exact kd _ (mem0 rfl) rfl | exact kd _ (mem1 rfl) rfl | exact kd _ (mem2 rfl) rfl | exact kd _ (mem3 rfl) rfl | exact kd _ (mem4 rfl) rfl | exact kd _ (mem5 rfl) rfl
          have t50 : ρ (.tmp 50) = .bool true := (ks 19 50 (by decide) rfl).trans d19
          simp [execOp, go_sem, kc, t50]
          exact ⟨hC, Below.refl _ _, rfl⟩
        · intro v W ρ y hC kc kf ks ki ky ku kd
          have dg : v 20 = .bool true := by first | exact kd _ (mem0 rfl) rfl | exact kd _ (mem1 rfl) rfl | exact kd _ (mem2 rfl) rfl | exact kd _ (mem3 rfl) rfl | exact kd _ (mem4 rfl) rfl | exact kd _ (mem5 rfl) rfl
          have hy := ky 20 51 true (by decide) rfl dg
          rw [if_neg (by simp [Region.wanted, hy])]
          exact ⟨Below.refl _ _, rfl⟩
        · intro v W ρ y hC kc kf ks ki ky ku kd
          have dg : v 20 = .bool true := by first | exact kd _ (mem0 rfl) rfl | exact kd _ (mem1 rfl) rfl | exact kd _ (mem2 rfl) rfl | exact kd _ (mem3 rfl) rfl | exact kd _ (mem4 rfl) rfl | exact kd _ (mem5 rfl) rfl
          have hy := ky 20 51 true (by decide) rfl dg
          rw [if_neg (by simp [Region.wanted, hy])]
          exact ⟨Below.refl _ _, rfl⟩
        · intro v W ρ y hC kc kf ks ki ky ku kd
          have dg : v 20 = .bool true := by first | exact kd _ (mem0 rfl) rfl | exact kd _ (mem1 rfl) rfl | exact kd _ (mem2 rfl) rfl | exact kd _ (mem3 rfl) rfl | exact kd _ (mem4 rfl) rfl | exact kd _ (mem5 rfl) rfl
          have hy := ky 20 51 true (by decide) rfl dg
          rw [if_neg (by simp [Region.wanted, hy])]
          exact ⟨Below.refl _ _, rfl⟩
        · intro v W ρ y hC kc kf ks ki ky ku kd
          have dg : v 20 = .bool true := by first | exact kd _ (mem0 rfl) rfl | exact kd _ (mem1 rfl) rfl | exact kd _ (mem2 rfl) rfl | exact kd _ (mem3 rfl) rfl | exact kd _ (mem4 rfl) rfl | exact kd _ (mem5 rfl) rfl
          have hy := ky 20 51 true (by decide) rfl dg
          rw [if_neg (by simp [Region.wanted, hy])]
          exact ⟨Below.refl _ _, rfl⟩
        · refine stepW_of_u ⟨rfl, fun v W ρ hC kc kf ks ki kd => ?_⟩
          have d20 : v 20 = .bool true := by first | exact kd _ (mem0 rfl) rfl | exact kd _ (mem1 rfl) rfl | exact kd _ (mem2 rfl) rfl | exact kd _ (mem3 rfl) rfl | exact kd _ (mem4 rfl) rfl | exact kd _ (mem5 rfl) rfl
          have t51 : ρ (.tmp 51) = .bool true := (ks 20 51 (by decide) rfl).trans d20
          simp [execOp, go_sem, kc, t51]
          exact ⟨hC, Below.refl _ _, rfl⟩
        · refine stepW_of_u ⟨rfl, fun v W ρ hC kc kf ks ki kd => ?_⟩
          have d25 : v 25 = .bool true := by first | exact kd _ (mem0 rfl) rfl | exact kd _ (mem1 rfl) rfl | exact kd _ (mem2 rfl) rfl | exact kd _ (mem3 rfl) rfl | exact kd _ (mem4 rfl) rfl | exact kd _ (mem5 rfl) rfl
          have t56 : ρ (.tmp 56) = .bool true := (ks 25 56 (by decide) rfl).trans d25
          simp [execOp, go_sem, kc, t56]
          exact ⟨hC, Below.refl _ _, rfl⟩
        · intro v W ρ y hC kc kf ks ki ky ku kd
          have dg : v 26 = .bool true := by first | exact kd _ (mem0 rfl) rfl | exact kd _ (mem1 rfl) rfl | exact kd _ (mem2 rfl) rfl | exact kd _ (mem3 rfl) rfl | exact kd _ (mem4 rfl) rfl | exact kd _ (mem5 rfl) rfl
          have hy := ky 26 57 true (by decide) rfl dg
          rw [if_neg (by simp [Region.wanted, hy])]
          exact ⟨Below.refl _ _, rfl⟩
        · intro v W ρ y hC kc kf ks ki ky ku kd
          have dg : v 26 = .bool true := by first | exact kd _ (mem0 rfl) rfl | exact kd _ (mem1 rfl) rfl | exact kd _ (mem2 rfl) rfl | exact kd _ (mem3 rfl) rfl | exact kd _ (mem4 rfl) rfl | exact kd _ (mem5 rfl) rfl
          have hy := ky 26 57 true (by decide) rfl dg
          rw [if_neg (by simp [Region.wanted, hy])]
          exact ⟨Below.refl _ _, rfl⟩
        · intro v W ρ y hC kc kf ks ki ky ku kd
          have dg : v 26 = .bool true := by first | exact kd _ (mem0 rfl) rfl | exact kd _ (mem1 rfl) rfl | exact kd _ (mem2 rfl) rfl | exact kd _ (mem3 rfl) rfl | exact kd _ (mem4 rfl) rfl | exact kd _ (mem5 rfl) rfl
          have hy := ky 26 57 true (by decide) rfl dg
          rw [if_neg (by simp [Region.wanted, hy])]
          exact ⟨Below.refl _ _, rfl⟩
        · intro v W ρ y hC kc kf ks ki ky ku kd
          have dg : v 26 = .bool true := by first | exact kd _ (mem0 rfl) rfl | exact kd _ (mem1 rfl) rfl | exact kd _ (mem2 rfl) rfl | exact kd _ (mem3 rfl) rfl | exact kd _ (mem4 rfl) rfl | exact kd _ (mem5 rfl) rfl
          have hy := ky 26 57 true (by decide) rfl dg
          rw [if_neg (by simp [Region.wanted, hy])]
          exact ⟨Below.refl _ _, rfl⟩
        · refine stepW_of_u ⟨rfl, fun v W ρ hC kc kf ks ki kd => ?_⟩
          have d26 : v 26 = .bool true := by first | exact kd _ (mem0 rfl) rfl | exact kd _ (mem1 rfl) rfl | exact kd _ (mem2 rfl) rfl | exact kd _ (mem3 rfl) rfl | exact kd _ (mem4 rfl) rfl | exact kd _ (mem5 rfl) rfl
          have t57 : ρ (.tmp 57) = .bool true := (ks 26 57 (by decide) rfl).trans d26
          simp [execOp, go_sem, kc, t57]
          exact ⟨hC, Below.refl _ _, rfl⟩
        · refine stepW_of_u ⟨rfl, fun v W ρ hC kc kf ks ki kd => ?_⟩
          have d31 : v 31 = .bool true := by first | exact kd _ (mem0 rfl) rfl | exact kd _ (mem1 rfl) rfl | exact kd _ (mem2 rfl) rfl | exact kd _ (mem3 rfl) rfl | exact kd _ (mem4 rfl) rfl | exact kd _ (mem5 rfl) rfl
          have t62 : ρ (.tmp 62) = .bool true := (ks 31 62 (by decide) rfl).trans d31
          simp [execOp, go_sem, kc, t62]
          exact ⟨hC, Below.refl _ _, rfl⟩
        · intro v W ρ y hC kc kf ks ki ky ku kd
          have dg : v 32 = .bool true := by first | exact kd _ (mem0 rfl) rfl | exact kd _ (mem1 rfl) rfl | exact kd _ (mem2 rfl) rfl | exact kd _ (mem3 rfl) rfl | exact kd _ (mem4 rfl) rfl | exact kd _ (mem5 rfl) rfl
          have hy := ky 32 63 true (by decide) rfl dg
          rw [if_neg (by simp [Region.wanted, hy])]
          exact ⟨Below.refl _ _, rfl⟩
        · intro v W ρ y hC kc kf ks ki ky ku kd
          have dg : v 32 = .bool true := by first | exact kd _ (mem0 rfl) rfl | exact kd _ (mem1 rfl) rfl | exact kd _ (mem2 rfl) rfl | exact kd _ (mem3 rfl) rfl | exact kd _ (mem4 rfl) rfl | exact kd _ (mem5 rfl) rfl
          have hy := ky 32 63 true (by decide) rfl dg
          rw [if_neg (by simp [Region.wanted, hy])]
          exact ⟨Below.refl _ _, rfl⟩
        · intro v W ρ y hC kc kf ks ki ky ku kd
          have dg : v 32 = .bool true := by first | exact kd _ (mem0 rfl) rfl | exact kd _ (mem1 rfl) rfl | exact kd _ (mem2 rfl) rfl | exact kd _ (mem3 rfl) rfl | exact kd _ (mem4 rfl) rfl | exact kd _ (mem5 rfl) rfl
          have hy := ky 32 63 true (by decide) rfl dg
          rw [if_neg (by simp [Region.wanted, hy])]
          exact ⟨Below.refl _ _, rfl⟩
        · intro v W ρ y hC kc kf ks ki ky ku kd
          have dg : v 32 = .bool true := by first | exact kd _ (mem0 rfl) rfl | exact kd _ (mem1 rfl) rfl | exact kd _ (mem2 rfl) rfl | exact kd _ (mem3 rfl) rfl | exact kd _ (mem4 rfl) rfl | exact kd _ (mem5 rfl) rfl
          have hy := ky 32 63 true (by decide) rfl dg
          rw [if_neg (by simp [Region.wanted, hy])]
          exact ⟨Below.refl _ _, rfl⟩
        · refine stepW_of_u ⟨rfl, fun v W ρ hC kc kf ks ki kd => ?_⟩
          have d32 : v 32 = .bool true := by first | exact kd _ (mem0 rfl) rfl | exact kd _ (mem1 rfl) rfl | exact kd _ (mem2 rfl) rfl | exact kd _ (mem3 rfl) rfl | exact kd _ (mem4 rfl) rfl | exact kd _ (mem5 rfl) rfl
          have t63 : ρ (.tmp 63) = .bool true := (ks 32 63 (by decide) rfl).trans d32
          simp [execOp, go_sem, kc, t63]
          exact ⟨hC, Below.refl _ _, rfl⟩
        · refine stepW_of_u ⟨rfl, fun v W ρ hC kc kf ks ki kd => ?_⟩
          have d37 : v 37 = .bool true := by first | exact kd _ (mem0 rfl) rfl | exact kd _ (mem1 rfl) rfl | exact kd _ (mem2 rfl) rfl | exact kd _ (mem3 rfl) rfl | exact kd _ (mem4 rfl) rfl | exact kd _ (mem5 rfl) rfl
          have t68 : ρ (.tmp 68) = .bool true := (ks 37 68 (by decide) rfl).trans d37
          simp [execOp, go_sem, kc, t68]
          exact ⟨hC, Below.refl _ _, rfl⟩
        · intro v W ρ y hC kc kf ks ki ky ku kd
          have dg : v 38 = .bool true := by first | exact kd _ (mem0 rfl) rfl | exact kd _ (mem1 rfl) rfl | exact kd _ (mem2 rfl) rfl | exact kd _ (mem3 rfl) rfl | exact kd _ (mem4 rfl) rfl | exact kd _ (mem5 rfl) rfl
          have hy := ky 38 69 true (by decide) rfl dg
          rw [if_neg (by simp [Region.wanted, hy])]
          exact ⟨Below.refl _ _, rfl⟩
        · intro v W ρ y hC kc kf ks ki ky ku kd
          have dg : v 38 = .bool true := by first | exact kd _ (mem0 rfl) rfl | exact kd _ (mem1 rfl) rfl | exact kd _ (mem2 rfl) rfl | exact kd _ (mem3 rfl) rfl | exact kd _ (mem4 rfl) rfl | exact kd _ (mem5 rfl) rfl
          have hy := ky 38 69 true (by decide) rfl dg
          rw [if_neg (by simp [Region.wanted, hy])]
          exact ⟨Below.refl _ _, rfl⟩
        · intro v W ρ y hC kc kf ks ki ky ku kd
          have dg : v 38 = .bool true := by first | exact kd _ (mem0 rfl) rfl | exact kd _ (mem1 rfl) rfl | exact kd _ (mem2 rfl) rfl | exact kd _ (mem3 rfl) rfl | exact kd _ (mem4 rfl) rfl | exact kd _ (mem5 rfl) rfl
          have hy := ky 38 69 true (by decide) rfl dg
          rw [if_neg (by simp [Region.wanted, hy])]
          exact ⟨Below.refl _ _, rfl⟩
        · intro v W ρ y hC kc kf ks ki ky ku kd
          have dg : v 38 = .bool true := by first | exact kd _ (mem0 rfl) rfl | exact kd _ (mem1 rfl) rfl | exact kd _ (mem2 rfl) rfl | exact kd _ (mem3 rfl) rfl | exact kd _ (mem4 rfl) rfl | exact kd _ (mem5 rfl) rfl
          have hy := ky 38 69 true (by decide) rfl dg
          rw [if_neg (by simp [Region.wanted, hy])]
          exact ⟨Below.refl _ _, rfl⟩
        · intro v W ρ y hC kc kf ks ki ky ku kd
          have dg : v 38 = .bool true := by first | exact kd _ (mem0 rfl) rfl | exact kd _ (mem1 rfl) rfl | exact kd _ (mem2 rfl) rfl | exact kd _ (mem3 rfl) rfl | exact kd _ (mem4 rfl) rfl | exact kd _ (mem5 rfl) rfl
          have hy := ky 38 69 true (by decide) rfl dg
          rw [if_neg (by simp [Region.wanted, hy])]
          exact ⟨Below.refl _ _, rfl⟩
        · refine stepW_of_u ⟨rfl, fun v W ρ hC kc kf ks ki kd => ?_⟩
          have d38 : v 38 = .bool true := by first | exact kd _ (mem0 rfl) rfl | exact kd _ (mem1 rfl) rfl | exact kd _ (mem2 rfl) rfl | exact kd _ (mem3 rfl) rfl | exact kd _ (mem4 rfl) rfl | exact kd _ (mem5 rfl) rfl
          have t69 : ρ (.tmp 69) = .bool true := (ks 38 69 (by decide) rfl).trans d38
          simp [execOp, go_sem, kc, t69]
          exact ⟨hC, Below.refl _ _, rfl⟩
      intro vF2 WF2 hbF2 hall
      have hvF2 : vF2 44 = .bool true := hall 44 (by decide)
      simp [upto, Act.put]
      rw [hvF2]
      clear hall hvF2
      have hL1 := hidS (hL0.out.trans (hbF2.mono hL0.out.size))
      have E : Hid (rightR r = false) := hE.out.trans (by rw [show netB r.net r.bits = false by rw [hN.out, h0, h1, h2]; rfl] <;> simp)
      clear hE
      go_wp2_with fail
      go_ret
      exact ⟨by rw [E.out]; rfl, hL1.out⟩
    have hh : (headN r.net r.bits != r.net) = false := by unfold bne; rw [h2]; rfl
    cases h3 : (addrB r.goal)
    · rw [h3] at HT
      go_wp2_with fail
      refine grow_guarded 45 [.is (.pointer (some ⟨w.heap.size, 2, none⟩)), .is (.int .i64 r.net), .is (.bool true), .is (.bool false), .is (.bool false), .is (.pointer (some ⟨w.heap.size, 3, none⟩)), .is (.int .i64 r.bits), .is (.bool true), .is (.bool false), .is (.bool false), .is (.bool false), .is (.pointer (some ⟨w.heap.size, 2, none⟩)), .is (.int .i64 r.net), .is (.pointer (some ⟨w.heap.size, 3, none⟩)), .is (.int .i64 r.bits), .is (.int .i64 (headN r.net r.bits)), .is (.pointer (some ⟨w.heap.size, 2, none⟩)), .is (.int .i64 r.net), .is (.bool false), .is (.bool false), .is (.bool false), .is (.pointer (some ⟨w.heap.size, 4, none⟩)), .is (.int .i64 r.goal), .is (.bool false), .is (.bool true), .is (.bool true), .is (.bool true), .is (undef), .is (undef), .is (undef), .is (undef), .is (.bool true), .is (.bool true), .is (undef), .is (undef), .is (undef), .is (undef), .is (.bool true), .is (.bool true), .is (undef), .is (undef), .is (undef), .is (undef), .is (undef), .is (.bool true)] rfl (by kernel_rfl) (by kernel_rfl) ?stepsF3 ?finF3
      case stepsF3 =>
        refine ⟨?_, ?_, ?_, ?_, ?_, ?_, ?_, ?_, ?_, ?_, ?_, ?_, ?_, ?_, ?_, ?_, ?_, ?_, ?_, ?_, ?_, ?_, ?_, ?_, ?_, ?_, ?_, ?_, ?_, ?_, ?_, ?_, ?_, ?_, ?_, ?_, ?_, ?_, ?_, ?_, ?_, ?_, ?_, ?_, ?_, trivial⟩
        · refine stepW_of_u ⟨rfl, fun v W ρ hC kc kf ks ki kd => ?_⟩
          have t1 : ρ (.tmp 1) = .pointer (some ⟨w.heap.size, 0, none⟩) := ki 1 (by decide)
          simp [execOp, go_sem, kc, t1]
          exact ⟨hC, Below.refl _ _, rfl⟩
        · refine stepW_of_u ⟨rfl, fun v W ρ hC kc kf ks ki kd => ?_⟩
          have d0 : v 0 = .pointer (some ⟨w.heap.size, 2, none⟩) := by first | exact kd _ (mem0 rfl) rfl | exact kd _ (mem1 rfl) rfl | exact kd _ (mem2 rfl) rfl | exact kd _ (mem3 rfl) rfl | exact kd _ (mem4 rfl) rfl | exact kd _ (mem5 rfl) rfl
          have t31 : ρ (.tmp 31) = .pointer (some ⟨w.heap.size, 2, none⟩) := (ks 0 31 (by decide) rfl).trans d0
          have hg := blk_later hGR0.out hC
          have c2 := blk_cell hg 2
          simp at c2
          simp [execOp, go_sem, kc, t31, c2]
          exact ⟨hC, Below.refl _ _, rfl⟩
        · refine stepW_of_u ⟨rfl, fun v W ρ hC kc kf ks ki kd => ?_⟩
          have d1 : v 1 = .int .i64 r.net := by first | exact kd _ (mem0 rfl) rfl | exact kd _ (mem1 rfl) rfl | exact kd _ (mem2 rfl) rfl | exact kd _ (mem3 rfl) rfl | exact kd _ (mem4 rfl) rfl | exact kd _ (mem5 rfl) rfl
          have t32 : ρ (.tmp 32) = .int .i64 r.net := (ks 1 32 (by decide) rfl).trans d1
          simp [execOp, go_sem, kc, t32, kf]
          exact Calls.mono (HA.out W) (fun e x h => ⟨_, h.1, hC.trans (h.2.mono hC.size), h.2, rfl⟩)
        · refine stepW_of_u ⟨rfl, fun v W ρ hC kc kf ks ki kd => ?_⟩
          have d2 : v 2 = .bool true := by first | exact kd _ (mem0 rfl) rfl | exact kd _ (mem1 rfl) rfl | exact kd _ (mem2 rfl) rfl | exact kd _ (mem3 rfl) rfl | exact kd _ (mem4 rfl) rfl | exact kd _ (mem5 rfl) rfl
          have t33 : ρ (.tmp 33) = .bool true := (ks 2 33 (by decide) rfl).trans d2
          simp [execOp, go_sem, kc, t33]
          exact ⟨hC, Below.refl _ _, rfl⟩
        · refine stepW_of_u ⟨rfl, fun v W ρ hC kc kf ks ki kd => ?_⟩
          have d3 : v 3 = .bool false := by first | exact kd _ (mem0 rfl) rfl | exact kd _ (mem1 rfl) rfl | exact kd _ (mem2 rfl) rfl | exact kd _ (mem3 rfl) rfl | exact kd _ (mem4 rfl) rfl | exact kd _ (mem5 rfl) rfl
          have t34 : ρ (.tmp 34) = .bool false := (ks 3 34 (by decide) rfl).trans d3
          simp [execOp, go_sem, kc, t34]
          exact ⟨hC, Below.refl _ _, rfl⟩
        · intro v W ρ y hC kc kf ks ki ky ku kd
          have dg : v 4 = .bool false := by first | exact kd _ (mem0 rfl) rfl | exact kd _ (mem1 rfl) rfl | exact kd _ (mem2 rfl) rfl | exact kd _ (mem3 rfl) rfl | exact kd _ (mem4 rfl) rfl | exact kd _ (mem5 rfl) rfl
          have hy := ky 4 35 false (by decide) rfl dg
          rw [if_pos (by simp [Region.wanted, hy])]
          have t1 : ρ (.tmp 1) = .pointer (some ⟨w.heap.size, 0, none⟩) := ki 1 (by decide)
          simp [execOp, go_sem, kc, t1]
          exact ⟨hC, Below.refl _ _, rfl⟩
        · intro v W ρ y hC kc kf ks ki ky ku kd
          have dg : v 4 = .bool false := by first | exact kd _ (mem0 rfl) rfl | exact kd _ (mem1 rfl) rfl | exact kd _ (mem2 rfl) rfl | exact kd _ (mem3 rfl) rfl | exact kd _ (mem4 rfl) rfl | exact kd _ (mem5 rfl) rfl
          have hy := ky 4 35 false (by decide) rfl dg
          rw [if_pos (by simp [Region.wanted, hy])]
          have d5 : v 5 = .pointer (some ⟨w.heap.size, 3, none⟩) := by first | exact kd _ (mem0 rfl) rfl | exact kd _ (mem1 rfl) rfl | exact kd _ (mem2 rfl) rfl | exact kd _ (mem3 rfl) rfl | exact kd _ (mem4 rfl) rfl | exact kd _ (mem5 rfl) rfl
          have t36 : ρ (.tmp 36) = .pointer (some ⟨w.heap.size, 3, none⟩) := (ks 5 36 (by decide) rfl).trans d5
          have hg := blk_later hGR0.out hC
          have c3 := blk_cell hg 3
          simp at c3
          simp [execOp, go_sem, kc, t36, c3]
          exact ⟨hC, Below.refl _ _, rfl⟩
        · intro v W ρ y hC kc kf ks ki ky ku kd
          have dg : v 4 = .bool false := by first | exact kd _ (mem0 rfl) rfl | exact kd _ (mem1 rfl) rfl | exact kd _ (mem2 rfl) rfl | exact kd _ (mem3 rfl) rfl | exact kd _ (mem4 rfl) rfl | exact kd _ (mem5 rfl) rfl
          have hy := ky 4 35 false (by decide) rfl dg
          rw [if_pos (by simp [Region.wanted, hy])]
          have d6 : v 6 = .int .i64 r.bits := by first | exact kd _ (mem0 rfl) rfl | exact kd _ (mem1 rfl) rfl | exact kd _ (mem2 rfl) rfl | exact kd _ (mem3 rfl) rfl | exact kd _ (mem4 rfl) rfl | exact kd _ (mem5 rfl) rfl
          have t37 : ρ (.tmp 37) = .int .i64 r.bits := (ks 6 37 (by decide) rfl).trans d6
          simp [execOp, go_sem, kc, t37, kf]
          exact Calls.mono (HB.out W) (fun e x h => ⟨_, h.1, hC.trans (h.2.mono hC.size), h.2, rfl⟩)
        · intro v W ρ y hC kc kf ks ki ky ku kd
          have dg : v 4 = .bool false := by first | exact kd _ (mem0 rfl) rfl | exact kd _ (mem1 rfl) rfl | exact kd _ (mem2 rfl) rfl | exact kd _ (mem3 rfl) rfl | exact kd _ (mem4 rfl) rfl | exact kd _ (mem5 rfl) rfl
          have hy := ky 4 35 false (by decide) rfl dg
          rw [if_pos (by simp [Region.wanted, hy])]
          have d7 : v 7 = .bool true := by first | exact kd _ (mem0 rfl) rfl | exact kd _ (mem1 rfl) rfl | exact kd _ (mem2 rfl) rfl | exact kd _ (mem3 rfl) rfl | exact kd _ (mem4 rfl) rfl | exact kd _ (mem5 rfl) rfl
          have t38 : ρ (.tmp 38) = .bool true := (ks 7 38 (by decide) rfl).trans d7
          simp [execOp, go_sem, kc, t38]
          exact ⟨hC, Below.refl _ _, rfl⟩
        · refine stepW_of_u ⟨rfl, fun v W ρ hC kc kf ks ki kd => ?_⟩
          have d4 : v 4 = .bool false := by first | exact kd _ (mem0 rfl) rfl | exact kd _ (mem1 rfl) rfl | exact kd _ (mem2 rfl) rfl | exact kd _ (mem3 rfl) rfl | exact kd _ (mem4 rfl) rfl | exact kd _ (mem5 rfl) rfl
          have t35 : ρ (.tmp 35) = .bool false := (ks 4 35 (by decide) rfl).trans d4
          have d8 : v 8 = .bool false := by first | exact kd _ (mem0 rfl) rfl | exact kd _ (mem1 rfl) rfl | exact kd _ (mem2 rfl) rfl | exact kd _ (mem3 rfl) rfl | exact kd _ (mem4 rfl) rfl | exact kd _ (mem5 rfl) rfl
          have t39 : ρ (.tmp 39) = .bool false := (ks 8 39 (by decide) rfl).trans d8
          simp [execOp, go_sem, kc, t35, t39]
          exact ⟨hC, Below.refl _ _, rfl⟩
        · refine stepW_of_u ⟨rfl, fun v W ρ hC kc kf ks ki kd => ?_⟩
          have d9 : v 9 = .bool false := by first | exact kd _ (mem0 rfl) rfl | exact kd _ (mem1 rfl) rfl | exact kd _ (mem2 rfl) rfl | exact kd _ (mem3 rfl) rfl | exact kd _ (mem4 rfl) rfl | exact kd _ (mem5 rfl) rfl
          have t40 : ρ (.tmp 40) = .bool false := (ks 9 40 (by decide) rfl).trans d9
          simp [execOp, go_sem, kc, t40]
          exact ⟨hC, Below.refl _ _, rfl⟩
        · intro v W ρ y hC kc kf ks ki ky ku kd
          have dg : v 10 = .bool false := by first | exact kd _ (mem0 rfl) rfl | exact kd _ (mem1 rfl) rfl | exact kd _ (mem2 rfl) rfl | exact kd _ (mem3 rfl) rfl | exact kd _ (mem4 rfl) rfl | exact kd _ (mem5 rfl) rfl
          have hy := ky 10 41 false (by decide) rfl dg
          rw [if_pos (by simp [Region.wanted, hy])]
          have t1 : ρ (.tmp 1) = .pointer (some ⟨w.heap.size, 0, none⟩) := ki 1 (by decide)
          simp [execOp, go_sem, kc, t1]
          exact ⟨hC, Below.refl _ _, rfl⟩
        · intro v W ρ y hC kc kf ks ki ky ku kd
          have dg : v 10 = .bool false := by first | exact kd _ (mem0 rfl) rfl | exact kd _ (mem1 rfl) rfl | exact kd _ (mem2 rfl) rfl | exact kd _ (mem3 rfl) rfl | exact kd _ (mem4 rfl) rfl | exact kd _ (mem5 rfl) rfl
          have hy := ky 10 41 false (by decide) rfl dg
          rw [if_pos (by simp [Region.wanted, hy])]
          have d11 : v 11 = .pointer (some ⟨w.heap.size, 2, none⟩) := by first | exact kd _ (mem0 rfl) rfl | exact kd _ (mem1 rfl) rfl | exact kd _ (mem2 rfl) rfl | exact kd _ (mem3 rfl) rfl | exact kd _ (mem4 rfl) rfl | exact kd _ (mem5 rfl) rfl
          have t42 : ρ (.tmp 42) = .pointer (some ⟨w.heap.size, 2, none⟩) := (ks 11 42 (by decide) rfl).trans d11
          have hg := blk_later hGR0.out hC
          have c2 := blk_cell hg 2
          simp at c2
          simp [execOp, go_sem, kc, t42, c2]
          exact ⟨hC, Below.refl _ _, rfl⟩
        · intro v W ρ y hC kc kf ks ki ky ku kd
          have dg : v 10 = .bool false := by first | exact kd _ (mem0 rfl) rfl | exact kd _ (mem1 rfl) rfl | exact kd _ (mem2 rfl) rfl | exact kd _ (mem3 rfl) rfl | exact kd _ (mem4 rfl) rfl | exact kd _ (mem5 rfl) rfl
          have hy := ky 10 41 false (by decide) rfl dg
          rw [if_pos (by simp [Region.wanted, hy])]
          have t1 : ρ (.tmp 1) = .pointer (some ⟨w.heap.size, 0, none⟩) := ki 1 (by decide)
          simp [execOp, go_sem, kc, t1]
          exact ⟨hC, Below.refl _ _, rfl⟩
        · intro v W ρ y hC kc kf ks ki ky ku kd
          have dg : v 10 = .bool false := by first | exact kd _ (mem0 rfl) rfl | exact kd _ (mem1 rfl) rfl | exact kd _ (mem2 rfl) rfl | exact kd _ (mem3 rfl) rfl | exact kd _ (mem4 rfl) rfl | exact kd _ (mem5 rfl) rfl
          have hy := ky 10 41 false (by decide) rfl dg
          rw [if_pos (by simp [Region.wanted, hy])]
          have d13 : v 13 = .pointer (some ⟨w.heap.size, 3, none⟩) := by first | exact kd _ (mem0 rfl) rfl | exact kd _ (mem1 rfl) rfl | exact kd _ (mem2 rfl) rfl | exact kd _ (mem3 rfl) rfl | exact kd _ (mem4 rfl) rfl | exact kd _ (mem5 rfl) rfl
          have t44 : ρ (.tmp 44) = .pointer (some ⟨w.heap.size, 3, none⟩) := (ks 13 44 (by decide) rfl).trans d13
          have hg := blk_later hGR0.out hC
          have c3 := blk_cell hg 3
          simp at c3
          simp [execOp, go_sem, kc, t44, c3]
          exact ⟨hC, Below.refl _ _, rfl⟩
        · intro v W ρ y hC kc kf ks ki ky ku kd
          have dg : v 10 = .bool false := by first | exact kd _ (mem0 rfl) rfl | exact kd _ (mem1 rfl) rfl | exact kd _ (mem2 rfl) rfl | exact kd _ (mem3 rfl) rfl | exact kd _ (mem4 rfl) rfl | exact kd _ (mem5 rfl) rfl
          have hy := ky 10 41 false (by decide) rfl dg
          rw [if_pos (by simp [Region.wanted, hy])]
          have d12 : v 12 = .int .i64 r.net := by first | exact kd _ (mem0 rfl) rfl | exact kd _ (mem1 rfl) rfl | exact kd _ (mem2 rfl) rfl | exact kd _ (mem3 rfl) rfl | exact kd _ (mem4 rfl) rfl | exact kd _ (mem5 rfl) rfl
          have t43 : ρ (.tmp 43) = .int .i64 r.net := (ks 12 43 (by decide) rfl).trans d12
          have d14 : v 14 = .int .i64 r.bits := by first | exact kd _ (mem0 rfl) rfl | exact kd _ (mem1 rfl) rfl | exact kd _ (mem2 rfl) rfl | exact kd _ (mem3 rfl) rfl | exact kd _ (mem4 rfl) rfl | exact kd _ (mem5 rfl) rfl
          have t45 : ρ (.tmp 45) = .int .i64 r.bits := (ks 14 45 (by decide) rfl).trans d14
          simp [execOp, go_sem, kc, t43, t45, kf]
          exact Calls.mono (HH.out W) (fun e x h => ⟨_, h.1, hC.trans (h.2.mono hC.size), h.2, rfl⟩)
        · intro v W ρ y hC kc kf ks ki ky ku kd
          have dg : v 10 = .bool false := by first | exact kd _ (mem0 rfl) rfl | exact kd _ (mem1 rfl) rfl | exact kd _ (mem2 rfl) rfl | exact kd _ (mem3 rfl) rfl | exact kd _ (mem4 rfl) rfl | exact kd _ (mem5 rfl) rfl
          have hy := ky 10 41 false (by decide) rfl dg
          rw [if_pos (by simp [Region.wanted, hy])]
          have t1 : ρ (.tmp 1) = .pointer (some ⟨w.heap.size, 0, none⟩) := ki 1 (by decide)
          simp [execOp, go_sem, kc, t1]
          exact ⟨hC, Below.refl _ _, rfl⟩
        · intro v W ρ y hC kc kf ks ki ky ku kd
          have dg : v 10 = .bool false := by first | exact kd _ (mem0 rfl) rfl | exact kd _ (mem1 rfl) rfl | exact kd _ (mem2 rfl) rfl | exact kd _ (mem3 rfl) rfl | exact kd _ (mem4 rfl) rfl | exact kd _ (mem5 rfl) rfl
          have hy := ky 10 41 false (by decide) rfl dg
          rw [if_pos (by simp [Region.wanted, hy])]
          have d16 : v 16 = .pointer (some ⟨w.heap.size, 2, none⟩) := by first | exact kd _ (mem0 rfl) rfl | exact kd _ (mem1 rfl) rfl | exact kd _ (mem2 rfl) rfl | exact kd _ (mem3 rfl) rfl | exact kd _ (mem4 rfl) rfl | exact kd _ (mem5 rfl) rfl
          have t47 : ρ (.tmp 47) = .pointer (some ⟨w.heap.size, 2, none⟩) := (ks 16 47 (by decide) rfl).trans d16
          have hg := blk_later hGR0.out hC
          have c2 := blk_cell hg 2
          simp at c2
          simp [execOp, go_sem, kc, t47, c2]
          exact ⟨hC, Below.refl _ _, rfl⟩
        · intro v W ρ y hC kc kf ks ki ky ku kd
          have dg : v 10 = .bool false := by first | exact kd _ (mem0 rfl) rfl | exact kd _ (mem1 rfl) rfl | exact kd _ (mem2 rfl) rfl | exact kd _ (mem3 rfl) rfl | exact kd _ (mem4 rfl) rfl | exact kd _ (mem5 rfl) rfl
          have hy := ky 10 41 false (by decide) rfl dg
          rw [if_pos (by simp [Region.wanted, hy])]
          have d15 : v 15 = .int .i64 (headN r.net r.bits) := by first | exact kd _ (mem0 rfl) rfl | exact kd _ (mem1 rfl) rfl | exact kd _ (mem2 rfl) rfl | exact kd _ (mem3 rfl) rfl | exact kd _ (mem4 rfl) rfl | exact kd _ (mem5 rfl) rfl
          have t46 : ρ (.tmp 46) = .int .i64 (headN r.net r.bits) := (ks 15 46 (by decide) rfl).trans d15
          have d17 : v 17 = .int .i64 r.net := by first | exact kd _ (mem0 rfl) rfl | exact kd _ (mem1 rfl) rfl | exact kd _ (mem2 rfl) rfl | exact kd _ (mem3 rfl) rfl | exact kd _ (mem4 rfl) rfl | exact kd _ (mem5 rfl) rfl
          have t48 : ρ (.tmp 48) = .int .i64 r.net := (ks 17 48 (by decide) rfl).trans d17
          simp [execOp, go_sem, kc, t46, t48, hh]
          exact ⟨hC, Below.refl _ _, rfl⟩
        · refine stepW_of_u ⟨rfl, fun v W ρ hC kc kf ks ki kd => ?_⟩
          have d10 : v 10 = .bool false := by first | exact kd _ (mem0 rfl) rfl | exact kd _ (mem1 rfl) rfl | exact kd _ (mem2 rfl) rfl | exact kd _ (mem3 rfl) rfl | exact kd _ (mem4 rfl) rfl | exact kd _ (mem5 rfl) rfl
          have t41 : ρ (.tmp 41) = .bool false := (ks 10 41 (by decide) rfl).trans d10
          have d18 : v 18 = .bool false := by first | exact kd _ (mem0 rfl) rfl | exact kd _ (mem1 rfl) rfl | exact kd _ (mem2 rfl) rfl | exact kd _ (mem3 rfl) rfl | exact kd _ (mem4 rfl) rfl | exact kd _ (mem5 rfl) rfl
          have t49 : ρ (.tmp 49) = .bool false := (ks 18 49 (by decide) rfl).trans d18
          simp [execOp, go_sem, kc, t41, t49]
          exact ⟨hC, Below.refl _ _, rfl⟩
        · refine stepW_of_u ⟨rfl, fun v W ρ hC kc kf ks ki kd => ?_⟩
          have d19 : v 19 = .bool false := by first | exact kd _ (mem0 rfl) rfl | exact kd _ (mem1 rfl) rfl | exact kd _ (mem2 rfl) rfl | exact kd _ (mem3 rfl) rfl | exact kd _ (mem4 rfl) rfl | exact kd _ (mem5 rfl) rfl
          have t50 : ρ (.tmp 50) = .bool false := (ks 19 50 (by decide) rfl).trans d19
          simp [execOp, go_sem, kc, t50]
          exact ⟨hC, Below.refl _ _, rfl⟩
        · intro v W ρ y hC kc kf ks ki ky ku kd
          have dg : v 20 = .bool false := by first | exact kd _ (mem0 rfl) rfl | exact kd _ (mem1 rfl) rfl | exact kd _ (mem2 rfl) rfl | exact kd _ (mem3 rfl) rfl | exact kd _ (mem4 rfl) rfl | exact kd _ (mem5 rfl) rfl
          have hy := ky 20 51 false (by decide) rfl dg
          rw [if_pos (by simp [Region.wanted, hy])]
          have t1 : ρ (.tmp 1) = .pointer (some ⟨w.heap.size, 0, none⟩) := ki 1 (by decide)
          simp [execOp, go_sem, kc, t1]
          exact ⟨hC, Below.refl _ _, rfl⟩
        · intro v W ρ y hC kc kf ks ki ky ku kd
          have dg : v 20 = .bool false := by first | exact kd _ (mem0 rfl) rfl | exact kd _ (mem1 rfl) rfl | exact kd _ (mem2 rfl) rfl | exact kd _ (mem3 rfl) rfl | exact kd _ (mem4 rfl) rfl | exact kd _ (mem5 rfl) rfl
          have hy := ky 20 51 false (by decide) rfl dg
          rw [if_pos (by simp [Region.wanted, hy])]
          have d21 : v 21 = .pointer (some ⟨w.heap.size, 4, none⟩) := by first | exact kd _ (mem0 rfl) rfl | exact kd _ (mem1 rfl) rfl | exact kd _ (mem2 rfl) rfl | exact kd _ (mem3 rfl) rfl | exact kd _ (mem4 rfl) rfl | exact kd _ (mem5 rfl) rfl
          have t52 : ρ (.tmp 52) = .pointer (some ⟨w.heap.size, 4, none⟩) := (ks 21 52 (by decide) rfl).trans d21
          have hg := blk_later hGR0.out hC
          have c4 := blk_cell hg 4
          simp at c4
          simp [execOp, go_sem, kc, t52, c4]
          exact ⟨hC, Below.refl _ _, rfl⟩
        · intro v W ρ y hC kc kf ks ki ky ku kd
          have dg : v 20 = .bool false := by first | exact kd _ (mem0 rfl) rfl | exact kd _ (mem1 rfl) rfl | exact kd _ (mem2 rfl) rfl | exact kd _ (mem3 rfl) rfl | exact kd _ (mem4 rfl) rfl | exact kd _ (mem5 rfl) rfl
          have hy := ky 20 51 false (by decide) rfl dg
          rw [if_pos (by simp [Region.wanted, hy])]
          have d22 : v 22 = .int .i64 r.goal := by first | exact kd _ (mem0 rfl) rfl | exact kd _ (mem1 rfl) rfl | exact kd _ (mem2 rfl) rfl | exact kd _ (mem3 rfl) rfl | exact kd _ (mem4 rfl) rfl | exact kd _ (mem5 rfl) rfl
          have t53 : ρ (.tmp 53) = .int .i64 r.goal := (ks 22 53 (by decide) rfl).trans d22
          simp [execOp, go_sem, kc, t53, kf]
          exact Calls.mono (HT.out W) (fun e x h => ⟨_, h.1, hC.trans (h.2.mono hC.size), h.2, rfl⟩)
        · intro v W ρ y hC kc kf ks ki ky ku kd
          have dg : v 20 = .bool false := by first | exact kd _ (mem0 rfl) rfl | exact kd _ (mem1 rfl) rfl | exact kd _ (mem2 rfl) rfl | exact kd _ (mem3 rfl) rfl | exact kd _ (mem4 rfl) rfl | exact kd _ (mem5 rfl) rfl
          have hy := ky 20 51 false (by decide) rfl dg
          rw [if_pos (by simp [Region.wanted, hy])]
          have d23 : v 23 = .bool false := by first | exact kd _ (mem0 rfl) rfl | exact kd _ (mem1 rfl) rfl | exact kd _ (mem2 rfl) rfl | exact kd _ (mem3 rfl) rfl | exact kd _ (mem4 rfl) rfl | exact kd _ (mem5 rfl) rfl
          have t54 : ρ (.tmp 54) = .bool false := (ks 23 54 (by decide) rfl).trans d23
          simp [execOp, go_sem, kc, t54]
          exact ⟨hC, Below.refl _ _, rfl⟩
        · refine stepW_of_u ⟨rfl, fun v W ρ hC kc kf ks ki kd => ?_⟩
          have d20 : v 20 = .bool false := by first | exact kd _ (mem0 rfl) rfl | exact kd _ (mem1 rfl) rfl | exact kd _ (mem2 rfl) rfl | exact kd _ (mem3 rfl) rfl | exact kd _ (mem4 rfl) rfl | exact kd _ (mem5 rfl) rfl
          have t51 : ρ (.tmp 51) = .bool false := (ks 20 51 (by decide) rfl).trans d20
          have d24 : v 24 = .bool true := by first | exact kd _ (mem0 rfl) rfl | exact kd _ (mem1 rfl) rfl | exact kd _ (mem2 rfl) rfl | exact kd _ (mem3 rfl) rfl | exact kd _ (mem4 rfl) rfl | exact kd _ (mem5 rfl) rfl
          have t55 : ρ (.tmp 55) = .bool true := (ks 24 55 (by decide) rfl).trans d24
          simp [execOp, go_sem, kc, t51, t55]
          exact ⟨hC, Below.refl _ _, rfl⟩
        · refine stepW_of_u ⟨rfl, fun v W ρ hC kc kf ks ki kd => ?_⟩
          have d25 : v 25 = .bool true := by first | exact kd _ (mem0 rfl) rfl | exact kd _ (mem1 rfl) rfl | exact kd _ (mem2 rfl) rfl | exact kd _ (mem3 rfl) rfl | exact kd _ (mem4 rfl) rfl | exact kd _ (mem5 rfl) rfl
          have t56 : ρ (.tmp 56) = .bool true := (ks 25 56 (by decide) rfl).trans d25
          simp [execOp, go_sem, kc, t56]
          exact ⟨hC, Below.refl _ _, rfl⟩
        · intro v W ρ y hC kc kf ks ki ky ku kd
          have dg : v 26 = .bool true := by first | exact kd _ (mem0 rfl) rfl | exact kd _ (mem1 rfl) rfl | exact kd _ (mem2 rfl) rfl | exact kd _ (mem3 rfl) rfl | exact kd _ (mem4 rfl) rfl | exact kd _ (mem5 rfl) rfl
          have hy := ky 26 57 true (by decide) rfl dg
          rw [if_neg (by simp [Region.wanted, hy])]
          exact ⟨Below.refl _ _, rfl⟩
        · intro v W ρ y hC kc kf ks ki ky ku kd
          have dg : v 26 = .bool true := by first | exact kd _ (mem0 rfl) rfl | exact kd _ (mem1 rfl) rfl | exact kd _ (mem2 rfl) rfl | exact kd _ (mem3 rfl) rfl | exact kd _ (mem4 rfl) rfl | exact kd _ (mem5 rfl) rfl
          have hy := ky 26 57 true (by decide) rfl dg
          rw [if_neg (by simp [Region.wanted, hy])]
          exact ⟨Below.refl _ _, rfl⟩
        · intro v W ρ y hC kc kf ks ki ky ku kd
          have dg : v 26 = .bool true := by first | exact kd _ (mem0 rfl) rfl | exact kd _ (mem1 rfl) rfl | exact kd _ (mem2 rfl) rfl | exact kd _ (mem3 rfl) rfl | exact kd _ (mem4 rfl) rfl | exact kd _ (mem5 rfl) rfl
          have hy := ky 26 57 true (by decide) rfl dg
          rw [if_neg (by simp [Region.wanted, hy])]
          exact ⟨Below.refl _ _, rfl⟩
        · intro v W ρ y hC kc kf ks ki ky ku kd
          have dg : v 26 = .bool true := by first | exact kd _ (mem0 rfl) rfl | exact kd _ (mem1 rfl) rfl | exact kd _ (mem2 rfl) rfl | exact kd _ (mem3 rfl) rfl | exact kd _ (mem4 rfl) rfl | exact kd _ (mem5 rfl) rfl
          have hy := ky 26 57 true (by decide) rfl dg
          rw [if_neg (by simp [Region.wanted, hy])]
          exact ⟨Below.refl _ _, rfl⟩
        · refine stepW_of_u ⟨rfl, fun v W ρ hC kc kf ks ki kd => ?_⟩
          have d26 : v 26 = .bool true := by first | exact kd _ (mem0 rfl) rfl | exact kd _ (mem1 rfl) rfl | exact kd _ (mem2 rfl) rfl | exact kd _ (mem3 rfl) rfl | exact kd _ (mem4 rfl) rfl | exact kd _ (mem5 rfl) rfl
          have t57 : ρ (.tmp 57) = .bool true := (ks 26 57 (by decide) rfl).trans d26
          simp [execOp, go_sem, kc, t57]
          exact ⟨hC, Below.refl _ _, rfl⟩
        · refine stepW_of_u ⟨rfl, fun v W ρ hC kc kf ks ki kd => ?_⟩
          have d31 : v 31 = .bool true := by first | exact kd _ (mem0 rfl) rfl | exact kd _ (mem1 rfl) rfl | exact kd _ (mem2 rfl) rfl | exact kd _ (mem3 rfl) rfl | exact kd _ (mem4 rfl) rfl | exact kd _ (mem5 rfl) rfl
          have t62 : ρ (.tmp 62) = .bool true := (ks 31 62 (by decide) rfl).trans d31
          simp [execOp, go_sem, kc, t62]
          exact ⟨hC, Below.refl _ _, rfl⟩
        · intro v W ρ y hC kc kf ks ki ky ku kd
          have dg : v 32 = .bool true := by first | exact kd _ (mem0 rfl) rfl | exact kd _ (mem1 rfl) rfl | exact kd _ (mem2 rfl) rfl | exact kd _ (mem3 rfl) rfl | exact kd _ (mem4 rfl) rfl | exact kd _ (mem5 rfl) rfl
          have hy := ky 32 63 true (by decide) rfl dg
          rw [if_neg (by simp [Region.wanted, hy])]
          exact ⟨Below.refl _ _, rfl⟩
        · intro v W ρ y hC kc kf ks ki ky ku kd
          have dg : v 32 = .bool true := by first | exact kd _ (mem0 rfl) rfl | exact kd _ (mem1 rfl) rfl | exact kd _ (mem2 rfl) rfl | exact kd _ (mem3 rfl) rfl | exact kd _ (mem4 rfl) rfl | exact kd _ (mem5 rfl) rfl
          have hy := ky 32 63 true (by decide) rfl dg
          rw [if_neg (by simp [Region.wanted, hy])]
          exact ⟨Below.refl _ _, rfl⟩
        · intro v W ρ y hC kc kf ks ki ky ku kd
          have dg : v 32 = .bool true := by first | exact kd _ (mem0 rfl) rfl | exact kd _ (mem1 rfl) rfl | exact kd _ (mem2 rfl) rfl | exact kd _ (mem3 rfl) rfl | exact kd _ (mem4 rfl) rfl | exact kd _ (mem5 rfl) rfl
          have hy := ky 32 63 true (by decide) rfl dg
          rw [if_neg (by simp [Region.wanted, hy])]
          exact ⟨Below.refl _ _, rfl⟩
        · intro v W ρ y hC kc kf ks ki ky ku kd
          have dg : v 32 = .bool true := by first | exact kd _ (mem0 rfl) rfl | exact kd _ (mem1 rfl) rfl | exact kd _ (mem2 rfl) rfl | exact kd _ (mem3 rfl) rfl | exact kd _ (mem4 rfl) rfl | exact kd _ (mem5 rfl) rfl
          have hy := ky 32 63 true (by decide) rfl dg
          rw [if_neg (by simp [Region.wanted, hy])]
          exact ⟨Below.refl _ _, rfl⟩
        · refine stepW_of_u ⟨rfl, fun v W ρ hC kc kf ks ki kd => ?_⟩
          have d32 : v 32 = .bool true := by first | exact kd _ (mem0 rfl) rfl | exact kd _ (mem1 rfl) rfl | exact kd _ (mem2 rfl) rfl | exact kd _ (mem3 rfl) rfl | exact kd _ (mem4 rfl) rfl | exact kd _ (mem5 rfl) rfl
          have t63 : ρ (.tmp 63) = .bool true := (ks 32 63 (by decide) rfl).trans d32
          simp [execOp, go_sem, kc, t63]
          exact ⟨hC, Below.refl _ _, rfl⟩
        · refine stepW_of_u ⟨rfl, fun v W ρ hC kc kf ks ki kd => ?_⟩
          have d37 : v 37 = .bool true := by first | exact kd _ (mem0 rfl) rfl | exact kd _ (mem1 rfl) rfl | exact kd _ (mem2 rfl) rfl | exact kd _ (mem3 rfl) rfl | exact kd _ (mem4 rfl) rfl | exact kd _ (mem5 rfl) rfl
          have t68 : ρ (.tmp 68) = .bool true := (ks 37 68 (by decide) rfl).trans d37
          simp [execOp, go_sem, kc, t68]
          exact ⟨hC, Below.refl _ _, rfl⟩
        · intro v W ρ y hC kc kf ks ki ky ku kd
          have dg : v 38 = .bool true := by first | exact kd _ (mem0 rfl) rfl | exact kd _ (mem1 rfl) rfl | exact kd _ (mem2 rfl) rfl | exact kd _ (mem3 rfl) rfl | exact kd _ (mem4 rfl) rfl | exact kd _ (mem5 rfl) rfl
          have hy := ky 38 69 true (by decide) rfl dg
          rw [if_neg (by simp [Region.wanted, hy])]
          exact ⟨Below.refl _ _, rfl⟩
        · intro v W ρ y hC kc kf ks ki ky ku kd
          have dg : v 38 = .bool true := by first | exact kd _ (mem0 rfl) rfl | exact kd _ (mem1 rfl) rfl | exact kd _ (mem2 rfl) rfl | exact kd _ (mem3 rfl) rfl | exact kd _ (mem4 rfl) rfl | exact kd _ (mem5 rfl) rfl
          have hy := ky 38 69 true (by decide) rfl dg
          rw [if_neg (by simp [Region.wanted, hy])]
          exact ⟨Below.refl _ _, rfl⟩
        · intro v W ρ y hC kc kf ks ki ky ku kd
          have dg : v 38 = .bool true := by first | exact kd _ (mem0 rfl) rfl | exact kd _ (mem1 rfl) rfl | exact kd _ (mem2 rfl) rfl | exact kd _ (mem3 rfl) rfl | exact kd _ (mem4 rfl) rfl | exact kd _ (mem5 rfl) rfl
          have hy := ky 38 69 true (by decide) rfl dg
          rw [if_neg (by simp [Region.wanted, hy])]
          exact ⟨Below.refl _ _, rfl⟩
        · intro v W ρ y hC kc kf ks ki ky ku kd
          have dg : v 38 = .bool true := by first | exact kd _ (mem0 rfl) rfl | exact kd _ (mem1 rfl) rfl | exact kd _ (mem2 rfl) rfl | exact kd _ (mem3 rfl) rfl | exact kd _ (mem4 rfl) rfl | exact kd _ (mem5 rfl) rfl
          have hy := ky 38 69 true (by decide) rfl dg
          rw [if_neg (by simp [Region.wanted, hy])]
          exact ⟨Below.refl _ _, rfl⟩
        · intro v W ρ y hC kc kf ks ki ky ku kd
          have dg : v 38 = .bool true := by first | exact kd _ (mem0 rfl) rfl | exact kd _ (mem1 rfl) rfl | exact kd _ (mem2 rfl) rfl | exact kd _ (mem3 rfl) rfl | exact kd _ (mem4 rfl) rfl | exact kd _ (mem5 rfl) rfl
          have hy := ky 38 69 true (by decide) rfl dg
          rw [if_neg (by simp [Region.wanted, hy])]
          exact ⟨Below.refl _ _, rfl⟩
        · refine stepW_of_u ⟨rfl, fun v W ρ hC kc kf ks ki kd => ?_⟩
          have d38 : v 38 = .bool true := by first | exact kd _ (mem0 rfl) rfl | exact kd _ (mem1 rfl) rfl | exact kd _ (mem2 rfl) rfl | exact kd _ (mem3 rfl) rfl | exact kd _ (mem4 rfl) rfl | exact kd _ (mem5 rfl) rfl
          have t69 : ρ (.tmp 69) = .bool true := (ks 38 69 (by decide) rfl).trans d38
          simp [execOp, go_sem, kc, t69]
          exact ⟨hC, Below.refl _ _, rfl⟩
      intro vF3 WF3 hbF3 hall
      have hvF3 : vF3 44 = .bool true := hall 44 (by decide)
      simp [upto, Act.put]
      rw [hvF3]
      clear hall hvF3
      have hL1 := hidS (hL0.out.trans (hbF3.mono hL0.out.size))
      have E : Hid (rightR r = false) := hE.out.trans (by rw [h3] <;> simp)
      clear hE
      go_wp2_with fail
      go_ret
      exact ⟨by rw [E.out]; rfl, hL1.out⟩
    rw [h3] at HT
    cases h4 : (wordB r.low)
    · rw [h4] at HLo
      go_wp2_with fail
      refine grow_guarded 45 [.is (.pointer (some ⟨w.heap.size, 2, none⟩)), .is (.int .i64 r.net), .is (.bool true), .is (.bool false), .is (.bool false), .is (.pointer (some ⟨w.heap.size, 3, none⟩)), .is (.int .i64 r.bits), .is (.bool true), .is (.bool false), .is (.bool false), .is (.bool false), .is (.pointer (some ⟨w.heap.size, 2, none⟩)), .is (.int .i64 r.net), .is (.pointer (some ⟨w.heap.size, 3, none⟩)), .is (.int .i64 r.bits), .is (.int .i64 (headN r.net r.bits)), .is (.pointer (some ⟨w.heap.size, 2, none⟩)), .is (.int .i64 r.net), .is (.bool false), .is (.bool false), .is (.bool false), .is (.pointer (some ⟨w.heap.size, 4, none⟩)), .is (.int .i64 r.goal), .is (.bool true), .is (.bool false), .is (.bool false), .is (.bool false), .is (.pointer (some ⟨w.heap.size, 5, none⟩)), .is (.int .i64 r.low), .is (.bool false), .is (.bool true), .is (.bool true), .is (.bool true), .is (undef), .is (undef), .is (undef), .is (undef), .is (.bool true), .is (.bool true), .is (undef), .is (undef), .is (undef), .is (undef), .is (undef), .is (.bool true)] rfl (by kernel_rfl) (by kernel_rfl) ?stepsF4 ?finF4
      case stepsF4 =>
        refine ⟨?_, ?_, ?_, ?_, ?_, ?_, ?_, ?_, ?_, ?_, ?_, ?_, ?_, ?_, ?_, ?_, ?_, ?_, ?_, ?_, ?_, ?_, ?_, ?_, ?_, ?_, ?_, ?_, ?_, ?_, ?_, ?_, ?_, ?_, ?_, ?_, ?_, ?_, ?_, ?_, ?_, ?_, ?_, ?_, ?_, trivial⟩
        · refine stepW_of_u ⟨rfl, fun v W ρ hC kc kf ks ki kd => ?_⟩
          have t1 : ρ (.tmp 1) = .pointer (some ⟨w.heap.size, 0, none⟩) := ki 1 (by decide)
          simp [execOp, go_sem, kc, t1]
          exact ⟨hC, Below.refl _ _, rfl⟩
        · refine stepW_of_u ⟨rfl, fun v W ρ hC kc kf ks ki kd => ?_⟩
          have d0 : v 0 = .pointer (some ⟨w.heap.size, 2, none⟩) := by first | exact kd _ (mem0 rfl) rfl | exact kd _ (mem1 rfl) rfl | exact kd _ (mem2 rfl) rfl | exact kd _ (mem3 rfl) rfl | exact kd _ (mem4 rfl) rfl | exact kd _ (mem5 rfl) rfl
          have t31 : ρ (.tmp 31) = .pointer (some ⟨w.heap.size, 2, none⟩) := (ks 0 31 (by decide) rfl).trans d0
          have hg := blk_later hGR0.out hC
          have c2 := blk_cell hg 2
          simp at c2
          simp [execOp, go_sem, kc, t31, c2]
          exact ⟨hC, Below.refl _ _, rfl⟩
        · refine stepW_of_u ⟨rfl, fun v W ρ hC kc kf ks ki kd => ?_⟩
          have d1 : v 1 = .int .i64 r.net := by first | exact kd _ (mem0 rfl) rfl | exact kd _ (mem1 rfl) rfl | exact kd _ (mem2 rfl) rfl | exact kd _ (mem3 rfl) rfl | exact kd _ (mem4 rfl) rfl | exact kd _ (mem5 rfl) rfl
          have t32 : ρ (.tmp 32) = .int .i64 r.net := (ks 1 32 (by decide) rfl).trans d1
          simp [execOp, go_sem, kc, t32, kf]
          exact Calls.mono (HA.out W) (fun e x h => ⟨_, h.1, hC.trans (h.2.mono hC.size), h.2, rfl⟩)
        · refine stepW_of_u ⟨rfl, fun v W ρ hC kc kf ks ki kd => ?_⟩
          have d2 : v 2 = .bool true := by first | exact kd _ (mem0 rfl) rfl | exact kd _ (mem1 rfl) rfl | exact kd _ (mem2 rfl) rfl | exact kd _ (mem3 rfl) rfl | exact kd _ (mem4 rfl) rfl | exact kd _ (mem5 rfl) rfl
          have t33 : ρ (.tmp 33) = .bool true := (ks 2 33 (by decide) rfl).trans d2
          simp [execOp, go_sem, kc, t33]
          exact ⟨hC, Below.refl _ _, rfl⟩
        · refine stepW_of_u ⟨rfl, fun v W ρ hC kc kf ks ki kd => ?_⟩
          have d3 : v 3 = .bool false := by first | exact kd _ (mem0 rfl) rfl | exact kd _ (mem1 rfl) rfl | exact kd _ (mem2 rfl) rfl | exact kd _ (mem3 rfl) rfl | exact kd _ (mem4 rfl) rfl | exact kd _ (mem5 rfl) rfl
          have t34 : ρ (.tmp 34) = .bool false := (ks 3 34 (by decide) rfl).trans d3
          simp [execOp, go_sem, kc, t34]
          exact ⟨hC, Below.refl _ _, rfl⟩
        · intro v W ρ y hC kc kf ks ki ky ku kd
          have dg : v 4 = .bool false := by first | exact kd _ (mem0 rfl) rfl | exact kd _ (mem1 rfl) rfl | exact kd _ (mem2 rfl) rfl | exact kd _ (mem3 rfl) rfl | exact kd _ (mem4 rfl) rfl | exact kd _ (mem5 rfl) rfl
          have hy := ky 4 35 false (by decide) rfl dg
          rw [if_pos (by simp [Region.wanted, hy])]
          have t1 : ρ (.tmp 1) = .pointer (some ⟨w.heap.size, 0, none⟩) := ki 1 (by decide)
          simp [execOp, go_sem, kc, t1]
          exact ⟨hC, Below.refl _ _, rfl⟩
        · intro v W ρ y hC kc kf ks ki ky ku kd
          have dg : v 4 = .bool false := by first | exact kd _ (mem0 rfl) rfl | exact kd _ (mem1 rfl) rfl | exact kd _ (mem2 rfl) rfl | exact kd _ (mem3 rfl) rfl | exact kd _ (mem4 rfl) rfl | exact kd _ (mem5 rfl) rfl
          have hy := ky 4 35 false (by decide) rfl dg
          rw [if_pos (by simp [Region.wanted, hy])]
          have d5 : v 5 = .pointer (some ⟨w.heap.size, 3, none⟩) := by first | exact kd _ (mem0 rfl) rfl | exact kd _ (mem1 rfl) rfl | exact kd _ (mem2 rfl) rfl | exact kd _ (mem3 rfl) rfl | exact kd _ (mem4 rfl) rfl | exact kd _ (mem5 rfl) rfl
          have t36 : ρ (.tmp 36) = .pointer (some ⟨w.heap.size, 3, none⟩) := (ks 5 36 (by decide) rfl).trans d5
          have hg := blk_later hGR0.out hC
          have c3 := blk_cell hg 3
          simp at c3
          simp [execOp, go_sem, kc, t36, c3]
          exact ⟨hC, Below.refl _ _, rfl⟩
        · intro v W ρ y hC kc kf ks ki ky ku kd
          have dg : v 4 = .bool false := by first | exact kd _ (mem0 rfl) rfl | exact kd _ (mem1 rfl) rfl | exact kd _ (mem2 rfl) rfl | exact kd _ (mem3 rfl) rfl | exact kd _ (mem4 rfl) rfl | exact kd _ (mem5 rfl) rfl
          have hy := ky 4 35 false (by decide) rfl dg
          rw [if_pos (by simp [Region.wanted, hy])]
          have d6 : v 6 = .int .i64 r.bits := by first | exact kd _ (mem0 rfl) rfl | exact kd _ (mem1 rfl) rfl | exact kd _ (mem2 rfl) rfl | exact kd _ (mem3 rfl) rfl | exact kd _ (mem4 rfl) rfl | exact kd _ (mem5 rfl) rfl
          have t37 : ρ (.tmp 37) = .int .i64 r.bits := (ks 6 37 (by decide) rfl).trans d6
          simp [execOp, go_sem, kc, t37, kf]
          exact Calls.mono (HB.out W) (fun e x h => ⟨_, h.1, hC.trans (h.2.mono hC.size), h.2, rfl⟩)
        · intro v W ρ y hC kc kf ks ki ky ku kd
          have dg : v 4 = .bool false := by first | exact kd _ (mem0 rfl) rfl | exact kd _ (mem1 rfl) rfl | exact kd _ (mem2 rfl) rfl | exact kd _ (mem3 rfl) rfl | exact kd _ (mem4 rfl) rfl | exact kd _ (mem5 rfl) rfl
          have hy := ky 4 35 false (by decide) rfl dg
          rw [if_pos (by simp [Region.wanted, hy])]
          have d7 : v 7 = .bool true := by first | exact kd _ (mem0 rfl) rfl | exact kd _ (mem1 rfl) rfl | exact kd _ (mem2 rfl) rfl | exact kd _ (mem3 rfl) rfl | exact kd _ (mem4 rfl) rfl | exact kd _ (mem5 rfl) rfl
          have t38 : ρ (.tmp 38) = .bool true := (ks 7 38 (by decide) rfl).trans d7
          simp [execOp, go_sem, kc, t38]
          exact ⟨hC, Below.refl _ _, rfl⟩
        · refine stepW_of_u ⟨rfl, fun v W ρ hC kc kf ks ki kd => ?_⟩
          have d4 : v 4 = .bool false := by first | exact kd _ (mem0 rfl) rfl | exact kd _ (mem1 rfl) rfl | exact kd _ (mem2 rfl) rfl | exact kd _ (mem3 rfl) rfl | exact kd _ (mem4 rfl) rfl | exact kd _ (mem5 rfl) rfl
          have t35 : ρ (.tmp 35) = .bool false := (ks 4 35 (by decide) rfl).trans d4
          have d8 : v 8 = .bool false := by first | exact kd _ (mem0 rfl) rfl | exact kd _ (mem1 rfl) rfl | exact kd _ (mem2 rfl) rfl | exact kd _ (mem3 rfl) rfl | exact kd _ (mem4 rfl) rfl | exact kd _ (mem5 rfl) rfl
          have t39 : ρ (.tmp 39) = .bool false := (ks 8 39 (by decide) rfl).trans d8
          simp [execOp, go_sem, kc, t35, t39]
          exact ⟨hC, Below.refl _ _, rfl⟩
        · refine stepW_of_u ⟨rfl, fun v W ρ hC kc kf ks ki kd => ?_⟩
          have d9 : v 9 = .bool false := by first | exact kd _ (mem0 rfl) rfl | exact kd _ (mem1 rfl) rfl | exact kd _ (mem2 rfl) rfl | exact kd _ (mem3 rfl) rfl | exact kd _ (mem4 rfl) rfl | exact kd _ (mem5 rfl) rfl
          have t40 : ρ (.tmp 40) = .bool false := (ks 9 40 (by decide) rfl).trans d9
          simp [execOp, go_sem, kc, t40]
          exact ⟨hC, Below.refl _ _, rfl⟩
        · intro v W ρ y hC kc kf ks ki ky ku kd
          have dg : v 10 = .bool false := by first | exact kd _ (mem0 rfl) rfl | exact kd _ (mem1 rfl) rfl | exact kd _ (mem2 rfl) rfl | exact kd _ (mem3 rfl) rfl | exact kd _ (mem4 rfl) rfl | exact kd _ (mem5 rfl) rfl
          have hy := ky 10 41 false (by decide) rfl dg
          rw [if_pos (by simp [Region.wanted, hy])]
          have t1 : ρ (.tmp 1) = .pointer (some ⟨w.heap.size, 0, none⟩) := ki 1 (by decide)
          simp [execOp, go_sem, kc, t1]
          exact ⟨hC, Below.refl _ _, rfl⟩
        · intro v W ρ y hC kc kf ks ki ky ku kd
          have dg : v 10 = .bool false := by first | exact kd _ (mem0 rfl) rfl | exact kd _ (mem1 rfl) rfl | exact kd _ (mem2 rfl) rfl | exact kd _ (mem3 rfl) rfl | exact kd _ (mem4 rfl) rfl | exact kd _ (mem5 rfl) rfl
          have hy := ky 10 41 false (by decide) rfl dg
          rw [if_pos (by simp [Region.wanted, hy])]
          have d11 : v 11 = .pointer (some ⟨w.heap.size, 2, none⟩) := by first | exact kd _ (mem0 rfl) rfl | exact kd _ (mem1 rfl) rfl | exact kd _ (mem2 rfl) rfl | exact kd _ (mem3 rfl) rfl | exact kd _ (mem4 rfl) rfl | exact kd _ (mem5 rfl) rfl
          have t42 : ρ (.tmp 42) = .pointer (some ⟨w.heap.size, 2, none⟩) := (ks 11 42 (by decide) rfl).trans d11
          have hg := blk_later hGR0.out hC
          have c2 := blk_cell hg 2
          simp at c2
          simp [execOp, go_sem, kc, t42, c2]
          exact ⟨hC, Below.refl _ _, rfl⟩
        · intro v W ρ y hC kc kf ks ki ky ku kd
          have dg : v 10 = .bool false := by first | exact kd _ (mem0 rfl) rfl | exact kd _ (mem1 rfl) rfl | exact kd _ (mem2 rfl) rfl | exact kd _ (mem3 rfl) rfl | exact kd _ (mem4 rfl) rfl | exact kd _ (mem5 rfl) rfl
          have hy := ky 10 41 false (by decide) rfl dg
          rw [if_pos (by simp [Region.wanted, hy])]
          have t1 : ρ (.tmp 1) = .pointer (some ⟨w.heap.size, 0, none⟩) := ki 1 (by decide)
          simp [execOp, go_sem, kc, t1]
          exact ⟨hC, Below.refl _ _, rfl⟩
        · intro v W ρ y hC kc kf ks ki ky ku kd
          have dg : v 10 = .bool false := by first | exact kd _ (mem0 rfl) rfl | exact kd _ (mem1 rfl) rfl | exact kd _ (mem2 rfl) rfl | exact kd _ (mem3 rfl) rfl | exact kd _ (mem4 rfl) rfl | exact kd _ (mem5 rfl) rfl
          have hy := ky 10 41 false (by decide) rfl dg
          rw [if_pos (by simp [Region.wanted, hy])]
          have d13 : v 13 = .pointer (some ⟨w.heap.size, 3, none⟩) := by first | exact kd _ (mem0 rfl) rfl | exact kd _ (mem1 rfl) rfl | exact kd _ (mem2 rfl) rfl | exact kd _ (mem3 rfl) rfl | exact kd _ (mem4 rfl) rfl | exact kd _ (mem5 rfl) rfl
          have t44 : ρ (.tmp 44) = .pointer (some ⟨w.heap.size, 3, none⟩) := (ks 13 44 (by decide) rfl).trans d13
          have hg := blk_later hGR0.out hC
          have c3 := blk_cell hg 3
          simp at c3
          simp [execOp, go_sem, kc, t44, c3]
          exact ⟨hC, Below.refl _ _, rfl⟩
        · intro v W ρ y hC kc kf ks ki ky ku kd
          have dg : v 10 = .bool false := by first | exact kd _ (mem0 rfl) rfl | exact kd _ (mem1 rfl) rfl | exact kd _ (mem2 rfl) rfl | exact kd _ (mem3 rfl) rfl | exact kd _ (mem4 rfl) rfl | exact kd _ (mem5 rfl) rfl
          have hy := ky 10 41 false (by decide) rfl dg
          rw [if_pos (by simp [Region.wanted, hy])]
          have d12 : v 12 = .int .i64 r.net := by first | exact kd _ (mem0 rfl) rfl | exact kd _ (mem1 rfl) rfl | exact kd _ (mem2 rfl) rfl | exact kd _ (mem3 rfl) rfl | exact kd _ (mem4 rfl) rfl | exact kd _ (mem5 rfl) rfl
          have t43 : ρ (.tmp 43) = .int .i64 r.net := (ks 12 43 (by decide) rfl).trans d12
          have d14 : v 14 = .int .i64 r.bits := by first | exact kd _ (mem0 rfl) rfl | exact kd _ (mem1 rfl) rfl | exact kd _ (mem2 rfl) rfl | exact kd _ (mem3 rfl) rfl | exact kd _ (mem4 rfl) rfl | exact kd _ (mem5 rfl) rfl
          have t45 : ρ (.tmp 45) = .int .i64 r.bits := (ks 14 45 (by decide) rfl).trans d14
          simp [execOp, go_sem, kc, t43, t45, kf]
          exact Calls.mono (HH.out W) (fun e x h => ⟨_, h.1, hC.trans (h.2.mono hC.size), h.2, rfl⟩)
        · intro v W ρ y hC kc kf ks ki ky ku kd
          have dg : v 10 = .bool false := by first | exact kd _ (mem0 rfl) rfl | exact kd _ (mem1 rfl) rfl | exact kd _ (mem2 rfl) rfl | exact kd _ (mem3 rfl) rfl | exact kd _ (mem4 rfl) rfl | exact kd _ (mem5 rfl) rfl
          have hy := ky 10 41 false (by decide) rfl dg
          rw [if_pos (by simp [Region.wanted, hy])]
          have t1 : ρ (.tmp 1) = .pointer (some ⟨w.heap.size, 0, none⟩) := ki 1 (by decide)
          simp [execOp, go_sem, kc, t1]
          exact ⟨hC, Below.refl _ _, rfl⟩
        · intro v W ρ y hC kc kf ks ki ky ku kd
          have dg : v 10 = .bool false := by first | exact kd _ (mem0 rfl) rfl | exact kd _ (mem1 rfl) rfl | exact kd _ (mem2 rfl) rfl | exact kd _ (mem3 rfl) rfl | exact kd _ (mem4 rfl) rfl | exact kd _ (mem5 rfl) rfl
          have hy := ky 10 41 false (by decide) rfl dg
          rw [if_pos (by simp [Region.wanted, hy])]
          have d16 : v 16 = .pointer (some ⟨w.heap.size, 2, none⟩) := by first | exact kd _ (mem0 rfl) rfl | exact kd _ (mem1 rfl) rfl | exact kd _ (mem2 rfl) rfl | exact kd _ (mem3 rfl) rfl | exact kd _ (mem4 rfl) rfl | exact kd _ (mem5 rfl) rfl
          have t47 : ρ (.tmp 47) = .pointer (some ⟨w.heap.size, 2, none⟩) := (ks 16 47 (by decide) rfl).trans d16
          have hg := blk_later hGR0.out hC
          have c2 := blk_cell hg 2
          simp at c2
          simp [execOp, go_sem, kc, t47, c2]
          exact ⟨hC, Below.refl _ _, rfl⟩
        · intro v W ρ y hC kc kf ks ki ky ku kd
          have dg : v 10 = .bool false := by first | exact kd _ (mem0 rfl) rfl | exact kd _ (mem1 rfl) rfl | exact kd _ (mem2 rfl) rfl | exact kd _ (mem3 rfl) rfl | exact kd _ (mem4 rfl) rfl | exact kd _ (mem5 rfl) rfl
          have hy := ky 10 41 false (by decide) rfl dg
          rw [if_pos (by simp [Region.wanted, hy])]
          have d15 : v 15 = .int .i64 (headN r.net r.bits) := by first | exact kd _ (mem0 rfl) rfl | exact kd _ (mem1 rfl) rfl | exact kd _ (mem2 rfl) rfl | exact kd _ (mem3 rfl) rfl | exact kd _ (mem4 rfl) rfl | exact kd _ (mem5 rfl) rfl
          have t46 : ρ (.tmp 46) = .int .i64 (headN r.net r.bits) := (ks 15 46 (by decide) rfl).trans d15
          have d17 : v 17 = .int .i64 r.net := by first | exact kd _ (mem0 rfl) rfl | exact kd _ (mem1 rfl) rfl | exact kd _ (mem2 rfl) rfl | exact kd _ (mem3 rfl) rfl | exact kd _ (mem4 rfl) rfl | exact kd _ (mem5 rfl) rfl
          have t48 : ρ (.tmp 48) = .int .i64 r.net := (ks 17 48 (by decide) rfl).trans d17
          simp [execOp, go_sem, kc, t46, t48, hh]
          exact ⟨hC, Below.refl _ _, rfl⟩
        · refine stepW_of_u ⟨rfl, fun v W ρ hC kc kf ks ki kd => ?_⟩
          have d10 : v 10 = .bool false := by first | exact kd _ (mem0 rfl) rfl | exact kd _ (mem1 rfl) rfl | exact kd _ (mem2 rfl) rfl | exact kd _ (mem3 rfl) rfl | exact kd _ (mem4 rfl) rfl | exact kd _ (mem5 rfl) rfl
          have t41 : ρ (.tmp 41) = .bool false := (ks 10 41 (by decide) rfl).trans d10
          have d18 : v 18 = .bool false := by first | exact kd _ (mem0 rfl) rfl | exact kd _ (mem1 rfl) rfl | exact kd _ (mem2 rfl) rfl | exact kd _ (mem3 rfl) rfl | exact kd _ (mem4 rfl) rfl | exact kd _ (mem5 rfl) rfl
          have t49 : ρ (.tmp 49) = .bool false := (ks 18 49 (by decide) rfl).trans d18
          simp [execOp, go_sem, kc, t41, t49]
          exact ⟨hC, Below.refl _ _, rfl⟩
        · refine stepW_of_u ⟨rfl, fun v W ρ hC kc kf ks ki kd => ?_⟩
          have d19 : v 19 = .bool false := by first | exact kd _ (mem0 rfl) rfl | exact kd _ (mem1 rfl) rfl | exact kd _ (mem2 rfl) rfl | exact kd _ (mem3 rfl) rfl | exact kd _ (mem4 rfl) rfl | exact kd _ (mem5 rfl) rfl
          have t50 : ρ (.tmp 50) = .bool false := (ks 19 50 (by decide) rfl).trans d19
          simp [execOp, go_sem, kc, t50]
          exact ⟨hC, Below.refl _ _, rfl⟩
        · intro v W ρ y hC kc kf ks ki ky ku kd
          have dg : v 20 = .bool false := by first | exact kd _ (mem0 rfl) rfl | exact kd _ (mem1 rfl) rfl | exact kd _ (mem2 rfl) rfl | exact kd _ (mem3 rfl) rfl | exact kd _ (mem4 rfl) rfl | exact kd _ (mem5 rfl) rfl
          have hy := ky 20 51 false (by decide) rfl dg
          rw [if_pos (by simp [Region.wanted, hy])]
          have t1 : ρ (.tmp 1) = .pointer (some ⟨w.heap.size, 0, none⟩) := ki 1 (by decide)
          simp [execOp, go_sem, kc, t1]
          exact ⟨hC, Below.refl _ _, rfl⟩
        · intro v W ρ y hC kc kf ks ki ky ku kd
          have dg : v 20 = .bool false := by first | exact kd _ (mem0 rfl) rfl | exact kd _ (mem1 rfl) rfl | exact kd _ (mem2 rfl) rfl | exact kd _ (mem3 rfl) rfl | exact kd _ (mem4 rfl) rfl | exact kd _ (mem5 rfl) rfl
          have hy := ky 20 51 false (by decide) rfl dg
          rw [if_pos (by simp [Region.wanted, hy])]
          have d21 : v 21 = .pointer (some ⟨w.heap.size, 4, none⟩) := by first | exact kd _ (mem0 rfl) rfl | exact kd _ (mem1 rfl) rfl | exact kd _ (mem2 rfl) rfl | exact kd _ (mem3 rfl) rfl | exact kd _ (mem4 rfl) rfl | exact kd _ (mem5 rfl) rfl
          have t52 : ρ (.tmp 52) = .pointer (some ⟨w.heap.size, 4, none⟩) := (ks 21 52 (by decide) rfl).trans d21
          have hg := blk_later hGR0.out hC
          have c4 := blk_cell hg 4
          simp at c4
          simp [execOp, go_sem, kc, t52, c4]
          exact ⟨hC, Below.refl _ _, rfl⟩
        · intro v W ρ y hC kc kf ks ki ky ku kd
          have dg : v 20 = .bool false := by first | exact kd _ (mem0 rfl) rfl | exact kd _ (mem1 rfl) rfl | exact kd _ (mem2 rfl) rfl | exact kd _ (mem3 rfl) rfl | exact kd _ (mem4 rfl) rfl | exact kd _ (mem5 rfl) rfl
          have hy := ky 20 51 false (by decide) rfl dg
          rw [if_pos (by simp [Region.wanted, hy])]
          have d22 : v 22 = .int .i64 r.goal := by first | exact kd _ (mem0 rfl) rfl | exact kd _ (mem1 rfl) rfl | exact kd _ (mem2 rfl) rfl | exact kd _ (mem3 rfl) rfl | exact kd _ (mem4 rfl) rfl | exact kd _ (mem5 rfl) rfl
          have t53 : ρ (.tmp 53) = .int .i64 r.goal := (ks 22 53 (by decide) rfl).trans d22
          simp [execOp, go_sem, kc, t53, kf]
          exact Calls.mono (HT.out W) (fun e x h => ⟨_, h.1, hC.trans (h.2.mono hC.size), h.2, rfl⟩)
        · intro v W ρ y hC kc kf ks ki ky ku kd
          have dg : v 20 = .bool false := by first | exact kd _ (mem0 rfl) rfl | exact kd _ (mem1 rfl) rfl | exact kd _ (mem2 rfl) rfl | exact kd _ (mem3 rfl) rfl | exact kd _ (mem4 rfl) rfl | exact kd _ (mem5 rfl) rfl
          have hy := ky 20 51 false (by decide) rfl dg
          rw [if_pos (by simp [Region.wanted, hy])]
          have d23 : v 23 = .bool true := by first | exact kd _ (mem0 rfl) rfl | exact kd _ (mem1 rfl) rfl | exact kd _ (mem2 rfl) rfl | exact kd _ (mem3 rfl) rfl | exact kd _ (mem4 rfl) rfl | exact kd _ (mem5 rfl) rfl
          have t54 : ρ (.tmp 54) = .bool true := (ks 23 54 (by decide) rfl).trans d23
          simp [execOp, go_sem, kc, t54]
          exact ⟨hC, Below.refl _ _, rfl⟩
        · refine stepW_of_u ⟨rfl, fun v W ρ hC kc kf ks ki kd => ?_⟩
          have d20 : v 20 = .bool false := by first | exact kd _ (mem0 rfl) rfl | exact kd _ (mem1 rfl) rfl | exact kd _ (mem2 rfl) rfl | exact kd _ (mem3 rfl) rfl | exact kd _ (mem4 rfl) rfl | exact kd _ (mem5 rfl) rfl
          have t51 : ρ (.tmp 51) = .bool false := (ks 20 51 (by decide) rfl).trans d20
          have d24 : v 24 = .bool false := by first | exact kd _ (mem0 rfl) rfl | exact kd _ (mem1 rfl) rfl | exact kd _ (mem2 rfl) rfl | exact kd _ (mem3 rfl) rfl | exact kd _ (mem4 rfl) rfl | exact kd _ (mem5 rfl) rfl
          have t55 : ρ (.tmp 55) = .bool false := (ks 24 55 (by decide) rfl).trans d24
          simp [execOp, go_sem, kc, t51, t55]
          exact ⟨hC, Below.refl _ _, rfl⟩
        · refine stepW_of_u ⟨rfl, fun v W ρ hC kc kf ks ki kd => ?_⟩
          have d25 : v 25 = .bool false := by first | exact kd _ (mem0 rfl) rfl | exact kd _ (mem1 rfl) rfl | exact kd _ (mem2 rfl) rfl | exact kd _ (mem3 rfl) rfl | exact kd _ (mem4 rfl) rfl | exact kd _ (mem5 rfl) rfl
          have t56 : ρ (.tmp 56) = .bool false := (ks 25 56 (by decide) rfl).trans d25
          simp [execOp, go_sem, kc, t56]
          exact ⟨hC, Below.refl _ _, rfl⟩
        · intro v W ρ y hC kc kf ks ki ky ku kd
          have dg : v 26 = .bool false := by first | exact kd _ (mem0 rfl) rfl | exact kd _ (mem1 rfl) rfl | exact kd _ (mem2 rfl) rfl | exact kd _ (mem3 rfl) rfl | exact kd _ (mem4 rfl) rfl | exact kd _ (mem5 rfl) rfl
          have hy := ky 26 57 false (by decide) rfl dg
          rw [if_pos (by simp [Region.wanted, hy])]
          have t1 : ρ (.tmp 1) = .pointer (some ⟨w.heap.size, 0, none⟩) := ki 1 (by decide)
          simp [execOp, go_sem, kc, t1]
          exact ⟨hC, Below.refl _ _, rfl⟩
        · intro v W ρ y hC kc kf ks ki ky ku kd
          have dg : v 26 = .bool false := by first | exact kd _ (mem0 rfl) rfl | exact kd _ (mem1 rfl) rfl | exact kd _ (mem2 rfl) rfl | exact kd _ (mem3 rfl) rfl | exact kd _ (mem4 rfl) rfl | exact kd _ (mem5 rfl) rfl
          have hy := ky 26 57 false (by decide) rfl dg
          rw [if_pos (by simp [Region.wanted, hy])]
          have d27 : v 27 = .pointer (some ⟨w.heap.size, 5, none⟩) := by first | exact kd _ (mem0 rfl) rfl | exact kd _ (mem1 rfl) rfl | exact kd _ (mem2 rfl) rfl | exact kd _ (mem3 rfl) rfl | exact kd _ (mem4 rfl) rfl | exact kd _ (mem5 rfl) rfl
          have t58 : ρ (.tmp 58) = .pointer (some ⟨w.heap.size, 5, none⟩) := (ks 27 58 (by decide) rfl).trans d27
          have hg := blk_later hGR0.out hC
          have c5 := blk_cell hg 5
          simp at c5
          simp [execOp, go_sem, kc, t58, c5]
          exact ⟨hC, Below.refl _ _, rfl⟩
        · intro v W ρ y hC kc kf ks ki ky ku kd
          have dg : v 26 = .bool false := by first | exact kd _ (mem0 rfl) rfl | exact kd _ (mem1 rfl) rfl | exact kd _ (mem2 rfl) rfl | exact kd _ (mem3 rfl) rfl | exact kd _ (mem4 rfl) rfl | exact kd _ (mem5 rfl) rfl
          have hy := ky 26 57 false (by decide) rfl dg
          rw [if_pos (by simp [Region.wanted, hy])]
          have d28 : v 28 = .int .i64 r.low := by first | exact kd _ (mem0 rfl) rfl | exact kd _ (mem1 rfl) rfl | exact kd _ (mem2 rfl) rfl | exact kd _ (mem3 rfl) rfl | exact kd _ (mem4 rfl) rfl | exact kd _ (mem5 rfl) rfl
          have t59 : ρ (.tmp 59) = .int .i64 r.low := (ks 28 59 (by decide) rfl).trans d28
          simp [execOp, go_sem, kc, t59, kf]
          exact Calls.mono (HLo.out W) (fun e x h => ⟨_, h.1, hC.trans (h.2.mono hC.size), h.2, rfl⟩)
        · intro v W ρ y hC kc kf ks ki ky ku kd
          have dg : v 26 = .bool false := by first | exact kd _ (mem0 rfl) rfl | exact kd _ (mem1 rfl) rfl | exact kd _ (mem2 rfl) rfl | exact kd _ (mem3 rfl) rfl | exact kd _ (mem4 rfl) rfl | exact kd _ (mem5 rfl) rfl
          have hy := ky 26 57 false (by decide) rfl dg
          rw [if_pos (by simp [Region.wanted, hy])]
          have d29 : v 29 = .bool false := by first | exact kd _ (mem0 rfl) rfl | exact kd _ (mem1 rfl) rfl | exact kd _ (mem2 rfl) rfl | exact kd _ (mem3 rfl) rfl | exact kd _ (mem4 rfl) rfl | exact kd _ (mem5 rfl) rfl
          have t60 : ρ (.tmp 60) = .bool false := (ks 29 60 (by decide) rfl).trans d29
          simp [execOp, go_sem, kc, t60]
          exact ⟨hC, Below.refl _ _, rfl⟩
        · refine stepW_of_u ⟨rfl, fun v W ρ hC kc kf ks ki kd => ?_⟩
          have d26 : v 26 = .bool false := by first | exact kd _ (mem0 rfl) rfl | exact kd _ (mem1 rfl) rfl | exact kd _ (mem2 rfl) rfl | exact kd _ (mem3 rfl) rfl | exact kd _ (mem4 rfl) rfl | exact kd _ (mem5 rfl) rfl
          have t57 : ρ (.tmp 57) = .bool false := (ks 26 57 (by decide) rfl).trans d26
          have d30 : v 30 = .bool true := by first | exact kd _ (mem0 rfl) rfl | exact kd _ (mem1 rfl) rfl | exact kd _ (mem2 rfl) rfl | exact kd _ (mem3 rfl) rfl | exact kd _ (mem4 rfl) rfl | exact kd _ (mem5 rfl) rfl
          have t61 : ρ (.tmp 61) = .bool true := (ks 30 61 (by decide) rfl).trans d30
          simp [execOp, go_sem, kc, t57, t61]
          exact ⟨hC, Below.refl _ _, rfl⟩
        · refine stepW_of_u ⟨rfl, fun v W ρ hC kc kf ks ki kd => ?_⟩
          have d31 : v 31 = .bool true := by first | exact kd _ (mem0 rfl) rfl | exact kd _ (mem1 rfl) rfl | exact kd _ (mem2 rfl) rfl | exact kd _ (mem3 rfl) rfl | exact kd _ (mem4 rfl) rfl | exact kd _ (mem5 rfl) rfl
          have t62 : ρ (.tmp 62) = .bool true := (ks 31 62 (by decide) rfl).trans d31
          simp [execOp, go_sem, kc, t62]
          exact ⟨hC, Below.refl _ _, rfl⟩
        · intro v W ρ y hC kc kf ks ki ky ku kd
          have dg : v 32 = .bool true := by first | exact kd _ (mem0 rfl) rfl | exact kd _ (mem1 rfl) rfl | exact kd _ (mem2 rfl) rfl | exact kd _ (mem3 rfl) rfl | exact kd _ (mem4 rfl) rfl | exact kd _ (mem5 rfl) rfl
          have hy := ky 32 63 true (by decide) rfl dg
          rw [if_neg (by simp [Region.wanted, hy])]
          exact ⟨Below.refl _ _, rfl⟩
        · intro v W ρ y hC kc kf ks ki ky ku kd
          have dg : v 32 = .bool true := by first | exact kd _ (mem0 rfl) rfl | exact kd _ (mem1 rfl) rfl | exact kd _ (mem2 rfl) rfl | exact kd _ (mem3 rfl) rfl | exact kd _ (mem4 rfl) rfl | exact kd _ (mem5 rfl) rfl
          have hy := ky 32 63 true (by decide) rfl dg
          rw [if_neg (by simp [Region.wanted, hy])]
          exact ⟨Below.refl _ _, rfl⟩
        · intro v W ρ y hC kc kf ks ki ky ku kd
          have dg : v 32 = .bool true := by first | exact kd _ (mem0 rfl) rfl | exact kd _ (mem1 rfl) rfl | exact kd _ (mem2 rfl) rfl | exact kd _ (mem3 rfl) rfl | exact kd _ (mem4 rfl) rfl | exact kd _ (mem5 rfl) rfl
          have hy := ky 32 63 true (by decide) rfl dg
          rw [if_neg (by simp [Region.wanted, hy])]
          exact ⟨Below.refl _ _, rfl⟩
        · intro v W ρ y hC kc kf ks ki ky ku kd
          have dg : v 32 = .bool true := by first | exact kd _ (mem0 rfl) rfl | exact kd _ (mem1 rfl) rfl | exact kd _ (mem2 rfl) rfl | exact kd _ (mem3 rfl) rfl | exact kd _ (mem4 rfl) rfl | exact kd _ (mem5 rfl) rfl
          have hy := ky 32 63 true (by decide) rfl dg
          rw [if_neg (by simp [Region.wanted, hy])]
          exact ⟨Below.refl _ _, rfl⟩
        · refine stepW_of_u ⟨rfl, fun v W ρ hC kc kf ks ki kd => ?_⟩
          have d32 : v 32 = .bool true := by first | exact kd _ (mem0 rfl) rfl | exact kd _ (mem1 rfl) rfl | exact kd _ (mem2 rfl) rfl | exact kd _ (mem3 rfl) rfl | exact kd _ (mem4 rfl) rfl | exact kd _ (mem5 rfl) rfl
          have t63 : ρ (.tmp 63) = .bool true := (ks 32 63 (by decide) rfl).trans d32
          simp [execOp, go_sem, kc, t63]
          exact ⟨hC, Below.refl _ _, rfl⟩
        · refine stepW_of_u ⟨rfl, fun v W ρ hC kc kf ks ki kd => ?_⟩
          have d37 : v 37 = .bool true := by first | exact kd _ (mem0 rfl) rfl | exact kd _ (mem1 rfl) rfl | exact kd _ (mem2 rfl) rfl | exact kd _ (mem3 rfl) rfl | exact kd _ (mem4 rfl) rfl | exact kd _ (mem5 rfl) rfl
          have t68 : ρ (.tmp 68) = .bool true := (ks 37 68 (by decide) rfl).trans d37
          simp [execOp, go_sem, kc, t68]
          exact ⟨hC, Below.refl _ _, rfl⟩
        · intro v W ρ y hC kc kf ks ki ky ku kd
          have dg : v 38 = .bool true := by first | exact kd _ (mem0 rfl) rfl | exact kd _ (mem1 rfl) rfl | exact kd _ (mem2 rfl) rfl | exact kd _ (mem3 rfl) rfl | exact kd _ (mem4 rfl) rfl | exact kd _ (mem5 rfl) rfl
          have hy := ky 38 69 true (by decide) rfl dg
          rw [if_neg (by simp [Region.wanted, hy])]
          exact ⟨Below.refl _ _, rfl⟩
        · intro v W ρ y hC kc kf ks ki ky ku kd
          have dg : v 38 = .bool true := by first | exact kd _ (mem0 rfl) rfl | exact kd _ (mem1 rfl) rfl | exact kd _ (mem2 rfl) rfl | exact kd _ (mem3 rfl) rfl | exact kd _ (mem4 rfl) rfl | exact kd _ (mem5 rfl) rfl
          have hy := ky 38 69 true (by decide) rfl dg
          rw [if_neg (by simp [Region.wanted, hy])]
          exact ⟨Below.refl _ _, rfl⟩
        · intro v W ρ y hC kc kf ks ki ky ku kd
          have dg : v 38 = .bool true := by first | exact kd _ (mem0 rfl) rfl | exact kd _ (mem1 rfl) rfl | exact kd _ (mem2 rfl) rfl | exact kd _ (mem3 rfl) rfl | exact kd _ (mem4 rfl) rfl | exact kd _ (mem5 rfl) rfl
          have hy := ky 38 69 true (by decide) rfl dg
          rw [if_neg (by simp [Region.wanted, hy])]
          exact ⟨Below.refl _ _, rfl⟩
        · intro v W ρ y hC kc kf ks ki ky ku kd
          have dg : v 38 = .bool true := by first | exact kd _ (mem0 rfl) rfl | exact kd _ (mem1 rfl) rfl | exact kd _ (mem2 rfl) rfl | exact kd _ (mem3 rfl) rfl | exact kd _ (mem4 rfl) rfl | exact kd _ (mem5 rfl) rfl
          have hy := ky 38 69 true (by decide) rfl dg
          rw [if_neg (by simp [Region.wanted, hy])]
          exact ⟨Below.refl _ _, rfl⟩
        · intro v W ρ y hC kc kf ks ki ky ku kd
          have dg : v 38 = .bool true := by first | exact kd _ (mem0 rfl) rfl | exact kd _ (mem1 rfl) rfl | exact kd _ (mem2 rfl) rfl | exact kd _ (mem3 rfl) rfl | exact kd _ (mem4 rfl) rfl | exact kd _ (mem5 rfl) rfl
          have hy := ky 38 69 true (by decide) rfl dg
          rw [if_neg (by simp [Region.wanted, hy])]
          exact ⟨Below.refl _ _, rfl⟩
        · refine stepW_of_u ⟨rfl, fun v W ρ hC kc kf ks ki kd => ?_⟩
          have d38 : v 38 = .bool true := by first | exact kd _ (mem0 rfl) rfl | exact kd _ (mem1 rfl) rfl | exact kd _ (mem2 rfl) rfl | exact kd _ (mem3 rfl) rfl | exact kd _ (mem4 rfl) rfl | exact kd _ (mem5 rfl) rfl
          have t69 : ρ (.tmp 69) = .bool true := (ks 38 69 (by decide) rfl).trans d38
          simp [execOp, go_sem, kc, t69]
          exact ⟨hC, Below.refl _ _, rfl⟩
      intro vF4 WF4 hbF4 hall
      have hvF4 : vF4 44 = .bool true := hall 44 (by decide)
      simp [upto, Act.put]
      rw [hvF4]
      clear hall hvF4
      have hL1 := hidS (hL0.out.trans (hbF4.mono hL0.out.size))
      have E : Hid (rightR r = false) := hE.out.trans (by rw [h4] <;> simp)
      clear hE
      go_wp2_with fail
      go_ret
      exact ⟨by rw [E.out]; rfl, hL1.out⟩
    rw [h4] at HLo
    cases h5 : (wordB r.high)
    · rw [h5] at HHi
      go_wp2_with fail
      refine grow_guarded 45 [.is (.pointer (some ⟨w.heap.size, 2, none⟩)), .is (.int .i64 r.net), .is (.bool true), .is (.bool false), .is (.bool false), .is (.pointer (some ⟨w.heap.size, 3, none⟩)), .is (.int .i64 r.bits), .is (.bool true), .is (.bool false), .is (.bool false), .is (.bool false), .is (.pointer (some ⟨w.heap.size, 2, none⟩)), .is (.int .i64 r.net), .is (.pointer (some ⟨w.heap.size, 3, none⟩)), .is (.int .i64 r.bits), .is (.int .i64 (headN r.net r.bits)), .is (.pointer (some ⟨w.heap.size, 2, none⟩)), .is (.int .i64 r.net), .is (.bool false), .is (.bool false), .is (.bool false), .is (.pointer (some ⟨w.heap.size, 4, none⟩)), .is (.int .i64 r.goal), .is (.bool true), .is (.bool false), .is (.bool false), .is (.bool false), .is (.pointer (some ⟨w.heap.size, 5, none⟩)), .is (.int .i64 r.low), .is (.bool true), .is (.bool false), .is (.bool false), .is (.bool false), .is (.pointer (some ⟨w.heap.size, 6, none⟩)), .is (.int .i64 r.high), .is (.bool false), .is (.bool true), .is (.bool true), .is (.bool true), .is (undef), .is (undef), .is (undef), .is (undef), .is (undef), .is (.bool true)] rfl (by kernel_rfl) (by kernel_rfl) ?stepsF5 ?finF5
      case stepsF5 =>
        refine ⟨?_, ?_, ?_, ?_, ?_, ?_, ?_, ?_, ?_, ?_, ?_, ?_, ?_, ?_, ?_, ?_, ?_, ?_, ?_, ?_, ?_, ?_, ?_, ?_, ?_, ?_, ?_, ?_, ?_, ?_, ?_, ?_, ?_, ?_, ?_, ?_, ?_, ?_, ?_, ?_, ?_, ?_, ?_, ?_, ?_, trivial⟩
        · refine stepW_of_u ⟨rfl, fun v W ρ hC kc kf ks ki kd => ?_⟩
          have t1 : ρ (.tmp 1) = .pointer (some ⟨w.heap.size, 0, none⟩) := ki 1 (by decide)
          simp [execOp, go_sem, kc, t1]
          exact ⟨hC, Below.refl _ _, rfl⟩
        · refine stepW_of_u ⟨rfl, fun v W ρ hC kc kf ks ki kd => ?_⟩
          have d0 : v 0 = .pointer (some ⟨w.heap.size, 2, none⟩) := by first | exact kd _ (mem0 rfl) rfl | exact kd _ (mem1 rfl) rfl | exact kd _ (mem2 rfl) rfl | exact kd _ (mem3 rfl) rfl | exact kd _ (mem4 rfl) rfl | exact kd _ (mem5 rfl) rfl
          have t31 : ρ (.tmp 31) = .pointer (some ⟨w.heap.size, 2, none⟩) := (ks 0 31 (by decide) rfl).trans d0
          have hg := blk_later hGR0.out hC
          have c2 := blk_cell hg 2
          simp at c2
          simp [execOp, go_sem, kc, t31, c2]
          exact ⟨hC, Below.refl _ _, rfl⟩
        · refine stepW_of_u ⟨rfl, fun v W ρ hC kc kf ks ki kd => ?_⟩
          have d1 : v 1 = .int .i64 r.net := by first | exact kd _ (mem0 rfl) rfl | exact kd _ (mem1 rfl) rfl | exact kd _ (mem2 rfl) rfl | exact kd _ (mem3 rfl) rfl | exact kd _ (mem4 rfl) rfl | exact kd _ (mem5 rfl) rfl
          have t32 : ρ (.tmp 32) = .int .i64 r.net := (ks 1 32 (by decide) rfl).trans d1
          simp [execOp, go_sem, kc, t32, kf]
          exact Calls.mono (HA.out W) (fun e x h => ⟨_, h.1, hC.trans (h.2.mono hC.size), h.2, rfl⟩)
        · refine stepW_of_u ⟨rfl, fun v W ρ hC kc kf ks ki kd => ?_⟩
          have d2 : v 2 = .bool true := by first | exact kd _ (mem0 rfl) rfl | exact kd _ (mem1 rfl) rfl | exact kd _ (mem2 rfl) rfl | exact kd _ (mem3 rfl) rfl | exact kd _ (mem4 rfl) rfl | exact kd _ (mem5 rfl) rfl
          have t33 : ρ (.tmp 33) = .bool true := (ks 2 33 (by decide) rfl).trans d2
          simp [execOp, go_sem, kc, t33]
          exact ⟨hC, Below.refl _ _, rfl⟩
        · refine stepW_of_u ⟨rfl, fun v W ρ hC kc kf ks ki kd => ?_⟩
          have d3 : v 3 = .bool false := by first | exact kd _ (mem0 rfl) rfl | exact kd _ (mem1 rfl) rfl | exact kd _ (mem2 rfl) rfl | exact kd _ (mem3 rfl) rfl | exact kd _ (mem4 rfl) rfl | exact kd _ (mem5 rfl) rfl
          have t34 : ρ (.tmp 34) = .bool false := (ks 3 34 (by decide) rfl).trans d3
          simp [execOp, go_sem, kc, t34]
          exact ⟨hC, Below.refl _ _, rfl⟩
        · intro v W ρ y hC kc kf ks ki ky ku kd
          have dg : v 4 = .bool false := by first | exact kd _ (mem0 rfl) rfl | exact kd _ (mem1 rfl) rfl | exact kd _ (mem2 rfl) rfl | exact kd _ (mem3 rfl) rfl | exact kd _ (mem4 rfl) rfl | exact kd _ (mem5 rfl) rfl
          have hy := ky 4 35 false (by decide) rfl dg
          rw [if_pos (by simp [Region.wanted, hy])]
          have t1 : ρ (.tmp 1) = .pointer (some ⟨w.heap.size, 0, none⟩) := ki 1 (by decide)
          simp [execOp, go_sem, kc, t1]
          exact ⟨hC, Below.refl _ _, rfl⟩
        · intro v W ρ y hC kc kf ks ki ky ku kd
          have dg : v 4 = .bool false := by first | exact kd _ (mem0 rfl) rfl | exact kd _ (mem1 rfl) rfl | exact kd _ (mem2 rfl) rfl | exact kd _ (mem3 rfl) rfl | exact kd _ (mem4 rfl) rfl | exact kd _ (mem5 rfl) rfl
          have hy := ky 4 35 false (by decide) rfl dg
          rw [if_pos (by simp [Region.wanted, hy])]
          have d5 : v 5 = .pointer (some ⟨w.heap.size, 3, none⟩) := by first | exact kd _ (mem0 rfl) rfl | exact kd _ (mem1 rfl) rfl | exact kd _ (mem2 rfl) rfl | exact kd _ (mem3 rfl) rfl | exact kd _ (mem4 rfl) rfl | exact kd _ (mem5 rfl) rfl
          have t36 : ρ (.tmp 36) = .pointer (some ⟨w.heap.size, 3, none⟩) := (ks 5 36 (by decide) rfl).trans d5
          have hg := blk_later hGR0.out hC
          have c3 := blk_cell hg 3
          simp at c3
          simp [execOp, go_sem, kc, t36, c3]
          exact ⟨hC, Below.refl _ _, rfl⟩
        · intro v W ρ y hC kc kf ks ki ky ku kd
          have dg : v 4 = .bool false := by first | exact kd _ (mem0 rfl) rfl | exact kd _ (mem1 rfl) rfl | exact kd _ (mem2 rfl) rfl | exact kd _ (mem3 rfl) rfl | exact kd _ (mem4 rfl) rfl | exact kd _ (mem5 rfl) rfl
          have hy := ky 4 35 false (by decide) rfl dg
          rw [if_pos (by simp [Region.wanted, hy])]
          have d6 : v 6 = .int .i64 r.bits := by first | exact kd _ (mem0 rfl) rfl | exact kd _ (mem1 rfl) rfl | exact kd _ (mem2 rfl) rfl | exact kd _ (mem3 rfl) rfl | exact kd _ (mem4 rfl) rfl | exact kd _ (mem5 rfl) rfl
          have t37 : ρ (.tmp 37) = .int .i64 r.bits := (ks 6 37 (by decide) rfl).trans d6
          simp [execOp, go_sem, kc, t37, kf]
          exact Calls.mono (HB.out W) (fun e x h => ⟨_, h.1, hC.trans (h.2.mono hC.size), h.2, rfl⟩)
        · intro v W ρ y hC kc kf ks ki ky ku kd
          have dg : v 4 = .bool false := by first | exact kd _ (mem0 rfl) rfl | exact kd _ (mem1 rfl) rfl | exact kd _ (mem2 rfl) rfl | exact kd _ (mem3 rfl) rfl | exact kd _ (mem4 rfl) rfl | exact kd _ (mem5 rfl) rfl
          have hy := ky 4 35 false (by decide) rfl dg
          rw [if_pos (by simp [Region.wanted, hy])]
          have d7 : v 7 = .bool true := by first | exact kd _ (mem0 rfl) rfl | exact kd _ (mem1 rfl) rfl | exact kd _ (mem2 rfl) rfl | exact kd _ (mem3 rfl) rfl | exact kd _ (mem4 rfl) rfl | exact kd _ (mem5 rfl) rfl
          have t38 : ρ (.tmp 38) = .bool true := (ks 7 38 (by decide) rfl).trans d7
          simp [execOp, go_sem, kc, t38]
          exact ⟨hC, Below.refl _ _, rfl⟩
        · refine stepW_of_u ⟨rfl, fun v W ρ hC kc kf ks ki kd => ?_⟩
          have d4 : v 4 = .bool false := by first | exact kd _ (mem0 rfl) rfl | exact kd _ (mem1 rfl) rfl | exact kd _ (mem2 rfl) rfl | exact kd _ (mem3 rfl) rfl | exact kd _ (mem4 rfl) rfl | exact kd _ (mem5 rfl) rfl
          have t35 : ρ (.tmp 35) = .bool false := (ks 4 35 (by decide) rfl).trans d4
          have d8 : v 8 = .bool false := by first | exact kd _ (mem0 rfl) rfl | exact kd _ (mem1 rfl) rfl | exact kd _ (mem2 rfl) rfl | exact kd _ (mem3 rfl) rfl | exact kd _ (mem4 rfl) rfl | exact kd _ (mem5 rfl) rfl
          have t39 : ρ (.tmp 39) = .bool false := (ks 8 39 (by decide) rfl).trans d8
          simp [execOp, go_sem, kc, t35, t39]
          exact ⟨hC, Below.refl _ _, rfl⟩
        · refine stepW_of_u ⟨rfl, fun v W ρ hC kc kf ks ki kd => ?_⟩
          have d9 : v 9 = .bool false := by first | exact kd _ (mem0 rfl) rfl | exact kd _ (mem1 rfl) rfl | exact kd _ (mem2 rfl) rfl | exact kd _ (mem3 rfl) rfl | exact kd _ (mem4 rfl) rfl | exact kd _ (mem5 rfl) rfl
          have t40 : ρ (.tmp 40) = .bool false := (ks 9 40 (by decide) rfl).trans d9
          simp [execOp, go_sem, kc, t40]
          exact ⟨hC, Below.refl _ _, rfl⟩
        · intro v W ρ y hC kc kf ks ki ky ku kd
          have dg : v 10 = .bool false := by first | exact kd _ (mem0 rfl) rfl | exact kd _ (mem1 rfl) rfl | exact kd _ (mem2 rfl) rfl | exact kd _ (mem3 rfl) rfl | exact kd _ (mem4 rfl) rfl | exact kd _ (mem5 rfl) rfl
          have hy := ky 10 41 false (by decide) rfl dg
          rw [if_pos (by simp [Region.wanted, hy])]
          have t1 : ρ (.tmp 1) = .pointer (some ⟨w.heap.size, 0, none⟩) := ki 1 (by decide)
          simp [execOp, go_sem, kc, t1]
          exact ⟨hC, Below.refl _ _, rfl⟩
        · intro v W ρ y hC kc kf ks ki ky ku kd
          have dg : v 10 = .bool false := by first | exact kd _ (mem0 rfl) rfl | exact kd _ (mem1 rfl) rfl | exact kd _ (mem2 rfl) rfl | exact kd _ (mem3 rfl) rfl | exact kd _ (mem4 rfl) rfl | exact kd _ (mem5 rfl) rfl
          have hy := ky 10 41 false (by decide) rfl dg
          rw [if_pos (by simp [Region.wanted, hy])]
          have d11 : v 11 = .pointer (some ⟨w.heap.size, 2, none⟩) := by first | exact kd _ (mem0 rfl) rfl | exact kd _ (mem1 rfl) rfl | exact kd _ (mem2 rfl) rfl | exact kd _ (mem3 rfl) rfl | exact kd _ (mem4 rfl) rfl | exact kd _ (mem5 rfl) rfl
          have t42 : ρ (.tmp 42) = .pointer (some ⟨w.heap.size, 2, none⟩) := (ks 11 42 (by decide) rfl).trans d11
          have hg := blk_later hGR0.out hC
          have c2 := blk_cell hg 2
          simp at c2
          simp [execOp, go_sem, kc, t42, c2]
          exact ⟨hC, Below.refl _ _, rfl⟩
        · intro v W ρ y hC kc kf ks ki ky ku kd
          have dg : v 10 = .bool false := by first | exact kd _ (mem0 rfl) rfl | exact kd _ (mem1 rfl) rfl | exact kd _ (mem2 rfl) rfl | exact kd _ (mem3 rfl) rfl | exact kd _ (mem4 rfl) rfl | exact kd _ (mem5 rfl) rfl
          have hy := ky 10 41 false (by decide) rfl dg
          rw [if_pos (by simp [Region.wanted, hy])]
          have t1 : ρ (.tmp 1) = .pointer (some ⟨w.heap.size, 0, none⟩) := ki 1 (by decide)
          simp [execOp, go_sem, kc, t1]
          exact ⟨hC, Below.refl _ _, rfl⟩
        · intro v W ρ y hC kc kf ks ki ky ku kd
          have dg : v 10 = .bool false := by first | exact kd _ (mem0 rfl) rfl | exact kd _ (mem1 rfl) rfl | exact kd _ (mem2 rfl) rfl | exact kd _ (mem3 rfl) rfl | exact kd _ (mem4 rfl) rfl | exact kd _ (mem5 rfl) rfl
          have hy := ky 10 41 false (by decide) rfl dg
          rw [if_pos (by simp [Region.wanted, hy])]
          have d13 : v 13 = .pointer (some ⟨w.heap.size, 3, none⟩) := by first | exact kd _ (mem0 rfl) rfl | exact kd _ (mem1 rfl) rfl | exact kd _ (mem2 rfl) rfl | exact kd _ (mem3 rfl) rfl | exact kd _ (mem4 rfl) rfl | exact kd _ (mem5 rfl) rfl
          have t44 : ρ (.tmp 44) = .pointer (some ⟨w.heap.size, 3, none⟩) := (ks 13 44 (by decide) rfl).trans d13
          have hg := blk_later hGR0.out hC
          have c3 := blk_cell hg 3
          simp at c3
          simp [execOp, go_sem, kc, t44, c3]
          exact ⟨hC, Below.refl _ _, rfl⟩
        · intro v W ρ y hC kc kf ks ki ky ku kd
          have dg : v 10 = .bool false := by first | exact kd _ (mem0 rfl) rfl | exact kd _ (mem1 rfl) rfl | exact kd _ (mem2 rfl) rfl | exact kd _ (mem3 rfl) rfl | exact kd _ (mem4 rfl) rfl | exact kd _ (mem5 rfl) rfl
          have hy := ky 10 41 false (by decide) rfl dg
          rw [if_pos (by simp [Region.wanted, hy])]
          have d12 : v 12 = .int .i64 r.net := by first | exact kd _ (mem0 rfl) rfl | exact kd _ (mem1 rfl) rfl | exact kd _ (mem2 rfl) rfl | exact kd _ (mem3 rfl) rfl | exact kd _ (mem4 rfl) rfl | exact kd _ (mem5 rfl) rfl
          have t43 : ρ (.tmp 43) = .int .i64 r.net := (ks 12 43 (by decide) rfl).trans d12
          have d14 : v 14 = .int .i64 r.bits := by first | exact kd _ (mem0 rfl) rfl | exact kd _ (mem1 rfl) rfl | exact kd _ (mem2 rfl) rfl | exact kd _ (mem3 rfl) rfl | exact kd _ (mem4 rfl) rfl | exact kd _ (mem5 rfl) rfl
          have t45 : ρ (.tmp 45) = .int .i64 r.bits := (ks 14 45 (by decide) rfl).trans d14
          simp [execOp, go_sem, kc, t43, t45, kf]
          exact Calls.mono (HH.out W) (fun e x h => ⟨_, h.1, hC.trans (h.2.mono hC.size), h.2, rfl⟩)
        · intro v W ρ y hC kc kf ks ki ky ku kd
          have dg : v 10 = .bool false := by first | exact kd _ (mem0 rfl) rfl | exact kd _ (mem1 rfl) rfl | exact kd _ (mem2 rfl) rfl | exact kd _ (mem3 rfl) rfl | exact kd _ (mem4 rfl) rfl | exact kd _ (mem5 rfl) rfl
          have hy := ky 10 41 false (by decide) rfl dg
          rw [if_pos (by simp [Region.wanted, hy])]
          have t1 : ρ (.tmp 1) = .pointer (some ⟨w.heap.size, 0, none⟩) := ki 1 (by decide)
          simp [execOp, go_sem, kc, t1]
          exact ⟨hC, Below.refl _ _, rfl⟩
        · intro v W ρ y hC kc kf ks ki ky ku kd
          have dg : v 10 = .bool false := by first | exact kd _ (mem0 rfl) rfl | exact kd _ (mem1 rfl) rfl | exact kd _ (mem2 rfl) rfl | exact kd _ (mem3 rfl) rfl | exact kd _ (mem4 rfl) rfl | exact kd _ (mem5 rfl) rfl
          have hy := ky 10 41 false (by decide) rfl dg
          rw [if_pos (by simp [Region.wanted, hy])]
          have d16 : v 16 = .pointer (some ⟨w.heap.size, 2, none⟩) := by first | exact kd _ (mem0 rfl) rfl | exact kd _ (mem1 rfl) rfl | exact kd _ (mem2 rfl) rfl | exact kd _ (mem3 rfl) rfl | exact kd _ (mem4 rfl) rfl | exact kd _ (mem5 rfl) rfl
          have t47 : ρ (.tmp 47) = .pointer (some ⟨w.heap.size, 2, none⟩) := (ks 16 47 (by decide) rfl).trans d16
          have hg := blk_later hGR0.out hC
          have c2 := blk_cell hg 2
          simp at c2
          simp [execOp, go_sem, kc, t47, c2]
          exact ⟨hC, Below.refl _ _, rfl⟩
        · intro v W ρ y hC kc kf ks ki ky ku kd
          have dg : v 10 = .bool false := by first | exact kd _ (mem0 rfl) rfl | exact kd _ (mem1 rfl) rfl | exact kd _ (mem2 rfl) rfl | exact kd _ (mem3 rfl) rfl | exact kd _ (mem4 rfl) rfl | exact kd _ (mem5 rfl) rfl
          have hy := ky 10 41 false (by decide) rfl dg
          rw [if_pos (by simp [Region.wanted, hy])]
          have d15 : v 15 = .int .i64 (headN r.net r.bits) := by first | exact kd _ (mem0 rfl) rfl | exact kd _ (mem1 rfl) rfl | exact kd _ (mem2 rfl) rfl | exact kd _ (mem3 rfl) rfl | exact kd _ (mem4 rfl) rfl | exact kd _ (mem5 rfl) rfl
          have t46 : ρ (.tmp 46) = .int .i64 (headN r.net r.bits) := (ks 15 46 (by decide) rfl).trans d15
          have d17 : v 17 = .int .i64 r.net := by first | exact kd _ (mem0 rfl) rfl | exact kd _ (mem1 rfl) rfl | exact kd _ (mem2 rfl) rfl | exact kd _ (mem3 rfl) rfl | exact kd _ (mem4 rfl) rfl | exact kd _ (mem5 rfl) rfl
          have t48 : ρ (.tmp 48) = .int .i64 r.net := (ks 17 48 (by decide) rfl).trans d17
          simp [execOp, go_sem, kc, t46, t48, hh]
          exact ⟨hC, Below.refl _ _, rfl⟩
        · refine stepW_of_u ⟨rfl, fun v W ρ hC kc kf ks ki kd => ?_⟩
          have d10 : v 10 = .bool false := by first | exact kd _ (mem0 rfl) rfl | exact kd _ (mem1 rfl) rfl | exact kd _ (mem2 rfl) rfl | exact kd _ (mem3 rfl) rfl | exact kd _ (mem4 rfl) rfl | exact kd _ (mem5 rfl) rfl
          have t41 : ρ (.tmp 41) = .bool false := (ks 10 41 (by decide) rfl).trans d10
          have d18 : v 18 = .bool false := by first | exact kd _ (mem0 rfl) rfl | exact kd _ (mem1 rfl) rfl | exact kd _ (mem2 rfl) rfl | exact kd _ (mem3 rfl) rfl | exact kd _ (mem4 rfl) rfl | exact kd _ (mem5 rfl) rfl
          have t49 : ρ (.tmp 49) = .bool false := (ks 18 49 (by decide) rfl).trans d18
          simp [execOp, go_sem, kc, t41, t49]
          exact ⟨hC, Below.refl _ _, rfl⟩
        · refine stepW_of_u ⟨rfl, fun v W ρ hC kc kf ks ki kd => ?_⟩
          have d19 : v 19 = .bool false := by first | exact kd _ (mem0 rfl) rfl | exact kd _ (mem1 rfl) rfl | exact kd _ (mem2 rfl) rfl | exact kd _ (mem3 rfl) rfl | exact kd _ (mem4 rfl) rfl | exact kd _ (mem5 rfl) rfl
          have t50 : ρ (.tmp 50) = .bool false := (ks 19 50 (by decide) rfl).trans d19
          simp [execOp, go_sem, kc, t50]
          exact ⟨hC, Below.refl _ _, rfl⟩
        · intro v W ρ y hC kc kf ks ki ky ku kd
          have dg : v 20 = .bool false := by first | exact kd _ (mem0 rfl) rfl | exact kd _ (mem1 rfl) rfl | exact kd _ (mem2 rfl) rfl | exact kd _ (mem3 rfl) rfl | exact kd _ (mem4 rfl) rfl | exact kd _ (mem5 rfl) rfl
          have hy := ky 20 51 false (by decide) rfl dg
          rw [if_pos (by simp [Region.wanted, hy])]
          have t1 : ρ (.tmp 1) = .pointer (some ⟨w.heap.size, 0, none⟩) := ki 1 (by decide)
          simp [execOp, go_sem, kc, t1]
          exact ⟨hC, Below.refl _ _, rfl⟩
        · intro v W ρ y hC kc kf ks ki ky ku kd
          have dg : v 20 = .bool false := by first | exact kd _ (mem0 rfl) rfl | exact kd _ (mem1 rfl) rfl | exact kd _ (mem2 rfl) rfl | exact kd _ (mem3 rfl) rfl | exact kd _ (mem4 rfl) rfl | exact kd _ (mem5 rfl) rfl
          have hy := ky 20 51 false (by decide) rfl dg
          rw [if_pos (by simp [Region.wanted, hy])]
          have d21 : v 21 = .pointer (some ⟨w.heap.size, 4, none⟩) := by first | exact kd _ (mem0 rfl) rfl | exact kd _ (mem1 rfl) rfl | exact kd _ (mem2 rfl) rfl | exact kd _ (mem3 rfl) rfl | exact kd _ (mem4 rfl) rfl | exact kd _ (mem5 rfl) rfl
          have t52 : ρ (.tmp 52) = .pointer (some ⟨w.heap.size, 4, none⟩) := (ks 21 52 (by decide) rfl).trans d21
          have hg := blk_later hGR0.out hC
          have c4 := blk_cell hg 4
          simp at c4
          simp [execOp, go_sem, kc, t52, c4]
          exact ⟨hC, Below.refl _ _, rfl⟩
        · intro v W ρ y hC kc kf ks ki ky ku kd
          have dg : v 20 = .bool false := by first | exact kd _ (mem0 rfl) rfl | exact kd _ (mem1 rfl) rfl | exact kd _ (mem2 rfl) rfl | exact kd _ (mem3 rfl) rfl | exact kd _ (mem4 rfl) rfl | exact kd _ (mem5 rfl) rfl
          have hy := ky 20 51 false (by decide) rfl dg
          rw [if_pos (by simp [Region.wanted, hy])]
          have d22 : v 22 = .int .i64 r.goal := by first | exact kd _ (mem0 rfl) rfl | exact kd _ (mem1 rfl) rfl | exact kd _ (mem2 rfl) rfl | exact kd _ (mem3 rfl) rfl | exact kd _ (mem4 rfl) rfl | exact kd _ (mem5 rfl) rfl
          have t53 : ρ (.tmp 53) = .int .i64 r.goal := (ks 22 53 (by decide) rfl).trans d22
          simp [execOp, go_sem, kc, t53, kf]
          exact Calls.mono (HT.out W) (fun e x h => ⟨_, h.1, hC.trans (h.2.mono hC.size), h.2, rfl⟩)
        · intro v W ρ y hC kc kf ks ki ky ku kd
          have dg : v 20 = .bool false := by first | exact kd _ (mem0 rfl) rfl | exact kd _ (mem1 rfl) rfl | exact kd _ (mem2 rfl) rfl | exact kd _ (mem3 rfl) rfl | exact kd _ (mem4 rfl) rfl | exact kd _ (mem5 rfl) rfl
          have hy := ky 20 51 false (by decide) rfl dg
          rw [if_pos (by simp [Region.wanted, hy])]
          have d23 : v 23 = .bool true := by first | exact kd _ (mem0 rfl) rfl | exact kd _ (mem1 rfl) rfl | exact kd _ (mem2 rfl) rfl | exact kd _ (mem3 rfl) rfl | exact kd _ (mem4 rfl) rfl | exact kd _ (mem5 rfl) rfl
          have t54 : ρ (.tmp 54) = .bool true := (ks 23 54 (by decide) rfl).trans d23
          simp [execOp, go_sem, kc, t54]
          exact ⟨hC, Below.refl _ _, rfl⟩
        · refine stepW_of_u ⟨rfl, fun v W ρ hC kc kf ks ki kd => ?_⟩
          have d20 : v 20 = .bool false := by first | exact kd _ (mem0 rfl) rfl | exact kd _ (mem1 rfl) rfl | exact kd _ (mem2 rfl) rfl | exact kd _ (mem3 rfl) rfl | exact kd _ (mem4 rfl) rfl | exact kd _ (mem5 rfl) rfl
          have t51 : ρ (.tmp 51) = .bool false := (ks 20 51 (by decide) rfl).trans d20
          have d24 : v 24 = .bool false := by first | exact kd _ (mem0 rfl) rfl | exact kd _ (mem1 rfl) rfl | exact kd _ (mem2 rfl) rfl | exact kd _ (mem3 rfl) rfl | exact kd _ (mem4 rfl) rfl | exact kd _ (mem5 rfl) rfl
          have t55 : ρ (.tmp 55) = .bool false := (ks 24 55 (by decide) rfl).trans d24
          simp [execOp, go_sem, kc, t51, t55]
          exact ⟨hC, Below.refl _ _, rfl⟩
        · refine stepW_of_u ⟨rfl, fun v W ρ hC kc kf ks ki kd => ?_⟩
          have d25 : v 25 = .bool false := by first | exact kd _ (mem0 rfl) rfl | exact kd _ (mem1 rfl) rfl | exact kd _ (mem2 rfl) rfl | exact kd _ (mem3 rfl) rfl | exact kd _ (mem4 rfl) rfl | exact kd _ (mem5 rfl) rfl
          have t56 : ρ (.tmp 56) = .bool false := (ks 25 56 (by decide) rfl).trans d25
          simp [execOp, go_sem, kc, t56]
          exact ⟨hC, Below.refl _ _, rfl⟩
        · intro v W ρ y hC kc kf ks ki ky ku kd
          have dg : v 26 = .bool false := by first | exact kd _ (mem0 rfl) rfl | exact kd _ (mem1 rfl) rfl | exact kd _ (mem2 rfl) rfl | exact kd _ (mem3 rfl) rfl | exact kd _ (mem4 rfl) rfl | exact kd _ (mem5 rfl) rfl
          have hy := ky 26 57 false (by decide) rfl dg
          rw [if_pos (by simp [Region.wanted, hy])]
          have t1 : ρ (.tmp 1) = .pointer (some ⟨w.heap.size, 0, none⟩) := ki 1 (by decide)
          simp [execOp, go_sem, kc, t1]
          exact ⟨hC, Below.refl _ _, rfl⟩
        · intro v W ρ y hC kc kf ks ki ky ku kd
          have dg : v 26 = .bool false := by first | exact kd _ (mem0 rfl) rfl | exact kd _ (mem1 rfl) rfl | exact kd _ (mem2 rfl) rfl | exact kd _ (mem3 rfl) rfl | exact kd _ (mem4 rfl) rfl | exact kd _ (mem5 rfl) rfl
          have hy := ky 26 57 false (by decide) rfl dg
          rw [if_pos (by simp [Region.wanted, hy])]
          have d27 : v 27 = .pointer (some ⟨w.heap.size, 5, none⟩) := by first | exact kd _ (mem0 rfl) rfl | exact kd _ (mem1 rfl) rfl | exact kd _ (mem2 rfl) rfl | exact kd _ (mem3 rfl) rfl | exact kd _ (mem4 rfl) rfl | exact kd _ (mem5 rfl) rfl
          have t58 : ρ (.tmp 58) = .pointer (some ⟨w.heap.size, 5, none⟩) := (ks 27 58 (by decide) rfl).trans d27
          have hg := blk_later hGR0.out hC
          have c5 := blk_cell hg 5
          simp at c5
          simp [execOp, go_sem, kc, t58, c5]
          exact ⟨hC, Below.refl _ _, rfl⟩
        · intro v W ρ y hC kc kf ks ki ky ku kd
          have dg : v 26 = .bool false := by first | exact kd _ (mem0 rfl) rfl | exact kd _ (mem1 rfl) rfl | exact kd _ (mem2 rfl) rfl | exact kd _ (mem3 rfl) rfl | exact kd _ (mem4 rfl) rfl | exact kd _ (mem5 rfl) rfl
          have hy := ky 26 57 false (by decide) rfl dg
          rw [if_pos (by simp [Region.wanted, hy])]
          have d28 : v 28 = .int .i64 r.low := by first | exact kd _ (mem0 rfl) rfl | exact kd _ (mem1 rfl) rfl | exact kd _ (mem2 rfl) rfl | exact kd _ (mem3 rfl) rfl | exact kd _ (mem4 rfl) rfl | exact kd _ (mem5 rfl) rfl
          have t59 : ρ (.tmp 59) = .int .i64 r.low := (ks 28 59 (by decide) rfl).trans d28
          simp [execOp, go_sem, kc, t59, kf]
          exact Calls.mono (HLo.out W) (fun e x h => ⟨_, h.1, hC.trans (h.2.mono hC.size), h.2, rfl⟩)
        · intro v W ρ y hC kc kf ks ki ky ku kd
          have dg : v 26 = .bool false := by first | exact kd _ (mem0 rfl) rfl | exact kd _ (mem1 rfl) rfl | exact kd _ (mem2 rfl) rfl | exact kd _ (mem3 rfl) rfl | exact kd _ (mem4 rfl) rfl | exact kd _ (mem5 rfl) rfl
          have hy := ky 26 57 false (by decide) rfl dg
          rw [if_pos (by simp [Region.wanted, hy])]
          have d29 : v 29 = .bool true := by first | exact kd _ (mem0 rfl) rfl | exact kd _ (mem1 rfl) rfl | exact kd _ (mem2 rfl) rfl | exact kd _ (mem3 rfl) rfl | exact kd _ (mem4 rfl) rfl | exact kd _ (mem5 rfl) rfl
          have t60 : ρ (.tmp 60) = .bool true := (ks 29 60 (by decide) rfl).trans d29
          simp [execOp, go_sem, kc, t60]
          exact ⟨hC, Below.refl _ _, rfl⟩
        · refine stepW_of_u ⟨rfl, fun v W ρ hC kc kf ks ki kd => ?_⟩
          have d26 : v 26 = .bool false := by first | exact kd _ (mem0 rfl) rfl | exact kd _ (mem1 rfl) rfl | exact kd _ (mem2 rfl) rfl | exact kd _ (mem3 rfl) rfl | exact kd _ (mem4 rfl) rfl | exact kd _ (mem5 rfl) rfl
          have t57 : ρ (.tmp 57) = .bool false := (ks 26 57 (by decide) rfl).trans d26
          have d30 : v 30 = .bool false := by first | exact kd _ (mem0 rfl) rfl | exact kd _ (mem1 rfl) rfl | exact kd _ (mem2 rfl) rfl | exact kd _ (mem3 rfl) rfl | exact kd _ (mem4 rfl) rfl | exact kd _ (mem5 rfl) rfl
          have t61 : ρ (.tmp 61) = .bool false := (ks 30 61 (by decide) rfl).trans d30
          simp [execOp, go_sem, kc, t57, t61]
          exact ⟨hC, Below.refl _ _, rfl⟩
        · refine stepW_of_u ⟨rfl, fun v W ρ hC kc kf ks ki kd => ?_⟩
          have d31 : v 31 = .bool false := by first | exact kd _ (mem0 rfl) rfl | exact kd _ (mem1 rfl) rfl | exact kd _ (mem2 rfl) rfl | exact kd _ (mem3 rfl) rfl | exact kd _ (mem4 rfl) rfl | exact kd _ (mem5 rfl) rfl
          have t62 : ρ (.tmp 62) = .bool false := (ks 31 62 (by decide) rfl).trans d31
          simp [execOp, go_sem, kc, t62]
          exact ⟨hC, Below.refl _ _, rfl⟩
        · intro v W ρ y hC kc kf ks ki ky ku kd
          have dg : v 32 = .bool false := by first | exact kd _ (mem0 rfl) rfl | exact kd _ (mem1 rfl) rfl | exact kd _ (mem2 rfl) rfl | exact kd _ (mem3 rfl) rfl | exact kd _ (mem4 rfl) rfl | exact kd _ (mem5 rfl) rfl
          have hy := ky 32 63 false (by decide) rfl dg
          rw [if_pos (by simp [Region.wanted, hy])]
          have t1 : ρ (.tmp 1) = .pointer (some ⟨w.heap.size, 0, none⟩) := ki 1 (by decide)
          simp [execOp, go_sem, kc, t1]
          exact ⟨hC, Below.refl _ _, rfl⟩
        · intro v W ρ y hC kc kf ks ki ky ku kd
          have dg : v 32 = .bool false := by first | exact kd _ (mem0 rfl) rfl | exact kd _ (mem1 rfl) rfl | exact kd _ (mem2 rfl) rfl | exact kd _ (mem3 rfl) rfl | exact kd _ (mem4 rfl) rfl | exact kd _ (mem5 rfl) rfl
          have hy := ky 32 63 false (by decide) rfl dg
          rw [if_pos (by simp [Region.wanted, hy])]
          have d33 : v 33 = .pointer (some ⟨w.heap.size, 6, none⟩) := by first | exact kd _ (mem0 rfl) rfl | exact kd _ (mem1 rfl) rfl | exact kd _ (mem2 rfl) rfl | exact kd _ (mem3 rfl) rfl | exact kd _ (mem4 rfl) rfl | exact kd _ (mem5 rfl) rfl
          have t64 : ρ (.tmp 64) = .pointer (some ⟨w.heap.size, 6, none⟩) := (ks 33 64 (by decide) rfl).trans d33
          have hg := blk_later hGR0.out hC
          have c6 := blk_cell hg 6
          simp at c6
          simp [execOp, go_sem, kc, t64, c6]
          exact ⟨hC, Below.refl _ _, rfl⟩
        · intro v W ρ y hC kc kf ks ki ky ku kd
          have dg : v 32 = .bool false := by first | exact kd _ (mem0 rfl) rfl | exact kd _ (mem1 rfl) rfl | exact kd _ (mem2 rfl) rfl | exact kd _ (mem3 rfl) rfl | exact kd _ (mem4 rfl) rfl | exact kd _ (mem5 rfl) rfl
          have hy := ky 32 63 false (by decide) rfl dg
          rw [if_pos (by simp [Region.wanted, hy])]
          have d34 : v 34 = .int .i64 r.high := by first | exact kd _ (mem0 rfl) rfl | exact kd _ (mem1 rfl) rfl | exact kd _ (mem2 rfl) rfl | exact kd _ (mem3 rfl) rfl | exact kd _ (mem4 rfl) rfl | exact kd _ (mem5 rfl) rfl
          have t65 : ρ (.tmp 65) = .int .i64 r.high := (ks 34 65 (by decide) rfl).trans d34
          simp [execOp, go_sem, kc, t65, kf]
          exact Calls.mono (HHi.out W) (fun e x h => ⟨_, h.1, hC.trans (h.2.mono hC.size), h.2, rfl⟩)
        · intro v W ρ y hC kc kf ks ki ky ku kd
          have dg : v 32 = .bool false := by first | exact kd _ (mem0 rfl) rfl | exact kd _ (mem1 rfl) rfl | exact kd _ (mem2 rfl) rfl | exact kd _ (mem3 rfl) rfl | exact kd _ (mem4 rfl) rfl | exact kd _ (mem5 rfl) rfl
          have hy := ky 32 63 false (by decide) rfl dg
          rw [if_pos (by simp [Region.wanted, hy])]
          have d35 : v 35 = .bool false := by first | exact kd _ (mem0 rfl) rfl | exact kd _ (mem1 rfl) rfl | exact kd _ (mem2 rfl) rfl | exact kd _ (mem3 rfl) rfl | exact kd _ (mem4 rfl) rfl | exact kd _ (mem5 rfl) rfl
          have t66 : ρ (.tmp 66) = .bool false := (ks 35 66 (by decide) rfl).trans d35
          simp [execOp, go_sem, kc, t66]
          exact ⟨hC, Below.refl _ _, rfl⟩
        · refine stepW_of_u ⟨rfl, fun v W ρ hC kc kf ks ki kd => ?_⟩
          have d32 : v 32 = .bool false := by first | exact kd _ (mem0 rfl) rfl | exact kd _ (mem1 rfl) rfl | exact kd _ (mem2 rfl) rfl | exact kd _ (mem3 rfl) rfl | exact kd _ (mem4 rfl) rfl | exact kd _ (mem5 rfl) rfl
          have t63 : ρ (.tmp 63) = .bool false := (ks 32 63 (by decide) rfl).trans d32
          have d36 : v 36 = .bool true := by first | exact kd _ (mem0 rfl) rfl | exact kd _ (mem1 rfl) rfl | exact kd _ (mem2 rfl) rfl | exact kd _ (mem3 rfl) rfl | exact kd _ (mem4 rfl) rfl | exact kd _ (mem5 rfl) rfl
          have t67 : ρ (.tmp 67) = .bool true := (ks 36 67 (by decide) rfl).trans d36
          simp [execOp, go_sem, kc, t63, t67]
          exact ⟨hC, Below.refl _ _, rfl⟩
        · refine stepW_of_u ⟨rfl, fun v W ρ hC kc kf ks ki kd => ?_⟩
          have d37 : v 37 = .bool true := by first | exact kd _ (mem0 rfl) rfl | exact kd _ (mem1 rfl) rfl | exact kd _ (mem2 rfl) rfl | exact kd _ (mem3 rfl) rfl | exact kd _ (mem4 rfl) rfl | exact kd _ (mem5 rfl) rfl
          have t68 : ρ (.tmp 68) = .bool true := (ks 37 68 (by decide) rfl).trans d37
          simp [execOp, go_sem, kc, t68]
          exact ⟨hC, Below.refl _ _, rfl⟩
        · intro v W ρ y hC kc kf ks ki ky ku kd
          have dg : v 38 = .bool true := by first | exact kd _ (mem0 rfl) rfl | exact kd _ (mem1 rfl) rfl | exact kd _ (mem2 rfl) rfl | exact kd _ (mem3 rfl) rfl | exact kd _ (mem4 rfl) rfl | exact kd _ (mem5 rfl) rfl
          have hy := ky 38 69 true (by decide) rfl dg
          rw [if_neg (by simp [Region.wanted, hy])]
          exact ⟨Below.refl _ _, rfl⟩
        · intro v W ρ y hC kc kf ks ki ky ku kd
          have dg : v 38 = .bool true := by first | exact kd _ (mem0 rfl) rfl | exact kd _ (mem1 rfl) rfl | exact kd _ (mem2 rfl) rfl | exact kd _ (mem3 rfl) rfl | exact kd _ (mem4 rfl) rfl | exact kd _ (mem5 rfl) rfl
          have hy := ky 38 69 true (by decide) rfl dg
          rw [if_neg (by simp [Region.wanted, hy])]
          exact ⟨Below.refl _ _, rfl⟩
        · intro v W ρ y hC kc kf ks ki ky ku kd
          have dg : v 38 = .bool true := by first | exact kd _ (mem0 rfl) rfl | exact kd _ (mem1 rfl) rfl | exact kd _ (mem2 rfl) rfl | exact kd _ (mem3 rfl) rfl | exact kd _ (mem4 rfl) rfl | exact kd _ (mem5 rfl) rfl
          have hy := ky 38 69 true (by decide) rfl dg
          rw [if_neg (by simp [Region.wanted, hy])]
          exact ⟨Below.refl _ _, rfl⟩
        · intro v W ρ y hC kc kf ks ki ky ku kd
          have dg : v 38 = .bool true := by first | exact kd _ (mem0 rfl) rfl | exact kd _ (mem1 rfl) rfl | exact kd _ (mem2 rfl) rfl | exact kd _ (mem3 rfl) rfl | exact kd _ (mem4 rfl) rfl | exact kd _ (mem5 rfl) rfl
          have hy := ky 38 69 true (by decide) rfl dg
          rw [if_neg (by simp [Region.wanted, hy])]
          exact ⟨Below.refl _ _, rfl⟩
        · intro v W ρ y hC kc kf ks ki ky ku kd
          have dg : v 38 = .bool true := by first | exact kd _ (mem0 rfl) rfl | exact kd _ (mem1 rfl) rfl | exact kd _ (mem2 rfl) rfl | exact kd _ (mem3 rfl) rfl | exact kd _ (mem4 rfl) rfl | exact kd _ (mem5 rfl) rfl
          have hy := ky 38 69 true (by decide) rfl dg
          rw [if_neg (by simp [Region.wanted, hy])]
          exact ⟨Below.refl _ _, rfl⟩
        · refine stepW_of_u ⟨rfl, fun v W ρ hC kc kf ks ki kd => ?_⟩
          have d38 : v 38 = .bool true := by first | exact kd _ (mem0 rfl) rfl | exact kd _ (mem1 rfl) rfl | exact kd _ (mem2 rfl) rfl | exact kd _ (mem3 rfl) rfl | exact kd _ (mem4 rfl) rfl | exact kd _ (mem5 rfl) rfl
          have t69 : ρ (.tmp 69) = .bool true := (ks 38 69 (by decide) rfl).trans d38
          simp [execOp, go_sem, kc, t69]
          exact ⟨hC, Below.refl _ _, rfl⟩
      intro vF5 WF5 hbF5 hall
      have hvF5 : vF5 44 = .bool true := hall 44 (by decide)
      simp [upto, Act.put]
      rw [hvF5]
      clear hall hvF5
      have hL1 := hidS (hL0.out.trans (hbF5.mono hL0.out.size))
      have E : Hid (rightR r = false) := hE.out.trans (by rw [h5] <;> simp)
      clear hE
      go_wp2_with fail
      go_ret
      exact ⟨by rw [E.out]; rfl, hL1.out⟩
    rw [h5] at HHi
    by_cases hlt : r.high < r.low
    · have hlh : decide (r.high < r.low) = true := by simp; omega
      go_wp2_with fail
      refine grow_guarded 45 [.is (.pointer (some ⟨w.heap.size, 2, none⟩)), .is (.int .i64 r.net), .is (.bool true), .is (.bool false), .is (.bool false), .is (.pointer (some ⟨w.heap.size, 3, none⟩)), .is (.int .i64 r.bits), .is (.bool true), .is (.bool false), .is (.bool false), .is (.bool false), .is (.pointer (some ⟨w.heap.size, 2, none⟩)), .is (.int .i64 r.net), .is (.pointer (some ⟨w.heap.size, 3, none⟩)), .is (.int .i64 r.bits), .is (.int .i64 (headN r.net r.bits)), .is (.pointer (some ⟨w.heap.size, 2, none⟩)), .is (.int .i64 r.net), .is (.bool false), .is (.bool false), .is (.bool false), .is (.pointer (some ⟨w.heap.size, 4, none⟩)), .is (.int .i64 r.goal), .is (.bool true), .is (.bool false), .is (.bool false), .is (.bool false), .is (.pointer (some ⟨w.heap.size, 5, none⟩)), .is (.int .i64 r.low), .is (.bool true), .is (.bool false), .is (.bool false), .is (.bool false), .is (.pointer (some ⟨w.heap.size, 6, none⟩)), .is (.int .i64 r.high), .is (.bool true), .is (.bool false), .is (.bool false), .is (.bool false), .is (.pointer (some ⟨w.heap.size, 5, none⟩)), .is (.int .i64 r.low), .is (.pointer (some ⟨w.heap.size, 6, none⟩)), .is (.int .i64 r.high), .is (.bool true), .is (.bool true)] rfl (by kernel_rfl) (by kernel_rfl) ?stepsN ?finN
      case stepsN =>
        refine ⟨?_, ?_, ?_, ?_, ?_, ?_, ?_, ?_, ?_, ?_, ?_, ?_, ?_, ?_, ?_, ?_, ?_, ?_, ?_, ?_, ?_, ?_, ?_, ?_, ?_, ?_, ?_, ?_, ?_, ?_, ?_, ?_, ?_, ?_, ?_, ?_, ?_, ?_, ?_, ?_, ?_, ?_, ?_, ?_, ?_, trivial⟩
        · refine stepW_of_u ⟨rfl, fun v W ρ hC kc kf ks ki kd => ?_⟩
          have t1 : ρ (.tmp 1) = .pointer (some ⟨w.heap.size, 0, none⟩) := ki 1 (by decide)
          simp [execOp, go_sem, kc, t1]
          exact ⟨hC, Below.refl _ _, rfl⟩
        · refine stepW_of_u ⟨rfl, fun v W ρ hC kc kf ks ki kd => ?_⟩
          have d0 : v 0 = .pointer (some ⟨w.heap.size, 2, none⟩) := by first | exact kd _ (mem0 rfl) rfl | exact kd _ (mem1 rfl) rfl | exact kd _ (mem2 rfl) rfl | exact kd _ (mem3 rfl) rfl | exact kd _ (mem4 rfl) rfl | exact kd _ (mem5 rfl) rfl
          have t31 : ρ (.tmp 31) = .pointer (some ⟨w.heap.size, 2, none⟩) := (ks 0 31 (by decide) rfl).trans d0
          have hg := blk_later hGR0.out hC
          have c2 := blk_cell hg 2
          simp at c2
          simp [execOp, go_sem, kc, t31, c2]
          exact ⟨hC, Below.refl _ _, rfl⟩
        · refine stepW_of_u ⟨rfl, fun v W ρ hC kc kf ks ki kd => ?_⟩
          have d1 : v 1 = .int .i64 r.net := by first | exact kd _ (mem0 rfl) rfl | exact kd _ (mem1 rfl) rfl | exact kd _ (mem2 rfl) rfl | exact kd _ (mem3 rfl) rfl | exact kd _ (mem4 rfl) rfl | exact kd _ (mem5 rfl) rfl
          have t32 : ρ (.tmp 32) = .int .i64 r.net := (ks 1 32 (by decide) rfl).trans d1
          simp [execOp, go_sem, kc, t32, kf]
          exact Calls.mono (HA.out W) (fun e x h => ⟨_, h.1, hC.trans (h.2.mono hC.size), h.2, rfl⟩)
        · refine stepW_of_u ⟨rfl, fun v W ρ hC kc kf ks ki kd => ?_⟩
          have d2 : v 2 = .bool true := by first | exact kd _ (mem0 rfl) rfl | exact kd _ (mem1 rfl) rfl | exact kd _ (mem2 rfl) rfl | exact kd _ (mem3 rfl) rfl | exact kd _ (mem4 rfl) rfl | exact kd _ (mem5 rfl) rfl
          have t33 : ρ (.tmp 33) = .bool true := (ks 2 33 (by decide) rfl).trans d2
          simp [execOp, go_sem, kc, t33]
          exact ⟨hC, Below.refl _ _, rfl⟩
        · refine stepW_of_u ⟨rfl, fun v W ρ hC kc kf ks ki kd => ?_⟩
          have d3 : v 3 = .bool false := by first | exact kd _ (mem0 rfl) rfl | exact kd _ (mem1 rfl) rfl | exact kd _ (mem2 rfl) rfl | exact kd _ (mem3 rfl) rfl | exact kd _ (mem4 rfl) rfl | exact kd _ (mem5 rfl) rfl
          have t34 : ρ (.tmp 34) = .bool false := (ks 3 34 (by decide) rfl).trans d3
          simp [execOp, go_sem, kc, t34]
          exact ⟨hC, Below.refl _ _, rfl⟩
        · intro v W ρ y hC kc kf ks ki ky ku kd
          have dg : v 4 = .bool false := by first | exact kd _ (mem0 rfl) rfl | exact kd _ (mem1 rfl) rfl | exact kd _ (mem2 rfl) rfl | exact kd _ (mem3 rfl) rfl | exact kd _ (mem4 rfl) rfl | exact kd _ (mem5 rfl) rfl
          have hy := ky 4 35 false (by decide) rfl dg
          rw [if_pos (by simp [Region.wanted, hy])]
          have t1 : ρ (.tmp 1) = .pointer (some ⟨w.heap.size, 0, none⟩) := ki 1 (by decide)
          simp [execOp, go_sem, kc, t1]
          exact ⟨hC, Below.refl _ _, rfl⟩
        · intro v W ρ y hC kc kf ks ki ky ku kd
          have dg : v 4 = .bool false := by first | exact kd _ (mem0 rfl) rfl | exact kd _ (mem1 rfl) rfl | exact kd _ (mem2 rfl) rfl | exact kd _ (mem3 rfl) rfl | exact kd _ (mem4 rfl) rfl | exact kd _ (mem5 rfl) rfl
          have hy := ky 4 35 false (by decide) rfl dg
          rw [if_pos (by simp [Region.wanted, hy])]
          have d5 : v 5 = .pointer (some ⟨w.heap.size, 3, none⟩) := by first | exact kd _ (mem0 rfl) rfl | exact kd _ (mem1 rfl) rfl | exact kd _ (mem2 rfl) rfl | exact kd _ (mem3 rfl) rfl | exact kd _ (mem4 rfl) rfl | exact kd _ (mem5 rfl) rfl
          have t36 : ρ (.tmp 36) = .pointer (some ⟨w.heap.size, 3, none⟩) := (ks 5 36 (by decide) rfl).trans d5
          have hg := blk_later hGR0.out hC
          have c3 := blk_cell hg 3
          simp at c3
          simp [execOp, go_sem, kc, t36, c3]
          exact ⟨hC, Below.refl _ _, rfl⟩
        · intro v W ρ y hC kc kf ks ki ky ku kd
          have dg : v 4 = .bool false := by first | exact kd _ (mem0 rfl) rfl | exact kd _ (mem1 rfl) rfl | exact kd _ (mem2 rfl) rfl | exact kd _ (mem3 rfl) rfl | exact kd _ (mem4 rfl) rfl | exact kd _ (mem5 rfl) rfl
          have hy := ky 4 35 false (by decide) rfl dg
          rw [if_pos (by simp [Region.wanted, hy])]
          have d6 : v 6 = .int .i64 r.bits := by first | exact kd _ (mem0 rfl) rfl | exact kd _ (mem1 rfl) rfl | exact kd _ (mem2 rfl) rfl | exact kd _ (mem3 rfl) rfl | exact kd _ (mem4 rfl) rfl | exact kd _ (mem5 rfl) rfl
          have t37 : ρ (.tmp 37) = .int .i64 r.bits := (ks 6 37 (by decide) rfl).trans d6
          simp [execOp, go_sem, kc, t37, kf]
          exact Calls.mono (HB.out W) (fun e x h => ⟨_, h.1, hC.trans (h.2.mono hC.size), h.2, rfl⟩)
        · intro v W ρ y hC kc kf ks ki ky ku kd
          have dg : v 4 = .bool false := by first | exact kd _ (mem0 rfl) rfl | exact kd _ (mem1 rfl) rfl | exact kd _ (mem2 rfl) rfl | exact kd _ (mem3 rfl) rfl | exact kd _ (mem4 rfl) rfl | exact kd _ (mem5 rfl) rfl
          have hy := ky 4 35 false (by decide) rfl dg
          rw [if_pos (by simp [Region.wanted, hy])]
          have d7 : v 7 = .bool true := by first | exact kd _ (mem0 rfl) rfl | exact kd _ (mem1 rfl) rfl | exact kd _ (mem2 rfl) rfl | exact kd _ (mem3 rfl) rfl | exact kd _ (mem4 rfl) rfl | exact kd _ (mem5 rfl) rfl
          have t38 : ρ (.tmp 38) = .bool true := (ks 7 38 (by decide) rfl).trans d7
          simp [execOp, go_sem, kc, t38]
          exact ⟨hC, Below.refl _ _, rfl⟩
        · refine stepW_of_u ⟨rfl, fun v W ρ hC kc kf ks ki kd => ?_⟩
          have d4 : v 4 = .bool false := by first | exact kd _ (mem0 rfl) rfl | exact kd _ (mem1 rfl) rfl | exact kd _ (mem2 rfl) rfl | exact kd _ (mem3 rfl) rfl | exact kd _ (mem4 rfl) rfl | exact kd _ (mem5 rfl) rfl
          have t35 : ρ (.tmp 35) = .bool false := (ks 4 35 (by decide) rfl).trans d4
          have d8 : v 8 = .bool false := by first | exact kd _ (mem0 rfl) rfl | exact kd _ (mem1 rfl) rfl | exact kd _ (mem2 rfl) rfl | exact kd _ (mem3 rfl) rfl | exact kd _ (mem4 rfl) rfl | exact kd _ (mem5 rfl) rfl
          have t39 : ρ (.tmp 39) = .bool false := (ks 8 39 (by decide) rfl).trans d8
          simp [execOp, go_sem, kc, t35, t39]
          exact ⟨hC, Below.refl _ _, rfl⟩
        · refine stepW_of_u ⟨rfl, fun v W ρ hC kc kf ks ki kd => ?_⟩
          have d9 : v 9 = .bool false := by first | exact kd _ (mem0 rfl) rfl | exact kd _ (mem1 rfl) rfl | exact kd _ (mem2 rfl) rfl | exact kd _ (mem3 rfl) rfl | exact kd _ (mem4 rfl) rfl | exact kd _ (mem5 rfl) rfl
          have t40 : ρ (.tmp 40) = .bool false := (ks 9 40 (by decide) rfl).trans d9
          simp [execOp, go_sem, kc, t40]
          exact ⟨hC, Below.refl _ _, rfl⟩
        · intro v W ρ y hC kc kf ks ki ky ku kd
          have dg : v 10 = .bool false := by first | exact kd _ (mem0 rfl) rfl | exact kd _ (mem1 rfl) rfl | exact kd _ (mem2 rfl) rfl | exact kd _ (mem3 rfl) rfl | exact kd _ (mem4 rfl) rfl | exact kd _ (mem5 rfl) rfl
          have hy := ky 10 41 false (by decide) rfl dg
          rw [if_pos (by simp [Region.wanted, hy])]
          have t1 : ρ (.tmp 1) = .pointer (some ⟨w.heap.size, 0, none⟩) := ki 1 (by decide)
          simp [execOp, go_sem, kc, t1]
          exact ⟨hC, Below.refl _ _, rfl⟩
        · intro v W ρ y hC kc kf ks ki ky ku kd
          have dg : v 10 = .bool false := by first | exact kd _ (mem0 rfl) rfl | exact kd _ (mem1 rfl) rfl | exact kd _ (mem2 rfl) rfl | exact kd _ (mem3 rfl) rfl | exact kd _ (mem4 rfl) rfl | exact kd _ (mem5 rfl) rfl
          have hy := ky 10 41 false (by decide) rfl dg
          rw [if_pos (by simp [Region.wanted, hy])]
          have d11 : v 11 = .pointer (some ⟨w.heap.size, 2, none⟩) := by first | exact kd _ (mem0 rfl) rfl | exact kd _ (mem1 rfl) rfl | exact kd _ (mem2 rfl) rfl | exact kd _ (mem3 rfl) rfl | exact kd _ (mem4 rfl) rfl | exact kd _ (mem5 rfl) rfl
          have t42 : ρ (.tmp 42) = .pointer (some ⟨w.heap.size, 2, none⟩) := (ks 11 42 (by decide) rfl).trans d11
          have hg := blk_later hGR0.out hC
          have c2 := blk_cell hg 2
          simp at c2
          simp [execOp, go_sem, kc, t42, c2]
          exact ⟨hC, Below.refl _ _, rfl⟩
        · intro v W ρ y hC kc kf ks ki ky ku kd
          have dg : v 10 = .bool false := by first | exact kd _ (mem0 rfl) rfl | exact kd _ (mem1 rfl) rfl | exact kd _ (mem2 rfl) rfl | exact kd _ (mem3 rfl) rfl | exact kd _ (mem4 rfl) rfl | exact kd _ (mem5 rfl) rfl
          have hy := ky 10 41 false (by decide) rfl dg
          rw [if_pos (by simp [Region.wanted, hy])]
          have t1 : ρ (.tmp 1) = .pointer (some ⟨w.heap.size, 0, none⟩) := ki 1 (by decide)
          simp [execOp, go_sem, kc, t1]
          exact ⟨hC, Below.refl _ _, rfl⟩
        · intro v W ρ y hC kc kf ks ki ky ku kd
          have dg : v 10 = .bool false := by first | exact kd _ (mem0 rfl) rfl | exact kd _ (mem1 rfl) rfl | exact kd _ (mem2 rfl) rfl | exact kd _ (mem3 rfl) rfl | exact kd _ (mem4 rfl) rfl | exact kd _ (mem5 rfl) rfl
          have hy := ky 10 41 false (by decide) rfl dg
          rw [if_pos (by simp [Region.wanted, hy])]
          have d13 : v 13 = .pointer (some ⟨w.heap.size, 3, none⟩) := by first | exact kd _ (mem0 rfl) rfl | exact kd _ (mem1 rfl) rfl | exact kd _ (mem2 rfl) rfl | exact kd _ (mem3 rfl) rfl | exact kd _ (mem4 rfl) rfl | exact kd _ (mem5 rfl) rfl
          have t44 : ρ (.tmp 44) = .pointer (some ⟨w.heap.size, 3, none⟩) := (ks 13 44 (by decide) rfl).trans d13
          have hg := blk_later hGR0.out hC
          have c3 := blk_cell hg 3
          simp at c3
          simp [execOp, go_sem, kc, t44, c3]
          exact ⟨hC, Below.refl _ _, rfl⟩
        · intro v W ρ y hC kc kf ks ki ky ku kd
          have dg : v 10 = .bool false := by first | exact kd _ (mem0 rfl) rfl | exact kd _ (mem1 rfl) rfl | exact kd _ (mem2 rfl) rfl | exact kd _ (mem3 rfl) rfl | exact kd _ (mem4 rfl) rfl | exact kd _ (mem5 rfl) rfl
          have hy := ky 10 41 false (by decide) rfl dg
          rw [if_pos (by simp [Region.wanted, hy])]
          have d12 : v 12 = .int .i64 r.net := by first | exact kd _ (mem0 rfl) rfl | exact kd _ (mem1 rfl) rfl | exact kd _ (mem2 rfl) rfl | exact kd _ (mem3 rfl) rfl | exact kd _ (mem4 rfl) rfl | exact kd _ (mem5 rfl) rfl
          have t43 : ρ (.tmp 43) = .int .i64 r.net := (ks 12 43 (by decide) rfl).trans d12
          have d14 : v 14 = .int .i64 r.bits := by first | exact kd _ (mem0 rfl) rfl | exact kd _ (mem1 rfl) rfl | exact kd _ (mem2 rfl) rfl | exact kd _ (mem3 rfl) rfl | exact kd _ (mem4 rfl) rfl | exact kd _ (mem5 rfl) rfl
          have t45 : ρ (.tmp 45) = .int .i64 r.bits := (ks 14 45 (by decide) rfl).trans d14
          simp [execOp, go_sem, kc, t43, t45, kf]
          exact Calls.mono (HH.out W) (fun e x h => ⟨_, h.1, hC.trans (h.2.mono hC.size), h.2, rfl⟩)
        · intro v W ρ y hC kc kf ks ki ky ku kd
          have dg : v 10 = .bool false := by first | exact kd _ (mem0 rfl) rfl | exact kd _ (mem1 rfl) rfl | exact kd _ (mem2 rfl) rfl | exact kd _ (mem3 rfl) rfl | exact kd _ (mem4 rfl) rfl | exact kd _ (mem5 rfl) rfl
          have hy := ky 10 41 false (by decide) rfl dg
          rw [if_pos (by simp [Region.wanted, hy])]
          have t1 : ρ (.tmp 1) = .pointer (some ⟨w.heap.size, 0, none⟩) := ki 1 (by decide)
          simp [execOp, go_sem, kc, t1]
          exact ⟨hC, Below.refl _ _, rfl⟩
        · intro v W ρ y hC kc kf ks ki ky ku kd
          have dg : v 10 = .bool false := by first | exact kd _ (mem0 rfl) rfl | exact kd _ (mem1 rfl) rfl | exact kd _ (mem2 rfl) rfl | exact kd _ (mem3 rfl) rfl | exact kd _ (mem4 rfl) rfl | exact kd _ (mem5 rfl) rfl
          have hy := ky 10 41 false (by decide) rfl dg
          rw [if_pos (by simp [Region.wanted, hy])]
          have d16 : v 16 = .pointer (some ⟨w.heap.size, 2, none⟩) := by first | exact kd _ (mem0 rfl) rfl | exact kd _ (mem1 rfl) rfl | exact kd _ (mem2 rfl) rfl | exact kd _ (mem3 rfl) rfl | exact kd _ (mem4 rfl) rfl | exact kd _ (mem5 rfl) rfl
          have t47 : ρ (.tmp 47) = .pointer (some ⟨w.heap.size, 2, none⟩) := (ks 16 47 (by decide) rfl).trans d16
          have hg := blk_later hGR0.out hC
          have c2 := blk_cell hg 2
          simp at c2
          simp [execOp, go_sem, kc, t47, c2]
          exact ⟨hC, Below.refl _ _, rfl⟩
        · intro v W ρ y hC kc kf ks ki ky ku kd
          have dg : v 10 = .bool false := by first | exact kd _ (mem0 rfl) rfl | exact kd _ (mem1 rfl) rfl | exact kd _ (mem2 rfl) rfl | exact kd _ (mem3 rfl) rfl | exact kd _ (mem4 rfl) rfl | exact kd _ (mem5 rfl) rfl
          have hy := ky 10 41 false (by decide) rfl dg
          rw [if_pos (by simp [Region.wanted, hy])]
          have d15 : v 15 = .int .i64 (headN r.net r.bits) := by first | exact kd _ (mem0 rfl) rfl | exact kd _ (mem1 rfl) rfl | exact kd _ (mem2 rfl) rfl | exact kd _ (mem3 rfl) rfl | exact kd _ (mem4 rfl) rfl | exact kd _ (mem5 rfl) rfl
          have t46 : ρ (.tmp 46) = .int .i64 (headN r.net r.bits) := (ks 15 46 (by decide) rfl).trans d15
          have d17 : v 17 = .int .i64 r.net := by first | exact kd _ (mem0 rfl) rfl | exact kd _ (mem1 rfl) rfl | exact kd _ (mem2 rfl) rfl | exact kd _ (mem3 rfl) rfl | exact kd _ (mem4 rfl) rfl | exact kd _ (mem5 rfl) rfl
          have t48 : ρ (.tmp 48) = .int .i64 r.net := (ks 17 48 (by decide) rfl).trans d17
          simp [execOp, go_sem, kc, t46, t48, hh]
          exact ⟨hC, Below.refl _ _, rfl⟩
        · refine stepW_of_u ⟨rfl, fun v W ρ hC kc kf ks ki kd => ?_⟩
          have d10 : v 10 = .bool false := by first | exact kd _ (mem0 rfl) rfl | exact kd _ (mem1 rfl) rfl | exact kd _ (mem2 rfl) rfl | exact kd _ (mem3 rfl) rfl | exact kd _ (mem4 rfl) rfl | exact kd _ (mem5 rfl) rfl
          have t41 : ρ (.tmp 41) = .bool false := (ks 10 41 (by decide) rfl).trans d10
          have d18 : v 18 = .bool false := by first | exact kd _ (mem0 rfl) rfl | exact kd _ (mem1 rfl) rfl | exact kd _ (mem2 rfl) rfl | exact kd _ (mem3 rfl) rfl | exact kd _ (mem4 rfl) rfl | exact kd _ (mem5 rfl) rfl
          have t49 : ρ (.tmp 49) = .bool false := (ks 18 49 (by decide) rfl).trans d18
          simp [execOp, go_sem, kc, t41, t49]
          exact ⟨hC, Below.refl _ _, rfl⟩
        · refine stepW_of_u ⟨rfl, fun v W ρ hC kc kf ks ki kd => ?_⟩
          have d19 : v 19 = .bool false := by first | exact kd _ (mem0 rfl) rfl | exact kd _ (mem1 rfl) rfl | exact kd _ (mem2 rfl) rfl | exact kd _ (mem3 rfl) rfl | exact kd _ (mem4 rfl) rfl | exact kd _ (mem5 rfl) rfl
          have t50 : ρ (.tmp 50) = .bool false := (ks 19 50 (by decide) rfl).trans d19
          simp [execOp, go_sem, kc, t50]
          exact ⟨hC, Below.refl _ _, rfl⟩
        · intro v W ρ y hC kc kf ks ki ky ku kd
          have dg : v 20 = .bool false := by first | exact kd _ (mem0 rfl) rfl | exact kd _ (mem1 rfl) rfl | exact kd _ (mem2 rfl) rfl | exact kd _ (mem3 rfl) rfl | exact kd _ (mem4 rfl) rfl | exact kd _ (mem5 rfl) rfl
          have hy := ky 20 51 false (by decide) rfl dg
          rw [if_pos (by simp [Region.wanted, hy])]
          have t1 : ρ (.tmp 1) = .pointer (some ⟨w.heap.size, 0, none⟩) := ki 1 (by decide)
          simp [execOp, go_sem, kc, t1]
          exact ⟨hC, Below.refl _ _, rfl⟩
        · intro v W ρ y hC kc kf ks ki ky ku kd
          have dg : v 20 = .bool false := by first | exact kd _ (mem0 rfl) rfl | exact kd _ (mem1 rfl) rfl | exact kd _ (mem2 rfl) rfl | exact kd _ (mem3 rfl) rfl | exact kd _ (mem4 rfl) rfl | exact kd _ (mem5 rfl) rfl
          have hy := ky 20 51 false (by decide) rfl dg
          rw [if_pos (by simp [Region.wanted, hy])]
          have d21 : v 21 = .pointer (some ⟨w.heap.size, 4, none⟩) := by first | exact kd _ (mem0 rfl) rfl | exact kd _ (mem1 rfl) rfl | exact kd _ (mem2 rfl) rfl | exact kd _ (mem3 rfl) rfl | exact kd _ (mem4 rfl) rfl | exact kd _ (mem5 rfl) rfl
          have t52 : ρ (.tmp 52) = .pointer (some ⟨w.heap.size, 4, none⟩) := (ks 21 52 (by decide) rfl).trans d21
          have hg := blk_later hGR0.out hC
          have c4 := blk_cell hg 4
          simp at c4
          simp [execOp, go_sem, kc, t52, c4]
          exact ⟨hC, Below.refl _ _, rfl⟩
        · intro v W ρ y hC kc kf ks ki ky ku kd
          have dg : v 20 = .bool false := by first | exact kd _ (mem0 rfl) rfl | exact kd _ (mem1 rfl) rfl | exact kd _ (mem2 rfl) rfl | exact kd _ (mem3 rfl) rfl | exact kd _ (mem4 rfl) rfl | exact kd _ (mem5 rfl) rfl
          have hy := ky 20 51 false (by decide) rfl dg
          rw [if_pos (by simp [Region.wanted, hy])]
          have d22 : v 22 = .int .i64 r.goal := by first | exact kd _ (mem0 rfl) rfl | exact kd _ (mem1 rfl) rfl | exact kd _ (mem2 rfl) rfl | exact kd _ (mem3 rfl) rfl | exact kd _ (mem4 rfl) rfl | exact kd _ (mem5 rfl) rfl
          have t53 : ρ (.tmp 53) = .int .i64 r.goal := (ks 22 53 (by decide) rfl).trans d22
          simp [execOp, go_sem, kc, t53, kf]
          exact Calls.mono (HT.out W) (fun e x h => ⟨_, h.1, hC.trans (h.2.mono hC.size), h.2, rfl⟩)
        · intro v W ρ y hC kc kf ks ki ky ku kd
          have dg : v 20 = .bool false := by first | exact kd _ (mem0 rfl) rfl | exact kd _ (mem1 rfl) rfl | exact kd _ (mem2 rfl) rfl | exact kd _ (mem3 rfl) rfl | exact kd _ (mem4 rfl) rfl | exact kd _ (mem5 rfl) rfl
          have hy := ky 20 51 false (by decide) rfl dg
          rw [if_pos (by simp [Region.wanted, hy])]
          have d23 : v 23 = .bool true := by first | exact kd _ (mem0 rfl) rfl | exact kd _ (mem1 rfl) rfl | exact kd _ (mem2 rfl) rfl | exact kd _ (mem3 rfl) rfl | exact kd _ (mem4 rfl) rfl | exact kd _ (mem5 rfl) rfl
          have t54 : ρ (.tmp 54) = .bool true := (ks 23 54 (by decide) rfl).trans d23
          simp [execOp, go_sem, kc, t54]
          exact ⟨hC, Below.refl _ _, rfl⟩
        · refine stepW_of_u ⟨rfl, fun v W ρ hC kc kf ks ki kd => ?_⟩
          have d20 : v 20 = .bool false := by first | exact kd _ (mem0 rfl) rfl | exact kd _ (mem1 rfl) rfl | exact kd _ (mem2 rfl) rfl | exact kd _ (mem3 rfl) rfl | exact kd _ (mem4 rfl) rfl | exact kd _ (mem5 rfl) rfl
          have t51 : ρ (.tmp 51) = .bool false := (ks 20 51 (by decide) rfl).trans d20
          have d24 : v 24 = .bool false := by first | exact kd _ (mem0 rfl) rfl | exact kd _ (mem1 rfl) rfl | exact kd _ (mem2 rfl) rfl | exact kd _ (mem3 rfl) rfl | exact kd _ (mem4 rfl) rfl | exact kd _ (mem5 rfl) rfl
          have t55 : ρ (.tmp 55) = .bool false := (ks 24 55 (by decide) rfl).trans d24
          simp [execOp, go_sem, kc, t51, t55]
          exact ⟨hC, Below.refl _ _, rfl⟩
        · refine stepW_of_u ⟨rfl, fun v W ρ hC kc kf ks ki kd => ?_⟩
          have d25 : v 25 = .bool false := by first | exact kd _ (mem0 rfl) rfl | exact kd _ (mem1 rfl) rfl | exact kd _ (mem2 rfl) rfl | exact kd _ (mem3 rfl) rfl | exact kd _ (mem4 rfl) rfl | exact kd _ (mem5 rfl) rfl
          have t56 : ρ (.tmp 56) = .bool false := (ks 25 56 (by decide) rfl).trans d25
          simp [execOp, go_sem, kc, t56]
          exact ⟨hC, Below.refl _ _, rfl⟩
        · intro v W ρ y hC kc kf ks ki ky ku kd
          have dg : v 26 = .bool false := by first | exact kd _ (mem0 rfl) rfl | exact kd _ (mem1 rfl) rfl | exact kd _ (mem2 rfl) rfl | exact kd _ (mem3 rfl) rfl | exact kd _ (mem4 rfl) rfl | exact kd _ (mem5 rfl) rfl
          have hy := ky 26 57 false (by decide) rfl dg
          rw [if_pos (by simp [Region.wanted, hy])]
          have t1 : ρ (.tmp 1) = .pointer (some ⟨w.heap.size, 0, none⟩) := ki 1 (by decide)
          simp [execOp, go_sem, kc, t1]
          exact ⟨hC, Below.refl _ _, rfl⟩
        · intro v W ρ y hC kc kf ks ki ky ku kd
          have dg : v 26 = .bool false := by first | exact kd _ (mem0 rfl) rfl | exact kd _ (mem1 rfl) rfl | exact kd _ (mem2 rfl) rfl | exact kd _ (mem3 rfl) rfl | exact kd _ (mem4 rfl) rfl | exact kd _ (mem5 rfl) rfl
          have hy := ky 26 57 false (by decide) rfl dg
          rw [if_pos (by simp [Region.wanted, hy])]
          have d27 : v 27 = .pointer (some ⟨w.heap.size, 5, none⟩) := by first | exact kd _ (mem0 rfl) rfl | exact kd _ (mem1 rfl) rfl | exact kd _ (mem2 rfl) rfl | exact kd _ (mem3 rfl) rfl | exact kd _ (mem4 rfl) rfl | exact kd _ (mem5 rfl) rfl
          have t58 : ρ (.tmp 58) = .pointer (some ⟨w.heap.size, 5, none⟩) := (ks 27 58 (by decide) rfl).trans d27
          have hg := blk_later hGR0.out hC
          have c5 := blk_cell hg 5
          simp at c5
          simp [execOp, go_sem, kc, t58, c5]
          exact ⟨hC, Below.refl _ _, rfl⟩
        · intro v W ρ y hC kc kf ks ki ky ku kd
          have dg : v 26 = .bool false := by first | exact kd _ (mem0 rfl) rfl | exact kd _ (mem1 rfl) rfl | exact kd _ (mem2 rfl) rfl | exact kd _ (mem3 rfl) rfl | exact kd _ (mem4 rfl) rfl | exact kd _ (mem5 rfl) rfl
          have hy := ky 26 57 false (by decide) rfl dg
          rw [if_pos (by simp [Region.wanted, hy])]
          have d28 : v 28 = .int .i64 r.low := by first | exact kd _ (mem0 rfl) rfl | exact kd _ (mem1 rfl) rfl | exact kd _ (mem2 rfl) rfl | exact kd _ (mem3 rfl) rfl | exact kd _ (mem4 rfl) rfl | exact kd _ (mem5 rfl) rfl
          have t59 : ρ (.tmp 59) = .int .i64 r.low := (ks 28 59 (by decide) rfl).trans d28
          simp [execOp, go_sem, kc, t59, kf]
          exact Calls.mono (HLo.out W) (fun e x h => ⟨_, h.1, hC.trans (h.2.mono hC.size), h.2, rfl⟩)
        · intro v W ρ y hC kc kf ks ki ky ku kd
          have dg : v 26 = .bool false := by first | exact kd _ (mem0 rfl) rfl | exact kd _ (mem1 rfl) rfl | exact kd _ (mem2 rfl) rfl | exact kd _ (mem3 rfl) rfl | exact kd _ (mem4 rfl) rfl | exact kd _ (mem5 rfl) rfl
          have hy := ky 26 57 false (by decide) rfl dg
          rw [if_pos (by simp [Region.wanted, hy])]
          have d29 : v 29 = .bool true := by first | exact kd _ (mem0 rfl) rfl | exact kd _ (mem1 rfl) rfl | exact kd _ (mem2 rfl) rfl | exact kd _ (mem3 rfl) rfl | exact kd _ (mem4 rfl) rfl | exact kd _ (mem5 rfl) rfl
          have t60 : ρ (.tmp 60) = .bool true := (ks 29 60 (by decide) rfl).trans d29
          simp [execOp, go_sem, kc, t60]
          exact ⟨hC, Below.refl _ _, rfl⟩
        · refine stepW_of_u ⟨rfl, fun v W ρ hC kc kf ks ki kd => ?_⟩
          have d26 : v 26 = .bool false := by first | exact kd _ (mem0 rfl) rfl | exact kd _ (mem1 rfl) rfl | exact kd _ (mem2 rfl) rfl | exact kd _ (mem3 rfl) rfl | exact kd _ (mem4 rfl) rfl | exact kd _ (mem5 rfl) rfl
          have t57 : ρ (.tmp 57) = .bool false := (ks 26 57 (by decide) rfl).trans d26
          have d30 : v 30 = .bool false := by first | exact kd _ (mem0 rfl) rfl | exact kd _ (mem1 rfl) rfl | exact kd _ (mem2 rfl) rfl | exact kd _ (mem3 rfl) rfl | exact kd _ (mem4 rfl) rfl | exact kd _ (mem5 rfl) rfl
          have t61 : ρ (.tmp 61) = .bool false := (ks 30 61 (by decide) rfl).trans d30
          simp [execOp, go_sem, kc, t57, t61]
          exact ⟨hC, Below.refl _ _, rfl⟩
        · refine stepW_of_u ⟨rfl, fun v W ρ hC kc kf ks ki kd => ?_⟩
          have d31 : v 31 = .bool false := by first | exact kd _ (mem0 rfl) rfl | exact kd _ (mem1 rfl) rfl | exact kd _ (mem2 rfl) rfl | exact kd _ (mem3 rfl) rfl | exact kd _ (mem4 rfl) rfl | exact kd _ (mem5 rfl) rfl
          have t62 : ρ (.tmp 62) = .bool false := (ks 31 62 (by decide) rfl).trans d31
          simp [execOp, go_sem, kc, t62]
          exact ⟨hC, Below.refl _ _, rfl⟩
        · intro v W ρ y hC kc kf ks ki ky ku kd
          have dg : v 32 = .bool false := by first | exact kd _ (mem0 rfl) rfl | exact kd _ (mem1 rfl) rfl | exact kd _ (mem2 rfl) rfl | exact kd _ (mem3 rfl) rfl | exact kd _ (mem4 rfl) rfl | exact kd _ (mem5 rfl) rfl
          have hy := ky 32 63 false (by decide) rfl dg
          rw [if_pos (by simp [Region.wanted, hy])]
          have t1 : ρ (.tmp 1) = .pointer (some ⟨w.heap.size, 0, none⟩) := ki 1 (by decide)
          simp [execOp, go_sem, kc, t1]
          exact ⟨hC, Below.refl _ _, rfl⟩
        · intro v W ρ y hC kc kf ks ki ky ku kd
          have dg : v 32 = .bool false := by first | exact kd _ (mem0 rfl) rfl | exact kd _ (mem1 rfl) rfl | exact kd _ (mem2 rfl) rfl | exact kd _ (mem3 rfl) rfl | exact kd _ (mem4 rfl) rfl | exact kd _ (mem5 rfl) rfl
          have hy := ky 32 63 false (by decide) rfl dg
          rw [if_pos (by simp [Region.wanted, hy])]
          have d33 : v 33 = .pointer (some ⟨w.heap.size, 6, none⟩) := by first | exact kd _ (mem0 rfl) rfl | exact kd _ (mem1 rfl) rfl | exact kd _ (mem2 rfl) rfl | exact kd _ (mem3 rfl) rfl | exact kd _ (mem4 rfl) rfl | exact kd _ (mem5 rfl) rfl
          have t64 : ρ (.tmp 64) = .pointer (some ⟨w.heap.size, 6, none⟩) := (ks 33 64 (by decide) rfl).trans d33
          have hg := blk_later hGR0.out hC
          have c6 := blk_cell hg 6
          simp at c6
          simp [execOp, go_sem, kc, t64, c6]
          exact ⟨hC, Below.refl _ _, rfl⟩
        · intro v W ρ y hC kc kf ks ki ky ku kd
          have dg : v 32 = .bool false := by first | exact kd _ (mem0 rfl) rfl | exact kd _ (mem1 rfl) rfl | exact kd _ (mem2 rfl) rfl | exact kd _ (mem3 rfl) rfl | exact kd _ (mem4 rfl) rfl | exact kd _ (mem5 rfl) rfl
          have hy := ky 32 63 false (by decide) rfl dg
          rw [if_pos (by simp [Region.wanted, hy])]
          have d34 : v 34 = .int .i64 r.high := by first | exact kd _ (mem0 rfl) rfl | exact kd _ (mem1 rfl) rfl | exact kd _ (mem2 rfl) rfl | exact kd _ (mem3 rfl) rfl | exact kd _ (mem4 rfl) rfl | exact kd _ (mem5 rfl) rfl
          have t65 : ρ (.tmp 65) = .int .i64 r.high := (ks 34 65 (by decide) rfl).trans d34
          simp [execOp, go_sem, kc, t65, kf]
          exact Calls.mono (HHi.out W) (fun e x h => ⟨_, h.1, hC.trans (h.2.mono hC.size), h.2, rfl⟩)
        · intro v W ρ y hC kc kf ks ki ky ku kd
          have dg : v 32 = .bool false := by first | exact kd _ (mem0 rfl) rfl | exact kd _ (mem1 rfl) rfl | exact kd _ (mem2 rfl) rfl | exact kd _ (mem3 rfl) rfl | exact kd _ (mem4 rfl) rfl | exact kd _ (mem5 rfl) rfl
          have hy := ky 32 63 false (by decide) rfl dg
          rw [if_pos (by simp [Region.wanted, hy])]
          have d35 : v 35 = .bool true := by first | exact kd _ (mem0 rfl) rfl | exact kd _ (mem1 rfl) rfl | exact kd _ (mem2 rfl) rfl | exact kd _ (mem3 rfl) rfl | exact kd _ (mem4 rfl) rfl | exact kd _ (mem5 rfl) rfl
          have t66 : ρ (.tmp 66) = .bool true := (ks 35 66 (by decide) rfl).trans d35
          simp [execOp, go_sem, kc, t66]
          exact ⟨hC, Below.refl _ _, rfl⟩
        · refine stepW_of_u ⟨rfl, fun v W ρ hC kc kf ks ki kd => ?_⟩
          have d32 : v 32 = .bool false := by first | exact kd _ (mem0 rfl) rfl | exact kd _ (mem1 rfl) rfl | exact kd _ (mem2 rfl) rfl | exact kd _ (mem3 rfl) rfl | exact kd _ (mem4 rfl) rfl | exact kd _ (mem5 rfl) rfl
          have t63 : ρ (.tmp 63) = .bool false := (ks 32 63 (by decide) rfl).trans d32
          have d36 : v 36 = .bool false := by first | exact kd _ (mem0 rfl) rfl | exact kd _ (mem1 rfl) rfl | exact kd _ (mem2 rfl) rfl | exact kd _ (mem3 rfl) rfl | exact kd _ (mem4 rfl) rfl | exact kd _ (mem5 rfl) rfl
          have t67 : ρ (.tmp 67) = .bool false := (ks 36 67 (by decide) rfl).trans d36
          simp [execOp, go_sem, kc, t63, t67]
          exact ⟨hC, Below.refl _ _, rfl⟩
        · refine stepW_of_u ⟨rfl, fun v W ρ hC kc kf ks ki kd => ?_⟩
          have d37 : v 37 = .bool false := by first | exact kd _ (mem0 rfl) rfl | exact kd _ (mem1 rfl) rfl | exact kd _ (mem2 rfl) rfl | exact kd _ (mem3 rfl) rfl | exact kd _ (mem4 rfl) rfl | exact kd _ (mem5 rfl) rfl
          have t68 : ρ (.tmp 68) = .bool false := (ks 37 68 (by decide) rfl).trans d37
          simp [execOp, go_sem, kc, t68]
          exact ⟨hC, Below.refl _ _, rfl⟩
        · intro v W ρ y hC kc kf ks ki ky ku kd
          have dg : v 38 = .bool false := by first | exact kd _ (mem0 rfl) rfl | exact kd _ (mem1 rfl) rfl | exact kd _ (mem2 rfl) rfl | exact kd _ (mem3 rfl) rfl | exact kd _ (mem4 rfl) rfl | exact kd _ (mem5 rfl) rfl
          have hy := ky 38 69 false (by decide) rfl dg
          rw [if_pos (by simp [Region.wanted, hy])]
          have t1 : ρ (.tmp 1) = .pointer (some ⟨w.heap.size, 0, none⟩) := ki 1 (by decide)
          simp [execOp, go_sem, kc, t1]
          exact ⟨hC, Below.refl _ _, rfl⟩
        · intro v W ρ y hC kc kf ks ki ky ku kd
          have dg : v 38 = .bool false := by first | exact kd _ (mem0 rfl) rfl | exact kd _ (mem1 rfl) rfl | exact kd _ (mem2 rfl) rfl | exact kd _ (mem3 rfl) rfl | exact kd _ (mem4 rfl) rfl | exact kd _ (mem5 rfl) rfl
          have hy := ky 38 69 false (by decide) rfl dg
          rw [if_pos (by simp [Region.wanted, hy])]
          have d39 : v 39 = .pointer (some ⟨w.heap.size, 5, none⟩) := by first | exact kd _ (mem0 rfl) rfl | exact kd _ (mem1 rfl) rfl | exact kd _ (mem2 rfl) rfl | exact kd _ (mem3 rfl) rfl | exact kd _ (mem4 rfl) rfl | exact kd _ (mem5 rfl) rfl
          have t70 : ρ (.tmp 70) = .pointer (some ⟨w.heap.size, 5, none⟩) := (ks 39 70 (by decide) rfl).trans d39
          have hg := blk_later hGR0.out hC
          have c5 := blk_cell hg 5
          simp at c5
          simp [execOp, go_sem, kc, t70, c5]
          exact ⟨hC, Below.refl _ _, rfl⟩
        · intro v W ρ y hC kc kf ks ki ky ku kd
          have dg : v 38 = .bool false := by first | exact kd _ (mem0 rfl) rfl | exact kd _ (mem1 rfl) rfl | exact kd _ (mem2 rfl) rfl | exact kd _ (mem3 rfl) rfl | exact kd _ (mem4 rfl) rfl | exact kd _ (mem5 rfl) rfl
          have hy := ky 38 69 false (by decide) rfl dg
          rw [if_pos (by simp [Region.wanted, hy])]
          have t1 : ρ (.tmp 1) = .pointer (some ⟨w.heap.size, 0, none⟩) := ki 1 (by decide)
          simp [execOp, go_sem, kc, t1]
          exact ⟨hC, Below.refl _ _, rfl⟩
        · intro v W ρ y hC kc kf ks ki ky ku kd
          have dg : v 38 = .bool false := by first | exact kd _ (mem0 rfl) rfl | exact kd _ (mem1 rfl) rfl | exact kd _ (mem2 rfl) rfl | exact kd _ (mem3 rfl) rfl | exact kd _ (mem4 rfl) rfl | exact kd _ (mem5 rfl) rfl
          have hy := ky 38 69 false (by decide) rfl dg
          rw [if_pos (by simp [Region.wanted, hy])]
          have d41 : v 41 = .pointer (some ⟨w.heap.size, 6, none⟩) := by first | exact kd _ (mem0 rfl) rfl | exact kd _ (mem1 rfl) rfl | exact kd _ (mem2 rfl) rfl | exact kd _ (mem3 rfl) rfl | exact kd _ (mem4 rfl) rfl | exact kd _ (mem5 rfl) rfl
          have t72 : ρ (.tmp 72) = .pointer (some ⟨w.heap.size, 6, none⟩) := (ks 41 72 (by decide) rfl).trans d41
          have hg := blk_later hGR0.out hC
          have c6 := blk_cell hg 6
          simp at c6
          simp [execOp, go_sem, kc, t72, c6]
          exact ⟨hC, Below.refl _ _, rfl⟩
        · intro v W ρ y hC kc kf ks ki ky ku kd
          have dg : v 38 = .bool false := by first | exact kd _ (mem0 rfl) rfl | exact kd _ (mem1 rfl) rfl | exact kd _ (mem2 rfl) rfl | exact kd _ (mem3 rfl) rfl | exact kd _ (mem4 rfl) rfl | exact kd _ (mem5 rfl) rfl
          have hy := ky 38 69 false (by decide) rfl dg
          rw [if_pos (by simp [Region.wanted, hy])]
          have d40 : v 40 = .int .i64 r.low := by first | exact kd _ (mem0 rfl) rfl | exact kd _ (mem1 rfl) rfl | exact kd _ (mem2 rfl) rfl | exact kd _ (mem3 rfl) rfl | exact kd _ (mem4 rfl) rfl | exact kd _ (mem5 rfl) rfl
          have t71 : ρ (.tmp 71) = .int .i64 r.low := (ks 40 71 (by decide) rfl).trans d40
          have d42 : v 42 = .int .i64 r.high := by first | exact kd _ (mem0 rfl) rfl | exact kd _ (mem1 rfl) rfl | exact kd _ (mem2 rfl) rfl | exact kd _ (mem3 rfl) rfl | exact kd _ (mem4 rfl) rfl | exact kd _ (mem5 rfl) rfl
          have t73 : ρ (.tmp 73) = .int .i64 r.high := (ks 42 73 (by decide) rfl).trans d42
          simp [execOp, go_sem, kc, t71, t73, hlh]
          exact ⟨hC, Below.refl _ _, rfl⟩
        · refine stepW_of_u ⟨rfl, fun v W ρ hC kc kf ks ki kd => ?_⟩
          have d38 : v 38 = .bool false := by first | exact kd _ (mem0 rfl) rfl | exact kd _ (mem1 rfl) rfl | exact kd _ (mem2 rfl) rfl | exact kd _ (mem3 rfl) rfl | exact kd _ (mem4 rfl) rfl | exact kd _ (mem5 rfl) rfl
          have t69 : ρ (.tmp 69) = .bool false := (ks 38 69 (by decide) rfl).trans d38
          have d43 : v 43 = .bool true := by first | exact kd _ (mem0 rfl) rfl | exact kd _ (mem1 rfl) rfl | exact kd _ (mem2 rfl) rfl | exact kd _ (mem3 rfl) rfl | exact kd _ (mem4 rfl) rfl | exact kd _ (mem5 rfl) rfl
          have t74 : ρ (.tmp 74) = .bool true := (ks 43 74 (by decide) rfl).trans d43
          simp [execOp, go_sem, kc, t69, t74]
          exact ⟨hC, Below.refl _ _, rfl⟩
      intro vN WN hbN hall
      have hvN : vN 44 = .bool true := hall 44 (by decide)
      simp [upto, Act.put]
      rw [hvN]
      clear hall hvN
      have hL1 := hidS (hL0.out.trans (hbN.mono hL0.out.size))
      have E : Hid (rightR r = false) := hE.out.trans (by rw [show decide (r.low ≤ r.high) = false by simp; omega] <;> simp)
      clear hE
      go_wp2_with fail
      go_ret
      exact ⟨by rw [E.out]; rfl, hL1.out⟩
    · have hlh : decide (r.high < r.low) = false := by simp; omega
      go_wp2_with fail
      refine grow_guarded 45 [.is (.pointer (some ⟨w.heap.size, 2, none⟩)), .is (.int .i64 r.net), .is (.bool true), .is (.bool false), .is (.bool false), .is (.pointer (some ⟨w.heap.size, 3, none⟩)), .is (.int .i64 r.bits), .is (.bool true), .is (.bool false), .is (.bool false), .is (.bool false), .is (.pointer (some ⟨w.heap.size, 2, none⟩)), .is (.int .i64 r.net), .is (.pointer (some ⟨w.heap.size, 3, none⟩)), .is (.int .i64 r.bits), .is (.int .i64 (headN r.net r.bits)), .is (.pointer (some ⟨w.heap.size, 2, none⟩)), .is (.int .i64 r.net), .is (.bool false), .is (.bool false), .is (.bool false), .is (.pointer (some ⟨w.heap.size, 4, none⟩)), .is (.int .i64 r.goal), .is (.bool true), .is (.bool false), .is (.bool false), .is (.bool false), .is (.pointer (some ⟨w.heap.size, 5, none⟩)), .is (.int .i64 r.low), .is (.bool true), .is (.bool false), .is (.bool false), .is (.bool false), .is (.pointer (some ⟨w.heap.size, 6, none⟩)), .is (.int .i64 r.high), .is (.bool true), .is (.bool false), .is (.bool false), .is (.bool false), .is (.pointer (some ⟨w.heap.size, 5, none⟩)), .is (.int .i64 r.low), .is (.pointer (some ⟨w.heap.size, 6, none⟩)), .is (.int .i64 r.high), .is (.bool false), .is (.bool false)] rfl (by kernel_rfl) (by kernel_rfl) ?stepsY ?finY
      case stepsY =>
        refine ⟨?_, ?_, ?_, ?_, ?_, ?_, ?_, ?_, ?_, ?_, ?_, ?_, ?_, ?_, ?_, ?_, ?_, ?_, ?_, ?_, ?_, ?_, ?_, ?_, ?_, ?_, ?_, ?_, ?_, ?_, ?_, ?_, ?_, ?_, ?_, ?_, ?_, ?_, ?_, ?_, ?_, ?_, ?_, ?_, ?_, trivial⟩
        · refine stepW_of_u ⟨rfl, fun v W ρ hC kc kf ks ki kd => ?_⟩
          have t1 : ρ (.tmp 1) = .pointer (some ⟨w.heap.size, 0, none⟩) := ki 1 (by decide)
          simp [execOp, go_sem, kc, t1]
          exact ⟨hC, Below.refl _ _, rfl⟩
        · refine stepW_of_u ⟨rfl, fun v W ρ hC kc kf ks ki kd => ?_⟩
          have d0 : v 0 = .pointer (some ⟨w.heap.size, 2, none⟩) := by first | exact kd _ (mem0 rfl) rfl | exact kd _ (mem1 rfl) rfl | exact kd _ (mem2 rfl) rfl | exact kd _ (mem3 rfl) rfl | exact kd _ (mem4 rfl) rfl | exact kd _ (mem5 rfl) rfl
          have t31 : ρ (.tmp 31) = .pointer (some ⟨w.heap.size, 2, none⟩) := (ks 0 31 (by decide) rfl).trans d0
          have hg := blk_later hGR0.out hC
          have c2 := blk_cell hg 2
          simp at c2
          simp [execOp, go_sem, kc, t31, c2]
          exact ⟨hC, Below.refl _ _, rfl⟩
        · refine stepW_of_u ⟨rfl, fun v W ρ hC kc kf ks ki kd => ?_⟩
          have d1 : v 1 = .int .i64 r.net := by first | exact kd _ (mem0 rfl) rfl | exact kd _ (mem1 rfl) rfl | exact kd _ (mem2 rfl) rfl | exact kd _ (mem3 rfl) rfl | exact kd _ (mem4 rfl) rfl | exact kd _ (mem5 rfl) rfl
          have t32 : ρ (.tmp 32) = .int .i64 r.net := (ks 1 32 (by decide) rfl).trans d1
          simp [execOp, go_sem, kc, t32, kf]
          exact Calls.mono (HA.out W) (fun e x h => ⟨_, h.1, hC.trans (h.2.mono hC.size), h.2, rfl⟩)
        · refine stepW_of_u ⟨rfl, fun v W ρ hC kc kf ks ki kd => ?_⟩
          have d2 : v 2 = .bool true := by first | exact kd _ (mem0 rfl) rfl | exact kd _ (mem1 rfl) rfl | exact kd _ (mem2 rfl) rfl | exact kd _ (mem3 rfl) rfl | exact kd _ (mem4 rfl) rfl | exact kd _ (mem5 rfl) rfl
          have t33 : ρ (.tmp 33) = .bool true := (ks 2 33 (by decide) rfl).trans d2
          simp [execOp, go_sem, kc, t33]
          exact ⟨hC, Below.refl _ _, rfl⟩
        · refine stepW_of_u ⟨rfl, fun v W ρ hC kc kf ks ki kd => ?_⟩
          have d3 : v 3 = .bool false := by first | exact kd _ (mem0 rfl) rfl | exact kd _ (mem1 rfl) rfl | exact kd _ (mem2 rfl) rfl | exact kd _ (mem3 rfl) rfl | exact kd _ (mem4 rfl) rfl | exact kd _ (mem5 rfl) rfl
          have t34 : ρ (.tmp 34) = .bool false := (ks 3 34 (by decide) rfl).trans d3
          simp [execOp, go_sem, kc, t34]
          exact ⟨hC, Below.refl _ _, rfl⟩
        · intro v W ρ y hC kc kf ks ki ky ku kd
          have dg : v 4 = .bool false := by first | exact kd _ (mem0 rfl) rfl | exact kd _ (mem1 rfl) rfl | exact kd _ (mem2 rfl) rfl | exact kd _ (mem3 rfl) rfl | exact kd _ (mem4 rfl) rfl | exact kd _ (mem5 rfl) rfl
          have hy := ky 4 35 false (by decide) rfl dg
          rw [if_pos (by simp [Region.wanted, hy])]
          have t1 : ρ (.tmp 1) = .pointer (some ⟨w.heap.size, 0, none⟩) := ki 1 (by decide)
          simp [execOp, go_sem, kc, t1]
          exact ⟨hC, Below.refl _ _, rfl⟩
        · intro v W ρ y hC kc kf ks ki ky ku kd
          have dg : v 4 = .bool false := by first | exact kd _ (mem0 rfl) rfl | exact kd _ (mem1 rfl) rfl | exact kd _ (mem2 rfl) rfl | exact kd _ (mem3 rfl) rfl | exact kd _ (mem4 rfl) rfl | exact kd _ (mem5 rfl) rfl
          have hy := ky 4 35 false (by decide) rfl dg
          rw [if_pos (by simp [Region.wanted, hy])]
          have d5 : v 5 = .pointer (some ⟨w.heap.size, 3, none⟩) := by first | exact kd _ (mem0 rfl) rfl | exact kd _ (mem1 rfl) rfl | exact kd _ (mem2 rfl) rfl | exact kd _ (mem3 rfl) rfl | exact kd _ (mem4 rfl) rfl | exact kd _ (mem5 rfl) rfl
          have t36 : ρ (.tmp 36) = .pointer (some ⟨w.heap.size, 3, none⟩) := (ks 5 36 (by decide) rfl).trans d5
          have hg := blk_later hGR0.out hC
          have c3 := blk_cell hg 3
          simp at c3
          simp [execOp, go_sem, kc, t36, c3]
          exact ⟨hC, Below.refl _ _, rfl⟩
        · intro v W ρ y hC kc kf ks ki ky ku kd
          have dg : v 4 = .bool false := by first | exact kd _ (mem0 rfl) rfl | exact kd _ (mem1 rfl) rfl | exact kd _ (mem2 rfl) rfl | exact kd _ (mem3 rfl) rfl | exact kd _ (mem4 rfl) rfl | exact kd _ (mem5 rfl) rfl
          have hy := ky 4 35 false (by decide) rfl dg
          rw [if_pos (by simp [Region.wanted, hy])]
          have d6 : v 6 = .int .i64 r.bits := by first | exact kd _ (mem0 rfl) rfl | exact kd _ (mem1 rfl) rfl | exact kd _ (mem2 rfl) rfl | exact kd _ (mem3 rfl) rfl | exact kd _ (mem4 rfl) rfl | exact kd _ (mem5 rfl) rfl
          have t37 : ρ (.tmp 37) = .int .i64 r.bits := (ks 6 37 (by decide) rfl).trans d6
          simp [execOp, go_sem, kc, t37, kf]
          exact Calls.mono (HB.out W) (fun e x h => ⟨_, h.1, hC.trans (h.2.mono hC.size), h.2, rfl⟩)
        · intro v W ρ y hC kc kf ks ki ky ku kd
          have dg : v 4 = .bool false := by first | exact kd _ (mem0 rfl) rfl | exact kd _ (mem1 rfl) rfl | exact kd _ (mem2 rfl) rfl | exact kd _ (mem3 rfl) rfl | exact kd _ (mem4 rfl) rfl | exact kd _ (mem5 rfl) rfl
          have hy := ky 4 35 false (by decide) rfl dg
          rw [if_pos (by simp [Region.wanted, hy])]
          have d7 : v 7 = .bool true := by first | exact kd _ (mem0 rfl) rfl | exact kd _ (mem1 rfl) rfl | exact kd _ (mem2 rfl) rfl | exact kd _ (mem3 rfl) rfl | exact kd _ (mem4 rfl) rfl | exact kd _ (mem5 rfl) rfl
          have t38 : ρ (.tmp 38) = .bool true := (ks 7 38 (by decide) rfl).trans d7
          simp [execOp, go_sem, kc, t38]
          exact ⟨hC, Below.refl _ _, rfl⟩
        · refine stepW_of_u ⟨rfl, fun v W ρ hC kc kf ks ki kd => ?_⟩
          have d4 : v 4 = .bool false := by first | exact kd _ (mem0 rfl) rfl | exact kd _ (mem1 rfl) rfl | exact kd _ (mem2 rfl) rfl | exact kd _ (mem3 rfl) rfl | exact kd _ (mem4 rfl) rfl | exact kd _ (mem5 rfl) rfl
          have t35 : ρ (.tmp 35) = .bool false := (ks 4 35 (by decide) rfl).trans d4
          have d8 : v 8 = .bool false := by first | exact kd _ (mem0 rfl) rfl | exact kd _ (mem1 rfl) rfl | exact kd _ (mem2 rfl) rfl | exact kd _ (mem3 rfl) rfl | exact kd _ (mem4 rfl) rfl | exact kd _ (mem5 rfl) rfl
          have t39 : ρ (.tmp 39) = .bool false := (ks 8 39 (by decide) rfl).trans d8
          simp [execOp, go_sem, kc, t35, t39]
          exact ⟨hC, Below.refl _ _, rfl⟩
        · refine stepW_of_u ⟨rfl, fun v W ρ hC kc kf ks ki kd => ?_⟩
          have d9 : v 9 = .bool false := by first | exact kd _ (mem0 rfl) rfl | exact kd _ (mem1 rfl) rfl | exact kd _ (mem2 rfl) rfl | exact kd _ (mem3 rfl) rfl | exact kd _ (mem4 rfl) rfl | exact kd _ (mem5 rfl) rfl
          have t40 : ρ (.tmp 40) = .bool false := (ks 9 40 (by decide) rfl).trans d9
          simp [execOp, go_sem, kc, t40]
          exact ⟨hC, Below.refl _ _, rfl⟩
        · intro v W ρ y hC kc kf ks ki ky ku kd
          have dg : v 10 = .bool false := by first | exact kd _ (mem0 rfl) rfl | exact kd _ (mem1 rfl) rfl | exact kd _ (mem2 rfl) rfl | exact kd _ (mem3 rfl) rfl | exact kd _ (mem4 rfl) rfl | exact kd _ (mem5 rfl) rfl
          have hy := ky 10 41 false (by decide) rfl dg
          rw [if_pos (by simp [Region.wanted, hy])]
          have t1 : ρ (.tmp 1) = .pointer (some ⟨w.heap.size, 0, none⟩) := ki 1 (by decide)
          simp [execOp, go_sem, kc, t1]
          exact ⟨hC, Below.refl _ _, rfl⟩
        · intro v W ρ y hC kc kf ks ki ky ku kd
          have dg : v 10 = .bool false := by first | exact kd _ (mem0 rfl) rfl | exact kd _ (mem1 rfl) rfl | exact kd _ (mem2 rfl) rfl | exact kd _ (mem3 rfl) rfl | exact kd _ (mem4 rfl) rfl | exact kd _ (mem5 rfl) rfl
          have hy := ky 10 41 false (by decide) rfl dg
          rw [if_pos (by simp [Region.wanted, hy])]
          have d11 : v 11 = .pointer (some ⟨w.heap.size, 2, none⟩) := by first | exact kd _ (mem0 rfl) rfl | exact kd _ (mem1 rfl) rfl | exact kd _ (mem2 rfl) rfl | exact kd _ (mem3 rfl) rfl | exact kd _ (mem4 rfl) rfl | exact kd _ (mem5 rfl) rfl
          have t42 : ρ (.tmp 42) = .pointer (some ⟨w.heap.size, 2, none⟩) := (ks 11 42 (by decide) rfl).trans d11
          have hg := blk_later hGR0.out hC
          have c2 := blk_cell hg 2
          simp at c2
          simp [execOp, go_sem, kc, t42, c2]
          exact ⟨hC, Below.refl _ _, rfl⟩
        · intro v W ρ y hC kc kf ks ki ky ku kd
          have dg : v 10 = .bool false := by first | exact kd _ (mem0 rfl) rfl | exact kd _ (mem1 rfl) rfl | exact kd _ (mem2 rfl) rfl | exact kd _ (mem3 rfl) rfl | exact kd _ (mem4 rfl) rfl | exact kd _ (mem5 rfl) rfl
          have hy := ky 10 41 false (by decide) rfl dg
          rw [if_pos (by simp [Region.wanted, hy])]
          have t1 : ρ (.tmp 1) = .pointer (some ⟨w.heap.size, 0, none⟩) := ki 1 (by decide)
          simp [execOp, go_sem, kc, t1]
          exact ⟨hC, Below.refl _ _, rfl⟩
        · intro v W ρ y hC kc kf ks ki ky ku kd
          have dg : v 10 = .bool false := by first | exact kd _ (mem0 rfl) rfl | exact kd _ (mem1 rfl) rfl | exact kd _ (mem2 rfl) rfl | exact kd _ (mem3 rfl) rfl | exact kd _ (mem4 rfl) rfl | exact kd _ (mem5 rfl) rfl
          have hy := ky 10 41 false (by decide) rfl dg
          rw [if_pos (by simp [Region.wanted, hy])]
          have d13 : v 13 = .pointer (some ⟨w.heap.size, 3, none⟩) := by first | exact kd _ (mem0 rfl) rfl | exact kd _ (mem1 rfl) rfl | exact kd _ (mem2 rfl) rfl | exact kd _ (mem3 rfl) rfl | exact kd _ (mem4 rfl) rfl | exact kd _ (mem5 rfl) rfl
          have t44 : ρ (.tmp 44) = .pointer (some ⟨w.heap.size, 3, none⟩) := (ks 13 44 (by decide) rfl).trans d13
          have hg := blk_later hGR0.out hC
          have c3 := blk_cell hg 3
          simp at c3
          simp [execOp, go_sem, kc, t44, c3]
          exact ⟨hC, Below.refl _ _, rfl⟩
        · intro v W ρ y hC kc kf ks ki ky ku kd
          have dg : v 10 = .bool false := by first | exact kd _ (mem0 rfl) rfl | exact kd _ (mem1 rfl) rfl | exact kd _ (mem2 rfl) rfl | exact kd _ (mem3 rfl) rfl | exact kd _ (mem4 rfl) rfl | exact kd _ (mem5 rfl) rfl
          have hy := ky 10 41 false (by decide) rfl dg
          rw [if_pos (by simp [Region.wanted, hy])]
          have d12 : v 12 = .int .i64 r.net := by first | exact kd _ (mem0 rfl) rfl | exact kd _ (mem1 rfl) rfl | exact kd _ (mem2 rfl) rfl | exact kd _ (mem3 rfl) rfl | exact kd _ (mem4 rfl) rfl | exact kd _ (mem5 rfl) rfl
          have t43 : ρ (.tmp 43) = .int .i64 r.net := (ks 12 43 (by decide) rfl).trans d12
          have d14 : v 14 = .int .i64 r.bits := by first | exact kd _ (mem0 rfl) rfl | exact kd _ (mem1 rfl) rfl | exact kd _ (mem2 rfl) rfl | exact kd _ (mem3 rfl) rfl | exact kd _ (mem4 rfl) rfl | exact kd _ (mem5 rfl) rfl
          have t45 : ρ (.tmp 45) = .int .i64 r.bits := (ks 14 45 (by decide) rfl).trans d14
          simp [execOp, go_sem, kc, t43, t45, kf]
          exact Calls.mono (HH.out W) (fun e x h => ⟨_, h.1, hC.trans (h.2.mono hC.size), h.2, rfl⟩)
        · intro v W ρ y hC kc kf ks ki ky ku kd
          have dg : v 10 = .bool false := by first | exact kd _ (mem0 rfl) rfl | exact kd _ (mem1 rfl) rfl | exact kd _ (mem2 rfl) rfl | exact kd _ (mem3 rfl) rfl | exact kd _ (mem4 rfl) rfl | exact kd _ (mem5 rfl) rfl
          have hy := ky 10 41 false (by decide) rfl dg
          rw [if_pos (by simp [Region.wanted, hy])]
          have t1 : ρ (.tmp 1) = .pointer (some ⟨w.heap.size, 0, none⟩) := ki 1 (by decide)
          simp [execOp, go_sem, kc, t1]
          exact ⟨hC, Below.refl _ _, rfl⟩
        · intro v W ρ y hC kc kf ks ki ky ku kd
          have dg : v 10 = .bool false := by first | exact kd _ (mem0 rfl) rfl | exact kd _ (mem1 rfl) rfl | exact kd _ (mem2 rfl) rfl | exact kd _ (mem3 rfl) rfl | exact kd _ (mem4 rfl) rfl | exact kd _ (mem5 rfl) rfl
          have hy := ky 10 41 false (by decide) rfl dg
          rw [if_pos (by simp [Region.wanted, hy])]
          have d16 : v 16 = .pointer (some ⟨w.heap.size, 2, none⟩) := by first | exact kd _ (mem0 rfl) rfl | exact kd _ (mem1 rfl) rfl | exact kd _ (mem2 rfl) rfl | exact kd _ (mem3 rfl) rfl | exact kd _ (mem4 rfl) rfl | exact kd _ (mem5 rfl) rfl
          have t47 : ρ (.tmp 47) = .pointer (some ⟨w.heap.size, 2, none⟩) := (ks 16 47 (by decide) rfl).trans d16
          have hg := blk_later hGR0.out hC
          have c2 := blk_cell hg 2
          simp at c2
          simp [execOp, go_sem, kc, t47, c2]
          exact ⟨hC, Below.refl _ _, rfl⟩
        · intro v W ρ y hC kc kf ks ki ky ku kd
          have dg : v 10 = .bool false := by first | exact kd _ (mem0 rfl) rfl | exact kd _ (mem1 rfl) rfl | exact kd _ (mem2 rfl) rfl | exact kd _ (mem3 rfl) rfl | exact kd _ (mem4 rfl) rfl | exact kd _ (mem5 rfl) rfl
          have hy := ky 10 41 false (by decide) rfl dg
          rw [if_pos (by simp [Region.wanted, hy])]
          have d15 : v 15 = .int .i64 (headN r.net r.bits) := by first | exact kd _ (mem0 rfl) rfl | exact kd _ (mem1 rfl) rfl | exact kd _ (mem2 rfl) rfl | exact kd _ (mem3 rfl) rfl | exact kd _ (mem4 rfl) rfl | exact kd _ (mem5 rfl) rfl
          have t46 : ρ (.tmp 46) = .int .i64 (headN r.net r.bits) := (ks 15 46 (by decide) rfl).trans d15
          have d17 : v 17 = .int .i64 r.net := by first | exact kd _ (mem0 rfl) rfl | exact kd _ (mem1 rfl) rfl | exact kd _ (mem2 rfl) rfl | exact kd _ (mem3 rfl) rfl | exact kd _ (mem4 rfl) rfl | exact kd _ (mem5 rfl) rfl
          have t48 : ρ (.tmp 48) = .int .i64 r.net := (ks 17 48 (by decide) rfl).trans d17
          simp [execOp, go_sem, kc, t46, t48, hh]
          exact ⟨hC, Below.refl _ _, rfl⟩
        · refine stepW_of_u ⟨rfl, fun v W ρ hC kc kf ks ki kd => ?_⟩
          have d10 : v 10 = .bool false := by first | exact kd _ (mem0 rfl) rfl | exact kd _ (mem1 rfl) rfl | exact kd _ (mem2 rfl) rfl | exact kd _ (mem3 rfl) rfl | exact kd _ (mem4 rfl) rfl | exact kd _ (mem5 rfl) rfl
          have t41 : ρ (.tmp 41) = .bool false := (ks 10 41 (by decide) rfl).trans d10
          have d18 : v 18 = .bool false := by first | exact kd _ (mem0 rfl) rfl | exact kd _ (mem1 rfl) rfl | exact kd _ (mem2 rfl) rfl | exact kd _ (mem3 rfl) rfl | exact kd _ (mem4 rfl) rfl | exact kd _ (mem5 rfl) rfl
          have t49 : ρ (.tmp 49) = .bool false := (ks 18 49 (by decide) rfl).trans d18
          simp [execOp, go_sem, kc, t41, t49]
          exact ⟨hC, Below.refl _ _, rfl⟩
        · refine stepW_of_u ⟨rfl, fun v W ρ hC kc kf ks ki kd => ?_⟩
          have d19 : v 19 = .bool false := by first | exact kd _ (mem0 rfl) rfl | exact kd _ (mem1 rfl) rfl | exact kd _ (mem2 rfl) rfl | exact kd _ (mem3 rfl) rfl | exact kd _ (mem4 rfl) rfl | exact kd _ (mem5 rfl) rfl
          have t50 : ρ (.tmp 50) = .bool false := (ks 19 50 (by decide) rfl).trans d19
          simp [execOp, go_sem, kc, t50]
          exact ⟨hC, Below.refl _ _, rfl⟩
        · intro v W ρ y hC kc kf ks ki ky ku kd
          have dg : v 20 = .bool false := by first | exact kd _ (mem0 rfl) rfl | exact kd _ (mem1 rfl) rfl | exact kd _ (mem2 rfl) rfl | exact kd _ (mem3 rfl) rfl | exact kd _ (mem4 rfl) rfl | exact kd _ (mem5 rfl) rfl
          have hy := ky 20 51 false (by decide) rfl dg
          rw [if_pos (by simp [Region.wanted, hy])]
          have t1 : ρ (.tmp 1) = .pointer (some ⟨w.heap.size, 0, none⟩) := ki 1 (by decide)
          simp [execOp, go_sem, kc, t1]
          exact ⟨hC, Below.refl _ _, rfl⟩
        · intro v W ρ y hC kc kf ks ki ky ku kd
          have dg : v 20 = .bool false := by first | exact kd _ (mem0 rfl) rfl | exact kd _ (mem1 rfl) rfl | exact kd _ (mem2 rfl) rfl | exact kd _ (mem3 rfl) rfl | exact kd _ (mem4 rfl) rfl | exact kd _ (mem5 rfl) rfl
          have hy := ky 20 51 false (by decide) rfl dg
          rw [if_pos (by simp [Region.wanted, hy])]
          have d21 : v 21 = .pointer (some ⟨w.heap.size, 4, none⟩) := by first | exact kd _ (mem0 rfl) rfl | exact kd _ (mem1 rfl) rfl | exact kd _ (mem2 rfl) rfl | exact kd _ (mem3 rfl) rfl | exact kd _ (mem4 rfl) rfl | exact kd _ (mem5 rfl) rfl
          have t52 : ρ (.tmp 52) = .pointer (some ⟨w.heap.size, 4, none⟩) := (ks 21 52 (by decide) rfl).trans d21
          have hg := blk_later hGR0.out hC
          have c4 := blk_cell hg 4
          simp at c4
          simp [execOp, go_sem, kc, t52, c4]
          exact ⟨hC, Below.refl _ _, rfl⟩
        · intro v W ρ y hC kc kf ks ki ky ku kd
          have dg : v 20 = .bool false := by first | exact kd _ (mem0 rfl) rfl | exact kd _ (mem1 rfl) rfl | exact kd _ (mem2 rfl) rfl | exact kd _ (mem3 rfl) rfl | exact kd _ (mem4 rfl) rfl | exact kd _ (mem5 rfl) rfl
          have hy := ky 20 51 false (by decide) rfl dg
          rw [if_pos (by simp [Region.wanted, hy])]
          have d22 : v 22 = .int .i64 r.goal := by first | exact kd _ (mem0 rfl) rfl | exact kd _ (mem1 rfl) rfl | exact kd _ (mem2 rfl) rfl | exact kd _ (mem3 rfl) rfl | exact kd _ (mem4 rfl) rfl | exact kd _ (mem5 rfl) rfl
          have t53 : ρ (.tmp 53) = .int .i64 r.goal := (ks 22 53 (by decide) rfl).trans d22
          simp [execOp, go_sem, kc, t53, kf]
          exact Calls.mono (HT.out W) (fun e x h => ⟨_, h.1, hC.trans (h.2.mono hC.size), h.2, rfl⟩)
        · intro v W ρ y hC kc kf ks ki ky ku kd
          have dg : v 20 = .bool false := by first | exact kd _ (mem0 rfl) rfl | exact kd _ (mem1 rfl) rfl | exact kd _ (mem2 rfl) rfl | exact kd _ (mem3 rfl) rfl | exact kd _ (mem4 rfl) rfl | exact kd _ (mem5 rfl) rfl
          have hy := ky 20 51 false (by decide) rfl dg
          rw [if_pos (by simp [Region.wanted, hy])]
          have d23 : v 23 = .bool true := by first | exact kd _ (mem0 rfl) rfl | exact kd _ (mem1 rfl) rfl | exact kd _ (mem2 rfl) rfl | exact kd _ (mem3 rfl) rfl | exact kd _ (mem4 rfl) rfl | exact kd _ (mem5 rfl) rfl
          have t54 : ρ (.tmp 54) = .bool true := (ks 23 54 (by decide) rfl).trans d23
          simp [execOp, go_sem, kc, t54]
          exact ⟨hC, Below.refl _ _, rfl⟩
        · refine stepW_of_u ⟨rfl, fun v W ρ hC kc kf ks ki kd => ?_⟩
          have d20 : v 20 = .bool false := by first | exact kd _ (mem0 rfl) rfl | exact kd _ (mem1 rfl) rfl | exact kd _ (mem2 rfl) rfl | exact kd _ (mem3 rfl) rfl | exact kd _ (mem4 rfl) rfl | exact kd _ (mem5 rfl) rfl
          have t51 : ρ (.tmp 51) = .bool false := (ks 20 51 (by decide) rfl).trans d20
          have d24 : v 24 = .bool false := by first | exact kd _ (mem0 rfl) rfl | exact kd _ (mem1 rfl) rfl | exact kd _ (mem2 rfl) rfl | exact kd _ (mem3 rfl) rfl | exact kd _ (mem4 rfl) rfl | exact kd _ (mem5 rfl) rfl
          have t55 : ρ (.tmp 55) = .bool false := (ks 24 55 (by decide) rfl).trans d24
          simp [execOp, go_sem, kc, t51, t55]
          exact ⟨hC, Below.refl _ _, rfl⟩
        · refine stepW_of_u ⟨rfl, fun v W ρ hC kc kf ks ki kd => ?_⟩
          have d25 : v 25 = .bool false := by first | exact kd _ (mem0 rfl) rfl | exact kd _ (mem1 rfl) rfl | exact kd _ (mem2 rfl) rfl | exact kd _ (mem3 rfl) rfl | exact kd _ (mem4 rfl) rfl | exact kd _ (mem5 rfl) rfl
          have t56 : ρ (.tmp 56) = .bool false := (ks 25 56 (by decide) rfl).trans d25
          simp [execOp, go_sem, kc, t56]
          exact ⟨hC, Below.refl _ _, rfl⟩
        · intro v W ρ y hC kc kf ks ki ky ku kd
          have dg : v 26 = .bool false := by first | exact kd _ (mem0 rfl) rfl | exact kd _ (mem1 rfl) rfl | exact kd _ (mem2 rfl) rfl | exact kd _ (mem3 rfl) rfl | exact kd _ (mem4 rfl) rfl | exact kd _ (mem5 rfl) rfl
          have hy := ky 26 57 false (by decide) rfl dg
          rw [if_pos (by simp [Region.wanted, hy])]
          have t1 : ρ (.tmp 1) = .pointer (some ⟨w.heap.size, 0, none⟩) := ki 1 (by decide)
          simp [execOp, go_sem, kc, t1]
          exact ⟨hC, Below.refl _ _, rfl⟩
        · intro v W ρ y hC kc kf ks ki ky ku kd
          have dg : v 26 = .bool false := by first | exact kd _ (mem0 rfl) rfl | exact kd _ (mem1 rfl) rfl | exact kd _ (mem2 rfl) rfl | exact kd _ (mem3 rfl) rfl | exact kd _ (mem4 rfl) rfl | exact kd _ (mem5 rfl) rfl
          have hy := ky 26 57 false (by decide) rfl dg
          rw [if_pos (by simp [Region.wanted, hy])]
          have d27 : v 27 = .pointer (some ⟨w.heap.size, 5, none⟩) := by first | exact kd _ (mem0 rfl) rfl | exact kd _ (mem1 rfl) rfl | exact kd _ (mem2 rfl) rfl | exact kd _ (mem3 rfl) rfl | exact kd _ (mem4 rfl) rfl | exact kd _ (mem5 rfl) rfl
          have t58 : ρ (.tmp 58) = .pointer (some ⟨w.heap.size, 5, none⟩) := (ks 27 58 (by decide) rfl).trans d27
          have hg := blk_later hGR0.out hC
          have c5 := blk_cell hg 5
          simp at c5
          simp [execOp, go_sem, kc, t58, c5]
          exact ⟨hC, Below.refl _ _, rfl⟩
        · intro v W ρ y hC kc kf ks ki ky ku kd
          have dg : v 26 = .bool false := by first | exact kd _ (mem0 rfl) rfl | exact kd _ (mem1 rfl) rfl | exact kd _ (mem2 rfl) rfl | exact kd _ (mem3 rfl) rfl | exact kd _ (mem4 rfl) rfl | exact kd _ (mem5 rfl) rfl
          have hy := ky 26 57 false (by decide) rfl dg
          rw [if_pos (by simp [Region.wanted, hy])]
          have d28 : v 28 = .int .i64 r.low := by first | exact kd _ (mem0 rfl) rfl | exact kd _ (mem1 rfl) rfl | exact kd _ (mem2 rfl) rfl | exact kd _ (mem3 rfl) rfl | exact kd _ (mem4 rfl) rfl | exact kd _ (mem5 rfl) rfl
          have t59 : ρ (.tmp 59) = .int .i64 r.low := (ks 28 59 (by decide) rfl).trans d28
          simp [execOp, go_sem, kc, t59, kf]
          exact Calls.mono (HLo.out W) (fun e x h => ⟨_, h.1, hC.trans (h.2.mono hC.size), h.2, rfl⟩)
        · intro v W ρ y hC kc kf ks ki ky ku kd
          have dg : v 26 = .bool false := by first | exact kd _ (mem0 rfl) rfl | exact kd _ (mem1 rfl) rfl | exact kd _ (mem2 rfl) rfl | exact kd _ (mem3 rfl) rfl | exact kd _ (mem4 rfl) rfl | exact kd _ (mem5 rfl) rfl
          have hy := ky 26 57 false (by decide) rfl dg
          rw [if_pos (by simp [Region.wanted, hy])]
          have d29 : v 29 = .bool true := by first | exact kd _ (mem0 rfl) rfl | exact kd _ (mem1 rfl) rfl | exact kd _ (mem2 rfl) rfl | exact kd _ (mem3 rfl) rfl | exact kd _ (mem4 rfl) rfl | exact kd _ (mem5 rfl) rfl
          have t60 : ρ (.tmp 60) = .bool true := (ks 29 60 (by decide) rfl).trans d29
          simp [execOp, go_sem, kc, t60]
          exact ⟨hC, Below.refl _ _, rfl⟩
        · refine stepW_of_u ⟨rfl, fun v W ρ hC kc kf ks ki kd => ?_⟩
          have d26 : v 26 = .bool false := by first | exact kd _ (mem0 rfl) rfl | exact kd _ (mem1 rfl) rfl | exact kd _ (mem2 rfl) rfl | exact kd _ (mem3 rfl) rfl | exact kd _ (mem4 rfl) rfl | exact kd _ (mem5 rfl) rfl
          have t57 : ρ (.tmp 57) = .bool false := (ks 26 57 (by decide) rfl).trans d26
          have d30 : v 30 = .bool false := by first | exact kd _ (mem0 rfl) rfl | exact kd _ (mem1 rfl) rfl | exact kd _ (mem2 rfl) rfl | exact kd _ (mem3 rfl) rfl | exact kd _ (mem4 rfl) rfl | exact kd _ (mem5 rfl) rfl
          have t61 : ρ (.tmp 61) = .bool false := (ks 30 61 (by decide) rfl).trans d30
          simp [execOp, go_sem, kc, t57, t61]
          exact ⟨hC, Below.refl _ _, rfl⟩
        · refine stepW_of_u ⟨rfl, fun v W ρ hC kc kf ks ki kd => ?_⟩
          have d31 : v 31 = .bool false := by first | exact kd _ (mem0 rfl) rfl | exact kd _ (mem1 rfl) rfl | exact kd _ (mem2 rfl) rfl | exact kd _ (mem3 rfl) rfl | exact kd _ (mem4 rfl) rfl | exact kd _ (mem5 rfl) rfl
          have t62 : ρ (.tmp 62) = .bool false := (ks 31 62 (by decide) rfl).trans d31
          simp [execOp, go_sem, kc, t62]
          exact ⟨hC, Below.refl _ _, rfl⟩
        · intro v W ρ y hC kc kf ks ki ky ku kd
          have dg : v 32 = .bool false := by first | exact kd _ (mem0 rfl) rfl | exact kd _ (mem1 rfl) rfl | exact kd _ (mem2 rfl) rfl | exact kd _ (mem3 rfl) rfl | exact kd _ (mem4 rfl) rfl | exact kd _ (mem5 rfl) rfl
          have hy := ky 32 63 false (by decide) rfl dg
          rw [if_pos (by simp [Region.wanted, hy])]
          have t1 : ρ (.tmp 1) = .pointer (some ⟨w.heap.size, 0, none⟩) := ki 1 (by decide)
          simp [execOp, go_sem, kc, t1]
          exact ⟨hC, Below.refl _ _, rfl⟩
        · intro v W ρ y hC kc kf ks ki ky ku kd
          have dg : v 32 = .bool false := by first | exact kd _ (mem0 rfl) rfl | exact kd _ (mem1 rfl) rfl | exact kd _ (mem2 rfl) rfl | exact kd _ (mem3 rfl) rfl | exact kd _ (mem4 rfl) rfl | exact kd _ (mem5 rfl) rfl
          have hy := ky 32 63 false (by decide) rfl dg
          rw [if_pos (by simp [Region.wanted, hy])]
          have d33 : v 33 = .pointer (some ⟨w.heap.size, 6, none⟩) := by first | exact kd _ (mem0 rfl) rfl | exact kd _ (mem1 rfl) rfl | exact kd _ (mem2 rfl) rfl | exact kd _ (mem3 rfl) rfl | exact kd _ (mem4 rfl) rfl | exact kd _ (mem5 rfl) rfl
          have t64 : ρ (.tmp 64) = .pointer (some ⟨w.heap.size, 6, none⟩) := (ks 33 64 (by decide) rfl).trans d33
          have hg := blk_later hGR0.out hC
          have c6 := blk_cell hg 6
          simp at c6
          simp [execOp, go_sem, kc, t64, c6]
          exact ⟨hC, Below.refl _ _, rfl⟩
        · intro v W ρ y hC kc kf ks ki ky ku kd
          have dg : v 32 = .bool false := by first | exact kd _ (mem0 rfl) rfl | exact kd _ (mem1 rfl) rfl | exact kd _ (mem2 rfl) rfl | exact kd _ (mem3 rfl) rfl | exact kd _ (mem4 rfl) rfl | exact kd _ (mem5 rfl) rfl
          have hy := ky 32 63 false (by decide) rfl dg
          rw [if_pos (by simp [Region.wanted, hy])]
          have d34 : v 34 = .int .i64 r.high := by first | exact kd _ (mem0 rfl) rfl | exact kd _ (mem1 rfl) rfl | exact kd _ (mem2 rfl) rfl | exact kd _ (mem3 rfl) rfl | exact kd _ (mem4 rfl) rfl | exact kd _ (mem5 rfl) rfl
          have t65 : ρ (.tmp 65) = .int .i64 r.high := (ks 34 65 (by decide) rfl).trans d34
          simp [execOp, go_sem, kc, t65, kf]
          exact Calls.mono (HHi.out W) (fun e x h => ⟨_, h.1, hC.trans (h.2.mono hC.size), h.2, rfl⟩)
        · intro v W ρ y hC kc kf ks ki ky ku kd
          have dg : v 32 = .bool false := by first | exact kd _ (mem0 rfl) rfl | exact kd _ (mem1 rfl) rfl | exact kd _ (mem2 rfl) rfl | exact kd _ (mem3 rfl) rfl | exact kd _ (mem4 rfl) rfl | exact kd _ (mem5 rfl) rfl
          have hy := ky 32 63 false (by decide) rfl dg
          rw [if_pos (by simp [Region.wanted, hy])]
          have d35 : v 35 = .bool true := by first | exact kd _ (mem0 rfl) rfl | exact kd _ (mem1 rfl) rfl | exact kd _ (mem2 rfl) rfl | exact kd _ (mem3 rfl) rfl | exact kd _ (mem4 rfl) rfl | exact kd _ (mem5 rfl) rfl
          have t66 : ρ (.tmp 66) = .bool true := (ks 35 66 (by decide) rfl).trans d35
          simp [execOp, go_sem, kc, t66]
          exact ⟨hC, Below.refl _ _, rfl⟩
        · refine stepW_of_u ⟨rfl, fun v W ρ hC kc kf ks ki kd => ?_⟩
          have d32 : v 32 = .bool false := by first | exact kd _ (mem0 rfl) rfl | exact kd _ (mem1 rfl) rfl | exact kd _ (mem2 rfl) rfl | exact kd _ (mem3 rfl) rfl | exact kd _ (mem4 rfl) rfl | exact kd _ (mem5 rfl) rfl
          have t63 : ρ (.tmp 63) = .bool false := (ks 32 63 (by decide) rfl).trans d32
          have d36 : v 36 = .bool false := by first | exact kd _ (mem0 rfl) rfl | exact kd _ (mem1 rfl) rfl | exact kd _ (mem2 rfl) rfl | exact kd _ (mem3 rfl) rfl | exact kd _ (mem4 rfl) rfl | exact kd _ (mem5 rfl) rfl
          have t67 : ρ (.tmp 67) = .bool false := (ks 36 67 (by decide) rfl).trans d36
          simp [execOp, go_sem, kc, t63, t67]
          exact ⟨hC, Below.refl _ _, rfl⟩
        · refine stepW_of_u ⟨rfl, fun v W ρ hC kc kf ks ki kd => ?_⟩
          have d37 : v 37 = .bool false := by first | exact kd _ (mem0 rfl) rfl | exact kd _ (mem1 rfl) rfl | exact kd _ (mem2 rfl) rfl | exact kd _ (mem3 rfl) rfl | exact kd _ (mem4 rfl) rfl | exact kd _ (mem5 rfl) rfl
          have t68 : ρ (.tmp 68) = .bool false := (ks 37 68 (by decide) rfl).trans d37
          simp [execOp, go_sem, kc, t68]
          exact ⟨hC, Below.refl _ _, rfl⟩
        · intro v W ρ y hC kc kf ks ki ky ku kd
          have dg : v 38 = .bool false := by first | exact kd _ (mem0 rfl) rfl | exact kd _ (mem1 rfl) rfl | exact kd _ (mem2 rfl) rfl | exact kd _ (mem3 rfl) rfl | exact kd _ (mem4 rfl) rfl | exact kd _ (mem5 rfl) rfl
          have hy := ky 38 69 false (by decide) rfl dg
          rw [if_pos (by simp [Region.wanted, hy])]
          have t1 : ρ (.tmp 1) = .pointer (some ⟨w.heap.size, 0, none⟩) := ki 1 (by decide)
          simp [execOp, go_sem, kc, t1]
          exact ⟨hC, Below.refl _ _, rfl⟩
        · intro v W ρ y hC kc kf ks ki ky ku kd
          have dg : v 38 = .bool false := by first | exact kd _ (mem0 rfl) rfl | exact kd _ (mem1 rfl) rfl | exact kd _ (mem2 rfl) rfl | exact kd _ (mem3 rfl) rfl | exact kd _ (mem4 rfl) rfl | exact kd _ (mem5 rfl) rfl
          have hy := ky 38 69 false (by decide) rfl dg
          rw [if_pos (by simp [Region.wanted, hy])]
          have d39 : v 39 = .pointer (some ⟨w.heap.size, 5, none⟩) := by first | exact kd _ (mem0 rfl) rfl | exact kd _ (mem1 rfl) rfl | exact kd _ (mem2 rfl) rfl | exact kd _ (mem3 rfl) rfl | exact kd _ (mem4 rfl) rfl | exact kd _ (mem5 rfl) rfl
          have t70 : ρ (.tmp 70) = .pointer (some ⟨w.heap.size, 5, none⟩) := (ks 39 70 (by decide) rfl).trans d39
          have hg := blk_later hGR0.out hC
          have c5 := blk_cell hg 5
          simp at c5
          simp [execOp, go_sem, kc, t70, c5]
          exact ⟨hC, Below.refl _ _, rfl⟩
        · intro v W ρ y hC kc kf ks ki ky ku kd
          have dg : v 38 = .bool false := by first | exact kd _ (mem0 rfl) rfl | exact kd _ (mem1 rfl) rfl | exact kd _ (mem2 rfl) rfl | exact kd _ (mem3 rfl) rfl | exact kd _ (mem4 rfl) rfl | exact kd _ (mem5 rfl) rfl
          have hy := ky 38 69 false (by decide) rfl dg
          rw [if_pos (by simp [Region.wanted, hy])]
          have t1 : ρ (.tmp 1) = .pointer (some ⟨w.heap.size, 0, none⟩) := ki 1 (by decide)
          simp [execOp, go_sem, kc, t1]
          exact ⟨hC, Below.refl _ _, rfl⟩
        · intro v W ρ y hC kc kf ks ki ky ku kd
          have dg : v 38 = .bool false := by first | exact kd _ (mem0 rfl) rfl | exact kd _ (mem1 rfl) rfl | exact kd _ (mem2 rfl) rfl | exact kd _ (mem3 rfl) rfl | exact kd _ (mem4 rfl) rfl | exact kd _ (mem5 rfl) rfl
          have hy := ky 38 69 false (by decide) rfl dg
          rw [if_pos (by simp [Region.wanted, hy])]
          have d41 : v 41 = .pointer (some ⟨w.heap.size, 6, none⟩) := by first | exact kd _ (mem0 rfl) rfl | exact kd _ (mem1 rfl) rfl | exact kd _ (mem2 rfl) rfl | exact kd _ (mem3 rfl) rfl | exact kd _ (mem4 rfl) rfl | exact kd _ (mem5 rfl) rfl
          have t72 : ρ (.tmp 72) = .pointer (some ⟨w.heap.size, 6, none⟩) := (ks 41 72 (by decide) rfl).trans d41
          have hg := blk_later hGR0.out hC
          have c6 := blk_cell hg 6
          simp at c6
          simp [execOp, go_sem, kc, t72, c6]
          exact ⟨hC, Below.refl _ _, rfl⟩
        · intro v W ρ y hC kc kf ks ki ky ku kd
          have dg : v 38 = .bool false := by first | exact kd _ (mem0 rfl) rfl | exact kd _ (mem1 rfl) rfl | exact kd _ (mem2 rfl) rfl | exact kd _ (mem3 rfl) rfl | exact kd _ (mem4 rfl) rfl | exact kd _ (mem5 rfl) rfl
          have hy := ky 38 69 false (by decide) rfl dg
          rw [if_pos (by simp [Region.wanted, hy])]
          have d40 : v 40 = .int .i64 r.low := by first | exact kd _ (mem0 rfl) rfl | exact kd _ (mem1 rfl) rfl | exact kd _ (mem2 rfl) rfl | exact kd _ (mem3 rfl) rfl | exact kd _ (mem4 rfl) rfl | exact kd _ (mem5 rfl) rfl
          have t71 : ρ (.tmp 71) = .int .i64 r.low := (ks 40 71 (by decide) rfl).trans d40
          have d42 : v 42 = .int .i64 r.high := by first | exact kd _ (mem0 rfl) rfl | exact kd _ (mem1 rfl) rfl | exact kd _ (mem2 rfl) rfl | exact kd _ (mem3 rfl) rfl | exact kd _ (mem4 rfl) rfl | exact kd _ (mem5 rfl) rfl
          have t73 : ρ (.tmp 73) = .int .i64 r.high := (ks 42 73 (by decide) rfl).trans d42
          simp [execOp, go_sem, kc, t71, t73, hlh]
          exact ⟨hC, Below.refl _ _, rfl⟩
        · refine stepW_of_u ⟨rfl, fun v W ρ hC kc kf ks ki kd => ?_⟩
          have d38 : v 38 = .bool false := by first | exact kd _ (mem0 rfl) rfl | exact kd _ (mem1 rfl) rfl | exact kd _ (mem2 rfl) rfl | exact kd _ (mem3 rfl) rfl | exact kd _ (mem4 rfl) rfl | exact kd _ (mem5 rfl) rfl
          have t69 : ρ (.tmp 69) = .bool false := (ks 38 69 (by decide) rfl).trans d38
          have d43 : v 43 = .bool false := by first | exact kd _ (mem0 rfl) rfl | exact kd _ (mem1 rfl) rfl | exact kd _ (mem2 rfl) rfl | exact kd _ (mem3 rfl) rfl | exact kd _ (mem4 rfl) rfl | exact kd _ (mem5 rfl) rfl
          have t74 : ρ (.tmp 74) = .bool false := (ks 43 74 (by decide) rfl).trans d43
          simp [execOp, go_sem, kc, t69, t74]
          exact ⟨hC, Below.refl _ _, rfl⟩
      intro vY WY hbY hall
      have hvY : vY 44 = .bool false := hall 44 (by decide)
      simp [upto, Act.put]
      rw [hvY]
      clear hall hvY
      have hL1 := hidS (hL0.out.trans (hbY.mono hL0.out.size))
      have hGR1 := hidS (blk_later hGR0.out hbY)
      clear hbY hL0 hGR0
      have cR0 := blk_cell hGR1.out 0
      have cR1 := blk_cell hGR1.out 1
      have cR2 := blk_cell hGR1.out 2
      have cR3 := blk_cell hGR1.out 3
      have cR4 := blk_cell hGR1.out 4
      have cR5 := blk_cell hGR1.out 5
      have cR6 := blk_cell hGR1.out 6
      simp at cR0 cR1 cR2 cR3 cR4 cR5 cR6
      have hN2 : netB r.net r.bits = true := by rw [hN.out, h0, h1, h2]; rfl
      have E : Hid (rightR r = (r.kind == 1 || r.low == r.high)) := hE.out.trans (by rw [hk, hp, hN2, h3, h4, h5, show decide (r.low ≤ r.high) = true by simp; omega] <;> simp only [Bool.true_and])
      clear hE hk hp hN2 h0 h1 h2 h3 h4 h5 hN eB HH
      cases k1 : (r.kind == 1)
      · cases kl : (r.low == r.high)
        · have E2 := hidS (E.out.trans (by rw [k1, kl])); clear E
          go_wp2_with fail
          go_ret
          exact ⟨by rw [E2.out]; rfl, hL1.out⟩
        · have E2 := hidS (E.out.trans (by rw [k1, kl])); clear E
          go_wp2_with fail
          go_ret
          exact ⟨by rw [E2.out]; rfl, hL1.out⟩
      · have E2 := hidS (E.out.trans (by rw [k1])); clear E
        go_wp2_with fail
        go_ret
        exact ⟨by rw [E2.out]; rfl, hL1.out⟩
end Go.Proofs.Ytilajoafppplcaa
