/- Proved here: spec.l08For answers the first of right rules that holds, and whether there is one; all old memory stays (conditions: right rules that can be read, a right tuple, a kind of both). -/
import Derived.Test.YtilajoafppplcaaAll18
import Derived.Test.YtilajoafppplcaaAll6
import Derived.Test.YtilajoafppplcaaAll17
import Derived.Deep.Cut
import Derived.Deep.CutBlock
import Derived.Deep.DeepCutAuto
namespace Go.Proofs.Ytilajoafppplcaa
open Go.ChangeShapes Go.WideShapes Go.ChangeAt Go.RowKit
set_option linter.unusedVariables false
set_option linter.unusedSimpArgs false
set_option maxRecDepth 100000

set_option maxHeartbeats 8000000 in
theorem l08For_1 (a : Option Addr) (cap : Nat) (l : List Rl) (t : Tp) (w : World) (hR : RowZ a (flatRule l) w) (hz : l.length ≤ 1048576) (hr : allR l = true) (ht : rightT t = true) :
    Calls Try.prog 82 #[.slice a l.length cap, .int .i64 1, .agg #[.int .i64 t.proto, .int .i64 t.src, .int .i64 t.sport, .int .i64 t.dst, .int .i64 t.dport, .int .i64 t.kind]] w fun e w' => e = .returned (.tuple #[.agg #[.int .i64 (foundR l 1 t).kind, .int .i64 (foundR l 1 t).proto, .int .i64 (foundR l 1 t).net, .int .i64 (foundR l 1 t).bits, .int .i64 (foundR l 1 t).goal, .int .i64 (foundR l 1 t).low, .int .i64 (foundR l 1 t).high], .bool (hasR l 1 t)]) ∧ Below w.heap.size w w' := by
  have HR := hidS hR
  have HA := hidS hr
  have hna : addrB t.src = true := (tup_parts ht).1
  have HNA := hidS (addr_iff.1 hna)
  clear hR hr ht hna
  have hGT0 : Hid (((w.alloc (.cells #[.int .i64 t.proto, .int .i64 t.src, .int .i64 t.sport, .int .i64 t.dst, .int .i64 t.dport, .int .i64 t.kind] 52)).alloc (.cells #[.int .i64 0, .int .i64 0, .int .i64 0, .int .i64 0, .int .i64 0, .int .i64 0, .int .i64 0] 64)).heap[w.heap.size]? = some (.cells #[.int .i64 t.proto, .int .i64 t.src, .int .i64 t.sport, .int .i64 t.dst, .int .i64 t.dport, .int .i64 t.kind] 52)) := by
    show _ = _
    have := blk_alloc (heap_newG w (.cells #[.int .i64 t.proto, .int .i64 t.src, .int .i64 t.sport, .int .i64 t.dst, .int .i64 t.dport, .int .i64 t.kind] 52)) (.cells #[.int .i64 0, .int .i64 0, .int .i64 0, .int .i64 0, .int .i64 0, .int .i64 0, .int .i64 0] 64)
    simpa using this
  have hGO0 : Hid (((w.alloc (.cells #[.int .i64 t.proto, .int .i64 t.src, .int .i64 t.sport, .int .i64 t.dst, .int .i64 t.dport, .int .i64 t.kind] 52)).alloc (.cells #[.int .i64 0, .int .i64 0, .int .i64 0, .int .i64 0, .int .i64 0, .int .i64 0, .int .i64 0] 64)).heap[w.heap.size + 1]? = some (.cells #[.int .i64 0, .int .i64 0, .int .i64 0, .int .i64 0, .int .i64 0, .int .i64 0, .int .i64 0] 64)) := by
    show _ = _
    have := heap_newG (w.alloc (.cells #[.int .i64 t.proto, .int .i64 t.src, .int .i64 t.sport, .int .i64 t.dst, .int .i64 t.dport, .int .i64 t.kind] 52)) (.cells #[.int .i64 0, .int .i64 0, .int .i64 0, .int .i64 0, .int .i64 0, .int .i64 0, .int .i64 0] 64)
    simpa using this
  have hL0 := hidS (((Below.refl w.heap.size w).alloc (Nat.le_refl _) (.cells #[.int .i64 t.proto, .int .i64 t.src, .int .i64 t.sport, .int .i64 t.dst, .int .i64 t.dport, .int .i64 t.kind] 52)).alloc (by simp) (.cells #[.int .i64 0, .int .i64 0, .int .i64 0, .int .i64 0, .int .i64 0, .int .i64 0, .int .i64 0] 64))
  go_enter Try.func82, Try.ntmps82
  go_wp2_with fail
  generalize ((w.alloc (.cells #[.int .i64 t.proto, .int .i64 t.src, .int .i64 t.sport, .int .i64 t.dst, .int .i64 t.dport, .int .i64 t.kind] 52)).alloc (.cells #[.int .i64 0, .int .i64 0, .int .i64 0, .int .i64 0, .int .i64 0, .int .i64 0, .int .i64 0] 64)) = w0 at hGT0 hGO0 hL0 ⊢
  go_loopw [9] (fun i wr => ∃ k : Nat, i = .int .i64 (k : Int) ∧ k ≤ l.length ∧ Hid (∀ r ∈ l.take k, forR r 1 t = false) ∧ Hid (wr.heap[w.heap.size]? = some (.cells #[.int .i64 t.proto, .int .i64 t.src, .int .i64 t.sport, .int .i64 t.dst, .int .i64 t.dport, .int .i64 t.kind] 52)) ∧ Hid (wr.heap[w.heap.size + 1]? = some (.cells #[.int .i64 0, .int .i64 0, .int .i64 0, .int .i64 0, .int .i64 0, .int .i64 0, .int .i64 0] 64)) ∧ Below w.heap.size w wr) (fun i _ => (l.length - (intOf i).toNat))
  case atStart => exact ⟨0, rfl, Nat.zero_le _, (by show ∀ r ∈ List.take 0 l, _; simp), hGT0, hGO0, hL0.out⟩
  case round =>
    clear hGT0 hGO0 hL0
    obtain ⟨k, rfl, hk, hF, hGT5, hGO5, hb5⟩ := hrel
    obtain ⟨w5, hwr⟩ : ∃ x, x = wr := ⟨_, rfl⟩
    subst hwr
    have hL5 := hidS hb5
    clear hb5
    by_cases hlt : k < l.length
    · skip
      have hlt' : (k : Int) < (l.length : Int) := by omega
      obtain ⟨b, o, rfl, hbl, c0, c1, c2, c3, c4, c5, c6⟩ := (HR.out.later hL5.out).rule hlt
      have HS := hidS (allR_get hlt HA.out)
      have HF1 := hidS (fun q => first_here hlt hF.out q)
      have HF0 := hidS (fun q => take_more hlt hF.out q)
      generalize l.getD k zeroRl = s at *
      have HH := hidS (fun W => sameB (l08Head_any t.src s.bits HNA.out.1 HNA.out.2 (net_parts (right_parts HS.out).2.2.1).2.2.1 (net_parts (right_parts HS.out).2.2.1).2.2.2.1 W))
      go_upto_region 8 with fail
      clear c0 c1 c2 c3 c4 c5 c6
      have hGX6 := hidS (heap_newG w5 (.cells #[.int .i64 s.kind, .int .i64 s.proto, .int .i64 s.net, .int .i64 s.bits, .int .i64 s.goal, .int .i64 s.low, .int .i64 s.high] 64))
      have nX := blk_lt hGO5.out
      have hGT6 := hidS (blk_alloc hGT5.out (.cells #[.int .i64 s.kind, .int .i64 s.proto, .int .i64 s.net, .int .i64 s.bits, .int .i64 s.goal, .int .i64 s.low, .int .i64 s.high] 64))
      have hGO6 := hidS (blk_alloc hGO5.out (.cells #[.int .i64 s.kind, .int .i64 s.proto, .int .i64 s.net, .int .i64 s.bits, .int .i64 s.goal, .int .i64 s.low, .int .i64 s.high] 64))
      have hL6 := hidS (hL5.out.alloc hL5.out.size (.cells #[.int .i64 s.kind, .int .i64 s.proto, .int .i64 s.net, .int .i64 s.bits, .int .i64 s.goal, .int .i64 s.low, .int .i64 s.high] 64))
      clear hL5 hGT5 hGO5
      generalize w5.alloc (.cells #[.int .i64 s.kind, .int .i64 s.proto, .int .i64 s.net, .int .i64 s.bits, .int .i64 s.goal, .int .i64 s.low, .int .i64 s.high] 64) = w6 at hGT6 hGO6 hGX6 hL6 ⊢
      obtain ⟨hb, h4⟩ : ∃ x, (headN t.src s.bits == s.net) = x := ⟨_, rfl⟩
      cases h1 : (s.kind == 1)
      · refine grow_guarded 25 [.is (.pointer (some ⟨w5.heap.size, 0, none⟩)), .is (.int .i64 s.kind), .is (.int .i64 1), .is (.bool false), .is (.bool false), .is (undef), .is (undef), .is (undef), .is (undef), .is (undef), .is (undef), .is (undef), .is (undef), .is (undef), .is (undef), .is (.bool false), .is (.bool false), .is (undef), .is (undef), .is (undef), .is (undef), .is (undef), .is (undef), .is (undef), .is (.bool false)] rfl (by kernel_rfl) (by kernel_rfl) ?stepsA ?finA
        case stepsA =>
          refine ⟨?_, ?_, ?_, ?_, ?_, ?_, ?_, ?_, ?_, ?_, ?_, ?_, ?_, ?_, ?_, ?_, ?_, ?_, ?_, ?_, ?_, ?_, ?_, ?_, ?_, trivial⟩
          · refine stepW_of_u ⟨rfl, fun v W ρ hC kc kf ks ki kd => ?_⟩
            have t10 : ρ (.tmp 10) = .pointer (some ⟨w5.heap.size, 0, none⟩) := ki 10 (by decide)
            simp [execOp, go_sem, kc, t10]
            exact ⟨hC, Below.refl _ _, rfl⟩
          · refine stepW_of_u ⟨rfl, fun v W ρ hC kc kf ks ki kd => ?_⟩
            have d0 : v 0 = .pointer (some ⟨w5.heap.size, 0, none⟩) := by first | exact kd _ (mem0 rfl) rfl | exact kd _ (mem1 rfl) rfl | exact kd _ (mem2 rfl) rfl | exact kd _ (mem3 rfl) rfl | exact kd _ (mem4 rfl) rfl | exact kd _ (mem5 rfl) rfl
            have t27 : ρ (.tmp 27) = .pointer (some ⟨w5.heap.size, 0, none⟩) := (ks 0 27 (by decide) rfl).trans d0
            have hg := blk_later hGX6.out hC
            have c0 := blk_cell hg 0
            simp at c0
            simp [execOp, go_sem, kc, t27, c0]
            exact ⟨hC, Below.refl _ _, rfl⟩
          · refine stepW_of_u ⟨rfl, fun v W ρ hC kc kf ks ki kd => ?_⟩
            have t1 : ρ (.tmp 1) = .int .i64 1 := ki 1 (by decide)
            simp [execOp, go_sem, kc, t1]
            exact ⟨hC, Below.refl _ _, rfl⟩
          · refine stepW_of_u ⟨rfl, fun v W ρ hC kc kf ks ki kd => ?_⟩
            have d1 : v 1 = .int .i64 s.kind := by first | exact kd _ (mem0 rfl) rfl | exact kd _ (mem1 rfl) rfl | exact kd _ (mem2 rfl) rfl | exact kd _ (mem3 rfl) rfl | exact kd _ (mem4 rfl) rfl | exact kd _ (mem5 rfl) rfl
            have t28 : ρ (.tmp 28) = .int .i64 s.kind := (ks 1 28 (by decide) rfl).trans d1
            have d2 : v 2 = .int .i64 1 := by first | exact kd _ (mem0 rfl) rfl | exact kd _ (mem1 rfl) rfl | exact kd _ (mem2 rfl) rfl | exact kd _ (mem3 rfl) rfl | exact kd _ (mem4 rfl) rfl | exact kd _ (mem5 rfl) rfl
            have t29 : ρ (.tmp 29) = .int .i64 1 := (ks 2 29 (by decide) rfl).trans d2
            simp [execOp, go_sem, kc, t28, t29, h1]
            exact ⟨hC, Below.refl _ _, rfl⟩
          · refine stepW_of_u ⟨rfl, fun v W ρ hC kc kf ks ki kd => ?_⟩
            have d3 : v 3 = .bool false := by first | exact kd _ (mem0 rfl) rfl | exact kd _ (mem1 rfl) rfl | exact kd _ (mem2 rfl) rfl | exact kd _ (mem3 rfl) rfl | exact kd _ (mem4 rfl) rfl | exact kd _ (mem5 rfl) rfl
            have t30 : ρ (.tmp 30) = .bool false := (ks 3 30 (by decide) rfl).trans d3
            simp [execOp, go_sem, kc, t30]
            exact ⟨hC, Below.refl _ _, rfl⟩
          · intro v W ρ y hC kc kf ks ki ky ku kd
            have dg : v 4 = .bool false := by first | exact kd _ (mem0 rfl) rfl | exact kd _ (mem1 rfl) rfl | exact kd _ (mem2 rfl) rfl | exact kd _ (mem3 rfl) rfl | exact kd _ (mem4 rfl) rfl | exact kd _ (mem5 rfl) rfl
            have hy := ky 4 31 false (by decide) rfl dg
            rw [if_neg (by simp [Region.wanted, hy])]
            exact ⟨Below.refl _ _, rfl⟩
          · intro v W ρ y hC kc kf ks ki ky ku kd
            have dg : v 4 = .bool false := by first | exact kd _ (mem0 rfl) rfl | exact kd _ (mem1 rfl) rfl | exact kd _ (mem2 rfl) rfl | exact kd _ (mem3 rfl) rfl | exact kd _ (mem4 rfl) rfl | exact kd _ (mem5 rfl) rfl
            have hy := ky 4 31 false (by decide) rfl dg
            rw [if_neg (by simp [Region.wanted, hy])]
            exact ⟨Below.refl _ _, rfl⟩
          · intro v W ρ y hC kc kf ks ki ky ku kd
            have dg : v 4 = .bool false := by first | exact kd _ (mem0 rfl) rfl | exact kd _ (mem1 rfl) rfl | exact kd _ (mem2 rfl) rfl | exact kd _ (mem3 rfl) rfl | exact kd _ (mem4 rfl) rfl | exact kd _ (mem5 rfl) rfl
            have hy := ky 4 31 false (by decide) rfl dg
            rw [if_neg (by simp [Region.wanted, hy])]
            exact ⟨Below.refl _ _, rfl⟩
          · intro v W ρ y hC kc kf ks ki ky ku kd
            have dg : v 4 = .bool false := by first | exact kd _ (mem0 rfl) rfl | exact kd _ (mem1 rfl) rfl | exact kd _ (mem2 rfl) rfl | exact kd _ (mem3 rfl) rfl | exact kd _ (mem4 rfl) rfl | exact kd _ (mem5 rfl) rfl
            have hy := ky 4 31 false (by decide) rfl dg
            rw [if_neg (by simp [Region.wanted, hy])]
            exact ⟨Below.refl _ _, rfl⟩
          · intro v W ρ y hC kc kf ks ki ky ku kd
            have dg : v 8 = undef := by first | exact kd _ (mem0 rfl) rfl | exact kd _ (mem1 rfl) rfl | exact kd _ (mem2 rfl) rfl | exact kd _ (mem3 rfl) rfl | exact kd _ (mem4 rfl) rfl | exact kd _ (mem5 rfl) rfl
            have hy := ku 8 35 (by decide) rfl dg
            rw [if_neg (by simp [Region.wanted, hy])]
            exact ⟨Below.refl _ _, rfl⟩
          · intro v W ρ y hC kc kf ks ki ky ku kd
            have dg : v 8 = undef := by first | exact kd _ (mem0 rfl) rfl | exact kd _ (mem1 rfl) rfl | exact kd _ (mem2 rfl) rfl | exact kd _ (mem3 rfl) rfl | exact kd _ (mem4 rfl) rfl | exact kd _ (mem5 rfl) rfl
            have hy := ku 8 35 (by decide) rfl dg
            rw [if_neg (by simp [Region.wanted, hy])]
            exact ⟨Below.refl _ _, rfl⟩
          · intro v W ρ y hC kc kf ks ki ky ku kd
            have dg : v 8 = undef := by first | exact kd _ (mem0 rfl) rfl | exact kd _ (mem1 rfl) rfl | exact kd _ (mem2 rfl) rfl | exact kd _ (mem3 rfl) rfl | exact kd _ (mem4 rfl) rfl | exact kd _ (mem5 rfl) rfl
            have hy := ku 8 35 (by decide) rfl dg
            rw [if_neg (by simp [Region.wanted, hy])]
            exact ⟨Below.refl _ _, rfl⟩
          · intro v W ρ y hC kc kf ks ki ky ku kd
            have dg : v 8 = undef := by first | exact kd _ (mem0 rfl) rfl | exact kd _ (mem1 rfl) rfl | exact kd _ (mem2 rfl) rfl | exact kd _ (mem3 rfl) rfl | exact kd _ (mem4 rfl) rfl | exact kd _ (mem5 rfl) rfl
            have hy := ku 8 35 (by decide) rfl dg
            rw [if_neg (by simp [Region.wanted, hy])]
            exact ⟨Below.refl _ _, rfl⟩
          · intro v W ρ y hC kc kf ks ki ky ku kd
            have dg : v 8 = undef := by first | exact kd _ (mem0 rfl) rfl | exact kd _ (mem1 rfl) rfl | exact kd _ (mem2 rfl) rfl | exact kd _ (mem3 rfl) rfl | exact kd _ (mem4 rfl) rfl | exact kd _ (mem5 rfl) rfl
            have hy := ku 8 35 (by decide) rfl dg
            rw [if_neg (by simp [Region.wanted, hy])]
            exact ⟨Below.refl _ _, rfl⟩
          · intro v W ρ y hC kc kf ks ki ky ku kd
            have dg : v 4 = .bool false := by first | exact kd _ (mem0 rfl) rfl | exact kd _ (mem1 rfl) rfl | exact kd _ (mem2 rfl) rfl | exact kd _ (mem3 rfl) rfl | exact kd _ (mem4 rfl) rfl | exact kd _ (mem5 rfl) rfl
            have hy := ky 4 31 false (by decide) rfl dg
            rw [if_neg (by simp [Region.wanted, hy])]
            exact ⟨Below.refl _ _, rfl⟩
          · refine stepW_of_u ⟨rfl, fun v W ρ hC kc kf ks ki kd => ?_⟩
            have d4 : v 4 = .bool false := by first | exact kd _ (mem0 rfl) rfl | exact kd _ (mem1 rfl) rfl | exact kd _ (mem2 rfl) rfl | exact kd _ (mem3 rfl) rfl | exact kd _ (mem4 rfl) rfl | exact kd _ (mem5 rfl) rfl
            have t31 : ρ (.tmp 31) = .bool false := (ks 4 31 (by decide) rfl).trans d4
            simp [execOp, go_sem, kc, t31]
            exact ⟨hC, Below.refl _ _, rfl⟩
          · refine stepW_of_u ⟨rfl, fun v W ρ hC kc kf ks ki kd => ?_⟩
            have d15 : v 15 = .bool false := by first | exact kd _ (mem0 rfl) rfl | exact kd _ (mem1 rfl) rfl | exact kd _ (mem2 rfl) rfl | exact kd _ (mem3 rfl) rfl | exact kd _ (mem4 rfl) rfl | exact kd _ (mem5 rfl) rfl
            have t42 : ρ (.tmp 42) = .bool false := (ks 15 42 (by decide) rfl).trans d15
            simp [execOp, go_sem, kc, t42]
            exact ⟨hC, Below.refl _ _, rfl⟩
          · intro v W ρ y hC kc kf ks ki ky ku kd
            have dg : v 16 = .bool false := by first | exact kd _ (mem0 rfl) rfl | exact kd _ (mem1 rfl) rfl | exact kd _ (mem2 rfl) rfl | exact kd _ (mem3 rfl) rfl | exact kd _ (mem4 rfl) rfl | exact kd _ (mem5 rfl) rfl
            have hy := ky 16 43 false (by decide) rfl dg
            rw [if_neg (by simp [Region.wanted, hy])]
            exact ⟨Below.refl _ _, rfl⟩
          · intro v W ρ y hC kc kf ks ki ky ku kd
            have dg : v 16 = .bool false := by first | exact kd _ (mem0 rfl) rfl | exact kd _ (mem1 rfl) rfl | exact kd _ (mem2 rfl) rfl | exact kd _ (mem3 rfl) rfl | exact kd _ (mem4 rfl) rfl | exact kd _ (mem5 rfl) rfl
            have hy := ky 16 43 false (by decide) rfl dg
            rw [if_neg (by simp [Region.wanted, hy])]
            exact ⟨Below.refl _ _, rfl⟩
          · intro v W ρ y hC kc kf ks ki ky ku kd
            have dg : v 16 = .bool false := by first | exact kd _ (mem0 rfl) rfl | exact kd _ (mem1 rfl) rfl | exact kd _ (mem2 rfl) rfl | exact kd _ (mem3 rfl) rfl | exact kd _ (mem4 rfl) rfl | exact kd _ (mem5 rfl) rfl
            have hy := ky 16 43 false (by decide) rfl dg
            rw [if_neg (by simp [Region.wanted, hy])]
            exact ⟨Below.refl _ _, rfl⟩
          · intro v W ρ y hC kc kf ks ki ky ku kd
            have dg : v 16 = .bool false := by first | exact kd _ (mem0 rfl) rfl | exact kd _ (mem1 rfl) rfl | exact kd _ (mem2 rfl) rfl | exact kd _ (mem3 rfl) rfl | exact kd _ (mem4 rfl) rfl | exact kd _ (mem5 rfl) rfl
            have hy := ky 16 43 false (by decide) rfl dg
            rw [if_neg (by simp [Region.wanted, hy])]
            exact ⟨Below.refl _ _, rfl⟩
          · intro v W ρ y hC kc kf ks ki ky ku kd
            have dg : v 16 = .bool false := by first | exact kd _ (mem0 rfl) rfl | exact kd _ (mem1 rfl) rfl | exact kd _ (mem2 rfl) rfl | exact kd _ (mem3 rfl) rfl | exact kd _ (mem4 rfl) rfl | exact kd _ (mem5 rfl) rfl
            have hy := ky 16 43 false (by decide) rfl dg
            rw [if_neg (by simp [Region.wanted, hy])]
            exact ⟨Below.refl _ _, rfl⟩
          · intro v W ρ y hC kc kf ks ki ky ku kd
            have dg : v 16 = .bool false := by first | exact kd _ (mem0 rfl) rfl | exact kd _ (mem1 rfl) rfl | exact kd _ (mem2 rfl) rfl | exact kd _ (mem3 rfl) rfl | exact kd _ (mem4 rfl) rfl | exact kd _ (mem5 rfl) rfl
            have hy := ky 16 43 false (by decide) rfl dg
            rw [if_neg (by simp [Region.wanted, hy])]
            exact ⟨Below.refl _ _, rfl⟩
          · intro v W ρ y hC kc kf ks ki ky ku kd
            have dg : v 16 = .bool false := by first | exact kd _ (mem0 rfl) rfl | exact kd _ (mem1 rfl) rfl | exact kd _ (mem2 rfl) rfl | exact kd _ (mem3 rfl) rfl | exact kd _ (mem4 rfl) rfl | exact kd _ (mem5 rfl) rfl
            have hy := ky 16 43 false (by decide) rfl dg
            rw [if_neg (by simp [Region.wanted, hy])]
            exact ⟨Below.refl _ _, rfl⟩
          · refine stepW_of_u ⟨rfl, fun v W ρ hC kc kf ks ki kd => ?_⟩
            have d16 : v 16 = .bool false := by first | exact kd _ (mem0 rfl) rfl | exact kd _ (mem1 rfl) rfl | exact kd _ (mem2 rfl) rfl | exact kd _ (mem3 rfl) rfl | exact kd _ (mem4 rfl) rfl | exact kd _ (mem5 rfl) rfl
            have t43 : ρ (.tmp 43) = .bool false := (ks 16 43 (by decide) rfl).trans d16
            simp [execOp, go_sem, kc, t43]
            exact ⟨hC, Below.refl _ _, rfl⟩
        intro vA WA hbA hall
        have hvA : vA 24 = .bool false := hall 24 (by decide)
        simp [upto, Act.put]
        rw [hvA]
        clear hall hvA
        have hGT7 := hidS (blk_later hGT6.out hbA)
        have hGO7 := hidS (blk_later hGO6.out hbA)
        have hGX7 := hidS (blk_later hGX6.out hbA)
        have hL7 := hidS (hL6.out.trans (hbA.mono hL6.out.size))
        clear hbA hGT6 hGO6 hGX6 hL6
        have HN := HF0.out (by unfold forR; rw [h1]; rfl)
        have HN2 := hidS HN
        clear HN HF0 HF1 hF
        go_wp2_with fail
        go_roundw
        case rel => exact ⟨k + 1, by simp, by omega, HN2, hGT7, hGO7, hL7.out⟩
        case measure => simp [intOf]; omega
      cases h2 : (s.proto == 0)
      · cases h3 : (s.proto == t.proto)
        · refine grow_guarded 25 [.is (.pointer (some ⟨w5.heap.size, 0, none⟩)), .is (.int .i64 s.kind), .is (.int .i64 1), .is (.bool true), .is (.bool true), .is (.pointer (some ⟨w5.heap.size, 1, none⟩)), .is (.int .i64 s.proto), .is (.bool false), .is (.bool false), .is (.pointer (some ⟨w5.heap.size, 1, none⟩)), .is (.int .i64 s.proto), .is (.pointer (some ⟨w.heap.size, 0, none⟩)), .is (.int .i64 t.proto), .is (.bool false), .is (.bool false), .is (.bool false), .is (.bool false), .is (undef), .is (undef), .is (undef), .is (undef), .is (undef), .is (undef), .is (undef), .is (.bool false)] rfl (by kernel_rfl) (by kernel_rfl) ?stepsB ?finB
          case stepsB =>
            refine ⟨?_, ?_, ?_, ?_, ?_, ?_, ?_, ?_, ?_, ?_, ?_, ?_, ?_, ?_, ?_, ?_, ?_, ?_, ?_, ?_, ?_, ?_, ?_, ?_, ?_, trivial⟩
            · refine stepW_of_u ⟨rfl, fun v W ρ hC kc kf ks ki kd => ?_⟩
              have t10 : ρ (.tmp 10) = .pointer (some ⟨w5.heap.size, 0, none⟩) := ki 10 (by decide)
              simp [execOp, go_sem, kc, t10]
              exact ⟨hC, Below.refl _ _, rfl⟩
            · refine stepW_of_u ⟨rfl, fun v W ρ hC kc kf ks ki kd => ?_⟩
              have d0 : v 0 = .pointer (some ⟨w5.heap.size, 0, none⟩) := by first | exact kd _ (mem0 rfl) rfl | exact kd _ (mem1 rfl) rfl | exact kd _ (mem2 rfl) rfl | exact kd _ (mem3 rfl) rfl | exact kd _ (mem4 rfl) rfl | exact kd _ (mem5 rfl) rfl
              have t27 : ρ (.tmp 27) = .pointer (some ⟨w5.heap.size, 0, none⟩) := (ks 0 27 (by decide) rfl).trans d0
              have hg := blk_later hGX6.out hC
              have c0 := blk_cell hg 0
              simp at c0
              simp [execOp, go_sem, kc, t27, c0]
              exact ⟨hC, Below.refl _ _, rfl⟩
            · refine stepW_of_u ⟨rfl, fun v W ρ hC kc kf ks ki kd => ?_⟩
              have t1 : ρ (.tmp 1) = .int .i64 1 := ki 1 (by decide)
              simp [execOp, go_sem, kc, t1]
              exact ⟨hC, Below.refl _ _, rfl⟩
            · refine stepW_of_u ⟨rfl, fun v W ρ hC kc kf ks ki kd => ?_⟩
              have d1 : v 1 = .int .i64 s.kind := by first | exact kd _ (mem0 rfl) rfl | exact kd _ (mem1 rfl) rfl | exact kd _ (mem2 rfl) rfl | exact kd _ (mem3 rfl) rfl | exact kd _ (mem4 rfl) rfl | exact kd _ (mem5 rfl) rfl
              have t28 : ρ (.tmp 28) = .int .i64 s.kind := (ks 1 28 (by decide) rfl).trans d1
              have d2 : v 2 = .int .i64 1 := by first | exact kd _ (mem0 rfl) rfl | exact kd _ (mem1 rfl) rfl | exact kd _ (mem2 rfl) rfl | exact kd _ (mem3 rfl) rfl | exact kd _ (mem4 rfl) rfl | exact kd _ (mem5 rfl) rfl
              have t29 : ρ (.tmp 29) = .int .i64 1 := (ks 2 29 (by decide) rfl).trans d2
              simp [execOp, go_sem, kc, t28, t29, h1]
              exact ⟨hC, Below.refl _ _, rfl⟩
            · refine stepW_of_u ⟨rfl, fun v W ρ hC kc kf ks ki kd => ?_⟩
              have d3 : v 3 = .bool true := by first | exact kd _ (mem0 rfl) rfl | exact kd _ (mem1 rfl) rfl | exact kd _ (mem2 rfl) rfl | exact kd _ (mem3 rfl) rfl | exact kd _ (mem4 rfl) rfl | exact kd _ (mem5 rfl) rfl
              have t30 : ρ (.tmp 30) = .bool true := (ks 3 30 (by decide) rfl).trans d3
              simp [execOp, go_sem, kc, t30]
              exact ⟨hC, Below.refl _ _, rfl⟩
            · intro v W ρ y hC kc kf ks ki ky ku kd
              have dg : v 4 = .bool true := by first | exact kd _ (mem0 rfl) rfl | exact kd _ (mem1 rfl) rfl | exact kd _ (mem2 rfl) rfl | exact kd _ (mem3 rfl) rfl | exact kd _ (mem4 rfl) rfl | exact kd _ (mem5 rfl) rfl
              have hy := ky 4 31 true (by decide) rfl dg
              rw [if_pos (by simp [Region.wanted, hy])]
              have t10 : ρ (.tmp 10) = .pointer (some ⟨w5.heap.size, 0, none⟩) := ki 10 (by decide)
              simp [execOp, go_sem, kc, t10]
              exact ⟨hC, Below.refl _ _, rfl⟩
            · intro v W ρ y hC kc kf ks ki ky ku kd
              have dg : v 4 = .bool true := by first | exact kd _ (mem0 rfl) rfl | exact kd _ (mem1 rfl) rfl | exact kd _ (mem2 rfl) rfl | exact kd _ (mem3 rfl) rfl | exact kd _ (mem4 rfl) rfl | exact kd _ (mem5 rfl) rfl
              have hy := ky 4 31 true (by decide) rfl dg
              rw [if_pos (by simp [Region.wanted, hy])]
              have d5 : v 5 = .pointer (some ⟨w5.heap.size, 1, none⟩) := by first | exact kd _ (mem0 rfl) rfl | exact kd _ (mem1 rfl) rfl | exact kd _ (mem2 rfl) rfl | exact kd _ (mem3 rfl) rfl | exact kd _ (mem4 rfl) rfl | exact kd _ (mem5 rfl) rfl
              have t32 : ρ (.tmp 32) = .pointer (some ⟨w5.heap.size, 1, none⟩) := (ks 5 32 (by decide) rfl).trans d5
              have hg := blk_later hGX6.out hC
              have c1 := blk_cell hg 1
              simp at c1
              simp [execOp, go_sem, kc, t32, c1]
              exact ⟨hC, Below.refl _ _, rfl⟩
            · intro v W ρ y hC kc kf ks ki ky ku kd
              have dg : v 4 = .bool true := by first | exact kd _ (mem0 rfl) rfl | exact kd _ (mem1 rfl) rfl | exact kd _ (mem2 rfl) rfl | exact kd _ (mem3 rfl) rfl | exact kd _ (mem4 rfl) rfl | exact kd _ (mem5 rfl) rfl
              have hy := ky 4 31 true (by decide) rfl dg
              rw [if_pos (by simp [Region.wanted, hy])]
              have d6 : v 6 = .int .i64 s.proto := by first | exact kd _ (mem0 rfl) rfl | exact kd _ (mem1 rfl) rfl | exact kd _ (mem2 rfl) rfl | exact kd _ (mem3 rfl) rfl | exact kd _ (mem4 rfl) rfl | exact kd _ (mem5 rfl) rfl
              have t33 : ρ (.tmp 33) = .int .i64 s.proto := (ks 6 33 (by decide) rfl).trans d6
              simp [execOp, go_sem, kc, t33, h2]
              exact ⟨hC, Below.refl _ _, rfl⟩
            · intro v W ρ y hC kc kf ks ki ky ku kd
              have dg : v 4 = .bool true := by first | exact kd _ (mem0 rfl) rfl | exact kd _ (mem1 rfl) rfl | exact kd _ (mem2 rfl) rfl | exact kd _ (mem3 rfl) rfl | exact kd _ (mem4 rfl) rfl | exact kd _ (mem5 rfl) rfl
              have hy := ky 4 31 true (by decide) rfl dg
              rw [if_pos (by simp [Region.wanted, hy])]
              have d7 : v 7 = .bool false := by first | exact kd _ (mem0 rfl) rfl | exact kd _ (mem1 rfl) rfl | exact kd _ (mem2 rfl) rfl | exact kd _ (mem3 rfl) rfl | exact kd _ (mem4 rfl) rfl | exact kd _ (mem5 rfl) rfl
              have t34 : ρ (.tmp 34) = .bool false := (ks 7 34 (by decide) rfl).trans d7
              simp [execOp, go_sem, kc, t34]
              exact ⟨hC, Below.refl _ _, rfl⟩
            · intro v W ρ y hC kc kf ks ki ky ku kd
              have dg : v 8 = .bool false := by first | exact kd _ (mem0 rfl) rfl | exact kd _ (mem1 rfl) rfl | exact kd _ (mem2 rfl) rfl | exact kd _ (mem3 rfl) rfl | exact kd _ (mem4 rfl) rfl | exact kd _ (mem5 rfl) rfl
              have hy := ky 8 35 false (by decide) rfl dg
              rw [if_pos (by simp [Region.wanted, hy])]
              have t10 : ρ (.tmp 10) = .pointer (some ⟨w5.heap.size, 0, none⟩) := ki 10 (by decide)
              simp [execOp, go_sem, kc, t10]
              exact ⟨hC, Below.refl _ _, rfl⟩
            · intro v W ρ y hC kc kf ks ki ky ku kd
              have dg : v 8 = .bool false := by first | exact kd _ (mem0 rfl) rfl | exact kd _ (mem1 rfl) rfl | exact kd _ (mem2 rfl) rfl | exact kd _ (mem3 rfl) rfl | exact kd _ (mem4 rfl) rfl | exact kd _ (mem5 rfl) rfl
              have hy := ky 8 35 false (by decide) rfl dg
              rw [if_pos (by simp [Region.wanted, hy])]
              have d9 : v 9 = .pointer (some ⟨w5.heap.size, 1, none⟩) := by first | exact kd _ (mem0 rfl) rfl | exact kd _ (mem1 rfl) rfl | exact kd _ (mem2 rfl) rfl | exact kd _ (mem3 rfl) rfl | exact kd _ (mem4 rfl) rfl | exact kd _ (mem5 rfl) rfl
              have t36 : ρ (.tmp 36) = .pointer (some ⟨w5.heap.size, 1, none⟩) := (ks 9 36 (by decide) rfl).trans d9
              have hg := blk_later hGX6.out hC
              have c1 := blk_cell hg 1
              simp at c1
              simp [execOp, go_sem, kc, t36, c1]
              exact ⟨hC, Below.refl _ _, rfl⟩
            · intro v W ρ y hC kc kf ks ki ky ku kd
              have dg : v 8 = .bool false := by first | exact kd _ (mem0 rfl) rfl | exact kd _ (mem1 rfl) rfl | exact kd _ (mem2 rfl) rfl | exact kd _ (mem3 rfl) rfl | exact kd _ (mem4 rfl) rfl | exact kd _ (mem5 rfl) rfl
              have hy := ky 8 35 false (by decide) rfl dg
              rw [if_pos (by simp [Region.wanted, hy])]
              have t5 : ρ (.tmp 5) = .pointer (some ⟨w.heap.size, 0, none⟩) := ki 5 (by decide)
              simp [execOp, go_sem, kc, t5]
              exact ⟨hC, Below.refl _ _, rfl⟩
            · intro v W ρ y hC kc kf ks ki ky ku kd
              have dg : v 8 = .bool false := by first | exact kd _ (mem0 rfl) rfl | exact kd _ (mem1 rfl) rfl | exact kd _ (mem2 rfl) rfl | exact kd _ (mem3 rfl) rfl | exact kd _ (mem4 rfl) rfl | exact kd _ (mem5 rfl) rfl
              have hy := ky 8 35 false (by decide) rfl dg
              rw [if_pos (by simp [Region.wanted, hy])]
              have d11 : v 11 = .pointer (some ⟨w.heap.size, 0, none⟩) := by first | exact kd _ (mem0 rfl) rfl | exact kd _ (mem1 rfl) rfl | exact kd _ (mem2 rfl) rfl | exact kd _ (mem3 rfl) rfl | exact kd _ (mem4 rfl) rfl | exact kd _ (mem5 rfl) rfl
              have t38 : ρ (.tmp 38) = .pointer (some ⟨w.heap.size, 0, none⟩) := (ks 11 38 (by decide) rfl).trans d11
              have hg := blk_later hGT6.out hC
              have c0 := blk_cell hg 0
              simp at c0
              simp [execOp, go_sem, kc, t38, c0]
              exact ⟨hC, Below.refl _ _, rfl⟩
            · intro v W ρ y hC kc kf ks ki ky ku kd
              have dg : v 8 = .bool false := by first | exact kd _ (mem0 rfl) rfl | exact kd _ (mem1 rfl) rfl | exact kd _ (mem2 rfl) rfl | exact kd _ (mem3 rfl) rfl | exact kd _ (mem4 rfl) rfl | exact kd _ (mem5 rfl) rfl
              have hy := ky 8 35 false (by decide) rfl dg
              rw [if_pos (by simp [Region.wanted, hy])]
              have d10 : v 10 = .int .i64 s.proto := by first | exact kd _ (mem0 rfl) rfl | exact kd _ (mem1 rfl) rfl | exact kd _ (mem2 rfl) rfl | exact kd _ (mem3 rfl) rfl | exact kd _ (mem4 rfl) rfl | exact kd _ (mem5 rfl) rfl
              have t37 : ρ (.tmp 37) = .int .i64 s.proto := (ks 10 37 (by decide) rfl).trans d10
              have d12 : v 12 = .int .i64 t.proto := by first | exact kd _ (mem0 rfl) rfl | exact kd _ (mem1 rfl) rfl | exact kd _ (mem2 rfl) rfl | exact kd _ (mem3 rfl) rfl | exact kd _ (mem4 rfl) rfl | exact kd _ (mem5 rfl) rfl
              have t39 : ρ (.tmp 39) = .int .i64 t.proto := (ks 12 39 (by decide) rfl).trans d12
              simp [execOp, go_sem, kc, t37, t39, h3]
              exact ⟨hC, Below.refl _ _, rfl⟩
            · intro v W ρ y hC kc kf ks ki ky ku kd
              have dg : v 4 = .bool true := by first | exact kd _ (mem0 rfl) rfl | exact kd _ (mem1 rfl) rfl | exact kd _ (mem2 rfl) rfl | exact kd _ (mem3 rfl) rfl | exact kd _ (mem4 rfl) rfl | exact kd _ (mem5 rfl) rfl
              have hy := ky 4 31 true (by decide) rfl dg
              rw [if_pos (by simp [Region.wanted, hy])]
              have d8 : v 8 = .bool false := by first | exact kd _ (mem0 rfl) rfl | exact kd _ (mem1 rfl) rfl | exact kd _ (mem2 rfl) rfl | exact kd _ (mem3 rfl) rfl | exact kd _ (mem4 rfl) rfl | exact kd _ (mem5 rfl) rfl
              have t35 : ρ (.tmp 35) = .bool false := (ks 8 35 (by decide) rfl).trans d8
              have d13 : v 13 = .bool false := by first | exact kd _ (mem0 rfl) rfl | exact kd _ (mem1 rfl) rfl | exact kd _ (mem2 rfl) rfl | exact kd _ (mem3 rfl) rfl | exact kd _ (mem4 rfl) rfl | exact kd _ (mem5 rfl) rfl
              have t40 : ρ (.tmp 40) = .bool false := (ks 13 40 (by decide) rfl).trans d13
              simp [execOp, go_sem, kc, t35, t40]
              exact ⟨hC, Below.refl _ _, rfl⟩
            · refine stepW_of_u ⟨rfl, fun v W ρ hC kc kf ks ki kd => ?_⟩
              have d4 : v 4 = .bool true := by first | exact kd _ (mem0 rfl) rfl | exact kd _ (mem1 rfl) rfl | exact kd _ (mem2 rfl) rfl | exact kd _ (mem3 rfl) rfl | exact kd _ (mem4 rfl) rfl | exact kd _ (mem5 rfl) rfl
              have t31 : ρ (.tmp 31) = .bool true := (ks 4 31 (by decide) rfl).trans d4
              have d14 : v 14 = .bool false := by first | exact kd _ (mem0 rfl) rfl | exact kd _ (mem1 rfl) rfl | exact kd _ (mem2 rfl) rfl | exact kd _ (mem3 rfl) rfl | exact kd _ (mem4 rfl) rfl | exact kd _ (mem5 rfl) rfl
              have t41 : ρ (.tmp 41) = .bool false := (ks 14 41 (by decide) rfl).trans d14
              simp [execOp, go_sem, kc, t31, t41]
              exact ⟨hC, Below.refl _ _, rfl⟩
            · refine stepW_of_u ⟨rfl, fun v W ρ hC kc kf ks ki kd => ?_⟩
              have d15 : v 15 = .bool false := by first | exact kd _ (mem0 rfl) rfl | exact kd _ (mem1 rfl) rfl | exact kd _ (mem2 rfl) rfl | exact kd _ (mem3 rfl) rfl | exact kd _ (mem4 rfl) rfl | exact kd _ (mem5 rfl) rfl
              have t42 : ρ (.tmp 42) = .bool false := (ks 15 42 (by decide) rfl).trans d15
              simp [execOp, go_sem, kc, t42]
              exact ⟨hC, Below.refl _ _, rfl⟩
            · intro v W ρ y hC kc kf ks ki ky ku kd
              have dg : v 16 = .bool false := by first | exact kd _ (mem0 rfl) rfl | exact kd _ (mem1 rfl) rfl | exact kd _ (mem2 rfl) rfl | exact kd _ (mem3 rfl) rfl | exact kd _ (mem4 rfl) rfl | exact kd _ (mem5 rfl) rfl
              have hy := ky 16 43 false (by decide) rfl dg
              rw [if_neg (by simp [Region.wanted, hy])]
              exact ⟨Below.refl _ _, rfl⟩
            · intro v W ρ y hC kc kf ks ki ky ku kd
              have dg : v 16 = .bool false := by first | exact kd _ (mem0 rfl) rfl | exact kd _ (mem1 rfl) rfl | exact kd _ (mem2 rfl) rfl | exact kd _ (mem3 rfl) rfl | exact kd _ (mem4 rfl) rfl | exact kd _ (mem5 rfl) rfl
              have hy := ky 16 43 false (by decide) rfl dg
              rw [if_neg (by simp [Region.wanted, hy])]
              exact ⟨Below.refl _ _, rfl⟩
            · intro v W ρ y hC kc kf ks ki ky ku kd
              have dg : v 16 = .bool false := by first | exact kd _ (mem0 rfl) rfl | exact kd _ (mem1 rfl) rfl | exact kd _ (mem2 rfl) rfl | exact kd _ (mem3 rfl) rfl | exact kd _ (mem4 rfl) rfl | exact kd _ (mem5 rfl) rfl
              have hy := ky 16 43 false (by decide) rfl dg
              rw [if_neg (by simp [Region.wanted, hy])]
              exact ⟨Below.refl _ _, rfl⟩
            · intro v W ρ y hC kc kf ks ki ky ku kd
              have dg : v 16 = .bool false := by first | exact kd _ (mem0 rfl) rfl | exact kd _ (mem1 rfl) rfl | exact kd _ (mem2 rfl) rfl | exact kd _ (mem3 rfl) rfl | exact kd _ (mem4 rfl) rfl | exact kd _ (mem5 rfl) rfl
              have hy := ky 16 43 false (by decide) rfl dg
              rw [if_neg (by simp [Region.wanted, hy])]
              exact ⟨Below.refl _ _, rfl⟩
            · intro v W ρ y hC kc kf ks ki ky ku kd
              have dg : v 16 = .bool false := by first | exact kd _ (mem0 rfl) rfl | exact kd _ (mem1 rfl) rfl | exact kd _ (mem2 rfl) rfl | exact kd _ (mem3 rfl) rfl | exact kd _ (mem4 rfl) rfl | exact kd _ (mem5 rfl) rfl
              have hy := ky 16 43 false (by decide) rfl dg
              rw [if_neg (by simp [Region.wanted, hy])]
              exact ⟨Below.refl _ _, rfl⟩
            · intro v W ρ y hC kc kf ks ki ky ku kd
              have dg : v 16 = .bool false := by first | exact kd _ (mem0 rfl) rfl | exact kd _ (mem1 rfl) rfl | exact kd _ (mem2 rfl) rfl | exact kd _ (mem3 rfl) rfl | exact kd _ (mem4 rfl) rfl | exact kd _ (mem5 rfl) rfl
              have hy := ky 16 43 false (by decide) rfl dg
              rw [if_neg (by simp [Region.wanted, hy])]
              exact ⟨Below.refl _ _, rfl⟩
            · intro v W ρ y hC kc kf ks ki ky ku kd
              have dg : v 16 = .bool false := by first | exact kd _ (mem0 rfl) rfl | exact kd _ (mem1 rfl) rfl | exact kd _ (mem2 rfl) rfl | exact kd _ (mem3 rfl) rfl | exact kd _ (mem4 rfl) rfl | exact kd _ (mem5 rfl) rfl
              have hy := ky 16 43 false (by decide) rfl dg
              rw [if_neg (by simp [Region.wanted, hy])]
              exact ⟨Below.refl _ _, rfl⟩
            · refine stepW_of_u ⟨rfl, fun v W ρ hC kc kf ks ki kd => ?_⟩
              have d16 : v 16 = .bool false := by first | exact kd _ (mem0 rfl) rfl | exact kd _ (mem1 rfl) rfl | exact kd _ (mem2 rfl) rfl | exact kd _ (mem3 rfl) rfl | exact kd _ (mem4 rfl) rfl | exact kd _ (mem5 rfl) rfl
              have t43 : ρ (.tmp 43) = .bool false := (ks 16 43 (by decide) rfl).trans d16
              simp [execOp, go_sem, kc, t43]
              exact ⟨hC, Below.refl _ _, rfl⟩
          intro vB WB hbB hall
          have hvB : vB 24 = .bool false := hall 24 (by decide)
          simp [upto, Act.put]
          rw [hvB]
          clear hall hvB
          have hGT7 := hidS (blk_later hGT6.out hbB)
          have hGO7 := hidS (blk_later hGO6.out hbB)
          have hGX7 := hidS (blk_later hGX6.out hbB)
          have hL7 := hidS (hL6.out.trans (hbB.mono hL6.out.size))
          clear hbB hGT6 hGO6 hGX6 hL6
          have HN := HF0.out (by unfold forR; rw [h1, h2, h3]; rfl)
          have HN2 := hidS HN
          clear HN HF0 HF1 hF
          go_wp2_with fail
          go_roundw
          case rel => exact ⟨k + 1, by simp, by omega, HN2, hGT7, hGO7, hL7.out⟩
          case measure => simp [intOf]; omega
        refine grow_guarded 25 [.is (.pointer (some ⟨w5.heap.size, 0, none⟩)), .is (.int .i64 s.kind), .is (.int .i64 1), .is (.bool true), .is (.bool true), .is (.pointer (some ⟨w5.heap.size, 1, none⟩)), .is (.int .i64 s.proto), .is (.bool false), .is (.bool false), .is (.pointer (some ⟨w5.heap.size, 1, none⟩)), .is (.int .i64 s.proto), .is (.pointer (some ⟨w.heap.size, 0, none⟩)), .is (.int .i64 t.proto), .is (.bool true), .is (.bool true), .is (.bool true), .is (.bool true), .is (.int .i64 t.src), .is (.pointer (some ⟨w5.heap.size, 3, none⟩)), .is (.int .i64 s.bits), .is (.int .i64 (headN t.src s.bits)), .is (.pointer (some ⟨w5.heap.size, 2, none⟩)), .is (.int .i64 s.net), .is (.bool hb), .is (.bool hb)] rfl (by kernel_rfl) (by kernel_rfl) ?stepsC ?finC
        case stepsC =>
          refine ⟨?_, ?_, ?_, ?_, ?_, ?_, ?_, ?_, ?_, ?_, ?_, ?_, ?_, ?_, ?_, ?_, ?_, ?_, ?_, ?_, ?_, ?_, ?_, ?_, ?_, trivial⟩
          · refine stepW_of_u ⟨rfl, fun v W ρ hC kc kf ks ki kd => ?_⟩
            have t10 : ρ (.tmp 10) = .pointer (some ⟨w5.heap.size, 0, none⟩) := ki 10 (by decide)
            simp [execOp, go_sem, kc, t10]
            exact ⟨hC, Below.refl _ _, rfl⟩
          · refine stepW_of_u ⟨rfl, fun v W ρ hC kc kf ks ki kd => ?_⟩
            have d0 : v 0 = .pointer (some ⟨w5.heap.size, 0, none⟩) := by first | exact kd _ (mem0 rfl) rfl | exact kd _ (mem1 rfl) rfl | exact kd _ (mem2 rfl) rfl | exact kd _ (mem3 rfl) rfl | exact kd _ (mem4 rfl) rfl | exact kd _ (mem5 rfl) rfl
            have t27 : ρ (.tmp 27) = .pointer (some ⟨w5.heap.size, 0, none⟩) := (ks 0 27 (by decide) rfl).trans d0
            have hg := blk_later hGX6.out hC
            have c0 := blk_cell hg 0
            simp at c0
            simp [execOp, go_sem, kc, t27, c0]
            exact ⟨hC, Below.refl _ _, rfl⟩
          · refine stepW_of_u ⟨rfl, fun v W ρ hC kc kf ks ki kd => ?_⟩
            have t1 : ρ (.tmp 1) = .int .i64 1 := ki 1 (by decide)
            simp [execOp, go_sem, kc, t1]
            exact ⟨hC, Below.refl _ _, rfl⟩
          · refine stepW_of_u ⟨rfl, fun v W ρ hC kc kf ks ki kd => ?_⟩
            have d1 : v 1 = .int .i64 s.kind := by first | exact kd _ (mem0 rfl) rfl | exact kd _ (mem1 rfl) rfl | exact kd _ (mem2 rfl) rfl | exact kd _ (mem3 rfl) rfl | exact kd _ (mem4 rfl) rfl | exact kd _ (mem5 rfl) rfl
            have t28 : ρ (.tmp 28) = .int .i64 s.kind := (ks 1 28 (by decide) rfl).trans d1
            have d2 : v 2 = .int .i64 1 := by first | exact kd _ (mem0 rfl) rfl | exact kd _ (mem1 rfl) rfl | exact kd _ (mem2 rfl) rfl | exact kd _ (mem3 rfl) rfl | exact kd _ (mem4 rfl) rfl | exact kd _ (mem5 rfl) rfl
            have t29 : ρ (.tmp 29) = .int .i64 1 := (ks 2 29 (by decide) rfl).trans d2
            simp [execOp, go_sem, kc, t28, t29, h1]
            exact ⟨hC, Below.refl _ _, rfl⟩
          · refine stepW_of_u ⟨rfl, fun v W ρ hC kc kf ks ki kd => ?_⟩
            have d3 : v 3 = .bool true := by first | exact kd _ (mem0 rfl) rfl | exact kd _ (mem1 rfl) rfl | exact kd _ (mem2 rfl) rfl | exact kd _ (mem3 rfl) rfl | exact kd _ (mem4 rfl) rfl | exact kd _ (mem5 rfl) rfl
            have t30 : ρ (.tmp 30) = .bool true := (ks 3 30 (by decide) rfl).trans d3
            simp [execOp, go_sem, kc, t30]
            exact ⟨hC, Below.refl _ _, rfl⟩
          · intro v W ρ y hC kc kf ks ki ky ku kd
            have dg : v 4 = .bool true := by first | exact kd _ (mem0 rfl) rfl | exact kd _ (mem1 rfl) rfl | exact kd _ (mem2 rfl) rfl | exact kd _ (mem3 rfl) rfl | exact kd _ (mem4 rfl) rfl | exact kd _ (mem5 rfl) rfl
            have hy := ky 4 31 true (by decide) rfl dg
            rw [if_pos (by simp [Region.wanted, hy])]
            have t10 : ρ (.tmp 10) = .pointer (some ⟨w5.heap.size, 0, none⟩) := ki 10 (by decide)
            simp [execOp, go_sem, kc, t10]
            exact ⟨hC, Below.refl _ _, rfl⟩
          · intro v W ρ y hC kc kf ks ki ky ku kd
            have dg : v 4 = .bool true := by first | exact kd _ (mem0 rfl) rfl | exact kd _ (mem1 rfl) rfl | exact kd _ (mem2 rfl) rfl | exact kd _ (mem3 rfl) rfl | exact kd _ (mem4 rfl) rfl | exact kd _ (mem5 rfl) rfl
            have hy := ky 4 31 true (by decide) rfl dg
            rw [if_pos (by simp [Region.wanted, hy])]
            have d5 : v 5 = .pointer (some ⟨w5.heap.size, 1, none⟩) := by first | exact kd _ (mem0 rfl) rfl | exact kd _ (mem1 rfl) rfl | exact kd _ (mem2 rfl) rfl | exact kd _ (mem3 rfl) rfl | exact kd _ (mem4 rfl) rfl | exact kd _ (mem5 rfl) rfl
            have t32 : ρ (.tmp 32) = .pointer (some ⟨w5.heap.size, 1, none⟩) := (ks 5 32 (by decide) rfl).trans d5
            have hg := blk_later hGX6.out hC
            have c1 := blk_cell hg 1
            simp at c1
            simp [execOp, go_sem, kc, t32, c1]
            exact ⟨hC, Below.refl _ _, rfl⟩
          · intro v W ρ y hC kc kf ks ki ky ku kd
            have dg : v 4 = .bool true := by first | exact kd _ (mem0 rfl) rfl | exact kd _ (mem1 rfl) rfl | exact kd _ (mem2 rfl) rfl | exact kd _ (mem3 rfl) rfl | exact kd _ (mem4 rfl) rfl | exact kd _ (mem5 rfl) rfl
            have hy := ky 4 31 true (by decide) rfl dg
            rw [if_pos (by simp [Region.wanted, hy])]
            have d6 : v 6 = .int .i64 s.proto := by first | exact kd _ (mem0 rfl) rfl | exact kd _ (mem1 rfl) rfl | exact kd _ (mem2 rfl) rfl | exact kd _ (mem3 rfl) rfl | exact kd _ (mem4 rfl) rfl | exact kd _ (mem5 rfl) rfl
            have t33 : ρ (.tmp 33) = .int .i64 s.proto := (ks 6 33 (by decide) rfl).trans d6
            simp [execOp, go_sem, kc, t33, h2]
            exact ⟨hC, Below.refl _ _, rfl⟩
          · intro v W ρ y hC kc kf ks ki ky ku kd
            have dg : v 4 = .bool true := by first | exact kd _ (mem0 rfl) rfl | exact kd _ (mem1 rfl) rfl | exact kd _ (mem2 rfl) rfl | exact kd _ (mem3 rfl) rfl | exact kd _ (mem4 rfl) rfl | exact kd _ (mem5 rfl) rfl
            have hy := ky 4 31 true (by decide) rfl dg
            rw [if_pos (by simp [Region.wanted, hy])]
            have d7 : v 7 = .bool false := by first | exact kd _ (mem0 rfl) rfl | exact kd _ (mem1 rfl) rfl | exact kd _ (mem2 rfl) rfl | exact kd _ (mem3 rfl) rfl | exact kd _ (mem4 rfl) rfl | exact kd _ (mem5 rfl) rfl
            have t34 : ρ (.tmp 34) = .bool false := (ks 7 34 (by decide) rfl).trans d7
            simp [execOp, go_sem, kc, t34]
            exact ⟨hC, Below.refl _ _, rfl⟩
          · intro v W ρ y hC kc kf ks ki ky ku kd
            have dg : v 8 = .bool false := by first | exact kd _ (mem0 rfl) rfl | exact kd _ (mem1 rfl) rfl | exact kd _ (mem2 rfl) rfl | exact kd _ (mem3 rfl) rfl | exact kd _ (mem4 rfl) rfl | exact kd _ (mem5 rfl) rfl
            have hy := ky 8 35 false (by decide) rfl dg
            rw [if_pos (by simp [Region.wanted, hy])]
            have t10 : ρ (.tmp 10) = .pointer (some ⟨w5.heap.size, 0, none⟩) := ki 10 (by decide)
            simp [execOp, go_sem, kc, t10]
            exact ⟨hC, Below.refl _ _, rfl⟩
          · intro v W ρ y hC kc kf ks ki ky ku kd
            have dg : v 8 = .bool false := by first | exact kd _ (mem0 rfl) rfl | exact kd _ (mem1 rfl) rfl | exact kd _ (mem2 rfl) rfl | exact kd _ (mem3 rfl) rfl | exact kd _ (mem4 rfl) rfl | exact kd _ (mem5 rfl) rfl
            have hy := ky 8 35 false (by decide) rfl dg
            rw [if_pos (by simp [Region.wanted, hy])]
            have d9 : v 9 = .pointer (some ⟨w5.heap.size, 1, none⟩) := by first | exact kd _ (mem0 rfl) rfl | exact kd _ (mem1 rfl) rfl | exact kd _ (mem2 rfl) rfl | exact kd _ (mem3 rfl) rfl | exact kd _ (mem4 rfl) rfl | exact kd _ (mem5 rfl) rfl
            have t36 : ρ (.tmp 36) = .pointer (some ⟨w5.heap.size, 1, none⟩) := (ks 9 36 (by decide) rfl).trans d9
            have hg := blk_later hGX6.out hC
            have c1 := blk_cell hg 1
            simp at c1
            simp [execOp, go_sem, kc, t36, c1]
            exact ⟨hC, Below.refl _ _, rfl⟩
          · intro v W ρ y hC kc kf ks ki ky ku kd
            have dg : v 8 = .bool false := by first | exact kd _ (mem0 rfl) rfl | exact kd _ (mem1 rfl) rfl | exact kd _ (mem2 rfl) rfl | exact kd _ (mem3 rfl) rfl | exact kd _ (mem4 rfl) rfl | exact kd _ (mem5 rfl) rfl
            have hy := ky 8 35 false (by decide) rfl dg
            rw [if_pos (by simp [Region.wanted, hy])]
            have t5 : ρ (.tmp 5) = .pointer (some ⟨w.heap.size, 0, none⟩) := ki 5 (by decide)
            simp [execOp, go_sem, kc, t5]
            exact ⟨hC, Below.refl _ _, rfl⟩
          · intro v W ρ y hC kc kf ks ki ky ku kd
            have dg : v 8 = .bool false := by first | exact kd _ (mem0 rfl) rfl | exact kd _ (mem1 rfl) rfl | exact kd _ (mem2 rfl) rfl | exact kd _ (mem3 rfl) rfl | exact kd _ (mem4 rfl) rfl | exact kd _ (mem5 rfl) rfl
            have hy := ky 8 35 false (by decide) rfl dg
            rw [if_pos (by simp [Region.wanted, hy])]
            have d11 : v 11 = .pointer (some ⟨w.heap.size, 0, none⟩) := by first | exact kd _ (mem0 rfl) rfl | exact kd _ (mem1 rfl) rfl | exact kd _ (mem2 rfl) rfl | exact kd _ (mem3 rfl) rfl | exact kd _ (mem4 rfl) rfl | exact kd _ (mem5 rfl) rfl
            have t38 : ρ (.tmp 38) = .pointer (some ⟨w.heap.size, 0, none⟩) := (ks 11 38 (by decide) rfl).trans d11
            have hg := blk_later hGT6.out hC
            have c0 := blk_cell hg 0
            simp at c0
            simp [execOp, go_sem, kc, t38, c0]
            exact ⟨hC, Below.refl _ _, rfl⟩
          · intro v W ρ y hC kc kf ks ki ky ku kd
            have dg : v 8 = .bool false := by first | exact kd _ (mem0 rfl) rfl | exact kd _ (mem1 rfl) rfl | exact kd _ (mem2 rfl) rfl | exact kd _ (mem3 rfl) rfl | exact kd _ (mem4 rfl) rfl | exact kd _ (mem5 rfl) rfl
            have hy := ky 8 35 false (by decide) rfl dg
            rw [if_pos (by simp [Region.wanted, hy])]
            have d10 : v 10 = .int .i64 s.proto := by first | exact kd _ (mem0 rfl) rfl | exact kd _ (mem1 rfl) rfl | exact kd _ (mem2 rfl) rfl | exact kd _ (mem3 rfl) rfl | exact kd _ (mem4 rfl) rfl | exact kd _ (mem5 rfl) rfl
            have t37 : ρ (.tmp 37) = .int .i64 s.proto := (ks 10 37 (by decide) rfl).trans d10
            have d12 : v 12 = .int .i64 t.proto := by first | exact kd _ (mem0 rfl) rfl | exact kd _ (mem1 rfl) rfl | exact kd _ (mem2 rfl) rfl | exact kd _ (mem3 rfl) rfl | exact kd _ (mem4 rfl) rfl | exact kd _ (mem5 rfl) rfl
            have t39 : ρ (.tmp 39) = .int .i64 t.proto := (ks 12 39 (by decide) rfl).trans d12
            simp [execOp, go_sem, kc, t37, t39, h3]
            exact ⟨hC, Below.refl _ _, rfl⟩
          · intro v W ρ y hC kc kf ks ki ky ku kd
            have dg : v 4 = .bool true := by first | exact kd _ (mem0 rfl) rfl | exact kd _ (mem1 rfl) rfl | exact kd _ (mem2 rfl) rfl | exact kd _ (mem3 rfl) rfl | exact kd _ (mem4 rfl) rfl | exact kd _ (mem5 rfl) rfl
            have hy := ky 4 31 true (by decide) rfl dg
            rw [if_pos (by simp [Region.wanted, hy])]
            have d8 : v 8 = .bool false := by first | exact kd _ (mem0 rfl) rfl | exact kd _ (mem1 rfl) rfl | exact kd _ (mem2 rfl) rfl | exact kd _ (mem3 rfl) rfl | exact kd _ (mem4 rfl) rfl | exact kd _ (mem5 rfl) rfl
            have t35 : ρ (.tmp 35) = .bool false := (ks 8 35 (by decide) rfl).trans d8
            have d13 : v 13 = .bool true := by first | exact kd _ (mem0 rfl) rfl | exact kd _ (mem1 rfl) rfl | exact kd _ (mem2 rfl) rfl | exact kd _ (mem3 rfl) rfl | exact kd _ (mem4 rfl) rfl | exact kd _ (mem5 rfl) rfl
            have t40 : ρ (.tmp 40) = .bool true := (ks 13 40 (by decide) rfl).trans d13
            simp [execOp, go_sem, kc, t35, t40]
            exact ⟨hC, Below.refl _ _, rfl⟩
          · refine stepW_of_u ⟨rfl, fun v W ρ hC kc kf ks ki kd => ?_⟩
            have d4 : v 4 = .bool true := by first | exact kd _ (mem0 rfl) rfl | exact kd _ (mem1 rfl) rfl | exact kd _ (mem2 rfl) rfl | exact kd _ (mem3 rfl) rfl | exact kd _ (mem4 rfl) rfl | exact kd _ (mem5 rfl) rfl
            have t31 : ρ (.tmp 31) = .bool true := (ks 4 31 (by decide) rfl).trans d4
            have d14 : v 14 = .bool true := by first | exact kd _ (mem0 rfl) rfl | exact kd _ (mem1 rfl) rfl | exact kd _ (mem2 rfl) rfl | exact kd _ (mem3 rfl) rfl | exact kd _ (mem4 rfl) rfl | exact kd _ (mem5 rfl) rfl
            have t41 : ρ (.tmp 41) = .bool true := (ks 14 41 (by decide) rfl).trans d14
            simp [execOp, go_sem, kc, t31, t41]
            exact ⟨hC, Below.refl _ _, rfl⟩
          · refine stepW_of_u ⟨rfl, fun v W ρ hC kc kf ks ki kd => ?_⟩
            have d15 : v 15 = .bool true := by first | exact kd _ (mem0 rfl) rfl | exact kd _ (mem1 rfl) rfl | exact kd _ (mem2 rfl) rfl | exact kd _ (mem3 rfl) rfl | exact kd _ (mem4 rfl) rfl | exact kd _ (mem5 rfl) rfl
            have t42 : ρ (.tmp 42) = .bool true := (ks 15 42 (by decide) rfl).trans d15
            simp [execOp, go_sem, kc, t42]
            exact ⟨hC, Below.refl _ _, rfl⟩
          · intro v W ρ y hC kc kf ks ki ky ku kd
            have dg : v 16 = .bool true := by first | exact kd _ (mem0 rfl) rfl | exact kd _ (mem1 rfl) rfl | exact kd _ (mem2 rfl) rfl | exact kd _ (mem3 rfl) rfl | exact kd _ (mem4 rfl) rfl | exact kd _ (mem5 rfl) rfl
            have hy := ky 16 43 true (by decide) rfl dg
            rw [if_pos (by simp [Region.wanted, hy])]
            have t8 : ρ (.tmp 8) = .int .i64 t.src := ki 8 (by decide)
            simp [execOp, go_sem, kc, t8]
            exact ⟨hC, Below.refl _ _, rfl⟩
          · intro v W ρ y hC kc kf ks ki ky ku kd
            have dg : v 16 = .bool true := by first | exact kd _ (mem0 rfl) rfl | exact kd _ (mem1 rfl) rfl | exact kd _ (mem2 rfl) rfl | exact kd _ (mem3 rfl) rfl | exact kd _ (mem4 rfl) rfl | exact kd _ (mem5 rfl) rfl
            have hy := ky 16 43 true (by decide) rfl dg
            rw [if_pos (by simp [Region.wanted, hy])]
            have t10 : ρ (.tmp 10) = .pointer (some ⟨w5.heap.size, 0, none⟩) := ki 10 (by decide)
            simp [execOp, go_sem, kc, t10]
            exact ⟨hC, Below.refl _ _, rfl⟩
          · intro v W ρ y hC kc kf ks ki ky ku kd
            have dg : v 16 = .bool true := by first | exact kd _ (mem0 rfl) rfl | exact kd _ (mem1 rfl) rfl | exact kd _ (mem2 rfl) rfl | exact kd _ (mem3 rfl) rfl | exact kd _ (mem4 rfl) rfl | exact kd _ (mem5 rfl) rfl
            have hy := ky 16 43 true (by decide) rfl dg
            rw [if_pos (by simp [Region.wanted, hy])]
            have d18 : v 18 = .pointer (some ⟨w5.heap.size, 3, none⟩) := by first | exact kd _ (mem0 rfl) rfl | exact kd _ (mem1 rfl) rfl | exact kd _ (mem2 rfl) rfl | exact kd _ (mem3 rfl) rfl | exact kd _ (mem4 rfl) rfl | exact kd _ (mem5 rfl) rfl
            have t45 : ρ (.tmp 45) = .pointer (some ⟨w5.heap.size, 3, none⟩) := (ks 18 45 (by decide) rfl).trans d18
            have hg := blk_later hGX6.out hC
            have c3 := blk_cell hg 3
            simp at c3
            simp [execOp, go_sem, kc, t45, c3]
            exact ⟨hC, Below.refl _ _, rfl⟩
          · intro v W ρ y hC kc kf ks ki ky ku kd
            have dg : v 16 = .bool true := by first | exact kd _ (mem0 rfl) rfl | exact kd _ (mem1 rfl) rfl | exact kd _ (mem2 rfl) rfl | exact kd _ (mem3 rfl) rfl | exact kd _ (mem4 rfl) rfl | exact kd _ (mem5 rfl) rfl
            have hy := ky 16 43 true (by decide) rfl dg
            rw [if_pos (by simp [Region.wanted, hy])]
            have d17 : v 17 = .int .i64 t.src := by first | exact kd _ (mem0 rfl) rfl | exact kd _ (mem1 rfl) rfl | exact kd _ (mem2 rfl) rfl | exact kd _ (mem3 rfl) rfl | exact kd _ (mem4 rfl) rfl | exact kd _ (mem5 rfl) rfl
            have t44 : ρ (.tmp 44) = .int .i64 t.src := (ks 17 44 (by decide) rfl).trans d17
            have d19 : v 19 = .int .i64 s.bits := by first | exact kd _ (mem0 rfl) rfl | exact kd _ (mem1 rfl) rfl | exact kd _ (mem2 rfl) rfl | exact kd _ (mem3 rfl) rfl | exact kd _ (mem4 rfl) rfl | exact kd _ (mem5 rfl) rfl
            have t46 : ρ (.tmp 46) = .int .i64 s.bits := (ks 19 46 (by decide) rfl).trans d19
            simp [execOp, go_sem, kc, t44, t46, kf]
            exact Calls.mono (HH.out W) (fun e x h => ⟨_, h.1, hC.trans (h.2.mono hC.size), h.2, rfl⟩)
          · intro v W ρ y hC kc kf ks ki ky ku kd
            have dg : v 16 = .bool true := by first | exact kd _ (mem0 rfl) rfl | exact kd _ (mem1 rfl) rfl | exact kd _ (mem2 rfl) rfl | exact kd _ (mem3 rfl) rfl | exact kd _ (mem4 rfl) rfl | exact kd _ (mem5 rfl) rfl
            have hy := ky 16 43 true (by decide) rfl dg
            rw [if_pos (by simp [Region.wanted, hy])]
            have t10 : ρ (.tmp 10) = .pointer (some ⟨w5.heap.size, 0, none⟩) := ki 10 (by decide)
            simp [execOp, go_sem, kc, t10]
            exact ⟨hC, Below.refl _ _, rfl⟩
          · intro v W ρ y hC kc kf ks ki ky ku kd
            have dg : v 16 = .bool true := by first | exact kd _ (mem0 rfl) rfl | exact kd _ (mem1 rfl) rfl | exact kd _ (mem2 rfl) rfl | exact kd _ (mem3 rfl) rfl | exact kd _ (mem4 rfl) rfl | exact kd _ (mem5 rfl) rfl
            have hy := ky 16 43 true (by decide) rfl dg
            rw [if_pos (by simp [Region.wanted, hy])]
            have d21 : v 21 = .pointer (some ⟨w5.heap.size, 2, none⟩) := by first | exact kd _ (mem0 rfl) rfl | exact kd _ (mem1 rfl) rfl | exact kd _ (mem2 rfl) rfl | exact kd _ (mem3 rfl) rfl | exact kd _ (mem4 rfl) rfl | exact kd _ (mem5 rfl) rfl
            have t48 : ρ (.tmp 48) = .pointer (some ⟨w5.heap.size, 2, none⟩) := (ks 21 48 (by decide) rfl).trans d21
            have hg := blk_later hGX6.out hC
            have c2 := blk_cell hg 2
            simp at c2
            simp [execOp, go_sem, kc, t48, c2]
            exact ⟨hC, Below.refl _ _, rfl⟩
          · intro v W ρ y hC kc kf ks ki ky ku kd
            have dg : v 16 = .bool true := by first | exact kd _ (mem0 rfl) rfl | exact kd _ (mem1 rfl) rfl | exact kd _ (mem2 rfl) rfl | exact kd _ (mem3 rfl) rfl | exact kd _ (mem4 rfl) rfl | exact kd _ (mem5 rfl) rfl
            have hy := ky 16 43 true (by decide) rfl dg
            rw [if_pos (by simp [Region.wanted, hy])]
            have d20 : v 20 = .int .i64 (headN t.src s.bits) := by first | exact kd _ (mem0 rfl) rfl | exact kd _ (mem1 rfl) rfl | exact kd _ (mem2 rfl) rfl | exact kd _ (mem3 rfl) rfl | exact kd _ (mem4 rfl) rfl | exact kd _ (mem5 rfl) rfl
            have t47 : ρ (.tmp 47) = .int .i64 (headN t.src s.bits) := (ks 20 47 (by decide) rfl).trans d20
            have d22 : v 22 = .int .i64 s.net := by first | exact kd _ (mem0 rfl) rfl | exact kd _ (mem1 rfl) rfl | exact kd _ (mem2 rfl) rfl | exact kd _ (mem3 rfl) rfl | exact kd _ (mem4 rfl) rfl | exact kd _ (mem5 rfl) rfl
            have t49 : ρ (.tmp 49) = .int .i64 s.net := (ks 22 49 (by decide) rfl).trans d22
            simp [execOp, go_sem, kc, t47, t49, h4]
            exact ⟨hC, Below.refl _ _, rfl⟩
          · refine stepW_of_u ⟨rfl, fun v W ρ hC kc kf ks ki kd => ?_⟩
            have d16 : v 16 = .bool true := by first | exact kd _ (mem0 rfl) rfl | exact kd _ (mem1 rfl) rfl | exact kd _ (mem2 rfl) rfl | exact kd _ (mem3 rfl) rfl | exact kd _ (mem4 rfl) rfl | exact kd _ (mem5 rfl) rfl
            have t43 : ρ (.tmp 43) = .bool true := (ks 16 43 (by decide) rfl).trans d16
            have d23 : v 23 = .bool hb := by first | exact kd _ (mem0 rfl) rfl | exact kd _ (mem1 rfl) rfl | exact kd _ (mem2 rfl) rfl | exact kd _ (mem3 rfl) rfl | exact kd _ (mem4 rfl) rfl | exact kd _ (mem5 rfl) rfl
            have t50 : ρ (.tmp 50) = .bool hb := (ks 23 50 (by decide) rfl).trans d23
            simp [execOp, go_sem, kc, t43, t50]
            exact ⟨hC, Below.refl _ _, rfl⟩
        intro vC WC hbC hall
        have hvC : vC 24 = .bool hb := hall 24 (by decide)
        simp [upto, Act.put]
        rw [hvC]
        clear hall hvC
        have hGT7 := hidS (blk_later hGT6.out hbC)
        have hGO7 := hidS (blk_later hGO6.out hbC)
        have hGX7 := hidS (blk_later hGX6.out hbC)
        have hL7 := hidS (hL6.out.trans (hbC.mono hL6.out.size))
        clear hbC hGT6 hGO6 hGX6 hL6
        cases hb
        · have HN := HF0.out (by unfold forR; rw [show namedA 1 t = t.src from rfl, h1, h2, h3, h4]; rfl)
          have HN2 := hidS HN
          clear HN HF0 HF1 hF
          go_wp2_with fail
          go_roundw
          case rel => exact ⟨k + 1, by simp, by omega, HN2, hGT7, hGO7, hL7.out⟩
          case measure => simp [intOf]; omega
        · have E12 := hidS (HF1.out (by unfold forR; rw [show namedA 1 t = t.src from rfl, h1, h2, h3, h4]; rfl))
          clear HF1 HF0 hF
          have cX0 := blk_cell hGX7.out 0
          have cX1 := blk_cell hGX7.out 1
          have cX2 := blk_cell hGX7.out 2
          have cX3 := blk_cell hGX7.out 3
          have cX4 := blk_cell hGX7.out 4
          have cX5 := blk_cell hGX7.out 5
          have cX6 := blk_cell hGX7.out 6
          simp at cX0 cX1 cX2 cX3 cX4 cX5 cX6
          have kO := blk_cell hGO7.out
          have fO := blk_free hGO7.out
          skip
          go_wp2_with fail
          refine bodyPost_ret (v := .tuple #[.agg #[.int .i64 s.kind, .int .i64 s.proto, .int .i64 s.net, .int .i64 s.bits, .int .i64 s.goal, .int .i64 s.low, .int .i64 s.high], .bool true]) (by simp [results, Try.results82, go_sem, *]) rfl ⟨by rw [E12.out.1, E12.out.2], ?_⟩
          repeat (refine below_at ?_ (by omega))
          exact hL7.out
      refine grow_guarded 25 [.is (.pointer (some ⟨w5.heap.size, 0, none⟩)), .is (.int .i64 s.kind), .is (.int .i64 1), .is (.bool true), .is (.bool true), .is (.pointer (some ⟨w5.heap.size, 1, none⟩)), .is (.int .i64 s.proto), .is (.bool true), .is (.bool true), .is (undef), .is (undef), .is (undef), .is (undef), .is (undef), .is (.bool true), .is (.bool true), .is (.bool true), .is (.int .i64 t.src), .is (.pointer (some ⟨w5.heap.size, 3, none⟩)), .is (.int .i64 s.bits), .is (.int .i64 (headN t.src s.bits)), .is (.pointer (some ⟨w5.heap.size, 2, none⟩)), .is (.int .i64 s.net), .is (.bool hb), .is (.bool hb)] rfl (by kernel_rfl) (by kernel_rfl) ?stepsD ?finD
      case stepsD =>
        refine ⟨?_, ?_, ?_, ?_, ?_, ?_, ?_, ?_, ?_, ?_, ?_, ?_, ?_, ?_, ?_, ?_, ?_, ?_, ?_, ?_, ?_, ?_, ?_, ?_, ?_, trivial⟩
        · refine stepW_of_u ⟨rfl, fun v W ρ hC kc kf ks ki kd => ?_⟩
          have t10 : ρ (.tmp 10) = .pointer (some ⟨w5.heap.size, 0, none⟩) := ki 10 (by decide)
          simp [execOp, go_sem, kc, t10]
          exact ⟨hC, Below.refl _ _, rfl⟩
        · refine stepW_of_u ⟨rfl, fun v W ρ hC kc kf ks ki kd => ?_⟩
          have d0 : v 0 = .pointer (some ⟨w5.heap.size, 0, none⟩) := by first | exact kd _ (mem0 rfl) rfl | exact kd _ (mem1 rfl) rfl | exact kd _ (mem2 rfl) rfl | exact kd _ (mem3 rfl) rfl | exact kd _ (mem4 rfl) rfl | exact kd _ (mem5 rfl) rfl
          have t27 : ρ (.tmp 27) = .pointer (some ⟨w5.heap.size, 0, none⟩) := (ks 0 27 (by decide) rfl).trans d0
          have hg := blk_later hGX6.out hC
          have c0 := blk_cell hg 0
          simp at c0
          simp [execOp, go_sem, kc, t27, c0]
          exact ⟨hC, Below.refl _ _, rfl⟩
        · refine stepW_of_u ⟨rfl, fun v W ρ hC kc kf ks ki kd => ?_⟩
          have t1 : ρ (.tmp 1) = .int .i64 1 := ki 1 (by decide)
          simp [execOp, go_sem, kc, t1]
          exact ⟨hC, Below.refl _ _, rfl⟩
        · refine stepW_of_u ⟨rfl, fun v W ρ hC kc kf ks ki kd => ?_⟩
          have d1 : v 1 = .int .i64 s.kind := by first | exact kd _ (mem0 rfl) rfl | exact kd _ (mem1 rfl) rfl | exact kd _ (mem2 rfl) rfl | exact kd _ (mem3 rfl) rfl | exact kd _ (mem4 rfl) rfl | exact kd _ (mem5 rfl) rfl
          have t28 : ρ (.tmp 28) = .int .i64 s.kind := (ks 1 28 (by decide) rfl).trans d1
          have d2 : v 2 = .int .i64 1 := by first | exact kd _ (mem0 rfl) rfl | exact kd _ (mem1 rfl) rfl | exact kd _ (mem2 rfl) rfl | exact kd _ (mem3 rfl) rfl | exact kd _ (mem4 rfl) rfl | exact kd _ (mem5 rfl) rfl
          have t29 : ρ (.tmp 29) = .int .i64 1 := (ks 2 29 (by decide) rfl).trans d2
          simp [execOp, go_sem, kc, t28, t29, h1]
          exact ⟨hC, Below.refl _ _, rfl⟩
        · refine stepW_of_u ⟨rfl, fun v W ρ hC kc kf ks ki kd => ?_⟩
          have d3 : v 3 = .bool true := by first | exact kd _ (mem0 rfl) rfl | exact kd _ (mem1 rfl) rfl | exact kd _ (mem2 rfl) rfl | exact kd _ (mem3 rfl) rfl | exact kd _ (mem4 rfl) rfl | exact kd _ (mem5 rfl) rfl
          have t30 : ρ (.tmp 30) = .bool true := (ks 3 30 (by decide) rfl).trans d3
          simp [execOp, go_sem, kc, t30]
          exact ⟨hC, Below.refl _ _, rfl⟩
        · intro v W ρ y hC kc kf ks ki ky ku kd
          have dg : v 4 = .bool true := by first | exact kd _ (mem0 rfl) rfl | exact kd _ (mem1 rfl) rfl | exact kd _ (mem2 rfl) rfl | exact kd _ (mem3 rfl) rfl | exact kd _ (mem4 rfl) rfl | exact kd _ (mem5 rfl) rfl
          have hy := ky 4 31 true (by decide) rfl dg
          rw [if_pos (by simp [Region.wanted, hy])]
          have t10 : ρ (.tmp 10) = .pointer (some ⟨w5.heap.size, 0, none⟩) := ki 10 (by decide)
          simp [execOp, go_sem, kc, t10]
          exact ⟨hC, Below.refl _ _, rfl⟩
        · intro v W ρ y hC kc kf ks ki ky ku kd
          have dg : v 4 = .bool true := by first | exact kd _ (mem0 rfl) rfl | exact kd _ (mem1 rfl) rfl | exact kd _ (mem2 rfl) rfl | exact kd _ (mem3 rfl) rfl | exact kd _ (mem4 rfl) rfl | exact kd _ (mem5 rfl) rfl
          have hy := ky 4 31 true (by decide) rfl dg
          rw [if_pos (by simp [Region.wanted, hy])]
          have d5 : v 5 = .pointer (some ⟨w5.heap.size, 1, none⟩) := by first | exact kd _ (mem0 rfl) rfl | exact kd _ (mem1 rfl) rfl | exact kd _ (mem2 rfl) rfl | exact kd _ (mem3 rfl) rfl | exact kd _ (mem4 rfl) rfl | exact kd _ (mem5 rfl) rfl
          have t32 : ρ (.tmp 32) = .pointer (some ⟨w5.heap.size, 1, none⟩) := (ks 5 32 (by decide) rfl).trans d5
          have hg := blk_later hGX6.out hC
          have c1 := blk_cell hg 1
          simp at c1
          simp [execOp, go_sem, kc, t32, c1]
          exact ⟨hC, Below.refl _ _, rfl⟩
        · intro v W ρ y hC kc kf ks ki ky ku kd
          have dg : v 4 = .bool true := by first | exact kd _ (mem0 rfl) rfl | exact kd _ (mem1 rfl) rfl | exact kd _ (mem2 rfl) rfl | exact kd _ (mem3 rfl) rfl | exact kd _ (mem4 rfl) rfl | exact kd _ (mem5 rfl) rfl
          have hy := ky 4 31 true (by decide) rfl dg
          rw [if_pos (by simp [Region.wanted, hy])]
          have d6 : v 6 = .int .i64 s.proto := by first | exact kd _ (mem0 rfl) rfl | exact kd _ (mem1 rfl) rfl | exact kd _ (mem2 rfl) rfl | exact kd _ (mem3 rfl) rfl | exact kd _ (mem4 rfl) rfl | exact kd _ (mem5 rfl) rfl
          have t33 : ρ (.tmp 33) = .int .i64 s.proto := (ks 6 33 (by decide) rfl).trans d6
          simp [execOp, go_sem, kc, t33, h2]
          exact ⟨hC, Below.refl _ _, rfl⟩
        · intro v W ρ y hC kc kf ks ki ky ku kd
          have dg : v 4 = .bool true := by first | exact kd _ (mem0 rfl) rfl | exact kd _ (mem1 rfl) rfl | exact kd _ (mem2 rfl) rfl | exact kd _ (mem3 rfl) rfl | exact kd _ (mem4 rfl) rfl | exact kd _ (mem5 rfl) rfl
          have hy := ky 4 31 true (by decide) rfl dg
          rw [if_pos (by simp [Region.wanted, hy])]
          have d7 : v 7 = .bool true := by first | exact kd _ (mem0 rfl) rfl | exact kd _ (mem1 rfl) rfl | exact kd _ (mem2 rfl) rfl | exact kd _ (mem3 rfl) rfl | exact kd _ (mem4 rfl) rfl | exact kd _ (mem5 rfl) rfl
          have t34 : ρ (.tmp 34) = .bool true := (ks 7 34 (by decide) rfl).trans d7
          simp [execOp, go_sem, kc, t34]
          exact ⟨hC, Below.refl _ _, rfl⟩
        · intro v W ρ y hC kc kf ks ki ky ku kd
          have dg : v 8 = .bool true := by first | exact kd _ (mem0 rfl) rfl | exact kd _ (mem1 rfl) rfl | exact kd _ (mem2 rfl) rfl | exact kd _ (mem3 rfl) rfl | exact kd _ (mem4 rfl) rfl | exact kd _ (mem5 rfl) rfl
          have hy := ky 8 35 true (by decide) rfl dg
          rw [if_neg (by simp [Region.wanted, hy])]
          exact ⟨Below.refl _ _, rfl⟩
        · intro v W ρ y hC kc kf ks ki ky ku kd
          have dg : v 8 = .bool true := by first | exact kd _ (mem0 rfl) rfl | exact kd _ (mem1 rfl) rfl | exact kd _ (mem2 rfl) rfl | exact kd _ (mem3 rfl) rfl | exact kd _ (mem4 rfl) rfl | exact kd _ (mem5 rfl) rfl
          have hy := ky 8 35 true (by decide) rfl dg
          rw [if_neg (by simp [Region.wanted, hy])]
          exact ⟨Below.refl _ _, rfl⟩
        · intro v W ρ y hC kc kf ks ki ky ku kd
          have dg : v 8 = .bool true := by first | exact kd _ (mem0 rfl) rfl | exact kd _ (mem1 rfl) rfl | exact kd _ (mem2 rfl) rfl | exact kd _ (mem3 rfl) rfl | exact kd _ (mem4 rfl) rfl | exact kd _ (mem5 rfl) rfl
          have hy := ky 8 35 true (by decide) rfl dg
          rw [if_neg (by simp [Region.wanted, hy])]
          exact ⟨Below.refl _ _, rfl⟩
        · intro v W ρ y hC kc kf ks ki ky ku kd
          have dg : v 8 = .bool true := by first | exact kd _ (mem0 rfl) rfl | exact kd _ (mem1 rfl) rfl | exact kd _ (mem2 rfl) rfl | exact kd _ (mem3 rfl) rfl | exact kd _ (mem4 rfl) rfl | exact kd _ (mem5 rfl) rfl
          have hy := ky 8 35 true (by decide) rfl dg
          rw [if_neg (by simp [Region.wanted, hy])]
          exact ⟨Below.refl _ _, rfl⟩
        · intro v W ρ y hC kc kf ks ki ky ku kd
          have dg : v 8 = .bool true := by first | exact kd _ (mem0 rfl) rfl | exact kd _ (mem1 rfl) rfl | exact kd _ (mem2 rfl) rfl | exact kd _ (mem3 rfl) rfl | exact kd _ (mem4 rfl) rfl | exact kd _ (mem5 rfl) rfl
          have hy := ky 8 35 true (by decide) rfl dg
          rw [if_neg (by simp [Region.wanted, hy])]
          exact ⟨Below.refl _ _, rfl⟩
        · intro v W ρ y hC kc kf ks ki ky ku kd
          have dg : v 4 = .bool true := by first | exact kd _ (mem0 rfl) rfl | exact kd _ (mem1 rfl) rfl | exact kd _ (mem2 rfl) rfl | exact kd _ (mem3 rfl) rfl | exact kd _ (mem4 rfl) rfl | exact kd _ (mem5 rfl) rfl
          have hy := ky 4 31 true (by decide) rfl dg
          rw [if_pos (by simp [Region.wanted, hy])]
          have d8 : v 8 = .bool true := by first | exact kd _ (mem0 rfl) rfl | exact kd _ (mem1 rfl) rfl | exact kd _ (mem2 rfl) rfl | exact kd _ (mem3 rfl) rfl | exact kd _ (mem4 rfl) rfl | exact kd _ (mem5 rfl) rfl
          have t35 : ρ (.tmp 35) = .bool true := (ks 8 35 (by decide) rfl).trans d8
          simp [execOp, go_sem, kc, t35]
          exact ⟨hC, Below.refl _ _, rfl⟩
        · refine stepW_of_u ⟨rfl, fun v W ρ hC kc kf ks ki kd => ?_⟩
          have d4 : v 4 = .bool true := by first | exact kd _ (mem0 rfl) rfl | exact kd _ (mem1 rfl) rfl | exact kd _ (mem2 rfl) rfl | exact kd _ (mem3 rfl) rfl | exact kd _ (mem4 rfl) rfl | exact kd _ (mem5 rfl) rfl
          have t31 : ρ (.tmp 31) = .bool true := (ks 4 31 (by decide) rfl).trans d4
          have d14 : v 14 = .bool true := by first | exact kd _ (mem0 rfl) rfl | exact kd _ (mem1 rfl) rfl | exact kd _ (mem2 rfl) rfl | exact kd _ (mem3 rfl) rfl | exact kd _ (mem4 rfl) rfl | exact kd _ (mem5 rfl) rfl
          have t41 : ρ (.tmp 41) = .bool true := (ks 14 41 (by decide) rfl).trans d14
          simp [execOp, go_sem, kc, t31, t41]
          exact ⟨hC, Below.refl _ _, rfl⟩
        · refine stepW_of_u ⟨rfl, fun v W ρ hC kc kf ks ki kd => ?_⟩
          have d15 : v 15 = .bool true := by first | exact kd _ (mem0 rfl) rfl | exact kd _ (mem1 rfl) rfl | exact kd _ (mem2 rfl) rfl | exact kd _ (mem3 rfl) rfl | exact kd _ (mem4 rfl) rfl | exact kd _ (mem5 rfl) rfl
          have t42 : ρ (.tmp 42) = .bool true := (ks 15 42 (by decide) rfl).trans d15
          simp [execOp, go_sem, kc, t42]
          exact ⟨hC, Below.refl _ _, rfl⟩
        · intro v W ρ y hC kc kf ks ki ky ku kd
          have dg : v 16 = .bool true := by first | exact kd _ (mem0 rfl) rfl | exact kd _ (mem1 rfl) rfl | exact kd _ (mem2 rfl) rfl | exact kd _ (mem3 rfl) rfl | exact kd _ (mem4 rfl) rfl | exact kd _ (mem5 rfl) rfl
          have hy := ky 16 43 true (by decide) rfl dg
          rw [if_pos (by simp [Region.wanted, hy])]
          have t8 : ρ (.tmp 8) = .int .i64 t.src := ki 8 (by decide)
          simp [execOp, go_sem, kc, t8]
          exact ⟨hC, Below.refl _ _, rfl⟩
        · intro v W ρ y hC kc kf ks ki ky ku kd
          have dg : v 16 = .bool true := by first | exact kd _ (mem0 rfl) rfl | exact kd _ (mem1 rfl) rfl | exact kd _ (mem2 rfl) rfl | exact kd _ (mem3 rfl) rfl | exact kd _ (mem4 rfl) rfl | exact kd _ (mem5 rfl) rfl
          have hy := ky 16 43 true (by decide) rfl dg
          rw [if_pos (by simp [Region.wanted, hy])]
          have t10 : ρ (.tmp 10) = .pointer (some ⟨w5.heap.size, 0, none⟩) := ki 10 (by decide)
          simp [execOp, go_sem, kc, t10]
          exact ⟨hC, Below.refl _ _, rfl⟩
        · intro v W ρ y hC kc kf ks ki ky ku kd
          have dg : v 16 = .bool true := by first | exact kd _ (mem0 rfl) rfl | exact kd _ (mem1 rfl) rfl | exact kd _ (mem2 rfl) rfl | exact kd _ (mem3 rfl) rfl | exact kd _ (mem4 rfl) rfl | exact kd _ (mem5 rfl) rfl
          have hy := ky 16 43 true (by decide) rfl dg
          rw [if_pos (by simp [Region.wanted, hy])]
          have d18 : v 18 = .pointer (some ⟨w5.heap.size, 3, none⟩) := by first | exact kd _ (mem0 rfl) rfl | exact kd _ (mem1 rfl) rfl | exact kd _ (mem2 rfl) rfl | exact kd _ (mem3 rfl) rfl | exact kd _ (mem4 rfl) rfl | exact kd _ (mem5 rfl) rfl
          have t45 : ρ (.tmp 45) = .pointer (some ⟨w5.heap.size, 3, none⟩) := (ks 18 45 (by decide) rfl).trans d18
          have hg := blk_later hGX6.out hC
          have c3 := blk_cell hg 3
          simp at c3
          simp [execOp, go_sem, kc, t45, c3]
          exact ⟨hC, Below.refl _ _, rfl⟩
        · intro v W ρ y hC kc kf ks ki ky ku kd
          have dg : v 16 = .bool true := by first | exact kd _ (mem0 rfl) rfl | exact kd _ (mem1 rfl) rfl | exact kd _ (mem2 rfl) rfl | exact kd _ (mem3 rfl) rfl | exact kd _ (mem4 rfl) rfl | exact kd _ (mem5 rfl) rfl
          have hy := ky 16 43 true (by decide) rfl dg
          rw [if_pos (by simp [Region.wanted, hy])]
          have d17 : v 17 = .int .i64 t.src := by first | exact kd _ (mem0 rfl) rfl | exact kd _ (mem1 rfl) rfl | exact kd _ (mem2 rfl) rfl | exact kd _ (mem3 rfl) rfl | exact kd _ (mem4 rfl) rfl | exact kd _ (mem5 rfl) rfl
          have t44 : ρ (.tmp 44) = .int .i64 t.src := (ks 17 44 (by decide) rfl).trans d17
          have d19 : v 19 = .int .i64 s.bits := by first | exact kd _ (mem0 rfl) rfl | exact kd _ (mem1 rfl) rfl | exact kd _ (mem2 rfl) rfl | exact kd _ (mem3 rfl) rfl | exact kd _ (mem4 rfl) rfl | exact kd _ (mem5 rfl) rfl
          have t46 : ρ (.tmp 46) = .int .i64 s.bits := (ks 19 46 (by decide) rfl).trans d19
          simp [execOp, go_sem, kc, t44, t46, kf]
          exact Calls.mono (HH.out W) (fun e x h => ⟨_, h.1, hC.trans (h.2.mono hC.size), h.2, rfl⟩)
        · intro v W ρ y hC kc kf ks ki ky ku kd
          have dg : v 16 = .bool true := by first | exact kd _ (mem0 rfl) rfl | exact kd _ (mem1 rfl) rfl | exact kd _ (mem2 rfl) rfl | exact kd _ (mem3 rfl) rfl | exact kd _ (mem4 rfl) rfl | exact kd _ (mem5 rfl) rfl
          have hy := ky 16 43 true (by decide) rfl dg
          rw [if_pos (by simp [Region.wanted, hy])]
          have t10 : ρ (.tmp 10) = .pointer (some ⟨w5.heap.size, 0, none⟩) := ki 10 (by decide)
          simp [execOp, go_sem, kc, t10]
          exact ⟨hC, Below.refl _ _, rfl⟩
        · intro v W ρ y hC kc kf ks ki ky ku kd
          have dg : v 16 = .bool true := by first | exact kd _ (mem0 rfl) rfl | exact kd _ (mem1 rfl) rfl | exact kd _ (mem2 rfl) rfl | exact kd _ (mem3 rfl) rfl | exact kd _ (mem4 rfl) rfl | exact kd _ (mem5 rfl) rfl
          have hy := ky 16 43 true (by decide) rfl dg
          rw [if_pos (by simp [Region.wanted, hy])]
          have d21 : v 21 = .pointer (some ⟨w5.heap.size, 2, none⟩) := by first | exact kd _ (mem0 rfl) rfl | exact kd _ (mem1 rfl) rfl | exact kd _ (mem2 rfl) rfl | exact kd _ (mem3 rfl) rfl | exact kd _ (mem4 rfl) rfl | exact kd _ (mem5 rfl) rfl
          have t48 : ρ (.tmp 48) = .pointer (some ⟨w5.heap.size, 2, none⟩) := (ks 21 48 (by decide) rfl).trans d21
          have hg := blk_later hGX6.out hC
          have c2 := blk_cell hg 2
          simp at c2
          simp [execOp, go_sem, kc, t48, c2]
          exact ⟨hC, Below.refl _ _, rfl⟩
        · intro v W ρ y hC kc kf ks ki ky ku kd
          have dg : v 16 = .bool true := by first | exact kd _ (mem0 rfl) rfl | exact kd _ (mem1 rfl) rfl | exact kd _ (mem2 rfl) rfl | exact kd _ (mem3 rfl) rfl | exact kd _ (mem4 rfl) rfl | exact kd _ (mem5 rfl) rfl
          have hy := ky 16 43 true (by decide) rfl dg
          rw [if_pos (by simp [Region.wanted, hy])]
          have d20 : v 20 = .int .i64 (headN t.src s.bits) := by first | exact kd _ (mem0 rfl) rfl | exact kd _ (mem1 rfl) rfl | exact kd _ (mem2 rfl) rfl | exact kd _ (mem3 rfl) rfl | exact kd _ (mem4 rfl) rfl | exact kd _ (mem5 rfl) rfl
          have t47 : ρ (.tmp 47) = .int .i64 (headN t.src s.bits) := (ks 20 47 (by decide) rfl).trans d20
          have d22 : v 22 = .int .i64 s.net := by first | exact kd _ (mem0 rfl) rfl | exact kd _ (mem1 rfl) rfl | exact kd _ (mem2 rfl) rfl | exact kd _ (mem3 rfl) rfl | exact kd _ (mem4 rfl) rfl | exact kd _ (mem5 rfl) rfl
          have t49 : ρ (.tmp 49) = .int .i64 s.net := (ks 22 49 (by decide) rfl).trans d22
          simp [execOp, go_sem, kc, t47, t49, h4]
          exact ⟨hC, Below.refl _ _, rfl⟩
        · refine stepW_of_u ⟨rfl, fun v W ρ hC kc kf ks ki kd => ?_⟩
          have d16 : v 16 = .bool true := by first | exact kd _ (mem0 rfl) rfl | exact kd _ (mem1 rfl) rfl | exact kd _ (mem2 rfl) rfl | exact kd _ (mem3 rfl) rfl | exact kd _ (mem4 rfl) rfl | exact kd _ (mem5 rfl) rfl
          have t43 : ρ (.tmp 43) = .bool true := (ks 16 43 (by decide) rfl).trans d16
          have d23 : v 23 = .bool hb := by first | exact kd _ (mem0 rfl) rfl | exact kd _ (mem1 rfl) rfl | exact kd _ (mem2 rfl) rfl | exact kd _ (mem3 rfl) rfl | exact kd _ (mem4 rfl) rfl | exact kd _ (mem5 rfl) rfl
          have t50 : ρ (.tmp 50) = .bool hb := (ks 23 50 (by decide) rfl).trans d23
          simp [execOp, go_sem, kc, t43, t50]
          exact ⟨hC, Below.refl _ _, rfl⟩
      intro vD WD hbD hall
      have hvD : vD 24 = .bool hb := hall 24 (by decide)
      simp [upto, Act.put]
      rw [hvD]
      clear hall hvD
      have hGT7 := hidS (blk_later hGT6.out hbD)
      have hGO7 := hidS (blk_later hGO6.out hbD)
      have hGX7 := hidS (blk_later hGX6.out hbD)
      have hL7 := hidS (hL6.out.trans (hbD.mono hL6.out.size))
      clear hbD hGT6 hGO6 hGX6 hL6
      cases hb
      · have HN := HF0.out (by unfold forR; rw [show namedA 1 t = t.src from rfl, h1, h2, h4]; rfl)
        have HN2 := hidS HN
        clear HN HF0 HF1 hF
        go_wp2_with fail
        go_roundw
        case rel => exact ⟨k + 1, by simp, by omega, HN2, hGT7, hGO7, hL7.out⟩
        case measure => simp [intOf]; omega
      · have E12 := hidS (HF1.out (by unfold forR; rw [show namedA 1 t = t.src from rfl, h1, h2, h4]; rfl))
        clear HF1 HF0 hF
        have cX0 := blk_cell hGX7.out 0
        have cX1 := blk_cell hGX7.out 1
        have cX2 := blk_cell hGX7.out 2
        have cX3 := blk_cell hGX7.out 3
        have cX4 := blk_cell hGX7.out 4
        have cX5 := blk_cell hGX7.out 5
        have cX6 := blk_cell hGX7.out 6
        simp at cX0 cX1 cX2 cX3 cX4 cX5 cX6
        have kO := blk_cell hGO7.out
        have fO := blk_free hGO7.out
        skip
        go_wp2_with fail
        refine bodyPost_ret (v := .tuple #[.agg #[.int .i64 s.kind, .int .i64 s.proto, .int .i64 s.net, .int .i64 s.bits, .int .i64 s.goal, .int .i64 s.low, .int .i64 s.high], .bool true]) (by simp [results, Try.results82, go_sem, *]) rfl ⟨by rw [E12.out.1, E12.out.2], ?_⟩
        repeat (refine below_at ?_ (by omega))
        exact hL7.out
    · have hge : ¬ (k : Int) < (l.length : Int) := by omega
      obtain rfl : k = l.length := by omega
      have E12 := hidS (first_end hF.out)
      clear hF hlt hk
      have kO := blk_cell hGO5.out
      have fO := blk_free hGO5.out
      go_wp2_with fail
      refine bodyPost_ret (v := .tuple #[.agg #[.int .i64 zeroRl.kind, .int .i64 zeroRl.proto, .int .i64 zeroRl.net, .int .i64 zeroRl.bits, .int .i64 zeroRl.goal, .int .i64 zeroRl.low, .int .i64 zeroRl.high], .bool false]) (by simp [results, Try.results82, go_sem, zeroRl, *]) rfl ⟨by rw [E12.out.1, E12.out.2], ?_⟩
      repeat (refine below_at ?_ (by omega))
      exact hL5.out
set_option maxHeartbeats 8000000 in
theorem l08For_2 (a : Option Addr) (cap : Nat) (l : List Rl) (t : Tp) (w : World) (hR : RowZ a (flatRule l) w) (hz : l.length ≤ 1048576) (hr : allR l = true) (ht : rightT t = true) :
    Calls Try.prog 82 #[.slice a l.length cap, .int .i64 2, .agg #[.int .i64 t.proto, .int .i64 t.src, .int .i64 t.sport, .int .i64 t.dst, .int .i64 t.dport, .int .i64 t.kind]] w fun e w' => e = .returned (.tuple #[.agg #[.int .i64 (foundR l 2 t).kind, .int .i64 (foundR l 2 t).proto, .int .i64 (foundR l 2 t).net, .int .i64 (foundR l 2 t).bits, .int .i64 (foundR l 2 t).goal, .int .i64 (foundR l 2 t).low, .int .i64 (foundR l 2 t).high], .bool (hasR l 2 t)]) ∧ Below w.heap.size w w' := by
  have HR := hidS hR
  have HA := hidS hr
  have hna : addrB t.dst = true := (tup_parts ht).2.1
  have HNA := hidS (addr_iff.1 hna)
  clear hR hr ht hna
  have hGT0 : Hid (((w.alloc (.cells #[.int .i64 t.proto, .int .i64 t.src, .int .i64 t.sport, .int .i64 t.dst, .int .i64 t.dport, .int .i64 t.kind] 52)).alloc (.cells #[.int .i64 0, .int .i64 0, .int .i64 0, .int .i64 0, .int .i64 0, .int .i64 0, .int .i64 0] 64)).heap[w.heap.size]? = some (.cells #[.int .i64 t.proto, .int .i64 t.src, .int .i64 t.sport, .int .i64 t.dst, .int .i64 t.dport, .int .i64 t.kind] 52)) := by
    show _ = _
    have := blk_alloc (heap_newG w (.cells #[.int .i64 t.proto, .int .i64 t.src, .int .i64 t.sport, .int .i64 t.dst, .int .i64 t.dport, .int .i64 t.kind] 52)) (.cells #[.int .i64 0, .int .i64 0, .int .i64 0, .int .i64 0, .int .i64 0, .int .i64 0, .int .i64 0] 64)
    simpa using this
  have hGO0 : Hid (((w.alloc (.cells #[.int .i64 t.proto, .int .i64 t.src, .int .i64 t.sport, .int .i64 t.dst, .int .i64 t.dport, .int .i64 t.kind] 52)).alloc (.cells #[.int .i64 0, .int .i64 0, .int .i64 0, .int .i64 0, .int .i64 0, .int .i64 0, .int .i64 0] 64)).heap[w.heap.size + 1]? = some (.cells #[.int .i64 0, .int .i64 0, .int .i64 0, .int .i64 0, .int .i64 0, .int .i64 0, .int .i64 0] 64)) := by
    show _ = _
    have := heap_newG (w.alloc (.cells #[.int .i64 t.proto, .int .i64 t.src, .int .i64 t.sport, .int .i64 t.dst, .int .i64 t.dport, .int .i64 t.kind] 52)) (.cells #[.int .i64 0, .int .i64 0, .int .i64 0, .int .i64 0, .int .i64 0, .int .i64 0, .int .i64 0] 64)
    simpa using this
  have hL0 := hidS (((Below.refl w.heap.size w).alloc (Nat.le_refl _) (.cells #[.int .i64 t.proto, .int .i64 t.src, .int .i64 t.sport, .int .i64 t.dst, .int .i64 t.dport, .int .i64 t.kind] 52)).alloc (by simp) (.cells #[.int .i64 0, .int .i64 0, .int .i64 0, .int .i64 0, .int .i64 0, .int .i64 0, .int .i64 0] 64))
  go_enter Try.func82, Try.ntmps82
  go_wp2_with fail
  generalize ((w.alloc (.cells #[.int .i64 t.proto, .int .i64 t.src, .int .i64 t.sport, .int .i64 t.dst, .int .i64 t.dport, .int .i64 t.kind] 52)).alloc (.cells #[.int .i64 0, .int .i64 0, .int .i64 0, .int .i64 0, .int .i64 0, .int .i64 0, .int .i64 0] 64)) = w0 at hGT0 hGO0 hL0 ⊢
  go_loopw [9] (fun i wr => ∃ k : Nat, i = .int .i64 (k : Int) ∧ k ≤ l.length ∧ Hid (∀ r ∈ l.take k, forR r 2 t = false) ∧ Hid (wr.heap[w.heap.size]? = some (.cells #[.int .i64 t.proto, .int .i64 t.src, .int .i64 t.sport, .int .i64 t.dst, .int .i64 t.dport, .int .i64 t.kind] 52)) ∧ Hid (wr.heap[w.heap.size + 1]? = some (.cells #[.int .i64 0, .int .i64 0, .int .i64 0, .int .i64 0, .int .i64 0, .int .i64 0, .int .i64 0] 64)) ∧ Below w.heap.size w wr) (fun i _ => (l.length - (intOf i).toNat))
  case atStart => exact ⟨0, rfl, Nat.zero_le _, (by show ∀ r ∈ List.take 0 l, _; simp), hGT0, hGO0, hL0.out⟩
  case round =>
    clear hGT0 hGO0 hL0
    obtain ⟨k, rfl, hk, hF, hGT5, hGO5, hb5⟩ := hrel
    obtain ⟨w5, hwr⟩ : ∃ x, x = wr := ⟨_, rfl⟩
    subst hwr
    have hL5 := hidS hb5
    clear hb5
    by_cases hlt : k < l.length
    · skip
      have hlt' : (k : Int) < (l.length : Int) := by omega
      obtain ⟨b, o, rfl, hbl, c0, c1, c2, c3, c4, c5, c6⟩ := (HR.out.later hL5.out).rule hlt
      have HS := hidS (allR_get hlt HA.out)
      have HF1 := hidS (fun q => first_here hlt hF.out q)
      have HF0 := hidS (fun q => take_more hlt hF.out q)
      generalize l.getD k zeroRl = s at *
      have HH := hidS (fun W => sameB (l08Head_any t.dst s.bits HNA.out.1 HNA.out.2 (net_parts (right_parts HS.out).2.2.1).2.2.1 (net_parts (right_parts HS.out).2.2.1).2.2.2.1 W))
      go_upto_region 8 with fail
      clear c0 c1 c2 c3 c4 c5 c6
      have hGX6 := hidS (heap_newG w5 (.cells #[.int .i64 s.kind, .int .i64 s.proto, .int .i64 s.net, .int .i64 s.bits, .int .i64 s.goal, .int .i64 s.low, .int .i64 s.high] 64))
      have nX := blk_lt hGO5.out
      have hGT6 := hidS (blk_alloc hGT5.out (.cells #[.int .i64 s.kind, .int .i64 s.proto, .int .i64 s.net, .int .i64 s.bits, .int .i64 s.goal, .int .i64 s.low, .int .i64 s.high] 64))
      have hGO6 := hidS (blk_alloc hGO5.out (.cells #[.int .i64 s.kind, .int .i64 s.proto, .int .i64 s.net, .int .i64 s.bits, .int .i64 s.goal, .int .i64 s.low, .int .i64 s.high] 64))
      have hL6 := hidS (hL5.out.alloc hL5.out.size (.cells #[.int .i64 s.kind, .int .i64 s.proto, .int .i64 s.net, .int .i64 s.bits, .int .i64 s.goal, .int .i64 s.low, .int .i64 s.high] 64))
      clear hL5 hGT5 hGO5
      generalize w5.alloc (.cells #[.int .i64 s.kind, .int .i64 s.proto, .int .i64 s.net, .int .i64 s.bits, .int .i64 s.goal, .int .i64 s.low, .int .i64 s.high] 64) = w6 at hGT6 hGO6 hGX6 hL6 ⊢
      obtain ⟨hb, h4⟩ : ∃ x, (headN t.dst s.bits == s.net) = x := ⟨_, rfl⟩
      cases h1 : (s.kind == 2)
      · refine grow_guarded 25 [.is (.pointer (some ⟨w5.heap.size, 0, none⟩)), .is (.int .i64 s.kind), .is (.int .i64 2), .is (.bool false), .is (.bool false), .is (undef), .is (undef), .is (undef), .is (undef), .is (undef), .is (undef), .is (undef), .is (undef), .is (undef), .is (undef), .is (.bool false), .is (.bool false), .is (undef), .is (undef), .is (undef), .is (undef), .is (undef), .is (undef), .is (undef), .is (.bool false)] rfl (by kernel_rfl) (by kernel_rfl) ?stepsA ?finA
        case stepsA =>
          refine ⟨?_, ?_, ?_, ?_, ?_, ?_, ?_, ?_, ?_, ?_, ?_, ?_, ?_, ?_, ?_, ?_, ?_, ?_, ?_, ?_, ?_, ?_, ?_, ?_, ?_, trivial⟩
          · refine stepW_of_u ⟨rfl, fun v W ρ hC kc kf ks ki kd => ?_⟩
            have t10 : ρ (.tmp 10) = .pointer (some ⟨w5.heap.size, 0, none⟩) := ki 10 (by decide)
            simp [execOp, go_sem, kc, t10]
            exact ⟨hC, Below.refl _ _, rfl⟩
          · refine stepW_of_u ⟨rfl, fun v W ρ hC kc kf ks ki kd => ?_⟩
            have d0 : v 0 = .pointer (some ⟨w5.heap.size, 0, none⟩) := by first | exact kd _ (mem0 rfl) rfl | exact kd _ (mem1 rfl) rfl | exact kd _ (mem2 rfl) rfl | exact kd _ (mem3 rfl) rfl | exact kd _ (mem4 rfl) rfl | exact kd _ (mem5 rfl) rfl
            have t27 : ρ (.tmp 27) = .pointer (some ⟨w5.heap.size, 0, none⟩) := (ks 0 27 (by decide) rfl).trans d0
            have hg := blk_later hGX6.out hC
            have c0 := blk_cell hg 0
            simp at c0
            simp [execOp, go_sem, kc, t27, c0]
            exact ⟨hC, Below.refl _ _, rfl⟩
          · refine stepW_of_u ⟨rfl, fun v W ρ hC kc kf ks ki kd => ?_⟩
            have t1 : ρ (.tmp 1) = .int .i64 2 := ki 1 (by decide)
            simp [execOp, go_sem, kc, t1]
            exact ⟨hC, Below.refl _ _, rfl⟩
          · refine stepW_of_u ⟨rfl, fun v W ρ hC kc kf ks ki kd => ?_⟩
            have d1 : v 1 = .int .i64 s.kind := by first | exact kd _ (mem0 rfl) rfl | exact kd _ (mem1 rfl) rfl | exact kd _ (mem2 rfl) rfl | exact kd _ (mem3 rfl) rfl | exact kd _ (mem4 rfl) rfl | exact kd _ (mem5 rfl) rfl
            have t28 : ρ (.tmp 28) = .int .i64 s.kind := (ks 1 28 (by decide) rfl).trans d1
            have d2 : v 2 = .int .i64 2 := by first | exact kd _ (mem0 rfl) rfl | exact kd _ (mem1 rfl) rfl | exact kd _ (mem2 rfl) rfl | exact kd _ (mem3 rfl) rfl | exact kd _ (mem4 rfl) rfl | exact kd _ (mem5 rfl) rfl
            have t29 : ρ (.tmp 29) = .int .i64 2 := (ks 2 29 (by decide) rfl).trans d2
            simp [execOp, go_sem, kc, t28, t29, h1]
            exact ⟨hC, Below.refl _ _, rfl⟩
          · refine stepW_of_u ⟨rfl, fun v W ρ hC kc kf ks ki kd => ?_⟩
            have d3 : v 3 = .bool false := by first | exact kd _ (mem0 rfl) rfl | exact kd _ (mem1 rfl) rfl | exact kd _ (mem2 rfl) rfl | exact kd _ (mem3 rfl) rfl | exact kd _ (mem4 rfl) rfl | exact kd _ (mem5 rfl) rfl
            have t30 : ρ (.tmp 30) = .bool false := (ks 3 30 (by decide) rfl).trans d3
            simp [execOp, go_sem, kc, t30]
            exact ⟨hC, Below.refl _ _, rfl⟩
          · intro v W ρ y hC kc kf ks ki ky ku kd
            have dg : v 4 = .bool false := by first | exact kd _ (mem0 rfl) rfl | exact kd _ (mem1 rfl) rfl | exact kd _ (mem2 rfl) rfl | exact kd _ (mem3 rfl) rfl | exact kd _ (mem4 rfl) rfl | exact kd _ (mem5 rfl) rfl
            have hy := ky 4 31 false (by decide) rfl dg
            rw [if_neg (by simp [Region.wanted, hy])]
            exact ⟨Below.refl _ _, rfl⟩
          · intro v W ρ y hC kc kf ks ki ky ku kd
            have dg : v 4 = .bool false := by first | exact kd _ (mem0 rfl) rfl | exact kd _ (mem1 rfl) rfl | exact kd _ (mem2 rfl) rfl | exact kd _ (mem3 rfl) rfl | exact kd _ (mem4 rfl) rfl | exact kd _ (mem5 rfl) rfl
            have hy := ky 4 31 false (by decide) rfl dg
            rw [if_neg (by simp [Region.wanted, hy])]
            exact ⟨Below.refl _ _, rfl⟩
          · intro v W ρ y hC kc kf ks ki ky ku kd
            have dg : v 4 = .bool false := by first | exact kd _ (mem0 rfl) rfl | exact kd _ (mem1 rfl) rfl | exact kd _ (mem2 rfl) rfl | exact kd _ (mem3 rfl) rfl | exact kd _ (mem4 rfl) rfl | exact kd _ (mem5 rfl) rfl
            have hy := ky 4 31 false (by decide) rfl dg
            rw [if_neg (by simp [Region.wanted, hy])]
            exact ⟨Below.refl _ _, rfl⟩
          · intro v W ρ y hC kc kf ks ki ky ku kd
            have dg : v 4 = .bool false := by first | exact kd _ (mem0 rfl) rfl | exact kd _ (mem1 rfl) rfl | exact kd _ (mem2 rfl) rfl | exact kd _ (mem3 rfl) rfl | exact kd _ (mem4 rfl) rfl | exact kd _ (mem5 rfl) rfl
            have hy := ky 4 31 false (by decide) rfl dg
            rw [if_neg (by simp [Region.wanted, hy])]
            exact ⟨Below.refl _ _, rfl⟩
          · intro v W ρ y hC kc kf ks ki ky ku kd
            have dg : v 8 = undef := by first | exact kd _ (mem0 rfl) rfl | exact kd _ (mem1 rfl) rfl | exact kd _ (mem2 rfl) rfl | exact kd _ (mem3 rfl) rfl | exact kd _ (mem4 rfl) rfl | exact kd _ (mem5 rfl) rfl
            have hy := ku 8 35 (by decide) rfl dg
            rw [if_neg (by simp [Region.wanted, hy])]
            exact ⟨Below.refl _ _, rfl⟩
          · intro v W ρ y hC kc kf ks ki ky ku kd
            have dg : v 8 = undef := by first | exact kd _ (mem0 rfl) rfl | exact kd _ (mem1 rfl) rfl | exact kd _ (mem2 rfl) rfl | exact kd _ (mem3 rfl) rfl | exact kd _ (mem4 rfl) rfl | exact kd _ (mem5 rfl) rfl
            have hy := ku 8 35 (by decide) rfl dg
            rw [if_neg (by simp [Region.wanted, hy])]
            exact ⟨Below.refl _ _, rfl⟩
          · intro v W ρ y hC kc kf ks ki ky ku kd
            have dg : v 8 = undef := by first | exact kd _ (mem0 rfl) rfl | exact kd _ (mem1 rfl) rfl | exact kd _ (mem2 rfl) rfl | exact kd _ (mem3 rfl) rfl | exact kd _ (mem4 rfl) rfl | exact kd _ (mem5 rfl) rfl
            have hy := ku 8 35 (by decide) rfl dg
            rw [if_neg (by simp [Region.wanted, hy])]
            exact ⟨Below.refl _ _, rfl⟩
          · intro v W ρ y hC kc kf ks ki ky ku kd
            have dg : v 8 = undef := by first | exact kd _ (mem0 rfl) rfl | exact kd _ (mem1 rfl) rfl | exact kd _ (mem2 rfl) rfl | exact kd _ (mem3 rfl) rfl | exact kd _ (mem4 rfl) rfl | exact kd _ (mem5 rfl) rfl
            have hy := ku 8 35 (by decide) rfl dg
            rw [if_neg (by simp [Region.wanted, hy])]
            exact ⟨Below.refl _ _, rfl⟩
          · intro v W ρ y hC kc kf ks ki ky ku kd
            have dg : v 8 = undef := by first | exact kd _ (mem0 rfl) rfl | exact kd _ (mem1 rfl) rfl | exact kd _ (mem2 rfl) rfl | exact kd _ (mem3 rfl) rfl | exact kd _ (mem4 rfl) rfl | exact kd _ (mem5 rfl) rfl
            have hy := ku 8 35 (by decide) rfl dg
            rw [if_neg (by simp [Region.wanted, hy])]
            exact ⟨Below.refl _ _, rfl⟩
          · intro v W ρ y hC kc kf ks ki ky ku kd
            have dg : v 4 = .bool false := by first | exact kd _ (mem0 rfl) rfl | exact kd _ (mem1 rfl) rfl | exact kd _ (mem2 rfl) rfl | exact kd _ (mem3 rfl) rfl | exact kd _ (mem4 rfl) rfl | exact kd _ (mem5 rfl) rfl
            have hy := ky 4 31 false (by decide) rfl dg
            rw [if_neg (by simp [Region.wanted, hy])]
            exact ⟨Below.refl _ _, rfl⟩
          · refine stepW_of_u ⟨rfl, fun v W ρ hC kc kf ks ki kd => ?_⟩
            have d4 : v 4 = .bool false := by first | exact kd _ (mem0 rfl) rfl | exact kd _ (mem1 rfl) rfl | exact kd _ (mem2 rfl) rfl | exact kd _ (mem3 rfl) rfl | exact kd _ (mem4 rfl) rfl | exact kd _ (mem5 rfl) rfl
            have t31 : ρ (.tmp 31) = .bool false := (ks 4 31 (by decide) rfl).trans d4
            simp [execOp, go_sem, kc, t31]
            exact ⟨hC, Below.refl _ _, rfl⟩
          · refine stepW_of_u ⟨rfl, fun v W ρ hC kc kf ks ki kd => ?_⟩
            have d15 : v 15 = .bool false := by first | exact kd _ (mem0 rfl) rfl | exact kd _ (mem1 rfl) rfl | exact kd _ (mem2 rfl) rfl | exact kd _ (mem3 rfl) rfl | exact kd _ (mem4 rfl) rfl | exact kd _ (mem5 rfl) rfl
            have t42 : ρ (.tmp 42) = .bool false := (ks 15 42 (by decide) rfl).trans d15
            simp [execOp, go_sem, kc, t42]
            exact ⟨hC, Below.refl _ _, rfl⟩
          · intro v W ρ y hC kc kf ks ki ky ku kd
            have dg : v 16 = .bool false := by first | exact kd _ (mem0 rfl) rfl | exact kd _ (mem1 rfl) rfl | exact kd _ (mem2 rfl) rfl | exact kd _ (mem3 rfl) rfl | exact kd _ (mem4 rfl) rfl | exact kd _ (mem5 rfl) rfl
            have hy := ky 16 43 false (by decide) rfl dg
            rw [if_neg (by simp [Region.wanted, hy])]
            exact ⟨Below.refl _ _, rfl⟩
          · intro v W ρ y hC kc kf ks ki ky ku kd
            have dg : v 16 = .bool false := by first | exact kd _ (mem0 rfl) rfl | exact kd _ (mem1 rfl) rfl | exact kd _ (mem2 rfl) rfl | exact kd _ (mem3 rfl) rfl | exact kd _ (mem4 rfl) rfl | exact kd _ (mem5 rfl) rfl
            have hy := ky 16 43 false (by decide) rfl dg
            rw [if_neg (by simp [Region.wanted, hy])]
            exact ⟨Below.refl _ _, rfl⟩
          · intro v W ρ y hC kc kf ks ki ky ku kd
            have dg : v 16 = .bool false := by first | exact kd _ (mem0 rfl) rfl | exact kd _ (mem1 rfl) rfl | exact kd _ (mem2 rfl) rfl | exact kd _ (mem3 rfl) rfl | exact kd _ (mem4 rfl) rfl | exact kd _ (mem5 rfl) rfl
            have hy := ky 16 43 false (by decide) rfl dg
            rw [if_neg (by simp [Region.wanted, hy])]
            exact ⟨Below.refl _ _, rfl⟩
          · intro v W ρ y hC kc kf ks ki ky ku kd
            have dg : v 16 = .bool false := by first | exact kd _ (mem0 rfl) rfl | exact kd _ (mem1 rfl) rfl | exact kd _ (mem2 rfl) rfl | exact kd _ (mem3 rfl) rfl | exact kd _ (mem4 rfl) rfl | exact kd _ (mem5 rfl) rfl
            have hy := ky 16 43 false (by decide) rfl dg
            rw [if_neg (by simp [Region.wanted, hy])]
            exact ⟨Below.refl _ _, rfl⟩
          · intro v W ρ y hC kc kf ks ki ky ku kd
            have dg : v 16 = .bool false := by first | exact kd _ (mem0 rfl) rfl | exact kd _ (mem1 rfl) rfl | exact kd _ (mem2 rfl) rfl | exact kd _ (mem3 rfl) rfl | exact kd _ (mem4 rfl) rfl | exact kd _ (mem5 rfl) rfl
            have hy := ky 16 43 false (by decide) rfl dg
            rw [if_neg (by simp [Region.wanted, hy])]
            exact ⟨Below.refl _ _, rfl⟩
          · intro v W ρ y hC kc kf ks ki ky ku kd
            have dg : v 16 = .bool false := by first | exact kd _ (mem0 rfl) rfl | exact kd _ (mem1 rfl) rfl | exact kd _ (mem2 rfl) rfl | exact kd _ (mem3 rfl) rfl | exact kd _ (mem4 rfl) rfl | exact kd _ (mem5 rfl) rfl
            have hy := ky 16 43 false (by decide) rfl dg
            rw [if_neg (by simp [Region.wanted, hy])]
            exact ⟨Below.refl _ _, rfl⟩
          · intro v W ρ y hC kc kf ks ki ky ku kd
            have dg : v 16 = .bool false := by first | exact kd _ (mem0 rfl) rfl | exact kd _ (mem1 rfl) rfl | exact kd _ (mem2 rfl) rfl | exact kd _ (mem3 rfl) rfl | exact kd _ (mem4 rfl) rfl | exact kd _ (mem5 rfl) rfl
            have hy := ky 16 43 false (by decide) rfl dg
            rw [if_neg (by simp [Region.wanted, hy])]
            exact ⟨Below.refl _ _, rfl⟩
          · refine stepW_of_u ⟨rfl, fun v W ρ hC kc kf ks ki kd => ?_⟩
            have d16 : v 16 = .bool false := by first | exact kd _ (mem0 rfl) rfl | exact kd _ (mem1 rfl) rfl | exact kd _ (mem2 rfl) rfl | exact kd _ (mem3 rfl) rfl | exact kd _ (mem4 rfl) rfl | exact kd _ (mem5 rfl) rfl
            have t43 : ρ (.tmp 43) = .bool false := (ks 16 43 (by decide) rfl).trans d16
            simp [execOp, go_sem, kc, t43]
            exact ⟨hC, Below.refl _ _, rfl⟩
        intro vA WA hbA hall
        have hvA : vA 24 = .bool false := hall 24 (by decide)
        simp [upto, Act.put]
        rw [hvA]
        clear hall hvA
        have hGT7 := hidS (blk_later hGT6.out hbA)
        have hGO7 := hidS (blk_later hGO6.out hbA)
        have hGX7 := hidS (blk_later hGX6.out hbA)
        have hL7 := hidS (hL6.out.trans (hbA.mono hL6.out.size))
        clear hbA hGT6 hGO6 hGX6 hL6
        have HN := HF0.out (by unfold forR; rw [h1]; rfl)
        have HN2 := hidS HN
        clear HN HF0 HF1 hF
        go_wp2_with fail
        go_roundw
        case rel => exact ⟨k + 1, by simp, by omega, HN2, hGT7, hGO7, hL7.out⟩
        case measure => simp [intOf]; omega
      cases h2 : (s.proto == 0)
      · cases h3 : (s.proto == t.proto)
        · refine grow_guarded 25 [.is (.pointer (some ⟨w5.heap.size, 0, none⟩)), .is (.int .i64 s.kind), .is (.int .i64 2), .is (.bool true), .is (.bool true), .is (.pointer (some ⟨w5.heap.size, 1, none⟩)), .is (.int .i64 s.proto), .is (.bool false), .is (.bool false), .is (.pointer (some ⟨w5.heap.size, 1, none⟩)), .is (.int .i64 s.proto), .is (.pointer (some ⟨w.heap.size, 0, none⟩)), .is (.int .i64 t.proto), .is (.bool false), .is (.bool false), .is (.bool false), .is (.bool false), .is (undef), .is (undef), .is (undef), .is (undef), .is (undef), .is (undef), .is (undef), .is (.bool false)] rfl (by kernel_rfl) (by kernel_rfl) ?stepsB ?finB
          case stepsB =>
            refine ⟨?_, ?_, ?_, ?_, ?_, ?_, ?_, ?_, ?_, ?_, ?_, ?_, ?_, ?_, ?_, ?_, ?_, ?_, ?_, ?_, ?_, ?_, ?_, ?_, ?_, trivial⟩
            · refine stepW_of_u ⟨rfl, fun v W ρ hC kc kf ks ki kd => ?_⟩
              have t10 : ρ (.tmp 10) = .pointer (some ⟨w5.heap.size, 0, none⟩) := ki 10 (by decide)
              simp [execOp, go_sem, kc, t10]
              exact ⟨hC, Below.refl _ _, rfl⟩
            · refine stepW_of_u ⟨rfl, fun v W ρ hC kc kf ks ki kd => ?_⟩
              have d0 : v 0 = .pointer (some ⟨w5.heap.size, 0, none⟩) := by first | exact kd _ (mem0 rfl) rfl | exact kd _ (mem1 rfl) rfl | exact kd _ (mem2 rfl) rfl | exact kd _ (mem3 rfl) rfl | exact kd _ (mem4 rfl) rfl | exact kd _ (mem5 rfl) rfl
              have t27 : ρ (.tmp 27) = .pointer (some ⟨w5.heap.size, 0, none⟩) := (ks 0 27 (by decide) rfl).trans d0
              have hg := blk_later hGX6.out hC
              have c0 := blk_cell hg 0
              simp at c0
              simp [execOp, go_sem, kc, t27, c0]
              exact ⟨hC, Below.refl _ _, rfl⟩
            · refine stepW_of_u ⟨rfl, fun v W ρ hC kc kf ks ki kd => ?_⟩
              have t1 : ρ (.tmp 1) = .int .i64 2 := ki 1 (by decide)
              simp [execOp, go_sem, kc, t1]
              exact ⟨hC, Below.refl _ _, rfl⟩
            · refine stepW_of_u ⟨rfl, fun v W ρ hC kc kf ks ki kd => ?_⟩
              have d1 : v 1 = .int .i64 s.kind := by first | exact kd _ (mem0 rfl) rfl | exact kd _ (mem1 rfl) rfl | exact kd _ (mem2 rfl) rfl | exact kd _ (mem3 rfl) rfl | exact kd _ (mem4 rfl) rfl | exact kd _ (mem5 rfl) rfl
              have t28 : ρ (.tmp 28) = .int .i64 s.kind := (ks 1 28 (by decide) rfl).trans d1
              have d2 : v 2 = .int .i64 2 := by first | exact kd _ (mem0 rfl) rfl | exact kd _ (mem1 rfl) rfl | exact kd _ (mem2 rfl) rfl | exact kd _ (mem3 rfl) rfl | exact kd _ (mem4 rfl) rfl | exact kd _ (mem5 rfl) rfl
              have t29 : ρ (.tmp 29) = .int .i64 2 := (ks 2 29 (by decide) rfl).trans d2
              simp [execOp, go_sem, kc, t28, t29, h1]
              exact ⟨hC, Below.refl _ _, rfl⟩
            · refine stepW_of_u ⟨rfl, fun v W ρ hC kc kf ks ki kd => ?_⟩
              have d3 : v 3 = .bool true := by first | exact kd _ (mem0 rfl) rfl | exact kd _ (mem1 rfl) rfl | exact kd _ (mem2 rfl) rfl | exact kd _ (mem3 rfl) rfl | exact kd _ (mem4 rfl) rfl | exact kd _ (mem5 rfl) rfl
              have t30 : ρ (.tmp 30) = .bool true := (ks 3 30 (by decide) rfl).trans d3
              simp [execOp, go_sem, kc, t30]
              exact ⟨hC, Below.refl _ _, rfl⟩
            · intro v W ρ y hC kc kf ks ki ky ku kd
              have dg : v 4 = .bool true := by first | exact kd _ (mem0 rfl) rfl | exact kd _ (mem1 rfl) rfl | exact kd _ (mem2 rfl) rfl | exact kd _ (mem3 rfl) rfl | exact kd _ (mem4 rfl) rfl | exact kd _ (mem5 rfl) rfl
              have hy := ky 4 31 true (by decide) rfl dg
              rw [if_pos (by simp [Region.wanted, hy])]
              have t10 : ρ (.tmp 10) = .pointer (some ⟨w5.heap.size, 0, none⟩) := ki 10 (by decide)
              simp [execOp, go_sem, kc, t10]
              exact ⟨hC, Below.refl _ _, rfl⟩
            · intro v W ρ y hC kc kf ks ki ky ku kd
              have dg : v 4 = .bool true := by first | exact kd _ (mem0 rfl) rfl | exact kd _ (mem1 rfl) rfl | exact kd _ (mem2 rfl) rfl | exact kd _ (mem3 rfl) rfl | exact kd _ (mem4 rfl) rfl | exact kd _ (mem5 rfl) rfl
              have hy := ky 4 31 true (by decide) rfl dg
              rw [if_pos (by simp [Region.wanted, hy])]
              have d5 : v 5 = .pointer (some ⟨w5.heap.size, 1, none⟩) := by first | exact kd _ (mem0 rfl) rfl | exact kd _ (mem1 rfl) rfl | exact kd _ (mem2 rfl) rfl | exact kd _ (mem3 rfl) rfl | exact kd _ (mem4 rfl) rfl | exact kd _ (mem5 rfl) rfl
              have t32 : ρ (.tmp 32) = .pointer (some ⟨w5.heap.size, 1, none⟩) := (ks 5 32 (by decide) rfl).trans d5
              have hg := blk_later hGX6.out hC
              have c1 := blk_cell hg 1
              simp at c1
              simp [execOp, go_sem, kc, t32, c1]
              exact ⟨hC, Below.refl _ _, rfl⟩
            · intro v W ρ y hC kc kf ks ki ky ku kd
              have dg : v 4 = .bool true := by first | exact kd _ (mem0 rfl) rfl | exact kd _ (mem1 rfl) rfl | exact kd _ (mem2 rfl) rfl | exact kd _ (mem3 rfl) rfl | exact kd _ (mem4 rfl) rfl | exact kd _ (mem5 rfl) rfl
              have hy := ky 4 31 true (by decide) rfl dg
              rw [if_pos (by simp [Region.wanted, hy])]
              have d6 : v 6 = .int .i64 s.proto := by first | exact kd _ (mem0 rfl) rfl | exact kd _ (mem1 rfl) rfl | exact kd _ (mem2 rfl) rfl | exact kd _ (mem3 rfl) rfl | exact kd _ (mem4 rfl) rfl | exact kd _ (mem5 rfl) rfl
              have t33 : ρ (.tmp 33) = .int .i64 s.proto := (ks 6 33 (by decide) rfl).trans d6
              simp [execOp, go_sem, kc, t33, h2]
              exact ⟨hC, Below.refl _ _, rfl⟩
            · intro v W ρ y hC kc kf ks ki ky ku kd
              have dg : v 4 = .bool true := by first | exact kd _ (mem0 rfl) rfl | exact kd _ (mem1 rfl) rfl | exact kd _ (mem2 rfl) rfl | exact kd _ (mem3 rfl) rfl | exact kd _ (mem4 rfl) rfl | exact kd _ (mem5 rfl) rfl
              have hy := ky 4 31 true (by decide) rfl dg
              rw [if_pos (by simp [Region.wanted, hy])]
              have d7 : v 7 = .bool false := by first | exact kd _ (mem0 rfl) rfl | exact kd _ (mem1 rfl) rfl | exact kd _ (mem2 rfl) rfl | exact kd _ (mem3 rfl) rfl | exact kd _ (mem4 rfl) rfl | exact kd _ (mem5 rfl) rfl
              have t34 : ρ (.tmp 34) = .bool false := (ks 7 34 (by decide) rfl).trans d7
              simp [execOp, go_sem, kc, t34]
              exact ⟨hC, Below.refl _ _, rfl⟩
            · intro v W ρ y hC kc kf ks ki ky ku kd
              have dg : v 8 = .bool false := by first | exact kd _ (mem0 rfl) rfl | exact kd _ (mem1 rfl) rfl | exact kd _ (mem2 rfl) rfl | exact kd _ (mem3 rfl) rfl | exact kd _ (mem4 rfl) rfl | exact kd _ (mem5 rfl) rfl
              have hy := ky 8 35 false (by decide) rfl dg
              rw [if_pos (by simp [Region.wanted, hy])]
              have t10 : ρ (.tmp 10) = .pointer (some ⟨w5.heap.size, 0, none⟩) := ki 10 (by decide)
              simp [execOp, go_sem, kc, t10]
              exact ⟨hC, Below.refl _ _, rfl⟩
            · intro v W ρ y hC kc kf ks ki ky ku kd
              have dg : v 8 = .bool false := by first | exact kd _ (mem0 rfl) rfl | exact kd _ (mem1 rfl) rfl | exact kd _ (mem2 rfl) rfl | exact kd _ (mem3 rfl) rfl | exact kd _ (mem4 rfl) rfl | exact kd _ (mem5 rfl) rfl
              have hy := ky 8 35 false (by decide) rfl dg
              rw [if_pos (by simp [Region.wanted, hy])]
              have d9 : v 9 = .pointer (some ⟨w5.heap.size, 1, none⟩) := by first | exact kd _ (mem0 rfl) rfl | exact kd _ (mem1 rfl) rfl | exact kd _ (mem2 rfl) rfl | exact kd _ (mem3 rfl) rfl | exact kd _ (mem4 rfl) rfl | exact kd _ (mem5 rfl) rfl
              have t36 : ρ (.tmp 36) = .pointer (some ⟨w5.heap.size, 1, none⟩) := (ks 9 36 (by decide) rfl).trans d9
              have hg := blk_later hGX6.out hC
              have c1 := blk_cell hg 1
              simp at c1
              simp [execOp, go_sem, kc, t36, c1]
              exact ⟨hC, Below.refl _ _, rfl⟩
            · intro v W ρ y hC kc kf ks ki ky ku kd
              have dg : v 8 = .bool false := by first | exact kd _ (mem0 rfl) rfl | exact kd _ (mem1 rfl) rfl | exact kd _ (mem2 rfl) rfl | exact kd _ (mem3 rfl) rfl | exact kd _ (mem4 rfl) rfl | exact kd _ (mem5 rfl) rfl
              have hy := ky 8 35 false (by decide) rfl dg
              rw [if_pos (by simp [Region.wanted, hy])]
              have t5 : ρ (.tmp 5) = .pointer (some ⟨w.heap.size, 0, none⟩) := ki 5 (by decide)
              simp [execOp, go_sem, kc, t5]
              exact ⟨hC, Below.refl _ _, rfl⟩
            · intro v W ρ y hC kc kf ks ki ky ku kd
              have dg : v 8 = .bool false := by first | exact kd _ (mem0 rfl) rfl | exact kd _ (mem1 rfl) rfl | exact kd _ (mem2 rfl) rfl | exact kd _ (mem3 rfl) rfl | exact kd _ (mem4 rfl) rfl | exact kd _ (mem5 rfl) rfl
              have hy := ky 8 35 false (by decide) rfl dg
              rw [if_pos (by simp [Region.wanted, hy])]
              have d11 : v 11 = .pointer (some ⟨w.heap.size, 0, none⟩) := by first | exact kd _ (mem0 rfl) rfl | exact kd _ (mem1 rfl) rfl | exact kd _ (mem2 rfl) rfl | exact kd _ (mem3 rfl) rfl | exact kd _ (mem4 rfl) rfl | exact kd _ (mem5 rfl) rfl
              have t38 : ρ (.tmp 38) = .pointer (some ⟨w.heap.size, 0, none⟩) := (ks 11 38 (by decide) rfl).trans d11
              have hg := blk_later hGT6.out hC
              have c0 := blk_cell hg 0
              simp at c0
              simp [execOp, go_sem, kc, t38, c0]
              exact ⟨hC, Below.refl _ _, rfl⟩
            · intro v W ρ y hC kc kf ks ki ky ku kd
              have dg : v 8 = .bool false := by first | exact kd _ (mem0 rfl) rfl | exact kd _ (mem1 rfl) rfl | exact kd _ (mem2 rfl) rfl | exact kd _ (mem3 rfl) rfl | exact kd _ (mem4 rfl) rfl | exact kd _ (mem5 rfl) rfl
              have hy := ky 8 35 false (by decide) rfl dg
              rw [if_pos (by simp [Region.wanted, hy])]
              have d10 : v 10 = .int .i64 s.proto := by first | exact kd _ (mem0 rfl) rfl | exact kd _ (mem1 rfl) rfl | exact kd _ (mem2 rfl) rfl | exact kd _ (mem3 rfl) rfl | exact kd _ (mem4 rfl) rfl | exact kd _ (mem5 rfl) rfl
              have t37 : ρ (.tmp 37) = .int .i64 s.proto := (ks 10 37 (by decide) rfl).trans d10
              have d12 : v 12 = .int .i64 t.proto := by first | exact kd _ (mem0 rfl) rfl | exact kd _ (mem1 rfl) rfl | exact kd _ (mem2 rfl) rfl | exact kd _ (mem3 rfl) rfl | exact kd _ (mem4 rfl) rfl | exact kd _ (mem5 rfl) rfl
              have t39 : ρ (.tmp 39) = .int .i64 t.proto := (ks 12 39 (by decide) rfl).trans d12
              simp [execOp, go_sem, kc, t37, t39, h3]
              exact ⟨hC, Below.refl _ _, rfl⟩
            · intro v W ρ y hC kc kf ks ki ky ku kd
              have dg : v 4 = .bool true := by first | exact kd _ (mem0 rfl) rfl | exact kd _ (mem1 rfl) rfl | exact kd _ (mem2 rfl) rfl | exact kd _ (mem3 rfl) rfl | exact kd _ (mem4 rfl) rfl | exact kd _ (mem5 rfl) rfl
              have hy := ky 4 31 true (by decide) rfl dg
              rw [if_pos (by simp [Region.wanted, hy])]
              have d8 : v 8 = .bool false := by first | exact kd _ (mem0 rfl) rfl | exact kd _ (mem1 rfl) rfl | exact kd _ (mem2 rfl) rfl | exact kd _ (mem3 rfl) rfl | exact kd _ (mem4 rfl) rfl | exact kd _ (mem5 rfl) rfl
              have t35 : ρ (.tmp 35) = .bool false := (ks 8 35 (by decide) rfl).trans d8
              have d13 : v 13 = .bool false := by first | exact kd _ (mem0 rfl) rfl | exact kd _ (mem1 rfl) rfl | exact kd _ (mem2 rfl) rfl | exact kd _ (mem3 rfl) rfl | exact kd _ (mem4 rfl) rfl | exact kd _ (mem5 rfl) rfl
              have t40 : ρ (.tmp 40) = .bool false := (ks 13 40 (by decide) rfl).trans d13
              simp [execOp, go_sem, kc, t35, t40]
              exact ⟨hC, Below.refl _ _, rfl⟩
            · refine stepW_of_u ⟨rfl, fun v W ρ hC kc kf ks ki kd => ?_⟩
              have d4 : v 4 = .bool true := by first | exact kd _ (mem0 rfl) rfl | exact kd _ (mem1 rfl) rfl | exact kd _ (mem2 rfl) rfl | exact kd _ (mem3 rfl) rfl | exact kd _ (mem4 rfl) rfl | exact kd _ (mem5 rfl) rfl
              have t31 : ρ (.tmp 31) = .bool true := (ks 4 31 (by decide) rfl).trans d4
              have d14 : v 14 = .bool false := by first | exact kd _ (mem0 rfl) rfl | exact kd _ (mem1 rfl) rfl | exact kd _ (mem2 rfl) rfl | exact kd _ (mem3 rfl) rfl | exact kd _ (mem4 rfl) rfl | exact kd _ (mem5 rfl) rfl
              have t41 : ρ (.tmp 41) = .bool false := (ks 14 41 (by decide) rfl).trans d14
              simp [execOp, go_sem, kc, t31, t41]
              exact ⟨hC, Below.refl _ _, rfl⟩
            · refine stepW_of_u ⟨rfl, fun v W ρ hC kc kf ks ki kd => ?_⟩
              have d15 : v 15 = .bool false := by first | exact kd _ (mem0 rfl) rfl | exact kd _ (mem1 rfl) rfl | exact kd _ (mem2 rfl) rfl | exact kd _ (mem3 rfl) rfl | exact kd _ (mem4 rfl) rfl | exact kd _ (mem5 rfl) rfl
              have t42 : ρ (.tmp 42) = .bool false := (ks 15 42 (by decide) rfl).trans d15
              simp [execOp, go_sem, kc, t42]
              exact ⟨hC, Below.refl _ _, rfl⟩
            · intro v W ρ y hC kc kf ks ki ky ku kd
              have dg : v 16 = .bool false := by first | exact kd _ (mem0 rfl) rfl | exact kd _ (mem1 rfl) rfl | exact kd _ (mem2 rfl) rfl | exact kd _ (mem3 rfl) rfl | exact kd _ (mem4 rfl) rfl | exact kd _ (mem5 rfl) rfl
              have hy := ky 16 43 false (by decide) rfl dg
              rw [if_neg (by simp [Region.wanted, hy])]
              exact ⟨Below.refl _ _, rfl⟩
            · intro v W ρ y hC kc kf ks ki ky ku kd
              have dg : v 16 = .bool false := by first | exact kd _ (mem0 rfl) rfl | exact kd _ (mem1 rfl) rfl | exact kd _ (mem2 rfl) rfl | exact kd _ (mem3 rfl) rfl | exact kd _ (mem4 rfl) rfl | exact kd _ (mem5 rfl) rfl
              have hy := ky 16 43 false (by decide) rfl dg
              rw [if_neg (by simp [Region.wanted, hy])]
              exact ⟨Below.refl _ _, rfl⟩
            · intro v W ρ y hC kc kf ks ki ky ku kd
              have dg : v 16 = .bool false := by first | exact kd _ (mem0 rfl) rfl | exact kd _ (mem1 rfl) rfl | exact kd _ (mem2 rfl) rfl | exact kd _ (mem3 rfl) rfl | exact kd _ (mem4 rfl) rfl | exact kd _ (mem5 rfl) rfl
              have hy := ky 16 43 false (by decide) rfl dg
              rw [if_neg (by simp [Region.wanted, hy])]
              exact ⟨Below.refl _ _, rfl⟩
            · intro v W ρ y hC kc kf ks ki ky ku kd
              have dg : v 16 = .bool false := by first | exact kd _ (mem0 rfl) rfl | exact kd _ (mem1 rfl) rfl | exact kd _ (mem2 rfl) rfl | exact kd _ (mem3 rfl) rfl | exact kd _ (mem4 rfl) rfl | exact kd _ (mem5 rfl) rfl
              have hy := ky 16 43 false (by decide) rfl dg
              rw [if_neg (by simp [Region.wanted, hy])]
              exact ⟨Below.refl _ _, rfl⟩
            · intro v W ρ y hC kc kf ks ki ky ku kd
              have dg : v 16 = .bool false := by first | exact kd _ (mem0 rfl) rfl | exact kd _ (mem1 rfl) rfl | exact kd _ (mem2 rfl) rfl | exact kd _ (mem3 rfl) rfl | exact kd _ (mem4 rfl) rfl | exact kd _ (mem5 rfl) rfl
              have hy := ky 16 43 false (by decide) rfl dg
              rw [if_neg (by simp [Region.wanted, hy])]
              exact ⟨Below.refl _ _, rfl⟩
            · intro v W ρ y hC kc kf ks ki ky ku kd
              have dg : v 16 = .bool false := by first | exact kd _ (mem0 rfl) rfl | exact kd _ (mem1 rfl) rfl | exact kd _ (mem2 rfl) rfl | exact kd _ (mem3 rfl) rfl | exact kd _ (mem4 rfl) rfl | exact kd _ (mem5 rfl) rfl
              have hy := ky 16 43 false (by decide) rfl dg
              rw [if_neg (by simp [Region.wanted, hy])]
              exact ⟨Below.refl _ _, rfl⟩
            · intro v W ρ y hC kc kf ks ki ky ku kd
              have dg : v 16 = .bool false := by first | exact kd _ (mem0 rfl) rfl | exact kd _ (mem1 rfl) rfl | exact kd _ (mem2 rfl) rfl | exact kd _ (mem3 rfl) rfl | exact kd _ (mem4 rfl) rfl | exact kd _ (mem5 rfl) rfl
              have hy := ky 16 43 false (by decide) rfl dg
              rw [if_neg (by simp [Region.wanted, hy])]
              exact ⟨Below.refl _ _, rfl⟩
            · refine stepW_of_u ⟨rfl, fun v W ρ hC kc kf ks ki kd => ?_⟩
              have d16 : v 16 = .bool false := by first | exact kd _ (mem0 rfl) rfl | exact kd _ (mem1 rfl) rfl | exact kd _ (mem2 rfl) rfl | exact kd _ (mem3 rfl) rfl | exact kd _ (mem4 rfl) rfl | exact kd _ (mem5 rfl) rfl
              have t43 : ρ (.tmp 43) = .bool false := (ks 16 43 (by decide) rfl).trans d16
              simp [execOp, go_sem, kc, t43]
              exact ⟨hC, Below.refl _ _, rfl⟩
          intro vB WB hbB hall
          have hvB : vB 24 = .bool false := hall 24 (by decide)
          simp [upto, Act.put]
          rw [hvB]
          clear hall hvB
          have hGT7 := hidS (blk_later hGT6.out hbB)
          have hGO7 := hidS (blk_later hGO6.out hbB)
          have hGX7 := hidS (blk_later hGX6.out hbB)
          have hL7 := hidS (hL6.out.trans (hbB.mono hL6.out.size))
          clear hbB hGT6 hGO6 hGX6 hL6
          have HN := HF0.out (by unfold forR; rw [h1, h2, h3]; rfl)
          have HN2 := hidS HN
          clear HN HF0 HF1 hF
          go_wp2_with fail
          go_roundw
          case rel => exact ⟨k + 1, by simp, by omega, HN2, hGT7, hGO7, hL7.out⟩
          case measure => simp [intOf]; omega
        refine grow_guarded 25 [.is (.pointer (some ⟨w5.heap.size, 0, none⟩)), .is (.int .i64 s.kind), .is (.int .i64 2), .is (.bool true), .is (.bool true), .is (.pointer (some ⟨w5.heap.size, 1, none⟩)), .is (.int .i64 s.proto), .is (.bool false), .is (.bool false), .is (.pointer (some ⟨w5.heap.size, 1, none⟩)), .is (.int .i64 s.proto), .is (.pointer (some ⟨w.heap.size, 0, none⟩)), .is (.int .i64 t.proto), .is (.bool true), .is (.bool true), .is (.bool true), .is (.bool true), .is (.int .i64 t.dst), .is (.pointer (some ⟨w5.heap.size, 3, none⟩)), .is (.int .i64 s.bits), .is (.int .i64 (headN t.dst s.bits)), .is (.pointer (some ⟨w5.heap.size, 2, none⟩)), .is (.int .i64 s.net), .is (.bool hb), .is (.bool hb)] rfl (by kernel_rfl) (by kernel_rfl) ?stepsC ?finC
        case stepsC =>
          refine ⟨?_, ?_, ?_, ?_, ?_, ?_, ?_, ?_, ?_, ?_, ?_, ?_, ?_, ?_, ?_, ?_, ?_, ?_, ?_, ?_, ?_, ?_, ?_, ?_, ?_, trivial⟩
          · refine stepW_of_u ⟨rfl, fun v W ρ hC kc kf ks ki kd => ?_⟩
            have t10 : ρ (.tmp 10) = .pointer (some ⟨w5.heap.size, 0, none⟩) := ki 10 (by decide)
            simp [execOp, go_sem, kc, t10]
            exact ⟨hC, Below.refl _ _, rfl⟩
          · refine stepW_of_u ⟨rfl, fun v W ρ hC kc kf ks ki kd => ?_⟩
            have d0 : v 0 = .pointer (some ⟨w5.heap.size, 0, none⟩) := by first | exact kd _ (mem0 rfl) rfl | exact kd _ (mem1 rfl) rfl | exact kd _ (mem2 rfl) rfl | exact kd _ (mem3 rfl) rfl | exact kd _ (mem4 rfl) rfl | exact kd _ (mem5 rfl) rfl
            have t27 : ρ (.tmp 27) = .pointer (some ⟨w5.heap.size, 0, none⟩) := (ks 0 27 (by decide) rfl).trans d0
            have hg := blk_later hGX6.out hC
            have c0 := blk_cell hg 0
            simp at c0
            simp [execOp, go_sem, kc, t27, c0]
            exact ⟨hC, Below.refl _ _, rfl⟩
          · refine stepW_of_u ⟨rfl, fun v W ρ hC kc kf ks ki kd => ?_⟩
            have t1 : ρ (.tmp 1) = .int .i64 2 := ki 1 (by decide)
            simp [execOp, go_sem, kc, t1]
            exact ⟨hC, Below.refl _ _, rfl⟩
          · refine stepW_of_u ⟨rfl, fun v W ρ hC kc kf ks ki kd => ?_⟩
            have d1 : v 1 = .int .i64 s.kind := by first | exact kd _ (mem0 rfl) rfl | exact kd _ (mem1 rfl) rfl | exact kd _ (mem2 rfl) rfl | exact kd _ (mem3 rfl) rfl | exact kd _ (mem4 rfl) rfl | exact kd _ (mem5 rfl) rfl
            have t28 : ρ (.tmp 28) = .int .i64 s.kind := (ks 1 28 (by decide) rfl).trans d1
            have d2 : v 2 = .int .i64 2 := by first | exact kd _ (mem0 rfl) rfl | exact kd _ (mem1 rfl) rfl | exact kd _ (mem2 rfl) rfl | exact kd _ (mem3 rfl) rfl | exact kd _ (mem4 rfl) rfl | exact kd _ (mem5 rfl) rfl
            have t29 : ρ (.tmp 29) = .int .i64 2 := (ks 2 29 (by decide) rfl).trans d2
            simp [execOp, go_sem, kc, t28, t29, h1]
            exact ⟨hC, Below.refl _ _, rfl⟩
          · refine stepW_of_u ⟨rfl, fun v W ρ hC kc kf ks ki kd => ?_⟩
            have d3 : v 3 = .bool true := by first | exact kd _ (mem0 rfl) rfl | exact kd _ (mem1 rfl) rfl | exact kd _ (mem2 rfl) rfl | exact kd _ (mem3 rfl) rfl | exact kd _ (mem4 rfl) rfl | exact kd _ (mem5 rfl) rfl
            have t30 : ρ (.tmp 30) = .bool true := (ks 3 30 (by decide) rfl).trans d3
            simp [execOp, go_sem, kc, t30]
            exact ⟨hC, Below.refl _ _, rfl⟩
          · intro v W ρ y hC kc kf ks ki ky ku kd
            have dg : v 4 = .bool true := by first | exact kd _ (mem0 rfl) rfl | exact kd _ (mem1 rfl) rfl | exact kd _ (mem2 rfl) rfl | exact kd _ (mem3 rfl) rfl | exact kd _ (mem4 rfl) rfl | exact kd _ (mem5 rfl) rfl
            have hy := ky 4 31 true (by decide) rfl dg
            rw [if_pos (by simp [Region.wanted, hy])]
            have t10 : ρ (.tmp 10) = .pointer (some ⟨w5.heap.size, 0, none⟩) := ki 10 (by decide)
            simp [execOp, go_sem, kc, t10]
            exact ⟨hC, Below.refl _ _, rfl⟩
          · intro v W ρ y hC kc kf ks ki ky ku kd
            have dg : v 4 = .bool true := by first | exact kd _ (mem0 rfl) rfl | exact kd _ (mem1 rfl) rfl | exact kd _ (mem2 rfl) rfl | exact kd _ (mem3 rfl) rfl | exact kd _ (mem4 rfl) rfl | exact kd _ (mem5 rfl) rfl
            have hy := ky 4 31 true (by decide) rfl dg
            rw [if_pos (by simp [Region.wanted, hy])]
            have d5 : v 5 = .pointer (some ⟨w5.heap.size, 1, none⟩) := by first | exact kd _ (mem0 rfl) rfl | exact kd _ (mem1 rfl) rfl | exact kd _ (mem2 rfl) rfl | exact kd _ (mem3 rfl) rfl | exact kd _ (mem4 rfl) rfl | exact kd _ (mem5 rfl) rfl
            have t32 : ρ (.tmp 32) = .pointer (some ⟨w5.heap.size, 1, none⟩) := (ks 5 32 (by decide) rfl).trans d5
            have hg := blk_later hGX6.out hC
            have c1 := blk_cell hg 1
            simp at c1
            simp [execOp, go_sem, kc, t32, c1]
            exact ⟨hC, Below.refl _ _, rfl⟩
          · intro v W ρ y hC kc kf ks ki ky ku kd
            have dg : v 4 = .bool true := by first | exact kd _ (mem0 rfl) rfl | exact kd _ (mem1 rfl) rfl | exact kd _ (mem2 rfl) rfl | exact kd _ (mem3 rfl) rfl | exact kd _ (mem4 rfl) rfl | exact kd _ (mem5 rfl) rfl
            have hy := ky 4 31 true (by decide) rfl dg
            rw [if_pos (by simp [Region.wanted, hy])]
            have d6 : v 6 = .int .i64 s.proto := by first | exact kd _ (mem0 rfl) rfl | exact kd _ (mem1 rfl) rfl | exact kd _ (mem2 rfl) rfl | exact kd _ (mem3 rfl) rfl | exact kd _ (mem4 rfl) rfl | exact kd _ (mem5 rfl) rfl
            have t33 : ρ (.tmp 33) = .int .i64 s.proto := (ks 6 33 (by decide) rfl).trans d6
            simp [execOp, go_sem, kc, t33, h2]
            exact ⟨hC, Below.refl _ _, rfl⟩
          · intro v W ρ y hC kc kf ks ki ky ku kd
            have dg : v 4 = .bool true := by first | exact kd _ (mem0 rfl) rfl | exact kd _ (mem1 rfl) rfl | exact kd _ (mem2 rfl) rfl | exact kd _ (mem3 rfl) rfl | exact kd _ (mem4 rfl) rfl | exact kd _ (mem5 rfl) rfl
            have hy := ky 4 31 true (by decide) rfl dg
            rw [if_pos (by simp [Region.wanted, hy])]
            have d7 : v 7 = .bool false := by first | exact kd _ (mem0 rfl) rfl | exact kd _ (mem1 rfl) rfl | exact kd _ (mem2 rfl) rfl | exact kd _ (mem3 rfl) rfl | exact kd _ (mem4 rfl) rfl | exact kd _ (mem5 rfl) rfl
            have t34 : ρ (.tmp 34) = .bool false := (ks 7 34 (by decide) rfl).trans d7
            simp [execOp, go_sem, kc, t34]
            exact ⟨hC, Below.refl _ _, rfl⟩
          · intro v W ρ y hC kc kf ks ki ky ku kd
            have dg : v 8 = .bool false := by first | exact kd _ (mem0 rfl) rfl | exact kd _ (mem1 rfl) rfl | exact kd _ (mem2 rfl) rfl | exact kd _ (mem3 rfl) rfl | exact kd _ (mem4 rfl) rfl | exact kd _ (mem5 rfl) rfl
            have hy := ky 8 35 false (by decide) rfl dg
            rw [if_pos (by simp [Region.wanted, hy])]
            have t10 : ρ (.tmp 10) = .pointer (some ⟨w5.heap.size, 0, none⟩) := ki 10 (by decide)
            simp [execOp, go_sem, kc, t10]
            exact ⟨hC, Below.refl _ _, rfl⟩
          · intro v W ρ y hC kc kf ks ki ky ku kd
            have dg : v 8 = .bool false := by first | exact kd _ (mem0 rfl) rfl | exact kd _ (mem1 rfl) rfl | exact kd _ (mem2 rfl) rfl | exact kd _ (mem3 rfl) rfl | exact kd _ (mem4 rfl) rfl | exact kd _ (mem5 rfl) rfl
            have hy := ky 8 35 false (by decide) rfl dg
            rw [if_pos (by simp [Region.wanted, hy])]
            have d9 : v 9 = .pointer (some ⟨w5.heap.size, 1, none⟩) := by first | exact kd _ (mem0 rfl) rfl | exact kd _ (mem1 rfl) rfl | exact kd _ (mem2 rfl) rfl | exact kd _ (mem3 rfl) rfl | exact kd _ (mem4 rfl) rfl | exact kd _ (mem5 rfl) rfl
            have t36 : ρ (.tmp 36) = .pointer (some ⟨w5.heap.size, 1, none⟩) := (ks 9 36 (by decide) rfl).trans d9
            have hg := blk_later hGX6.out hC
            have c1 := blk_cell hg 1
            simp at c1
            simp [execOp, go_sem, kc, t36, c1]
            exact ⟨hC, Below.refl _ _, rfl⟩
          · intro v W ρ y hC kc kf ks ki ky ku kd
            have dg : v 8 = .bool false := by first | exact kd _ (mem0 rfl) rfl | exact kd _ (mem1 rfl) rfl | exact kd _ (mem2 rfl) rfl | exact kd _ (mem3 rfl) rfl | exact kd _ (mem4 rfl) rfl | exact kd _ (mem5 rfl) rfl
            have hy := ky 8 35 false (by decide) rfl dg
            rw [if_pos (by simp [Region.wanted, hy])]
            have t5 : ρ (.tmp 5) = .pointer (some ⟨w.heap.size, 0, none⟩) := ki 5 (by decide)
            simp [execOp, go_sem, kc, t5]
            exact ⟨hC, Below.refl _ _, rfl⟩
          · intro v W ρ y hC kc kf ks ki ky ku kd
            have dg : v 8 = .bool false := by first | exact kd _ (mem0 rfl) rfl | exact kd _ (mem1 rfl) rfl | exact kd _ (mem2 rfl) rfl | exact kd _ (mem3 rfl) rfl | exact kd _ (mem4 rfl) rfl | exact kd _ (mem5 rfl) rfl
            have hy := ky 8 35 false (by decide) rfl dg
            rw [if_pos (by simp [Region.wanted, hy])]
            have d11 : v 11 = .pointer (some ⟨w.heap.size, 0, none⟩) := by first | exact kd _ (mem0 rfl) rfl | exact kd _ (mem1 rfl) rfl | exact kd _ (mem2 rfl) rfl | exact kd _ (mem3 rfl) rfl | exact kd _ (mem4 rfl) rfl | exact kd _ (mem5 rfl) rfl
            have t38 : ρ (.tmp 38) = .pointer (some ⟨w.heap.size, 0, none⟩) := (ks 11 38 (by decide) rfl).trans d11
            have hg := blk_later hGT6.out hC
            have c0 := blk_cell hg 0
            simp at c0
            simp [execOp, go_sem, kc, t38, c0]
            exact ⟨hC, Below.refl _ _, rfl⟩
          · intro v W ρ y hC kc kf ks ki ky ku kd
            have dg : v 8 = .bool false := by first | exact kd _ (mem0 rfl) rfl | exact kd _ (mem1 rfl) rfl | exact kd _ (mem2 rfl) rfl | exact kd _ (mem3 rfl) rfl | exact kd _ (mem4 rfl) rfl | exact kd _ (mem5 rfl) rfl
            have hy := ky 8 35 false (by decide) rfl dg
            rw [if_pos (by simp [Region.wanted, hy])]
            have d10 : v 10 = .int .i64 s.proto := by first | exact kd _ (mem0 rfl) rfl | exact kd _ (mem1 rfl) rfl | exact kd _ (mem2 rfl) rfl | exact kd _ (mem3 rfl) rfl | exact kd _ (mem4 rfl) rfl | exact kd _ (mem5 rfl) rfl
            have t37 : ρ (.tmp 37) = .int .i64 s.proto := (ks 10 37 (by decide) rfl).trans d10
            have d12 : v 12 = .int .i64 t.proto := by first | exact kd _ (mem0 rfl) rfl | exact kd _ (mem1 rfl) rfl | exact kd _ (mem2 rfl) rfl | exact kd _ (mem3 rfl) rfl | exact kd _ (mem4 rfl) rfl | exact kd _ (mem5 rfl) rfl
            have t39 : ρ (.tmp 39) = .int .i64 t.proto := (ks 12 39 (by decide) rfl).trans d12
            simp [execOp, go_sem, kc, t37, t39, h3]
            exact ⟨hC, Below.refl _ _, rfl⟩
          · intro v W ρ y hC kc kf ks ki ky ku kd
            have dg : v 4 = .bool true := by first | exact kd _ (mem0 rfl) rfl | exact kd _ (mem1 rfl) rfl | exact kd _ (mem2 rfl) rfl | exact kd _ (mem3 rfl) rfl | exact kd _ (mem4 rfl) rfl | exact kd _ (mem5 rfl) rfl
            have hy := ky 4 31 true (by decide) rfl dg
            rw [if_pos (by simp [Region.wanted, hy])]
            have d8 : v 8 = .bool false := by first | exact kd _ (mem0 rfl) rfl | exact kd _ (mem1 rfl) rfl | exact kd _ (mem2 rfl) rfl | exact kd _ (mem3 rfl) rfl | exact kd _ (mem4 rfl) rfl | exact kd _ (mem5 rfl) rfl
            have t35 : ρ (.tmp 35) = .bool false := (ks 8 35 (by decide) rfl).trans d8
            have d13 : v 13 = .bool true := by first | exact kd _ (mem0 rfl) rfl | exact kd _ (mem1 rfl) rfl | exact kd _ (mem2 rfl) rfl | exact kd _ (mem3 rfl) rfl | exact kd _ (mem4 rfl) rfl | exact kd _ (mem5 rfl) rfl
            have t40 : ρ (.tmp 40) = .bool true := (ks 13 40 (by decide) rfl).trans d13
            simp [execOp, go_sem, kc, t35, t40]
            exact ⟨hC, Below.refl _ _, rfl⟩
          · refine stepW_of_u ⟨rfl, fun v W ρ hC kc kf ks ki kd => ?_⟩
            have d4 : v 4 = .bool true := by first | exact kd _ (mem0 rfl) rfl | exact kd _ (mem1 rfl) rfl | exact kd _ (mem2 rfl) rfl | exact kd _ (mem3 rfl) rfl | exact kd _ (mem4 rfl) rfl | exact kd _ (mem5 rfl) rfl
            have t31 : ρ (.tmp 31) = .bool true := (ks 4 31 (by decide) rfl).trans d4
            have d14 : v 14 = .bool true := by first | exact kd _ (mem0 rfl) rfl | exact kd _ (mem1 rfl) rfl | exact kd _ (mem2 rfl) rfl | exact kd _ (mem3 rfl) rfl | exact kd _ (mem4 rfl) rfl | exact kd _ (mem5 rfl) rfl
            have t41 : ρ (.tmp 41) = .bool true := (ks 14 41 (by decide) rfl).trans d14
            simp [execOp, go_sem, kc, t31, t41]
            exact ⟨hC, Below.refl _ _, rfl⟩
          · refine stepW_of_u ⟨rfl, fun v W ρ hC kc kf ks ki kd => ?_⟩
            have d15 : v 15 = .bool true := by first | exact kd _ (mem0 rfl) rfl | exact kd _ (mem1 rfl) rfl | exact kd _ (mem2 rfl) rfl | exact kd _ (mem3 rfl) rfl | exact kd _ (mem4 rfl) rfl | exact kd _ (mem5 rfl) rfl
            have t42 : ρ (.tmp 42) = .bool true := (ks 15 42 (by decide) rfl).trans d15
            simp [execOp, go_sem, kc, t42]
            exact ⟨hC, Below.refl _ _, rfl⟩
          · intro v W ρ y hC kc kf ks ki ky ku kd
            have dg : v 16 = .bool true := by first | exact kd _ (mem0 rfl) rfl | exact kd _ (mem1 rfl) rfl | exact kd _ (mem2 rfl) rfl | exact kd _ (mem3 rfl) rfl | exact kd _ (mem4 rfl) rfl | exact kd _ (mem5 rfl) rfl
            have hy := ky 16 43 true (by decide) rfl dg
            rw [if_pos (by simp [Region.wanted, hy])]
            have t8 : ρ (.tmp 8) = .int .i64 t.dst := ki 8 (by decide)
            simp [execOp, go_sem, kc, t8]
            exact ⟨hC, Below.refl _ _, rfl⟩
          · intro v W ρ y hC kc kf ks ki ky ku kd
            have dg : v 16 = .bool true := by first | exact kd _ (mem0 rfl) rfl | exact kd _ (mem1 rfl) rfl | exact kd _ (mem2 rfl) rfl | exact kd _ (mem3 rfl) rfl | exact kd _ (mem4 rfl) rfl | exact kd _ (mem5 rfl) rfl
            have hy := ky 16 43 true (by decide) rfl dg
            rw [if_pos (by simp [Region.wanted, hy])]
            have t10 : ρ (.tmp 10) = .pointer (some ⟨w5.heap.size, 0, none⟩) := ki 10 (by decide)
            simp [execOp, go_sem, kc, t10]
            exact ⟨hC, Below.refl _ _, rfl⟩
          · intro v W ρ y hC kc kf ks ki ky ku kd
            have dg : v 16 = .bool true := by first | exact kd _ (mem0 rfl) rfl | exact kd _ (mem1 rfl) rfl | exact kd _ (mem2 rfl) rfl | exact kd _ (mem3 rfl) rfl | exact kd _ (mem4 rfl) rfl | exact kd _ (mem5 rfl) rfl
            have hy := ky 16 43 true (by decide) rfl dg
            rw [if_pos (by simp [Region.wanted, hy])]
            have d18 : v 18 = .pointer (some ⟨w5.heap.size, 3, none⟩) := by first | exact kd _ (mem0 rfl) rfl | exact kd _ (mem1 rfl) rfl | exact kd _ (mem2 rfl) rfl | exact kd _ (mem3 rfl) rfl | exact kd _ (mem4 rfl) rfl | exact kd _ (mem5 rfl) rfl
            have t45 : ρ (.tmp 45) = .pointer (some ⟨w5.heap.size, 3, none⟩) := (ks 18 45 (by decide) rfl).trans d18
            have hg := blk_later hGX6.out hC
            have c3 := blk_cell hg 3
            simp at c3
            simp [execOp, go_sem, kc, t45, c3]
            exact ⟨hC, Below.refl _ _, rfl⟩
          · intro v W ρ y hC kc kf ks ki ky ku kd
            have dg : v 16 = .bool true := by first | exact kd _ (mem0 rfl) rfl | exact kd _ (mem1 rfl) rfl | exact kd _ (mem2 rfl) rfl | exact kd _ (mem3 rfl) rfl | exact kd _ (mem4 rfl) rfl | exact kd _ (mem5 rfl) rfl
            have hy := ky 16 43 true (by decide) rfl dg
            rw [if_pos (by simp [Region.wanted, hy])]
            have d17 : v 17 = .int .i64 t.dst := by first | exact kd _ (mem0 rfl) rfl | exact kd _ (mem1 rfl) rfl | exact kd _ (mem2 rfl) rfl | exact kd _ (mem3 rfl) rfl | exact kd _ (mem4 rfl) rfl | exact kd _ (mem5 rfl) rfl
            have t44 : ρ (.tmp 44) = .int .i64 t.dst := (ks 17 44 (by decide) rfl).trans d17
            have d19 : v 19 = .int .i64 s.bits := by first | exact kd _ (mem0 rfl) rfl | exact kd _ (mem1 rfl) rfl | exact kd _ (mem2 rfl) rfl | exact kd _ (mem3 rfl) rfl | exact kd _ (mem4 rfl) rfl | exact kd _ (mem5 rfl) rfl
            have t46 : ρ (.tmp 46) = .int .i64 s.bits := (ks 19 46 (by decide) rfl).trans d19
            simp [execOp, go_sem, kc, t44, t46, kf]
            exact Calls.mono (HH.out W) (fun e x h => ⟨_, h.1, hC.trans (h.2.mono hC.size), h.2, rfl⟩)
          · intro v W ρ y hC kc kf ks ki ky ku kd
            have dg : v 16 = .bool true := by first | exact kd _ (mem0 rfl) rfl | exact kd _ (mem1 rfl) rfl | exact kd _ (mem2 rfl) rfl | exact kd _ (mem3 rfl) rfl | exact kd _ (mem4 rfl) rfl | exact kd _ (mem5 rfl) rfl
            have hy := ky 16 43 true (by decide) rfl dg
            rw [if_pos (by simp [Region.wanted, hy])]
            have t10 : ρ (.tmp 10) = .pointer (some ⟨w5.heap.size, 0, none⟩) := ki 10 (by decide)
            simp [execOp, go_sem, kc, t10]
            exact ⟨hC, Below.refl _ _, rfl⟩
          · intro v W ρ y hC kc kf ks ki ky ku kd
            have dg : v 16 = .bool true := by first | exact kd _ (mem0 rfl) rfl | exact kd _ (mem1 rfl) rfl | exact kd _ (mem2 rfl) rfl | exact kd _ (mem3 rfl) rfl | exact kd _ (mem4 rfl) rfl | exact kd _ (mem5 rfl) rfl
            have hy := ky 16 43 true (by decide) rfl dg
            rw [if_pos (by simp [Region.wanted, hy])]
            have d21 : v 21 = .pointer (some ⟨w5.heap.size, 2, none⟩) := by first | exact kd _ (mem0 rfl) rfl | exact kd _ (mem1 rfl) rfl | exact kd _ (mem2 rfl) rfl | exact kd _ (mem3 rfl) rfl | exact kd _ (mem4 rfl) rfl | exact kd _ (mem5 rfl) rfl
            have t48 : ρ (.tmp 48) = .pointer (some ⟨w5.heap.size, 2, none⟩) := (ks 21 48 (by decide) rfl).trans d21
            have hg := blk_later hGX6.out hC
            have c2 := blk_cell hg 2
            simp at c2
            simp [execOp, go_sem, kc, t48, c2]
            exact ⟨hC, Below.refl _ _, rfl⟩
          · intro v W ρ y hC kc kf ks ki ky ku kd
            have dg : v 16 = .bool true := by first | exact kd _ (mem0 rfl) rfl | exact kd _ (mem1 rfl) rfl | exact kd _ (mem2 rfl) rfl | exact kd _ (mem3 rfl) rfl | exact kd _ (mem4 rfl) rfl | exact kd _ (mem5 rfl) rfl
            have hy := ky 16 43 true (by decide) rfl dg
            rw [if_pos (by simp [Region.wanted, hy])]
            have d20 : v 20 = .int .i64 (headN t.dst s.bits) := by first | exact kd _ (mem0 rfl) rfl | exact kd _ (mem1 rfl) rfl | exact kd _ (mem2 rfl) rfl | exact kd _ (mem3 rfl) rfl | exact kd _ (mem4 rfl) rfl | exact kd _ (mem5 rfl) rfl
            have t47 : ρ (.tmp 47) = .int .i64 (headN t.dst s.bits) := (ks 20 47 (by decide) rfl).trans d20
            have d22 : v 22 = .int .i64 s.net := by first | exact kd _ (mem0 rfl) rfl | exact kd _ (mem1 rfl) rfl | exact kd _ (mem2 rfl) rfl | exact kd _ (mem3 rfl) rfl | exact kd _ (mem4 rfl) rfl | exact kd _ (mem5 rfl) rfl
            have t49 : ρ (.tmp 49) = .int .i64 s.net := (ks 22 49 (by decide) rfl).trans d22
            simp [execOp, go_sem, kc, t47, t49, h4]
            exact ⟨hC, Below.refl _ _, rfl⟩
          · refine stepW_of_u ⟨rfl, fun v W ρ hC kc kf ks ki kd => ?_⟩
            have d16 : v 16 = .bool true := by first | exact kd _ (mem0 rfl) rfl | exact kd _ (mem1 rfl) rfl | exact kd _ (mem2 rfl) rfl | exact kd _ (mem3 rfl) rfl | exact kd _ (mem4 rfl) rfl | exact kd _ (mem5 rfl) rfl
            have t43 : ρ (.tmp 43) = .bool true := (ks 16 43 (by decide) rfl).trans d16
            have d23 : v 23 = .bool hb := by first | exact kd _ (mem0 rfl) rfl | exact kd _ (mem1 rfl) rfl | exact kd _ (mem2 rfl) rfl | exact kd _ (mem3 rfl) rfl | exact kd _ (mem4 rfl) rfl | exact kd _ (mem5 rfl) rfl
            have t50 : ρ (.tmp 50) = .bool hb := (ks 23 50 (by decide) rfl).trans d23
            simp [execOp, go_sem, kc, t43, t50]
            exact ⟨hC, Below.refl _ _, rfl⟩
        intro vC WC hbC hall
        have hvC : vC 24 = .bool hb := hall 24 (by decide)
        simp [upto, Act.put]
        rw [hvC]
        clear hall hvC
        have hGT7 := hidS (blk_later hGT6.out hbC)
        have hGO7 := hidS (blk_later hGO6.out hbC)
        have hGX7 := hidS (blk_later hGX6.out hbC)
        have hL7 := hidS (hL6.out.trans (hbC.mono hL6.out.size))
        clear hbC hGT6 hGO6 hGX6 hL6
        cases hb
        · have HN := HF0.out (by unfold forR; rw [show namedA 2 t = t.dst from rfl, h1, h2, h3, h4]; rfl)
          have HN2 := hidS HN
          clear HN HF0 HF1 hF
          go_wp2_with fail
          go_roundw
          case rel => exact ⟨k + 1, by simp, by omega, HN2, hGT7, hGO7, hL7.out⟩
          case measure => simp [intOf]; omega
        · have E12 := hidS (HF1.out (by unfold forR; rw [show namedA 2 t = t.dst from rfl, h1, h2, h3, h4]; rfl))
          clear HF1 HF0 hF
          have cX0 := blk_cell hGX7.out 0
          have cX1 := blk_cell hGX7.out 1
          have cX2 := blk_cell hGX7.out 2
          have cX3 := blk_cell hGX7.out 3
          have cX4 := blk_cell hGX7.out 4
          have cX5 := blk_cell hGX7.out 5
          have cX6 := blk_cell hGX7.out 6
          simp at cX0 cX1 cX2 cX3 cX4 cX5 cX6
          have kO := blk_cell hGO7.out
          have fO := blk_free hGO7.out
          skip
          go_wp2_with fail
          refine bodyPost_ret (v := .tuple #[.agg #[.int .i64 s.kind, .int .i64 s.proto, .int .i64 s.net, .int .i64 s.bits, .int .i64 s.goal, .int .i64 s.low, .int .i64 s.high], .bool true]) (by simp [results, Try.results82, go_sem, *]) rfl ⟨by rw [E12.out.1, E12.out.2], ?_⟩
          repeat (refine below_at ?_ (by omega))
          exact hL7.out
      refine grow_guarded 25 [.is (.pointer (some ⟨w5.heap.size, 0, none⟩)), .is (.int .i64 s.kind), .is (.int .i64 2), .is (.bool true), .is (.bool true), .is (.pointer (some ⟨w5.heap.size, 1, none⟩)), .is (.int .i64 s.proto), .is (.bool true), .is (.bool true), .is (undef), .is (undef), .is (undef), .is (undef), .is (undef), .is (.bool true), .is (.bool true), .is (.bool true), .is (.int .i64 t.dst), .is (.pointer (some ⟨w5.heap.size, 3, none⟩)), .is (.int .i64 s.bits), .is (.int .i64 (headN t.dst s.bits)), .is (.pointer (some ⟨w5.heap.size, 2, none⟩)), .is (.int .i64 s.net), .is (.bool hb), .is (.bool hb)] rfl (by kernel_rfl) (by kernel_rfl) ?stepsD ?finD
      case stepsD =>
        refine ⟨?_, ?_, ?_, ?_, ?_, ?_, ?_, ?_, ?_, ?_, ?_, ?_, ?_, ?_, ?_, ?_, ?_, ?_, ?_, ?_, ?_, ?_, ?_, ?_, ?_, trivial⟩
        · refine stepW_of_u ⟨rfl, fun v W ρ hC kc kf ks ki kd => ?_⟩
          have t10 : ρ (.tmp 10) = .pointer (some ⟨w5.heap.size, 0, none⟩) := ki 10 (by decide)
          simp [execOp, go_sem, kc, t10]
          exact ⟨hC, Below.refl _ _, rfl⟩
        · refine stepW_of_u ⟨rfl, fun v W ρ hC kc kf ks ki kd => ?_⟩
          have d0 : v 0 = .pointer (some ⟨w5.heap.size, 0, none⟩) := by first | exact kd _ (mem0 rfl) rfl | exact kd _ (mem1 rfl) rfl | exact kd _ (mem2 rfl) rfl | exact kd _ (mem3 rfl) rfl | exact kd _ (mem4 rfl) rfl | exact kd _ (mem5 rfl) rfl
          have t27 : ρ (.tmp 27) = .pointer (some ⟨w5.heap.size, 0, none⟩) := (ks 0 27 (by decide) rfl).trans d0
          have hg := blk_later hGX6.out hC
          have c0 := blk_cell hg 0
          simp at c0
          simp [execOp, go_sem, kc, t27, c0]
          exact ⟨hC, Below.refl _ _, rfl⟩
        · refine stepW_of_u ⟨rfl, fun v W ρ hC kc kf ks ki kd => ?_⟩
          have t1 : ρ (.tmp 1) = .int .i64 2 := ki 1 (by decide)
          simp [execOp, go_sem, kc, t1]
          exact ⟨hC, Below.refl _ _, rfl⟩
        · refine stepW_of_u ⟨rfl, fun v W ρ hC kc kf ks ki kd => ?_⟩
          have d1 : v 1 = .int .i64 s.kind := by first | exact kd _ (mem0 rfl) rfl | exact kd _ (mem1 rfl) rfl | exact kd _ (mem2 rfl) rfl | exact kd _ (mem3 rfl) rfl | exact kd _ (mem4 rfl) rfl | exact kd _ (mem5 rfl) rfl
          have t28 : ρ (.tmp 28) = .int .i64 s.kind := (ks 1 28 (by decide) rfl).trans d1
          have d2 : v 2 = .int .i64 2 := by first | exact kd _ (mem0 rfl) rfl | exact kd _ (mem1 rfl) rfl | exact kd _ (mem2 rfl) rfl | exact kd _ (mem3 rfl) rfl | exact kd _ (mem4 rfl) rfl | exact kd _ (mem5 rfl) rfl
          have t29 : ρ (.tmp 29) = .int .i64 2 := (ks 2 29 (by decide) rfl).trans d2
          simp [execOp, go_sem, kc, t28, t29, h1]
          exact ⟨hC, Below.refl _ _, rfl⟩
        · refine stepW_of_u ⟨rfl, fun v W ρ hC kc kf ks ki kd => ?_⟩
          have d3 : v 3 = .bool true := by first | exact kd _ (mem0 rfl) rfl | exact kd _ (mem1 rfl) rfl | exact kd _ (mem2 rfl) rfl | exact kd _ (mem3 rfl) rfl | exact kd _ (mem4 rfl) rfl | exact kd _ (mem5 rfl) rfl
          have t30 : ρ (.tmp 30) = .bool true := (ks 3 30 (by decide) rfl).trans d3
          simp [execOp, go_sem, kc, t30]
          exact ⟨hC, Below.refl _ _, rfl⟩
        · intro v W ρ y hC kc kf ks ki ky ku kd
          have dg : v 4 = .bool true := by first | exact kd _ (mem0 rfl) rfl | exact kd _ (mem1 rfl) rfl | exact kd _ (mem2 rfl) rfl | exact kd _ (mem3 rfl) rfl | exact kd _ (mem4 rfl) rfl | exact kd _ (mem5 rfl) rfl
          have hy := ky 4 31 true (by decide) rfl dg
          rw [if_pos (by simp [Region.wanted, hy])]
          have t10 : ρ (.tmp 10) = .pointer (some ⟨w5.heap.size, 0, none⟩) := ki 10 (by decide)
          simp [execOp, go_sem, kc, t10]
          exact ⟨hC, Below.refl _ _, rfl⟩
        · intro v W ρ y hC kc kf ks ki ky ku kd
          have dg : v 4 = .bool true := by first | exact kd _ (mem0 rfl) rfl | exact kd _ (mem1 rfl) rfl | exact kd _ (mem2 rfl) rfl | exact kd _ (mem3 rfl) rfl | exact kd _ (mem4 rfl) rfl | exact kd _ (mem5 rfl) rfl
          have hy := ky 4 31 true (by decide) rfl dg
          rw [if_pos (by simp [Region.wanted, hy])]
          have d5 : v 5 = .pointer (some ⟨w5.heap.size, 1, none⟩) := by first | exact kd _ (mem0 rfl) rfl | exact kd _ (mem1 rfl) rfl | exact kd _ (mem2 rfl) rfl | exact kd _ (mem3 rfl) rfl | exact kd _ (mem4 rfl) rfl | exact kd _ (mem5 rfl) rfl
          have t32 : ρ (.tmp 32) = .pointer (some ⟨w5.heap.size, 1, none⟩) := (ks 5 32 (by decide) rfl).trans d5
          have hg := blk_later hGX6.out hC
          have c1 := blk_cell hg 1
          simp at c1
          simp [execOp, go_sem, kc, t32, c1]
          exact ⟨hC, Below.refl _ _, rfl⟩
        · intro v W ρ y hC kc kf ks ki ky ku kd
          have dg : v 4 = .bool true := by first | exact kd _ (mem0 rfl) rfl | exact kd _ (mem1 rfl) rfl | exact kd _ (mem2 rfl) rfl | exact kd _ (mem3 rfl) rfl | exact kd _ (mem4 rfl) rfl | exact kd _ (mem5 rfl) rfl
          have hy := ky 4 31 true (by decide) rfl dg
          rw [if_pos (by simp [Region.wanted, hy])]
          have d6 : v 6 = .int .i64 s.proto := by first | exact kd _ (mem0 rfl) rfl | exact kd _ (mem1 rfl) rfl | exact kd _ (mem2 rfl) rfl | exact kd _ (mem3 rfl) rfl | exact kd _ (mem4 rfl) rfl | exact kd _ (mem5 rfl) rfl
          have t33 : ρ (.tmp 33) = .int .i64 s.proto := (ks 6 33 (by decide) rfl).trans d6
          simp [execOp, go_sem, kc, t33, h2]
          exact ⟨hC, Below.refl _ _, rfl⟩
        · intro v W ρ y hC kc kf ks ki ky ku kd
          have dg : v 4 = .bool true := by first | exact kd _ (mem0 rfl) rfl | exact kd _ (mem1 rfl) rfl | exact kd _ (mem2 rfl) rfl | exact kd _ (mem3 rfl) rfl | exact kd _ (mem4 rfl) rfl | exact kd _ (mem5 rfl) rfl
          have hy := ky 4 31 true (by decide) rfl dg
          rw [if_pos (by simp [Region.wanted, hy])]
          have d7 : v 7 = .bool true := by first | exact kd _ (mem0 rfl) rfl | exact kd _ (mem1 rfl) rfl | exact kd _ (mem2 rfl) rfl | exact kd _ (mem3 rfl) rfl | exact kd _ (mem4 rfl) rfl | exact kd _ (mem5 rfl) rfl
          have t34 : ρ (.tmp 34) = .bool true := (ks 7 34 (by decide) rfl).trans d7
          simp [execOp, go_sem, kc, t34]
          exact ⟨hC, Below.refl _ _, rfl⟩
        · intro v W ρ y hC kc kf ks ki ky ku kd
          have dg : v 8 = .bool true := by first | exact kd _ (mem0 rfl) rfl | exact kd _ (mem1 rfl) rfl | exact kd _ (mem2 rfl) rfl | exact kd _ (mem3 rfl) rfl | exact kd _ (mem4 rfl) rfl | exact kd _ (mem5 rfl) rfl
          have hy := ky 8 35 true (by decide) rfl dg
          rw [if_neg (by simp [Region.wanted, hy])]
          exact ⟨Below.refl _ _, rfl⟩
        · intro v W ρ y hC kc kf ks ki ky ku kd
          have dg : v 8 = .bool true := by first | exact kd _ (mem0 rfl) rfl | exact kd _ (mem1 rfl) rfl | exact kd _ (mem2 rfl) rfl | exact kd _ (mem3 rfl) rfl | exact kd _ (mem4 rfl) rfl | exact kd _ (mem5 rfl) rfl
          have hy := ky 8 35 true (by decide) rfl dg
          rw [if_neg (by simp [Region.wanted, hy])]
          exact ⟨Below.refl _ _, rfl⟩
        · intro v W ρ y hC kc kf ks ki ky ku kd
          have dg : v 8 = .bool true := by first | exact kd _ (mem0 rfl) rfl | exact kd _ (mem1 rfl) rfl | exact kd _ (mem2 rfl) rfl | exact kd _ (mem3 rfl) rfl | exact kd _ (mem4 rfl) rfl | exact kd _ (mem5 rfl) rfl
          have hy := ky 8 35 true (by decide) rfl dg
          rw [if_neg (by simp [Region.wanted, hy])]
          exact ⟨Below.refl _ _, rfl⟩
        · intro v W ρ y hC kc kf ks ki ky ku kd
          have dg : v 8 = .bool true := by first | exact kd _ (mem0 rfl) rfl | exact kd _ (mem1 rfl) rfl | exact kd _ (mem2 rfl) rfl | exact kd _ (mem3 rfl) rfl | exact kd _ (mem4 rfl) rfl | exact kd _ (mem5 rfl) rfl
          have hy := ky 8 35 true (by decide) rfl dg
          rw [if_neg (by simp [Region.wanted, hy])]
          exact ⟨Below.refl _ _, rfl⟩
        · intro v W ρ y hC kc kf ks ki ky ku kd
          have dg : v 8 = .bool true := by first | exact kd _ (mem0 rfl) rfl | exact kd _ (mem1 rfl) rfl | exact kd _ (mem2 rfl) rfl | exact kd _ (mem3 rfl) rfl | exact kd _ (mem4 rfl) rfl | exact kd _ (mem5 rfl) rfl
          have hy := ky 8 35 true (by decide) rfl dg
          rw [if_neg (by simp [Region.wanted, hy])]
          exact ⟨Below.refl _ _, rfl⟩
        · intro v W ρ y hC kc kf ks ki ky ku kd
          have dg : v 4 = .bool true := by first | exact kd _ (mem0 rfl) rfl | exact kd _ (mem1 rfl) rfl | exact kd _ (mem2 rfl) rfl | exact kd _ (mem3 rfl) rfl | exact kd _ (mem4 rfl) rfl | exact kd _ (mem5 rfl) rfl
          have hy := ky 4 31 true (by decide) rfl dg
          rw [if_pos (by simp [Region.wanted, hy])]
          have d8 : v 8 = .bool true := by first | exact kd _ (mem0 rfl) rfl | exact kd _ (mem1 rfl) rfl | exact kd _ (mem2 rfl) rfl | exact kd _ (mem3 rfl) rfl | exact kd _ (mem4 rfl) rfl | exact kd _ (mem5 rfl) rfl
          have t35 : ρ (.tmp 35) = .bool true := (ks 8 35 (by decide) rfl).trans d8
          simp [execOp, go_sem, kc, t35]
          exact ⟨hC, Below.refl _ _, rfl⟩
        · refine stepW_of_u ⟨rfl, fun v W ρ hC kc kf ks ki kd => ?_⟩
          have d4 : v 4 = .bool true := by first | exact kd _ (mem0 rfl) rfl | exact kd _ (mem1 rfl) rfl | exact kd _ (mem2 rfl) rfl | exact kd _ (mem3 rfl) rfl | exact kd _ (mem4 rfl) rfl | exact kd _ (mem5 rfl) rfl
          have t31 : ρ (.tmp 31) = .bool true := (ks 4 31 (by decide) rfl).trans d4
          have d14 : v 14 = .bool true := by first | exact kd _ (mem0 rfl) rfl | exact kd _ (mem1 rfl) rfl | exact kd _ (mem2 rfl) rfl | exact kd _ (mem3 rfl) rfl | exact kd _ (mem4 rfl) rfl | exact kd _ (mem5 rfl) rfl
          have t41 : ρ (.tmp 41) = .bool true := (ks 14 41 (by decide) rfl).trans d14
          simp [execOp, go_sem, kc, t31, t41]
          exact ⟨hC, Below.refl _ _, rfl⟩
        · refine stepW_of_u ⟨rfl, fun v W ρ hC kc kf ks ki kd => ?_⟩
          have d15 : v 15 = .bool true := by first | exact kd _ (mem0 rfl) rfl | exact kd _ (mem1 rfl) rfl | exact kd _ (mem2 rfl) rfl | exact kd _ (mem3 rfl) rfl | exact kd _ (mem4 rfl) rfl | exact kd _ (mem5 rfl) rfl
          have t42 : ρ (.tmp 42) = .bool true := (ks 15 42 (by decide) rfl).trans d15
          simp [execOp, go_sem, kc, t42]
          exact ⟨hC, Below.refl _ _, rfl⟩
        · intro v W ρ y hC kc kf ks ki ky ku kd
          have dg : v 16 = .bool true := by first | exact kd _ (mem0 rfl) rfl | exact kd _ (mem1 rfl) rfl | exact kd _ (mem2 rfl) rfl | exact kd _ (mem3 rfl) rfl | exact kd _ (mem4 rfl) rfl | exact kd _ (mem5 rfl) rfl
          have hy := ky 16 43 true (by decide) rfl dg
          rw [if_pos (by simp [Region.wanted, hy])]
          have t8 : ρ (.tmp 8) = .int .i64 t.dst := ki 8 (by decide)
          simp [execOp, go_sem, kc, t8]
          exact ⟨hC, Below.refl _ _, rfl⟩
        · intro v W ρ y hC kc kf ks ki ky ku kd
          have dg : v 16 = .bool true := by first | exact kd _ (mem0 rfl) rfl | exact kd _ (mem1 rfl) rfl | exact kd _ (mem2 rfl) rfl | exact kd _ (mem3 rfl) rfl | exact kd _ (mem4 rfl) rfl | exact kd _ (mem5 rfl) rfl
          have hy := ky 16 43 true (by decide) rfl dg
          rw [if_pos (by simp [Region.wanted, hy])]
          have t10 : ρ (.tmp 10) = .pointer (some ⟨w5.heap.size, 0, none⟩) := ki 10 (by decide)
          simp [execOp, go_sem, kc, t10]
          exact ⟨hC, Below.refl _ _, rfl⟩
        · intro v W ρ y hC kc kf ks ki ky ku kd
          have dg : v 16 = .bool true := by first | exact kd _ (mem0 rfl) rfl | exact kd _ (mem1 rfl) rfl | exact kd _ (mem2 rfl) rfl | exact kd _ (mem3 rfl) rfl | exact kd _ (mem4 rfl) rfl | exact kd _ (mem5 rfl) rfl
          have hy := ky 16 43 true (by decide) rfl dg
          rw [if_pos (by simp [Region.wanted, hy])]
          have d18 : v 18 = .pointer (some ⟨w5.heap.size, 3, none⟩) := by first | exact kd _ (mem0 rfl) rfl | exact kd _ (mem1 rfl) rfl | exact kd _ (mem2 rfl) rfl | exact kd _ (mem3 rfl) rfl | exact kd _ (mem4 rfl) rfl | exact kd _ (mem5 rfl) rfl
          have t45 : ρ (.tmp 45) = .pointer (some ⟨w5.heap.size, 3, none⟩) := (ks 18 45 (by decide) rfl).trans d18
          have hg := blk_later hGX6.out hC
          have c3 := blk_cell hg 3
          simp at c3
          simp [execOp, go_sem, kc, t45, c3]
          exact ⟨hC, Below.refl _ _, rfl⟩
        · intro v W ρ y hC kc kf ks ki ky ku kd
          have dg : v 16 = .bool true := by first | exact kd _ (mem0 rfl) rfl | exact kd _ (mem1 rfl) rfl | exact kd _ (mem2 rfl) rfl | exact kd _ (mem3 rfl) rfl | exact kd _ (mem4 rfl) rfl | exact kd _ (mem5 rfl) rfl
          have hy := ky 16 43 true (by decide) rfl dg
          rw [if_pos (by simp [Region.wanted, hy])]
          have d17 : v 17 = .int .i64 t.dst := by first | exact kd _ (mem0 rfl) rfl | exact kd _ (mem1 rfl) rfl | exact kd _ (mem2 rfl) rfl | exact kd _ (mem3 rfl) rfl | exact kd _ (mem4 rfl) rfl | exact kd _ (mem5 rfl) rfl
          have t44 : ρ (.tmp 44) = .int .i64 t.dst := (ks 17 44 (by decide) rfl).trans d17
          have d19 : v 19 = .int .i64 s.bits := by first | exact kd _ (mem0 rfl) rfl | exact kd _ (mem1 rfl) rfl | exact kd _ (mem2 rfl) rfl | exact kd _ (mem3 rfl) rfl | exact kd _ (mem4 rfl) rfl | exact kd _ (mem5 rfl) rfl
          have t46 : ρ (.tmp 46) = .int .i64 s.bits := (ks 19 46 (by decide) rfl).trans d19
          simp [execOp, go_sem, kc, t44, t46, kf]
          exact Calls.mono (HH.out W) (fun e x h => ⟨_, h.1, hC.trans (h.2.mono hC.size), h.2, rfl⟩)
        · intro v W ρ y hC kc kf ks ki ky ku kd
          have dg : v 16 = .bool true := by first | exact kd _ (mem0 rfl) rfl | exact kd _ (mem1 rfl) rfl | exact kd _ (mem2 rfl) rfl | exact kd _ (mem3 rfl) rfl | exact kd _ (mem4 rfl) rfl | exact kd _ (mem5 rfl) rfl
          have hy := ky 16 43 true (by decide) rfl dg
          rw [if_pos (by simp [Region.wanted, hy])]
          have t10 : ρ (.tmp 10) = .pointer (some ⟨w5.heap.size, 0, none⟩) := ki 10 (by decide)
          simp [execOp, go_sem, kc, t10]
          exact ⟨hC, Below.refl _ _, rfl⟩
        · intro v W ρ y hC kc kf ks ki ky ku kd
          have dg : v 16 = .bool true := by first | exact kd _ (mem0 rfl) rfl | exact kd _ (mem1 rfl) rfl | exact kd _ (mem2 rfl) rfl | exact kd _ (mem3 rfl) rfl | exact kd _ (mem4 rfl) rfl | exact kd _ (mem5 rfl) rfl
          have hy := ky 16 43 true (by decide) rfl dg
          rw [if_pos (by simp [Region.wanted, hy])]
          have d21 : v 21 = .pointer (some ⟨w5.heap.size, 2, none⟩) := by first | exact kd _ (mem0 rfl) rfl | exact kd _ (mem1 rfl) rfl | exact kd _ (mem2 rfl) rfl | exact kd _ (mem3 rfl) rfl | exact kd _ (mem4 rfl) rfl | exact kd _ (mem5 rfl) rfl
          have t48 : ρ (.tmp 48) = .pointer (some ⟨w5.heap.size, 2, none⟩) := (ks 21 48 (by decide) rfl).trans d21
          have hg := blk_later hGX6.out hC
          have c2 := blk_cell hg 2
          simp at c2
          simp [execOp, go_sem, kc, t48, c2]
          exact ⟨hC, Below.refl _ _, rfl⟩
        · intro v W ρ y hC kc kf ks ki ky ku kd
          have dg : v 16 = .bool true := by first | exact kd _ (mem0 rfl) rfl | exact kd _ (mem1 rfl) rfl | exact kd _ (mem2 rfl) rfl | exact kd _ (mem3 rfl) rfl | exact kd _ (mem4 rfl) rfl | exact kd _ (mem5 rfl) rfl
          have hy := ky 16 43 true (by decide) rfl dg
          rw [if_pos (by simp [Region.wanted, hy])]
          have d20 : v 20 = .int .i64 (headN t.dst s.bits) := by first | exact kd _ (mem0 rfl) rfl | exact kd _ (mem1 rfl) rfl | exact kd _ (mem2 rfl) rfl | exact kd _ (mem3 rfl) rfl | exact kd _ (mem4 rfl) rfl | exact kd _ (mem5 rfl) rfl
          have t47 : ρ (.tmp 47) = .int .i64 (headN t.dst s.bits) := (ks 20 47 (by decide) rfl).trans d20
          have d22 : v 22 = .int .i64 s.net := by first | exact kd _ (mem0 rfl) rfl | exact kd _ (mem1 rfl) rfl | exact kd _ (mem2 rfl) rfl | exact kd _ (mem3 rfl) rfl | exact kd _ (mem4 rfl) rfl | exact kd _ (mem5 rfl) rfl
          have t49 : ρ (.tmp 49) = .int .i64 s.net := (ks 22 49 (by decide) rfl).trans d22
          simp [execOp, go_sem, kc, t47, t49, h4]
          exact ⟨hC, Below.refl _ _, rfl⟩
        · refine stepW_of_u ⟨rfl, fun v W ρ hC kc kf ks ki kd => ?_⟩
          have d16 : v 16 = .bool true := by first | exact kd _ (mem0 rfl) rfl | exact kd _ (mem1 rfl) rfl | exact kd _ (mem2 rfl) rfl | exact kd _ (mem3 rfl) rfl | exact kd _ (mem4 rfl) rfl | exact kd _ (mem5 rfl) rfl
          have t43 : ρ (.tmp 43) = .bool true := (ks 16 43 (by decide) rfl).trans d16
          have d23 : v 23 = .bool hb := by first | exact kd _ (mem0 rfl) rfl | exact kd _ (mem1 rfl) rfl | exact kd _ (mem2 rfl) rfl | exact kd _ (mem3 rfl) rfl | exact kd _ (mem4 rfl) rfl | exact kd _ (mem5 rfl) rfl
          have t50 : ρ (.tmp 50) = .bool hb := (ks 23 50 (by decide) rfl).trans d23
          simp [execOp, go_sem, kc, t43, t50]
          exact ⟨hC, Below.refl _ _, rfl⟩
      intro vD WD hbD hall
      have hvD : vD 24 = .bool hb := hall 24 (by decide)
      simp [upto, Act.put]
      rw [hvD]
      clear hall hvD
      have hGT7 := hidS (blk_later hGT6.out hbD)
      have hGO7 := hidS (blk_later hGO6.out hbD)
      have hGX7 := hidS (blk_later hGX6.out hbD)
      have hL7 := hidS (hL6.out.trans (hbD.mono hL6.out.size))
      clear hbD hGT6 hGO6 hGX6 hL6
      cases hb
      · have HN := HF0.out (by unfold forR; rw [show namedA 2 t = t.dst from rfl, h1, h2, h4]; rfl)
        have HN2 := hidS HN
        clear HN HF0 HF1 hF
        go_wp2_with fail
        go_roundw
        case rel => exact ⟨k + 1, by simp, by omega, HN2, hGT7, hGO7, hL7.out⟩
        case measure => simp [intOf]; omega
      · have E12 := hidS (HF1.out (by unfold forR; rw [show namedA 2 t = t.dst from rfl, h1, h2, h4]; rfl))
        clear HF1 HF0 hF
        have cX0 := blk_cell hGX7.out 0
        have cX1 := blk_cell hGX7.out 1
        have cX2 := blk_cell hGX7.out 2
        have cX3 := blk_cell hGX7.out 3
        have cX4 := blk_cell hGX7.out 4
        have cX5 := blk_cell hGX7.out 5
        have cX6 := blk_cell hGX7.out 6
        simp at cX0 cX1 cX2 cX3 cX4 cX5 cX6
        have kO := blk_cell hGO7.out
        have fO := blk_free hGO7.out
        skip
        go_wp2_with fail
        refine bodyPost_ret (v := .tuple #[.agg #[.int .i64 s.kind, .int .i64 s.proto, .int .i64 s.net, .int .i64 s.bits, .int .i64 s.goal, .int .i64 s.low, .int .i64 s.high], .bool true]) (by simp [results, Try.results82, go_sem, *]) rfl ⟨by rw [E12.out.1, E12.out.2], ?_⟩
        repeat (refine below_at ?_ (by omega))
        exact hL7.out
    · have hge : ¬ (k : Int) < (l.length : Int) := by omega
      obtain rfl : k = l.length := by omega
      have E12 := hidS (first_end hF.out)
      clear hF hlt hk
      have kO := blk_cell hGO5.out
      have fO := blk_free hGO5.out
      go_wp2_with fail
      refine bodyPost_ret (v := .tuple #[.agg #[.int .i64 zeroRl.kind, .int .i64 zeroRl.proto, .int .i64 zeroRl.net, .int .i64 zeroRl.bits, .int .i64 zeroRl.goal, .int .i64 zeroRl.low, .int .i64 zeroRl.high], .bool false]) (by simp [results, Try.results82, go_sem, zeroRl, *]) rfl ⟨by rw [E12.out.1, E12.out.2], ?_⟩
      repeat (refine below_at ?_ (by omega))
      exact hL5.out
end Go.Proofs.Ytilajoafppplcaa
