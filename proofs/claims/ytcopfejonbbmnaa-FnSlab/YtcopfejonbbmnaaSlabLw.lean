/- Proved here: laws.lwNums, lwSlab and lwSlabs of two that are the same answer true; all old memory stays (conditions: their rows can be read; few numbers; without a code the slab is right). -/
import Derived.Test.YtcopfejonbbmnaaSlabRight
import Derived.Test.YtcopfejonbbmnaaGrowCases
namespace Go.Proofs.Ytcopfejonbbmnaa
open Go.ChangeShapes Go.WideShapes Go.ChangeAt Go.RowKit
set_option linter.unusedVariables false
set_option linter.unusedSimpArgs false
set_option maxRecDepth 100000

set_option maxHeartbeats 2000000 in
theorem lwNums_any (a a' : Option Addr) (cap cap' : Nat) (zs : List Int) (w : World) (hR : RowZ a zs w) (hR' : RowZ a' zs w) (hz : zs.length ≤ 1048576) :
    Calls Try.prog 20 #[.slice a zs.length cap, .slice a' zs.length cap'] w fun e w' => e = .returned (.bool true) ∧ Below w.heap.size w w' := by
  have HR := hidS hR
  have HR' := hidS hR'
  clear hR hR'
  go_enter Try.func20, Try.ntmps20
  go_wp2
  go_loopw [5] (fun i wr => ∃ k : Nat, i = .int .i64 (k : Int) ∧ k ≤ zs.length ∧ Below w.heap.size w wr) (fun i _ => (zs.length - (intOf i).toNat))
  case atStart => exact ⟨0, rfl, Nat.zero_le _, Below.refl _ _⟩
  case round =>
    obtain ⟨k, rfl, hk, hb⟩ := hrel
    by_cases hlt : k < zs.length
    · have hlt' : (k : Int) < (zs.length : Int) := by omega
      obtain ⟨b, o, rfl, hbl, hc⟩ := (HR.out.later hb) k hlt
      obtain ⟨b', o', rfl, hbl', hc'⟩ := (HR'.out.later hb) k hlt
      have hb2 := hidS hb
      generalize zs.getD k 0 = z at hc hc'
      clear hb
      go_wp2
      go_quiet (fail)
      go_wp2
      go_roundw
      case rel => exact ⟨k + 1, by simp, by omega, below_drewN hb2.out _⟩
      case measure => simp [intOf]; omega
    · have hge : ¬ (k : Int) < (zs.length : Int) := by omega
      have HB := hidS hb
      clear hb hlt
      go_wp2
      go_ret
      exact ⟨rfl, HB.out⟩
theorem neq_slot (x : Slt) (W : World) : (binOp .neq 42 (.agg #[.int .i64 x.key, .int .i64 x.gen, .int .i64 x.refs, .int .i64 x.next]) (.agg #[.int .i64 x.key, .int .i64 x.gen, .int .i64 x.refs, .int .i64 x.next])).run Try.prog W = .ok (.bool false) W := by
  have e : (Op.equalIn 10000 42 (.agg #[.int .i64 x.key, .int .i64 x.gen, .int .i64 x.refs, .int .i64 x.next]) (.agg #[.int .i64 x.key, .int .i64 x.gen, .int .i64 x.refs, .int .i64 x.next])).run Try.prog W = .ok true W := by
    rw [show (10000 : Nat) = 9999 + 1 from rfl, run_equalIn_struct W 9999 42 _ _ (by kernel_rfl) (by kernel_rfl)]
    unfold Program.fieldsOf
    rw [Try.underlying42]
    have hi : ∀ (d : Nat) (x y : Int) (V : World), (Op.equalIn (d + 1) 2 (.int .i64 x) (.int .i64 y)).run Try.prog V = .ok (x == y) V := fun d x y V => run_equalIn_int V d 2 .i64 .i64 x y Try.underlying2
    rw [show (9999 : Nat) = 9998 + 1 from rfl]
    have q0 : ∀ (V : World), (part 2 #[.int .i64 x.key, .int .i64 x.gen, .int .i64 x.refs, .int .i64 x.next] 0).run Try.prog V = .ok (.int .i64 x.key) V := fun _ => by kernel_rfl
    have q1 : ∀ (V : World), (part 2 #[.int .i64 x.key, .int .i64 x.gen, .int .i64 x.refs, .int .i64 x.next] 1).run Try.prog V = .ok (.int .i64 x.gen) V := fun _ => by kernel_rfl
    have q2 : ∀ (V : World), (part 2 #[.int .i64 x.key, .int .i64 x.gen, .int .i64 x.refs, .int .i64 x.next] 2).run Try.prog V = .ok (.int .i64 x.refs) V := fun _ => by kernel_rfl
    have q3 : ∀ (V : World), (part 2 #[.int .i64 x.key, .int .i64 x.gen, .int .i64 x.refs, .int .i64 x.next] 3).run Try.prog V = .ok (.int .i64 x.next) V := fun _ => by kernel_rfl
    generalize (9998 : Nat) = D at *
    have hb : ∀ z : Int, (z == z) = true := fun z => beq_iff_eq.2 rfl
    simp only [Op.eqFields, q0, q1, q2, q3, hi, hb, Sem.run_ite, Sem.run_bind, Result.andThen_ok, Sem.run_pure, ne_eq, String.reduceEq, not_false_eq_true, if_true, Bool.not_false, Bool.not_true, Bool.false_eq_true, if_false, Bool.and_true, Bool.and_false]
  rw [run_neq_struct, e]
  rfl
set_option maxHeartbeats 4000000 in
theorem lwSlab_some (b2 o2 d2 p2 : Nat) (aH aH' : Option Addr) (c2 c3 e2 e3 : Nat) (s : Slb) (w : World) (hR : SlabZ (some ⟨b2, o2, none⟩) aH s w) (hR' : SlabZ (some ⟨d2, p2, none⟩) aH' s w) (h1 : s.slots.length ≤ 1048576) (h2 : s.heads.length ≤ 1048576) :
    Calls Try.prog 25 #[.agg #[.slice (some ⟨b2, o2, none⟩) s.slots.length c2, .slice aH s.heads.length c3], .agg #[.slice (some ⟨d2, p2, none⟩) s.slots.length e2, .slice aH' s.heads.length e3]] w fun e w' => e = .returned (.bool true) ∧ Below w.heap.size w w' := by
  have HR := hidS hR
  have HR' := hidS hR'
  clear hR hR'
  have HL := hidS (fun W (h : Below w.heap.size w W) => lwNums_any aH aH' c3 e3 s.heads W (HR.out.heads.later h) (HR'.out.heads.later h) h2)
  have hGA0 : Hid (((w.alloc (.cells #[.slice (some ⟨b2, o2, none⟩) s.slots.length c2, .slice aH s.heads.length c3] 26)).alloc (.cells #[.slice (some ⟨d2, p2, none⟩) s.slots.length e2, .slice aH' s.heads.length e3] 26)).heap[w.heap.size]? = some (.cells #[.slice (some ⟨b2, o2, none⟩) s.slots.length c2, .slice aH s.heads.length c3] 26)) := by
    show _ = _
    have := blk_alloc (heap_newG w (.cells #[.slice (some ⟨b2, o2, none⟩) s.slots.length c2, .slice aH s.heads.length c3] 26)) (.cells #[.slice (some ⟨d2, p2, none⟩) s.slots.length e2, .slice aH' s.heads.length e3] 26)
    simpa using this
  have hGU0 : Hid (((w.alloc (.cells #[.slice (some ⟨b2, o2, none⟩) s.slots.length c2, .slice aH s.heads.length c3] 26)).alloc (.cells #[.slice (some ⟨d2, p2, none⟩) s.slots.length e2, .slice aH' s.heads.length e3] 26)).heap[w.heap.size + 1]? = some (.cells #[.slice (some ⟨d2, p2, none⟩) s.slots.length e2, .slice aH' s.heads.length e3] 26)) := by
    show _ = _
    have := heap_newG (w.alloc (.cells #[.slice (some ⟨b2, o2, none⟩) s.slots.length c2, .slice aH s.heads.length c3] 26)) (.cells #[.slice (some ⟨d2, p2, none⟩) s.slots.length e2, .slice aH' s.heads.length e3] 26)
    simpa using this
  have hL0 := hidS (((Below.refl w.heap.size w).alloc (Nat.le_refl _) (.cells #[.slice (some ⟨b2, o2, none⟩) s.slots.length c2, .slice aH s.heads.length c3] 26)).alloc (by simp) (.cells #[.slice (some ⟨d2, p2, none⟩) s.slots.length e2, .slice aH' s.heads.length e3] 26))
  go_enter Try.func25, Try.ntmps25
  go_wp2_with fail
  refine (HL.out _ hL0.out).mono ?_
  rintro _ w1 ⟨rfl, hb1⟩
  have hGA1 := hidS (blk_later hGA0.out hb1)
  have hGU1 := hidS (blk_later hGU0.out hb1)
  have hL1 := hidS (hL0.out.trans (hb1.mono hL0.out.size))
  clear hb1 hL0 hGA0 hGU0
  go_wp2_with fail
  go_loopw [5] (fun i wr => ∃ k : Nat, i = .int .i64 (k : Int) ∧ k ≤ s.slots.length ∧ wr.heap[w.heap.size]? = some (.cells #[.slice (some ⟨b2, o2, none⟩) s.slots.length c2, .slice aH s.heads.length c3] 26) ∧ wr.heap[w.heap.size + 1]? = some (.cells #[.slice (some ⟨d2, p2, none⟩) s.slots.length e2, .slice aH' s.heads.length e3] 26) ∧ Below w.heap.size w wr) (fun i _ => (s.slots.length - (intOf i).toNat))
  case atStart => exact ⟨0, rfl, Nat.zero_le _, hGA1.out, hGU1.out, hL1.out⟩
  case round =>
    obtain ⟨k, rfl, hk, hA, hU, hb⟩ := hrel
    have HA := hidS hA
    have HU := hidS hU
    have HB0 := hidS hb
    clear hGA1 hGU1 hL1
    have a0 := blk_cell hA 0
    simp at a0
    clear hA hU hb
    by_cases hlt : k < s.slots.length
    · have hkk : (0 : Int) ≤ (k : Int) ∧ (k : Int) < (s.slots.length : Int) := by omega
      have HS1 := hidS (fun W (h : Below w.heap.size w W) => (HR.out.slots.later h).slot hlt)
      have HS2 := hidS (fun W (h : Below w.heap.size w W) => (HR'.out.slots.later h).slot hlt)
      generalize s.slots.getD k zeroSlt = x at HS1 HS2
      go_wp2_with fail
      clear a0
      refine grow_guarded 11 [.is (.pointer (some ⟨w.heap.size, 0, none⟩)), .is (.slice (some ⟨b2, o2, none⟩) s.slots.length c2), .is (.int .i64 (k : Int)), .is (.pointer (some ⟨b2, o2 + k * 4, none⟩)), .is (.agg #[.int .i64 x.key, .int .i64 x.gen, .int .i64 x.refs, .int .i64 x.next]), .is (.pointer (some ⟨w.heap.size + 1, 0, none⟩)), .is (.slice (some ⟨d2, p2, none⟩) s.slots.length e2), .is (.int .i64 (k : Int)), .is (.pointer (some ⟨d2, p2 + k * 4, none⟩)), .is (.agg #[.int .i64 x.key, .int .i64 x.gen, .int .i64 x.refs, .int .i64 x.next]), .is (.bool false)] rfl (by kernel_rfl) (by kernel_rfl) ?steps6 ?fin6
      case steps6 =>
        refine ⟨?_, ?_, ?_, ?_, ?_, ?_, ?_, ?_, ?_, ?_, ?_, trivial⟩
        · refine stepW_of_u ⟨rfl, fun v W ρ hC kc kf ks ki kd => ?_⟩
          have t2 : ρ (.tmp 2) = .pointer (some ⟨w.heap.size, 0, none⟩) := ki 2 (by decide)
          simp [execOp, go_sem, kc, t2]
          exact ⟨hC, Below.refl _ _, rfl⟩
        · refine stepW_of_u ⟨rfl, fun v W ρ hC kc kf ks ki kd => ?_⟩
          have d0 : v 0 = .pointer (some ⟨w.heap.size, 0, none⟩) := by first | exact kd _ (mem0 rfl) rfl | exact kd _ (mem1 rfl) rfl | exact kd _ (mem2 rfl) rfl | exact kd _ (mem3 rfl) rfl | exact kd _ (mem4 rfl) rfl | exact kd _ (mem5 rfl) rfl
          have t28 : ρ (.tmp 28) = .pointer (some ⟨w.heap.size, 0, none⟩) := (ks 0 28 (by decide) rfl).trans d0
          have hg := blk_later HA.out hC
          have c0 := blk_cell hg 0
          simp at c0
          simp [execOp, go_sem, kc, t28, c0]
          exact ⟨hC, Below.refl _ _, rfl⟩
        · refine stepW_of_u ⟨rfl, fun v W ρ hC kc kf ks ki kd => ?_⟩
          have t5 : ρ (.tmp 5) = .int .i64 (k : Int) := ki 5 (by decide)
          simp [execOp, go_sem, kc, t5]
          exact ⟨hC, Below.refl _ _, rfl⟩
        · refine stepW_of_u ⟨rfl, fun v W ρ hC kc kf ks ki kd => ?_⟩
          have d1 : v 1 = .slice (some ⟨b2, o2, none⟩) s.slots.length c2 := by first | exact kd _ (mem0 rfl) rfl | exact kd _ (mem1 rfl) rfl | exact kd _ (mem2 rfl) rfl | exact kd _ (mem3 rfl) rfl | exact kd _ (mem4 rfl) rfl | exact kd _ (mem5 rfl) rfl
          have t29 : ρ (.tmp 29) = .slice (some ⟨b2, o2, none⟩) s.slots.length c2 := (ks 1 29 (by decide) rfl).trans d1
          have d2 : v 2 = .int .i64 (k : Int) := by first | exact kd _ (mem0 rfl) rfl | exact kd _ (mem1 rfl) rfl | exact kd _ (mem2 rfl) rfl | exact kd _ (mem3 rfl) rfl | exact kd _ (mem4 rfl) rfl | exact kd _ (mem5 rfl) rfl
          have t30 : ρ (.tmp 30) = .int .i64 (k : Int) := (ks 2 30 (by decide) rfl).trans d2
          simp [execOp, go_sem, kc, t29, t30, hkk]
          exact ⟨hC, Below.refl _ _, rfl⟩
        · refine stepW_of_u ⟨rfl, fun v W ρ hC kc kf ks ki kd => ?_⟩
          have d3 : v 3 = .pointer (some ⟨b2, o2 + k * 4, none⟩) := by first | exact kd _ (mem0 rfl) rfl | exact kd _ (mem1 rfl) rfl | exact kd _ (mem2 rfl) rfl | exact kd _ (mem3 rfl) rfl | exact kd _ (mem4 rfl) rfl | exact kd _ (mem5 rfl) rfl
          have t31 : ρ (.tmp 31) = .pointer (some ⟨b2, o2 + k * 4, none⟩) := (ks 3 31 (by decide) rfl).trans d3
          obtain ⟨b', o', eS, lS, c0, c1, c2', c3'⟩ := HS1.out W (HB0.out.trans (hC.mono HB0.out.size))
          injection eS with eS; injection eS with eS1 eS2
          subst eS1 eS2
          simp [execOp, go_sem, kc, t31, c0, c1, c2', c3']
          exact ⟨hC, Below.refl _ _, rfl⟩
        · refine stepW_of_u ⟨rfl, fun v W ρ hC kc kf ks ki kd => ?_⟩
          have t3 : ρ (.tmp 3) = .pointer (some ⟨w.heap.size + 1, 0, none⟩) := ki 3 (by decide)
          simp [execOp, go_sem, kc, t3]
          exact ⟨hC, Below.refl _ _, rfl⟩
        · refine stepW_of_u ⟨rfl, fun v W ρ hC kc kf ks ki kd => ?_⟩
          have d5 : v 5 = .pointer (some ⟨w.heap.size + 1, 0, none⟩) := by first | exact kd _ (mem0 rfl) rfl | exact kd _ (mem1 rfl) rfl | exact kd _ (mem2 rfl) rfl | exact kd _ (mem3 rfl) rfl | exact kd _ (mem4 rfl) rfl | exact kd _ (mem5 rfl) rfl
          have t33 : ρ (.tmp 33) = .pointer (some ⟨w.heap.size + 1, 0, none⟩) := (ks 5 33 (by decide) rfl).trans d5
          have hg := blk_later HU.out hC
          have c0 := blk_cell hg 0
          simp at c0
          simp [execOp, go_sem, kc, t33, c0]
          exact ⟨hC, Below.refl _ _, rfl⟩
        · refine stepW_of_u ⟨rfl, fun v W ρ hC kc kf ks ki kd => ?_⟩
          have t5 : ρ (.tmp 5) = .int .i64 (k : Int) := ki 5 (by decide)
          simp [execOp, go_sem, kc, t5]
          exact ⟨hC, Below.refl _ _, rfl⟩
        · refine stepW_of_u ⟨rfl, fun v W ρ hC kc kf ks ki kd => ?_⟩
          have d6 : v 6 = .slice (some ⟨d2, p2, none⟩) s.slots.length e2 := by first | exact kd _ (mem0 rfl) rfl | exact kd _ (mem1 rfl) rfl | exact kd _ (mem2 rfl) rfl | exact kd _ (mem3 rfl) rfl | exact kd _ (mem4 rfl) rfl | exact kd _ (mem5 rfl) rfl
          have t34 : ρ (.tmp 34) = .slice (some ⟨d2, p2, none⟩) s.slots.length e2 := (ks 6 34 (by decide) rfl).trans d6
          have d7 : v 7 = .int .i64 (k : Int) := by first | exact kd _ (mem0 rfl) rfl | exact kd _ (mem1 rfl) rfl | exact kd _ (mem2 rfl) rfl | exact kd _ (mem3 rfl) rfl | exact kd _ (mem4 rfl) rfl | exact kd _ (mem5 rfl) rfl
          have t35 : ρ (.tmp 35) = .int .i64 (k : Int) := (ks 7 35 (by decide) rfl).trans d7
          simp [execOp, go_sem, kc, t34, t35, hkk]
          exact ⟨hC, Below.refl _ _, rfl⟩
        · refine stepW_of_u ⟨rfl, fun v W ρ hC kc kf ks ki kd => ?_⟩
          have d8 : v 8 = .pointer (some ⟨d2, p2 + k * 4, none⟩) := by first | exact kd _ (mem0 rfl) rfl | exact kd _ (mem1 rfl) rfl | exact kd _ (mem2 rfl) rfl | exact kd _ (mem3 rfl) rfl | exact kd _ (mem4 rfl) rfl | exact kd _ (mem5 rfl) rfl
          have t36 : ρ (.tmp 36) = .pointer (some ⟨d2, p2 + k * 4, none⟩) := (ks 8 36 (by decide) rfl).trans d8
          obtain ⟨b', o', eS, lS, c0, c1, c2', c3'⟩ := HS2.out W (HB0.out.trans (hC.mono HB0.out.size))
          injection eS with eS; injection eS with eS1 eS2
          subst eS1 eS2
          simp [execOp, go_sem, kc, t36, c0, c1, c2', c3']
          exact ⟨hC, Below.refl _ _, rfl⟩
        · refine stepW_of_u ⟨rfl, fun v W ρ hC kc kf ks ki kd => ?_⟩
          have d4 : v 4 = .agg #[.int .i64 x.key, .int .i64 x.gen, .int .i64 x.refs, .int .i64 x.next] := by first | exact kd _ (mem0 rfl) rfl | exact kd _ (mem1 rfl) rfl | exact kd _ (mem2 rfl) rfl | exact kd _ (mem3 rfl) rfl | exact kd _ (mem4 rfl) rfl | exact kd _ (mem5 rfl) rfl
          have t32 : ρ (.tmp 32) = .agg #[.int .i64 x.key, .int .i64 x.gen, .int .i64 x.refs, .int .i64 x.next] := (ks 4 32 (by decide) rfl).trans d4
          have d9 : v 9 = .agg #[.int .i64 x.key, .int .i64 x.gen, .int .i64 x.refs, .int .i64 x.next] := by first | exact kd _ (mem0 rfl) rfl | exact kd _ (mem1 rfl) rfl | exact kd _ (mem2 rfl) rfl | exact kd _ (mem3 rfl) rfl | exact kd _ (mem4 rfl) rfl | exact kd _ (mem5 rfl) rfl
          have t37 : ρ (.tmp 37) = .agg #[.int .i64 x.key, .int .i64 x.gen, .int .i64 x.refs, .int .i64 x.next] := (ks 9 37 (by decide) rfl).trans d9
          have eg : Try.prog.eqGuardType Try.prog.depth 42 = false := by kernel_rfl
          have e1 := neq_slot x W
          simp only [execOp, t32, t37, Sem.run_bind, run_eqGuard_agg, eg, e1, Result.andThen_ok, Sem.run_pure]
          exact ⟨hC, Below.refl _ _, rfl⟩
      intro v6 W6 hb6 hall
      have hv6 : v6 10 = .bool false := hall 10 (by decide)
      simp [upto, Act.put]
      rw [hv6]
      clear hall hv6
      have hA2 := hidS (blk_later HA.out hb6)
      have hU2 := hidS (blk_later HU.out hb6)
      have hB2 := hidS (HB0.out.trans (hb6.mono HB0.out.size))
      clear hb6
      go_wp2_with fail
      go_roundw
      case rel => exact ⟨k + 1, by simp, by omega, hA2.out, hU2.out, hB2.out⟩
      case measure => simp [intOf]; omega
    · have hge : ¬ (k : Int) < (s.slots.length : Int) := by omega
      clear hlt
      go_wp2_with fail
      go_ret
      exact ⟨rfl, HB0.out⟩
set_option maxHeartbeats 2000000 in
theorem lwSlab_any (aS aS' aH aH' : Option Addr) (c2 c3 e2 e3 : Nat) (s : Slb) (w : World) (hR : SlabZ aS aH s w) (hR' : SlabZ aS' aH' s w) (h1 : s.slots.length ≤ 1048576) (h2 : s.heads.length ≤ 1048576) :
    Calls Try.prog 25 #[.agg #[.slice aS s.slots.length c2, .slice aH s.heads.length c3], .agg #[.slice aS' s.slots.length e2, .slice aH' s.heads.length e3]] w fun e w' => e = .returned (.bool true) ∧ Below w.heap.size w w' := by
  by_cases hs : 0 < s.slots.length
  · obtain ⟨b2, o2, rfl, _⟩ := hR.slots.slot hs
    obtain ⟨d2, p2, rfl, _⟩ := hR'.slots.slot hs
    exact lwSlab_some b2 o2 d2 p2 aH aH' c2 c3 e2 e3 s w hR hR' h1 h2
  have HL := hidS (fun W (h : Below w.heap.size w W) => lwNums_any aH aH' c3 e3 s.heads W (hR.heads.later h) (hR'.heads.later h) h2)
  clear hR hR'
  have hz : s.slots.length = 0 := by omega
  rw [hz]
  clear hs h1 hz
  have hGA0 : Hid (((w.alloc (.cells #[.slice aS 0 c2, .slice aH s.heads.length c3] 26)).alloc (.cells #[.slice aS' 0 e2, .slice aH' s.heads.length e3] 26)).heap[w.heap.size]? = some (.cells #[.slice aS 0 c2, .slice aH s.heads.length c3] 26)) := by
    show _ = _
    have := blk_alloc (heap_newG w (.cells #[.slice aS 0 c2, .slice aH s.heads.length c3] 26)) (.cells #[.slice aS' 0 e2, .slice aH' s.heads.length e3] 26)
    simpa using this
  have hGU0 : Hid (((w.alloc (.cells #[.slice aS 0 c2, .slice aH s.heads.length c3] 26)).alloc (.cells #[.slice aS' 0 e2, .slice aH' s.heads.length e3] 26)).heap[w.heap.size + 1]? = some (.cells #[.slice aS' 0 e2, .slice aH' s.heads.length e3] 26)) := by
    show _ = _
    have := heap_newG (w.alloc (.cells #[.slice aS 0 c2, .slice aH s.heads.length c3] 26)) (.cells #[.slice aS' 0 e2, .slice aH' s.heads.length e3] 26)
    simpa using this
  have hL0 := hidS (((Below.refl w.heap.size w).alloc (Nat.le_refl _) (.cells #[.slice aS 0 c2, .slice aH s.heads.length c3] 26)).alloc (by simp) (.cells #[.slice aS' 0 e2, .slice aH' s.heads.length e3] 26))
  go_enter Try.func25, Try.ntmps25
  go_wp2_with fail
  refine (HL.out _ hL0.out).mono ?_
  rintro _ w1 ⟨rfl, hb1⟩
  have hGA1 := hidS (blk_later hGA0.out hb1)
  have hGU1 := hidS (blk_later hGU0.out hb1)
  have hL1 := hidS (hL0.out.trans (hb1.mono hL0.out.size))
  clear hb1 hL0 hGA0 hGU0
  have hGA2 := hGA1
  go_wp2_with fail
  go_loopw [5] (fun i wr => i = .int .i64 0 ∧ wr = w1) (fun _ _ => 0)
  case atStart => exact ⟨rfl, rfl⟩
  case round =>
    obtain ⟨rfl, rfl⟩ := hrel
    have a0 := blk_cell hGA1.out 0
    simp at a0
    go_wp2_with fail
    go_ret
    exact ⟨rfl, hL1.out⟩
set_option maxHeartbeats 4000000 in
theorem lwSlabs_any (aS aS' aH aH' : Option Addr) (c2 c3 e2 e3 : Nat) (s : Slb) (at1 c : Int) (w : World) (hR : SlabZ aS aH s w) (hR' : SlabZ aS' aH' s w) (h1 : s.slots.length ≤ 1048576) (h2 : s.heads.length ≤ 1048576) (hc : c = 0 → rightSl s = true) :
    Calls Try.prog 14 #[.agg #[.slice aS s.slots.length c2, .slice aH s.heads.length c3, .int .i64 at1, .int .i64 c], .agg #[.slice aS' s.slots.length e2, .slice aH' s.heads.length e3, .int .i64 at1, .int .i64 c]] w fun e w' => e = .returned (.bool true) ∧ Below w.heap.size w w' := by
  have HL := hidS (fun W (h : Below w.heap.size w W) => lwSlab_any aS aS' aH aH' c2 c3 e2 e3 s W (hR.later h) (hR'.later h) h1 h2)
  have HS := hidS (fun W (h : Below w.heap.size w W) => specSlabRight_any aS aH c2 c3 s W (hR.later h) h1 h2)
  clear hR hR'
  by_cases h0 : c = 0
  · have hn : (c != 0) = false := by rw [h0]; rfl
    rw [hc h0] at HS
    clear h0 hc
    have hGA0 : Hid (((w.alloc (.cells #[.slice aS s.slots.length c2, .slice aH s.heads.length c3, .int .i64 at1, .int .i64 c] 30)).alloc (.cells #[.slice aS' s.slots.length e2, .slice aH' s.heads.length e3, .int .i64 at1, .int .i64 c] 30)).heap[w.heap.size]? = some (.cells #[.slice aS s.slots.length c2, .slice aH s.heads.length c3, .int .i64 at1, .int .i64 c] 30)) := by
      show _ = _
      have := blk_alloc (heap_newG w (.cells #[.slice aS s.slots.length c2, .slice aH s.heads.length c3, .int .i64 at1, .int .i64 c] 30)) (.cells #[.slice aS' s.slots.length e2, .slice aH' s.heads.length e3, .int .i64 at1, .int .i64 c] 30)
      simpa using this
    have hGU0 : Hid (((w.alloc (.cells #[.slice aS s.slots.length c2, .slice aH s.heads.length c3, .int .i64 at1, .int .i64 c] 30)).alloc (.cells #[.slice aS' s.slots.length e2, .slice aH' s.heads.length e3, .int .i64 at1, .int .i64 c] 30)).heap[w.heap.size + 1]? = some (.cells #[.slice aS' s.slots.length e2, .slice aH' s.heads.length e3, .int .i64 at1, .int .i64 c] 30)) := by
      show _ = _
      have := heap_newG (w.alloc (.cells #[.slice aS s.slots.length c2, .slice aH s.heads.length c3, .int .i64 at1, .int .i64 c] 30)) (.cells #[.slice aS' s.slots.length e2, .slice aH' s.heads.length e3, .int .i64 at1, .int .i64 c] 30)
      simpa using this
    have hL0 := hidS (((Below.refl w.heap.size w).alloc (Nat.le_refl _) (.cells #[.slice aS s.slots.length c2, .slice aH s.heads.length c3, .int .i64 at1, .int .i64 c] 30)).alloc (by simp) (.cells #[.slice aS' s.slots.length e2, .slice aH' s.heads.length e3, .int .i64 at1, .int .i64 c] 30))
    go_enter Try.func14, Try.ntmps14
    go_wp2_with fail
    refine (HL.out _ hL0.out).mono ?_
    rintro _ w1 ⟨rfl, hb1⟩
    have hGA1 := hidS (blk_later hGA0.out hb1)
    have hGU1 := hidS (blk_later hGU0.out hb1)
    have hL1 := hidS (hL0.out.trans (hb1.mono hL0.out.size))
    clear hb1 hL0 hGA0 hGU0
    have cA0 := blk_cell hGA1.out 0
    have cA1 := blk_cell hGA1.out 1
    have cA2 := blk_cell hGA1.out 2
    have cA3 := blk_cell hGA1.out 3
    simp at cA0 cA1 cA2 cA3
    go_wp2_with fail
    refine (HS.out _ hL1.out).mono ?_
    rintro _ w2 ⟨rfl, hb2⟩
    clear cA0 cA1 cA2 cA3
    have hGA2 := hidS (blk_later hGA1.out hb2)
    have hGU2 := hidS (blk_later hGU1.out hb2)
    have hL2 := hidS (hL1.out.trans (hb2.mono hL1.out.size))
    clear hb2 hL1 hGA1 hGU1
    go_wp2_with fail
    go_ret
    exact ⟨rfl, hL2.out⟩
  · have hn : (c != 0) = true := bne_iff_ne.2 h0
    clear h0 hc
    have hGA0 : Hid (((w.alloc (.cells #[.slice aS s.slots.length c2, .slice aH s.heads.length c3, .int .i64 at1, .int .i64 c] 30)).alloc (.cells #[.slice aS' s.slots.length e2, .slice aH' s.heads.length e3, .int .i64 at1, .int .i64 c] 30)).heap[w.heap.size]? = some (.cells #[.slice aS s.slots.length c2, .slice aH s.heads.length c3, .int .i64 at1, .int .i64 c] 30)) := by
      show _ = _
      have := blk_alloc (heap_newG w (.cells #[.slice aS s.slots.length c2, .slice aH s.heads.length c3, .int .i64 at1, .int .i64 c] 30)) (.cells #[.slice aS' s.slots.length e2, .slice aH' s.heads.length e3, .int .i64 at1, .int .i64 c] 30)
      simpa using this
    have hGU0 : Hid (((w.alloc (.cells #[.slice aS s.slots.length c2, .slice aH s.heads.length c3, .int .i64 at1, .int .i64 c] 30)).alloc (.cells #[.slice aS' s.slots.length e2, .slice aH' s.heads.length e3, .int .i64 at1, .int .i64 c] 30)).heap[w.heap.size + 1]? = some (.cells #[.slice aS' s.slots.length e2, .slice aH' s.heads.length e3, .int .i64 at1, .int .i64 c] 30)) := by
      show _ = _
      have := heap_newG (w.alloc (.cells #[.slice aS s.slots.length c2, .slice aH s.heads.length c3, .int .i64 at1, .int .i64 c] 30)) (.cells #[.slice aS' s.slots.length e2, .slice aH' s.heads.length e3, .int .i64 at1, .int .i64 c] 30)
      simpa using this
    have hL0 := hidS (((Below.refl w.heap.size w).alloc (Nat.le_refl _) (.cells #[.slice aS s.slots.length c2, .slice aH s.heads.length c3, .int .i64 at1, .int .i64 c] 30)).alloc (by simp) (.cells #[.slice aS' s.slots.length e2, .slice aH' s.heads.length e3, .int .i64 at1, .int .i64 c] 30))
    go_enter Try.func14, Try.ntmps14
    go_wp2_with fail
    refine (HL.out _ hL0.out).mono ?_
    rintro _ w1 ⟨rfl, hb1⟩
    have hGA1 := hidS (blk_later hGA0.out hb1)
    have hGU1 := hidS (blk_later hGU0.out hb1)
    have hL1 := hidS (hL0.out.trans (hb1.mono hL0.out.size))
    clear hb1 hL0 hGA0 hGU0
    have cA0 := blk_cell hGA1.out 0
    have cA1 := blk_cell hGA1.out 1
    have cA2 := blk_cell hGA1.out 2
    have cA3 := blk_cell hGA1.out 3
    simp at cA0 cA1 cA2 cA3
    go_wp2_with fail
    go_ret
    exact ⟨rfl, hL1.out⟩
end Go.Proofs.Ytcopfejonbbmnaa
