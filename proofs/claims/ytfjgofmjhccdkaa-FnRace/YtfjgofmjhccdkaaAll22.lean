/- Proved here: laws.lwNums and lwSlab of two that are the same answer true; all old memory stays (conditions: their rows can be read; few numbers). · Proved here: spec.l06Linked answers whether a slot of a right slab is linked; all old memory stays (conditions: the slab's rows can be read). -/
import Derived.Test.YtfjgofmjhccdkaaSlabRight
import Derived.Test.YtfjgofmjhccdkaaAll2
import Derived.Test.YtfjgofmjhccdkaaAll10
import Derived.Test.YtfjgofmjhccdkaaSlabFindS
section
namespace Go.Proofs.Ytfjgofmjhccdkaa
open Go.ChangeShapes Go.WideShapes Go.ChangeAt Go.RowKit
set_option linter.unusedVariables false
set_option linter.unusedSimpArgs false
set_option maxRecDepth 100000

set_option maxHeartbeats 2000000 in
theorem lwNums_any (a a' : Option Addr) (cap cap' : Nat) (zs : List Int) (w : World) (hR : RowZ a zs w) (hR' : RowZ a' zs w) (hz : zs.length ≤ 1048576) :
    Calls Try.prog 67 #[.slice a zs.length cap, .slice a' zs.length cap'] w fun e w' => e = .returned (.bool true) ∧ Below w.heap.size w w' := by
  have HR := hidS hR
  have HR' := hidS hR'
  clear hR hR'
  go_enter Try.func67, Try.ntmps67
  go_wp2
  go_loopw [5] (fun i wr => ∃ k : Nat, i = .int .i64 (k : Int) ∧ k ≤ zs.length ∧ Below w.heap.size w wr) (fun i _ => (zs.length - (intOf i).toNat))
  case atStart => exact ⟨0, rfl, Nat.zero_le _, Below.refl _ _⟩
  case round =>
    obtain ⟨k, rfl, hk, hb⟩ := hrel
    by_cases hlt : k < zs.length
    · have hlt' : (k : Int) < (zs.length : Int) := by omega
      obtain ⟨b, o, rfl, hbl, hc⟩ := (HR.out.later hb) k hlt
      obtain ⟨b', o', rfl, hbl', hc'⟩ := (HR'.out.later hb) k hlt
      have hb2 := hidS hb
      generalize zs.getD k 0 = z at hc hc'
      clear hb
      go_wp2
      go_quiet (fail)
      go_wp2
      go_roundw
      case rel => exact ⟨k + 1, by simp, by omega, below_drewN hb2.out _⟩
      case measure => simp [intOf]; omega
    · have hge : ¬ (k : Int) < (zs.length : Int) := by omega
      have HB := hidS hb
      clear hb hlt
      go_wp2
      go_ret
      exact ⟨rfl, HB.out⟩
theorem neq_slot (x : Slt) (W : World) : (binOp .neq 45 (.agg #[.int .i64 x.key, .int .i64 x.gen, .int .i64 x.refs, .int .i64 x.next]) (.agg #[.int .i64 x.key, .int .i64 x.gen, .int .i64 x.refs, .int .i64 x.next])).run Try.prog W = .ok (.bool false) W := by
  have e : (Op.equalIn 10000 45 (.agg #[.int .i64 x.key, .int .i64 x.gen, .int .i64 x.refs, .int .i64 x.next]) (.agg #[.int .i64 x.key, .int .i64 x.gen, .int .i64 x.refs, .int .i64 x.next])).run Try.prog W = .ok true W := by
    rw [show (10000 : Nat) = 9999 + 1 from rfl, run_equalIn_struct W 9999 45 _ _ (by kernel_rfl) (by kernel_rfl)]
    unfold Program.fieldsOf
    rw [Try.underlying45]
    have hi : ∀ (d : Nat) (x y : Int) (V : World), (Op.equalIn (d + 1) 2 (.int .i64 x) (.int .i64 y)).run Try.prog V = .ok (x == y) V := fun d x y V => run_equalIn_int V d 2 .i64 .i64 x y Try.underlying2
    rw [show (9999 : Nat) = 9998 + 1 from rfl]
    have q0 : ∀ (V : World), (part 2 #[.int .i64 x.key, .int .i64 x.gen, .int .i64 x.refs, .int .i64 x.next] 0).run Try.prog V = .ok (.int .i64 x.key) V := fun _ => by kernel_rfl
    have q1 : ∀ (V : World), (part 2 #[.int .i64 x.key, .int .i64 x.gen, .int .i64 x.refs, .int .i64 x.next] 1).run Try.prog V = .ok (.int .i64 x.gen) V := fun _ => by kernel_rfl
    have q2 : ∀ (V : World), (part 2 #[.int .i64 x.key, .int .i64 x.gen, .int .i64 x.refs, .int .i64 x.next] 2).run Try.prog V = .ok (.int .i64 x.refs) V := fun _ => by kernel_rfl
    have q3 : ∀ (V : World), (part 2 #[.int .i64 x.key, .int .i64 x.gen, .int .i64 x.refs, .int .i64 x.next] 3).run Try.prog V = .ok (.int .i64 x.next) V := fun _ => by kernel_rfl
    generalize (9998 : Nat) = D at *
    have hb : ∀ z : Int, (z == z) = true := fun z => beq_iff_eq.2 rfl
    simp only [Op.eqFields, q0, q1, q2, q3, hi, hb, Sem.run_ite, Sem.run_bind, Result.andThen_ok, Sem.run_pure, ne_eq, String.reduceEq, not_false_eq_true, if_true, Bool.not_false, Bool.not_true, Bool.false_eq_true, if_false, Bool.and_true, Bool.and_false]
  rw [run_neq_struct, e]
  rfl
set_option maxHeartbeats 4000000 in
theorem lwSlab_some (b2 o2 d2 p2 : Nat) (aH aH' : Option Addr) (c2 c3 e2 e3 : Nat) (s : Slb) (w : World) (hR : SlabZ (some ⟨b2, o2, none⟩) aH s w) (hR' : SlabZ (some ⟨d2, p2, none⟩) aH' s w) (h1 : s.slots.length ≤ 1048576) (h2 : s.heads.length ≤ 1048576) :
    Calls Try.prog 19 #[.agg #[.slice (some ⟨b2, o2, none⟩) s.slots.length c2, .slice aH s.heads.length c3], .agg #[.slice (some ⟨d2, p2, none⟩) s.slots.length e2, .slice aH' s.heads.length e3]] w fun e w' => e = .returned (.bool true) ∧ Below w.heap.size w w' := by
  have HR := hidS hR
  have HR' := hidS hR'
  clear hR hR'
  have HL := hidS (fun W (h : Below w.heap.size w W) => lwNums_any aH aH' c3 e3 s.heads W (HR.out.heads.later h) (HR'.out.heads.later h) h2)
  have hGA0 : Hid (((w.alloc (.cells #[.slice (some ⟨b2, o2, none⟩) s.slots.length c2, .slice aH s.heads.length c3] 26)).alloc (.cells #[.slice (some ⟨d2, p2, none⟩) s.slots.length e2, .slice aH' s.heads.length e3] 26)).heap[w.heap.size]? = some (.cells #[.slice (some ⟨b2, o2, none⟩) s.slots.length c2, .slice aH s.heads.length c3] 26)) := by
    show _ = _
    have := blk_alloc (heap_newG w (.cells #[.slice (some ⟨b2, o2, none⟩) s.slots.length c2, .slice aH s.heads.length c3] 26)) (.cells #[.slice (some ⟨d2, p2, none⟩) s.slots.length e2, .slice aH' s.heads.length e3] 26)
    simpa using this
  have hGU0 : Hid (((w.alloc (.cells #[.slice (some ⟨b2, o2, none⟩) s.slots.length c2, .slice aH s.heads.length c3] 26)).alloc (.cells #[.slice (some ⟨d2, p2, none⟩) s.slots.length e2, .slice aH' s.heads.length e3] 26)).heap[w.heap.size + 1]? = some (.cells #[.slice (some ⟨d2, p2, none⟩) s.slots.length e2, .slice aH' s.heads.length e3] 26)) := by
    show _ = _
    have := heap_newG (w.alloc (.cells #[.slice (some ⟨b2, o2, none⟩) s.slots.length c2, .slice aH s.heads.length c3] 26)) (.cells #[.slice (some ⟨d2, p2, none⟩) s.slots.length e2, .slice aH' s.heads.length e3] 26)
    simpa using this
  have hL0 := hidS (((Below.refl w.heap.size w).alloc (Nat.le_refl _) (.cells #[.slice (some ⟨b2, o2, none⟩) s.slots.length c2, .slice aH s.heads.length c3] 26)).alloc (by simp) (.cells #[.slice (some ⟨d2, p2, none⟩) s.slots.length e2, .slice aH' s.heads.length e3] 26))
  go_enter Try.func19, Try.ntmps19
  go_wp2_with fail
  refine (HL.out _ hL0.out).mono ?_
  rintro _ w1 ⟨rfl, hb1⟩
  have hGA1 := hidS (blk_later hGA0.out hb1)
  have hGU1 := hidS (blk_later hGU0.out hb1)
  have hL1 := hidS (hL0.out.trans (hb1.mono hL0.out.size))
  clear hb1 hL0 hGA0 hGU0
  go_wp2_with fail
  go_loopw [5] (fun i wr => ∃ k : Nat, i = .int .i64 (k : Int) ∧ k ≤ s.slots.length ∧ wr.heap[w.heap.size]? = some (.cells #[.slice (some ⟨b2, o2, none⟩) s.slots.length c2, .slice aH s.heads.length c3] 26) ∧ wr.heap[w.heap.size + 1]? = some (.cells #[.slice (some ⟨d2, p2, none⟩) s.slots.length e2, .slice aH' s.heads.length e3] 26) ∧ Below w.heap.size w wr) (fun i _ => (s.slots.length - (intOf i).toNat))
  case atStart => exact ⟨0, rfl, Nat.zero_le _, hGA1.out, hGU1.out, hL1.out⟩
  case round =>
    obtain ⟨k, rfl, hk, hA, hU, hb⟩ := hrel
    have HA := hidS hA
    have HU := hidS hU
    have HB0 := hidS hb
    clear hGA1 hGU1 hL1
    have a0 := blk_cell hA 0
    simp at a0
    clear hA hU hb
    by_cases hlt : k < s.slots.length
    · have hkk : (0 : Int) ≤ (k : Int) ∧ (k : Int) < (s.slots.length : Int) := by omega
      have HS1 := hidS (fun W (h : Below w.heap.size w W) => (HR.out.slots.later h).slot hlt)
      have HS2 := hidS (fun W (h : Below w.heap.size w W) => (HR'.out.slots.later h).slot hlt)
      generalize s.slots.getD k zeroSlt = x at HS1 HS2
      go_wp2_with fail
      clear a0
      refine grow_guarded 11 [.is (.pointer (some ⟨w.heap.size, 0, none⟩)), .is (.slice (some ⟨b2, o2, none⟩) s.slots.length c2), .is (.int .i64 (k : Int)), .is (.pointer (some ⟨b2, o2 + k * 4, none⟩)), .is (.agg #[.int .i64 x.key, .int .i64 x.gen, .int .i64 x.refs, .int .i64 x.next]), .is (.pointer (some ⟨w.heap.size + 1, 0, none⟩)), .is (.slice (some ⟨d2, p2, none⟩) s.slots.length e2), .is (.int .i64 (k : Int)), .is (.pointer (some ⟨d2, p2 + k * 4, none⟩)), .is (.agg #[.int .i64 x.key, .int .i64 x.gen, .int .i64 x.refs, .int .i64 x.next]), .is (.bool false)] rfl (by kernel_rfl) (by kernel_rfl) ?steps6 ?fin6
      case steps6 =>
        refine ⟨?_, ?_, ?_, ?_, ?_, ?_, ?_, ?_, ?_, ?_, ?_, trivial⟩
        · refine stepW_of_u ⟨rfl, fun v W ρ hC kc kf ks ki kd => ?_⟩
          have t2 : ρ (.tmp 2) = .pointer (some ⟨w.heap.size, 0, none⟩) := ki 2 (by decide)
          simp [execOp, go_sem, kc, t2]
          exact ⟨hC, Below.refl _ _, rfl⟩
        · refine stepW_of_u ⟨rfl, fun v W ρ hC kc kf ks ki kd => ?_⟩
          have d0 : v 0 = .pointer (some ⟨w.heap.size, 0, none⟩) := (kdj kd 0 rfl :)
          have t28 : ρ (.tmp 28) = .pointer (some ⟨w.heap.size, 0, none⟩) := (ks 0 28 (by decide) rfl).trans d0
          have hg := blk_later HA.out hC
          have c0 := blk_cell hg 0
          simp at c0
          simp [execOp, go_sem, kc, t28, c0]
          exact ⟨hC, Below.refl _ _, rfl⟩
        · refine stepW_of_u ⟨rfl, fun v W ρ hC kc kf ks ki kd => ?_⟩
          have t5 : ρ (.tmp 5) = .int .i64 (k : Int) := ki 5 (by decide)
          simp [execOp, go_sem, kc, t5]
          exact ⟨hC, Below.refl _ _, rfl⟩
        · refine stepW_of_u ⟨rfl, fun v W ρ hC kc kf ks ki kd => ?_⟩
          have d1 : v 1 = .slice (some ⟨b2, o2, none⟩) s.slots.length c2 := (kdj kd 1 rfl :)
          have t29 : ρ (.tmp 29) = .slice (some ⟨b2, o2, none⟩) s.slots.length c2 := (ks 1 29 (by decide) rfl).trans d1
          have d2 : v 2 = .int .i64 (k : Int) := (kdj kd 2 rfl :)
          have t30 : ρ (.tmp 30) = .int .i64 (k : Int) := (ks 2 30 (by decide) rfl).trans d2
          simp [execOp, go_sem, kc, t29, t30, hkk]
          exact ⟨hC, Below.refl _ _, rfl⟩
        · refine stepW_of_u ⟨rfl, fun v W ρ hC kc kf ks ki kd => ?_⟩
          have d3 : v 3 = .pointer (some ⟨b2, o2 + k * 4, none⟩) := (kdj kd 3 rfl :)
          have t31 : ρ (.tmp 31) = .pointer (some ⟨b2, o2 + k * 4, none⟩) := (ks 3 31 (by decide) rfl).trans d3
          obtain ⟨b', o', eS, lS, c0, c1, c2', c3'⟩ := HS1.out W (HB0.out.trans (hC.mono HB0.out.size))
          injection eS with eS; injection eS with eS1 eS2
          subst eS1 eS2
          simp [execOp, go_sem, kc, t31, c0, c1, c2', c3']
          exact ⟨hC, Below.refl _ _, rfl⟩
        · refine stepW_of_u ⟨rfl, fun v W ρ hC kc kf ks ki kd => ?_⟩
          have t3 : ρ (.tmp 3) = .pointer (some ⟨w.heap.size + 1, 0, none⟩) := ki 3 (by decide)
          simp [execOp, go_sem, kc, t3]
          exact ⟨hC, Below.refl _ _, rfl⟩
        · refine stepW_of_u ⟨rfl, fun v W ρ hC kc kf ks ki kd => ?_⟩
          have d5 : v 5 = .pointer (some ⟨w.heap.size + 1, 0, none⟩) := (kdj kd 5 rfl :)
          have t33 : ρ (.tmp 33) = .pointer (some ⟨w.heap.size + 1, 0, none⟩) := (ks 5 33 (by decide) rfl).trans d5
          have hg := blk_later HU.out hC
          have c0 := blk_cell hg 0
          simp at c0
          simp [execOp, go_sem, kc, t33, c0]
          exact ⟨hC, Below.refl _ _, rfl⟩
        · refine stepW_of_u ⟨rfl, fun v W ρ hC kc kf ks ki kd => ?_⟩
          have t5 : ρ (.tmp 5) = .int .i64 (k : Int) := ki 5 (by decide)
          simp [execOp, go_sem, kc, t5]
          exact ⟨hC, Below.refl _ _, rfl⟩
        · refine stepW_of_u ⟨rfl, fun v W ρ hC kc kf ks ki kd => ?_⟩
          have d6 : v 6 = .slice (some ⟨d2, p2, none⟩) s.slots.length e2 := (kdj kd 6 rfl :)
          have t34 : ρ (.tmp 34) = .slice (some ⟨d2, p2, none⟩) s.slots.length e2 := (ks 6 34 (by decide) rfl).trans d6
          have d7 : v 7 = .int .i64 (k : Int) := (kdj kd 7 rfl :)
          have t35 : ρ (.tmp 35) = .int .i64 (k : Int) := (ks 7 35 (by decide) rfl).trans d7
          simp [execOp, go_sem, kc, t34, t35, hkk]
          exact ⟨hC, Below.refl _ _, rfl⟩
        · refine stepW_of_u ⟨rfl, fun v W ρ hC kc kf ks ki kd => ?_⟩
          have d8 : v 8 = .pointer (some ⟨d2, p2 + k * 4, none⟩) := (kdj kd 8 rfl :)
          have t36 : ρ (.tmp 36) = .pointer (some ⟨d2, p2 + k * 4, none⟩) := (ks 8 36 (by decide) rfl).trans d8
          obtain ⟨b', o', eS, lS, c0, c1, c2', c3'⟩ := HS2.out W (HB0.out.trans (hC.mono HB0.out.size))
          injection eS with eS; injection eS with eS1 eS2
          subst eS1 eS2
          simp [execOp, go_sem, kc, t36, c0, c1, c2', c3']
          exact ⟨hC, Below.refl _ _, rfl⟩
        · refine stepW_of_u ⟨rfl, fun v W ρ hC kc kf ks ki kd => ?_⟩
          have d4 : v 4 = .agg #[.int .i64 x.key, .int .i64 x.gen, .int .i64 x.refs, .int .i64 x.next] := (kdj kd 4 rfl :)
          have t32 : ρ (.tmp 32) = .agg #[.int .i64 x.key, .int .i64 x.gen, .int .i64 x.refs, .int .i64 x.next] := (ks 4 32 (by decide) rfl).trans d4
          have d9 : v 9 = .agg #[.int .i64 x.key, .int .i64 x.gen, .int .i64 x.refs, .int .i64 x.next] := (kdj kd 9 rfl :)
          have t37 : ρ (.tmp 37) = .agg #[.int .i64 x.key, .int .i64 x.gen, .int .i64 x.refs, .int .i64 x.next] := (ks 9 37 (by decide) rfl).trans d9
          have eg : Try.prog.eqGuardType Try.prog.depth 45 = false := by kernel_rfl
          have e1 := neq_slot x W
          simp only [execOp, t32, t37, Sem.run_bind, run_eqGuard_agg, eg, e1, Result.andThen_ok, Sem.run_pure]
          exact ⟨hC, Below.refl _ _, rfl⟩
      intro v6 W6 hb6 hall
      have hv6 : v6 10 = .bool false := hall 10 (by decide)
      simp [upto, Act.put]
      rw [hv6]
      clear hall hv6
      have hA2 := hidS (blk_later HA.out hb6)
      have hU2 := hidS (blk_later HU.out hb6)
      have hB2 := hidS (HB0.out.trans (hb6.mono HB0.out.size))
      clear hb6
      go_wp2_with fail
      go_roundw
      case rel => exact ⟨k + 1, by simp, by omega, hA2.out, hU2.out, hB2.out⟩
      case measure => simp [intOf]; omega
    · have hge : ¬ (k : Int) < (s.slots.length : Int) := by omega
      clear hlt
      go_wp2_with fail
      go_ret
      exact ⟨rfl, HB0.out⟩
set_option maxHeartbeats 2000000 in
theorem lwSlab_any (aS aS' aH aH' : Option Addr) (c2 c3 e2 e3 : Nat) (s : Slb) (w : World) (hR : SlabZ aS aH s w) (hR' : SlabZ aS' aH' s w) (h1 : s.slots.length ≤ 1048576) (h2 : s.heads.length ≤ 1048576) :
    Calls Try.prog 19 #[.agg #[.slice aS s.slots.length c2, .slice aH s.heads.length c3], .agg #[.slice aS' s.slots.length e2, .slice aH' s.heads.length e3]] w fun e w' => e = .returned (.bool true) ∧ Below w.heap.size w w' := by
  by_cases hs : 0 < s.slots.length
  · obtain ⟨b2, o2, rfl, _⟩ := hR.slots.slot hs
    obtain ⟨d2, p2, rfl, _⟩ := hR'.slots.slot hs
    exact lwSlab_some b2 o2 d2 p2 aH aH' c2 c3 e2 e3 s w hR hR' h1 h2
  have HL := hidS (fun W (h : Below w.heap.size w W) => lwNums_any aH aH' c3 e3 s.heads W (hR.heads.later h) (hR'.heads.later h) h2)
  clear hR hR'
  have hz : s.slots.length = 0 := by omega
  rw [hz]
  clear hs h1 hz
  have hGA0 : Hid (((w.alloc (.cells #[.slice aS 0 c2, .slice aH s.heads.length c3] 26)).alloc (.cells #[.slice aS' 0 e2, .slice aH' s.heads.length e3] 26)).heap[w.heap.size]? = some (.cells #[.slice aS 0 c2, .slice aH s.heads.length c3] 26)) := by
    show _ = _
    have := blk_alloc (heap_newG w (.cells #[.slice aS 0 c2, .slice aH s.heads.length c3] 26)) (.cells #[.slice aS' 0 e2, .slice aH' s.heads.length e3] 26)
    simpa using this
  have hGU0 : Hid (((w.alloc (.cells #[.slice aS 0 c2, .slice aH s.heads.length c3] 26)).alloc (.cells #[.slice aS' 0 e2, .slice aH' s.heads.length e3] 26)).heap[w.heap.size + 1]? = some (.cells #[.slice aS' 0 e2, .slice aH' s.heads.length e3] 26)) := by
    show _ = _
    have := heap_newG (w.alloc (.cells #[.slice aS 0 c2, .slice aH s.heads.length c3] 26)) (.cells #[.slice aS' 0 e2, .slice aH' s.heads.length e3] 26)
    simpa using this
  have hL0 := hidS (((Below.refl w.heap.size w).alloc (Nat.le_refl _) (.cells #[.slice aS 0 c2, .slice aH s.heads.length c3] 26)).alloc (by simp) (.cells #[.slice aS' 0 e2, .slice aH' s.heads.length e3] 26))
  go_enter Try.func19, Try.ntmps19
  go_wp2_with fail
  refine (HL.out _ hL0.out).mono ?_
  rintro _ w1 ⟨rfl, hb1⟩
  have hGA1 := hidS (blk_later hGA0.out hb1)
  have hGU1 := hidS (blk_later hGU0.out hb1)
  have hL1 := hidS (hL0.out.trans (hb1.mono hL0.out.size))
  clear hb1 hL0 hGA0 hGU0
  have hGA2 := hGA1
  go_wp2_with fail
  go_loopw [5] (fun i wr => i = .int .i64 0 ∧ wr = w1) (fun _ _ => 0)
  case atStart => exact ⟨rfl, rfl⟩
  case round =>
    obtain ⟨rfl, rfl⟩ := hrel
    have a0 := blk_cell hGA1.out 0
    simp at a0
    go_wp2_with fail
    go_ret
    exact ⟨rfl, hL1.out⟩
end Go.Proofs.Ytfjgofmjhccdkaa
end

section
namespace Go.Proofs.Ytfjgofmjhccdkaa
open Go.ChangeShapes Go.WideShapes Go.ChangeAt Go.RowKit
set_option linter.unusedVariables false
set_option linter.unusedSimpArgs false
set_option maxRecDepth 100000

set_option maxHeartbeats 4000000 in
theorem l06Linked_any (bS oS : Nat) (aH : Option Addr) (cS cH : Nat) (s : Slb) (C : Nat) (w : World) (hR : SlabZ (some ⟨bS, oS, none⟩) aH s w) (hr : rightSl s = true) (hC : C < s.slots.length) :
    Calls Try.prog 115 #[.agg #[.slice (some ⟨bS, oS, none⟩) s.slots.length cS, .slice aH s.heads.length cH], .int .i64 (C : Int)] w fun e w' => e = .returned (.bool (linkedB s (C : Int))) ∧ Below w.heap.size w w' := by
  obtain ⟨hLe, n1, n2, n3, n4⟩ := right_leads hr
  obtain ⟨x, hx⟩ : ∃ x, s.slots.getD C zeroSlt = x := ⟨_, rfl⟩
  have hk := key_nat hr hC
  rw [hx] at hk
  have EX : Hid (slotN s (C : Int) = x) := by show _ = _; rw [slot_nat]; exact hx
  have HF := hidS (fun W (h : Below w.heap.size w W) => l06Find_any (some ⟨bS, oS, none⟩) aH cS cH s x.key W (hR.later h) hLe n2 n4 n3 hk)
  have EB : Hid (linkedB s (C : Int) = (findSl s x.key == (C : Int))) := by show _ = _; unfold linkedB; rw [EX.out]
  rw [EB.out]
  clear EB
  generalize findSl s x.key = f at HF ⊢
  have HR := hidS hR
  have hCC : (0 : Int) ≤ (C : Int) ∧ (C : Int) < (s.slots.length : Int) := by omega
  have HA := hidS (heap_newG w (.cells #[.slice (some ⟨bS, oS, none⟩) s.slots.length cS, .slice aH s.heads.length cH] 26))
  have HB0 := hidS ((Below.refl w.heap.size w).alloc (Nat.le_refl _) (.cells #[.slice (some ⟨bS, oS, none⟩) s.slots.length cS, .slice aH s.heads.length cH] 26))
  clear hR hr hLe
  go_enter Try.func115, Try.ntmps115
  go_wp2_with fail
  generalize w.alloc (.cells #[.slice (some ⟨bS, oS, none⟩) s.slots.length cS, .slice aH s.heads.length cH] 26) = w0 at HA HB0 ⊢
  refine grow_guarded 11 [.is (.agg #[.slice (some ⟨bS, oS, none⟩) s.slots.length cS, .slice aH s.heads.length cH]), .is (.pointer (some ⟨w.heap.size, 0, none⟩)), .is (.slice (some ⟨bS, oS, none⟩) s.slots.length cS), .is (.int .i64 (C : Int)), .is (.pointer (some ⟨bS, oS + C * 4, none⟩)), .is (.pointer (some ⟨bS, oS + C * 4, none⟩)), .is (.int .i64 x.key), .is (.int .i64 f), .is (.int .i64 (C : Int)), .is (.bool (f == (C : Int))), .is (.bool (f == (C : Int)))] rfl (by kernel_rfl) (by kernel_rfl) ?steps1 ?fin1
  case steps1 =>
    refine ⟨?_, ?_, ?_, ?_, ?_, ?_, ?_, ?_, ?_, ?_, ?_, trivial⟩
    · refine stepW_of_u ⟨rfl, fun v W ρ hC' kc kf ks ki kd => ?_⟩
      have t2 : ρ (.tmp 2) = .pointer (some ⟨w.heap.size, 0, none⟩) := ki 2 (by decide)
      have hg := blk_later HA.out hC'
      have c0 := blk_cell hg 0
      have c1 := blk_cell hg 1
      simp at c0 c1
      simp [execOp, go_sem, kc, t2, c0, c1]
      exact ⟨hC', Below.refl _ _, rfl⟩
    · refine stepW_of_u ⟨rfl, fun v W ρ hC' kc kf ks ki kd => ?_⟩
      have t2 : ρ (.tmp 2) = .pointer (some ⟨w.heap.size, 0, none⟩) := ki 2 (by decide)
      simp [execOp, go_sem, kc, t2]
      exact ⟨hC', Below.refl _ _, rfl⟩
    · refine stepW_of_u ⟨rfl, fun v W ρ hC' kc kf ks ki kd => ?_⟩
      have d1 : v 1 = .pointer (some ⟨w.heap.size, 0, none⟩) := (kdj kd 1 rfl :)
      have t6 : ρ (.tmp 6) = .pointer (some ⟨w.heap.size, 0, none⟩) := (ks 1 6 (by decide) rfl).trans d1
      have hg := blk_later HA.out hC'
      have c0 := blk_cell hg 0
      simp at c0
      simp [execOp, go_sem, kc, t6, c0]
      exact ⟨hC', Below.refl _ _, rfl⟩
    · refine stepW_of_u ⟨rfl, fun v W ρ hC' kc kf ks ki kd => ?_⟩
      have t1 : ρ (.tmp 1) = .int .i64 (C : Int) := ki 1 (by decide)
      simp [execOp, go_sem, kc, t1]
      exact ⟨hC', Below.refl _ _, rfl⟩
    · refine stepW_of_u ⟨rfl, fun v W ρ hC' kc kf ks ki kd => ?_⟩
      have d2 : v 2 = .slice (some ⟨bS, oS, none⟩) s.slots.length cS := (kdj kd 2 rfl :)
      have t7 : ρ (.tmp 7) = .slice (some ⟨bS, oS, none⟩) s.slots.length cS := (ks 2 7 (by decide) rfl).trans d2
      have d3 : v 3 = .int .i64 (C : Int) := (kdj kd 3 rfl :)
      have t8 : ρ (.tmp 8) = .int .i64 (C : Int) := (ks 3 8 (by decide) rfl).trans d3
      simp [execOp, go_sem, kc, t7, t8, hCC]
      exact ⟨hC', Below.refl _ _, rfl⟩
    · refine stepW_of_u ⟨rfl, fun v W ρ hC' kc kf ks ki kd => ?_⟩
      have d4 : v 4 = .pointer (some ⟨bS, oS + C * 4, none⟩) := (kdj kd 4 rfl :)
      have t9 : ρ (.tmp 9) = .pointer (some ⟨bS, oS + C * 4, none⟩) := (ks 4 9 (by decide) rfl).trans d4
      simp [execOp, go_sem, kc, t9]
      exact ⟨hC', Below.refl _ _, rfl⟩
    · refine stepW_of_u ⟨rfl, fun v W ρ hC' kc kf ks ki kd => ?_⟩
      have d5 : v 5 = .pointer (some ⟨bS, oS + C * 4, none⟩) := (kdj kd 5 rfl :)
      have t10 : ρ (.tmp 10) = .pointer (some ⟨bS, oS + C * 4, none⟩) := (ks 5 10 (by decide) rfl).trans d5
      obtain ⟨b', o', eS, lS, c0, _⟩ := (HR.out.slots.later (HB0.out.trans (hC'.mono HB0.out.size))).slot hC
      injection eS with eS; injection eS with eS1 eS2
      subst eS1 eS2
      rw [hx] at c0
      simp [execOp, go_sem, kc, t10, c0]
      exact ⟨hC', Below.refl _ _, rfl⟩
    · refine stepW_of_u ⟨rfl, fun v W ρ hC' kc kf ks ki kd => ?_⟩
      have d0 : v 0 = .agg #[.slice (some ⟨bS, oS, none⟩) s.slots.length cS, .slice aH s.heads.length cH] := (kdj kd 0 rfl :)
      have t5 : ρ (.tmp 5) = .agg #[.slice (some ⟨bS, oS, none⟩) s.slots.length cS, .slice aH s.heads.length cH] := (ks 0 5 (by decide) rfl).trans d0
      have d6 : v 6 = .int .i64 x.key := (kdj kd 6 rfl :)
      have t11 : ρ (.tmp 11) = .int .i64 x.key := (ks 6 11 (by decide) rfl).trans d6
      simp [execOp, go_sem, t5, t11, kf]
      exact Calls.mono (HF.out W (HB0.out.trans (hC'.mono HB0.out.size))) (fun e x h => ⟨_, h.1, hC'.trans (h.2.mono hC'.size), h.2, rfl⟩)
    · refine stepW_of_u ⟨rfl, fun v W ρ hC' kc kf ks ki kd => ?_⟩
      have t1 : ρ (.tmp 1) = .int .i64 (C : Int) := ki 1 (by decide)
      simp [execOp, go_sem, kc, t1]
      exact ⟨hC', Below.refl _ _, rfl⟩
    · refine stepW_of_u ⟨rfl, fun v W ρ hC' kc kf ks ki kd => ?_⟩
      have d7 : v 7 = .int .i64 f := (kdj kd 7 rfl :)
      have t12 : ρ (.tmp 12) = .int .i64 f := (ks 7 12 (by decide) rfl).trans d7
      have d8 : v 8 = .int .i64 (C : Int) := (kdj kd 8 rfl :)
      have t13 : ρ (.tmp 13) = .int .i64 (C : Int) := (ks 8 13 (by decide) rfl).trans d8
      simp [execOp, go_sem, kc, t12, t13]
      exact ⟨hC', Below.refl _ _, rfl⟩
    · refine stepW_of_u ⟨rfl, fun v W ρ hC' kc kf ks ki kd => ?_⟩
      have d9 : v 9 = .bool (f == (C : Int)) := (kdj kd 9 rfl :)
      have t14 : ρ (.tmp 14) = .bool (f == (C : Int)) := (ks 9 14 (by decide) rfl).trans d9
      simp [execOp, go_sem, kc, t14]
      exact ⟨hC', Below.refl _ _, rfl⟩
  intro v1 W1 hb1 hall
  have hv1 : v1 10 = .bool (f == (C : Int)) := hall 10 (by decide)
  simp [upto, Act.put]
  rw [hv1]
  clear hall hv1
  go_wp2_with fail
  go_ret
  exact ⟨rfl, HB0.out.trans (hb1.mono HB0.out.size)⟩
end Go.Proofs.Ytfjgofmjhccdkaa
end
