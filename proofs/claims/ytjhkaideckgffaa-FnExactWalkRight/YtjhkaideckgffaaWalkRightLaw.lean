/- Proved here: laws.FnExactWalkRight returns true at every argument, and each argument reads afterwards as before (no conditions). -/
import Derived.Test.YtjhkaideckgffaaOpenSlab
import Derived.Test.YtjhkaideckgffaaOpenWalk
import Derived.Test.YtjhkaideckgffaaLawsWalk
import Derived.Test.YtjhkaideckgffaaWalkRS
import Derived.Test.YtjhkaideckgffaaWalkRI
import Derived.Test.YtjhkaideckgffaaKindsV
import Derived.Test.YtjhkaideckgffaaGrowLast
import Derived.Test.YtjhkaideckgffaaGrowGk
import Derived.Test.YtjhkaideckgffaaGrowCases
import Derived.WalkKit
import Derived.WalkSpells
import Derived.ProofKit
import Derived.OpenShut
import Derived.ShutString
import Derived.Handy
import Derived.Below
import Derived.ChangeOld
namespace Go.Proofs.Ytjhkaideckgffaa
open Go.ChangeShapes Go.WideShapes Go.ChangeAt Go.RowKit
set_option linter.unusedVariables false
set_option linter.unusedSimpArgs false
set_option maxRecDepth 100000

set_option maxHeartbeats 8000000 in
theorem walkrightLaw_all (aS aH : Option Addr) (cS cH : Nat) (s : Slb) (k : Wlk) (w : World) (hz : SlabZ aS aH s w) (hf : SlabFit s) (hk : fitW k) (m1 : s.slots.length ≤ maxLen) (m2 : s.heads.length ≤ maxLen) :
    Calls Try.prog 3 #[.agg #[.slice aS s.slots.length cS, .slice aH s.heads.length cH], .agg #[.int .i64 k.key, .int .i64 k.cur, .int .i64 k.stage, .int .i64 k.state, .int .i64 k.slot, .int .i64 k.gen, .int .i64 k.steps]] w fun e w' => e = .returned (.bool true) ∧ Below w.heap.size w w' := by
  have m1' : s.slots.length ≤ 9223372036854775807 := m1
  have m2' : s.heads.length ≤ 9223372036854775807 := m2
  have HZ := hidS hz
  have HFT := hidS hf
  have HKF := hidS hk
  clear hz hf hk m1 m2
  have hGA0 : Hid (((w.alloc (.cells #[.slice aS s.slots.length cS, .slice aH s.heads.length cH] 25)).alloc (.cells #[.int .i64 k.key, .int .i64 k.cur, .int .i64 k.stage, .int .i64 k.state, .int .i64 k.slot, .int .i64 k.gen, .int .i64 k.steps] 27)).heap[w.heap.size]? = some (.cells #[.slice aS s.slots.length cS, .slice aH s.heads.length cH] 25)) := by
    show _ = _
    have := blk_alloc (heap_newG w (.cells #[.slice aS s.slots.length cS, .slice aH s.heads.length cH] 25)) (.cells #[.int .i64 k.key, .int .i64 k.cur, .int .i64 k.stage, .int .i64 k.state, .int .i64 k.slot, .int .i64 k.gen, .int .i64 k.steps] 27)
    simpa using this
  have hGK0 : Hid (((w.alloc (.cells #[.slice aS s.slots.length cS, .slice aH s.heads.length cH] 25)).alloc (.cells #[.int .i64 k.key, .int .i64 k.cur, .int .i64 k.stage, .int .i64 k.state, .int .i64 k.slot, .int .i64 k.gen, .int .i64 k.steps] 27)).heap[w.heap.size + 1]? = some (.cells #[.int .i64 k.key, .int .i64 k.cur, .int .i64 k.stage, .int .i64 k.state, .int .i64 k.slot, .int .i64 k.gen, .int .i64 k.steps] 27)) := by
    show _ = _
    have := heap_newG (w.alloc (.cells #[.slice aS s.slots.length cS, .slice aH s.heads.length cH] 25)) (.cells #[.int .i64 k.key, .int .i64 k.cur, .int .i64 k.stage, .int .i64 k.state, .int .i64 k.slot, .int .i64 k.gen, .int .i64 k.steps] 27)
    simpa using this
  have hL0 := hidS (((Below.refl w.heap.size w).alloc (Nat.le_refl _) (.cells #[.slice aS s.slots.length cS, .slice aH s.heads.length cH] 25)).alloc (by simp) (.cells #[.int .i64 k.key, .int .i64 k.cur, .int .i64 k.stage, .int .i64 k.state, .int .i64 k.slot, .int .i64 k.gen, .int .i64 k.steps] 27))
  by_cases hbig : 1048576 < s.slots.length + s.heads.length
  · have HSZ := hidS (fun W => szSlab_big aS aH cS cH s W m1' m2' hbig)
    go_enter Try.func3, Try.ntmps3
    go_wp2_with fail
    refine (HSZ.out _).mono ?_
    rintro _ w1 ⟨⟨r, rfl, hr⟩, hb1⟩
    have hL1 := hidS (hL0.out.trans (hb1.mono hL0.out.size))
    clear hb1 hL0 hGA0 hGK0
    go_wp2_with fail
    go_ret
    exact ⟨rfl, hL1.out⟩
  have HSZ := hidS (fun W => szSlab_ok aS aH cS cH s W m1' m2' hbig)
  have h1 : s.slots.length ≤ 1048576 := by omega
  have h2 : s.heads.length ≤ 1048576 := by omega
  have HTO := hidS (fun W (h : Below w.heap.size w W) => toSlab_any aS aH cS cH s W (HZ.out.later h) h1 h2)
  have HTW := hidS (fun W => toWalk_any k W)
  have HSP := hidS (fun (bS bH : Option Addr) (a b : Nat) (W : World) (h : SlabZ bS bH s W) => specWalkRight_any bS bH a b s k W h h1 h2)
  have HIM := hidS (fun (bS bH : Option Addr) (a b : Nat) (W : World) (h : SlabZ bS bH s W) => implWalkRight_any bS bH a b s k W h HFT.out h1 h2 HKF.out)
  have HEX := hidS (fun (bS bH bS' bH' : Option Addr) (a b c d : Nat) (W : World) (h : SlabZ bS bH s W) (h' : SlabZ bS' bH' s W) => eqSlab_any bS bH bS' bH' a b c d s W h h' h1 h2)
  generalize wkRight s k = q at HSP HIM
  clear m1' m2' hbig
  go_enter Try.func3, Try.ntmps3
  go_wp2_with fail
  generalize (w.alloc (.cells #[.slice aS s.slots.length cS, .slice aH s.heads.length cH] 25)).alloc (.cells #[.int .i64 k.key, .int .i64 k.cur, .int .i64 k.stage, .int .i64 k.state, .int .i64 k.slot, .int .i64 k.gen, .int .i64 k.steps] 27) = w0 at hGA0 hGK0 hL0 ⊢
  have lK := blk_lt hGK0.out
  refine (HSZ.out _).mono ?_
  rintro _ w1 ⟨⟨r, rfl, hr0, hr1⟩, hb1⟩
  have hr2 : ¬ r < 0 := by omega
  have hGA1 := hidS (blk_later hGA0.out hb1)
  have hGK1 := hidS (blk_later hGK0.out hb1)
  have hL1 := hidS (hL0.out.trans (hb1.mono hL0.out.size))
  have z1 := hb1.size
  clear hGA0 hGK0 hL0 hb1
  clear HSZ
  go_wp2_with fail
  refine grow_gk 6 [isP (.agg #[.slice aS s.slots.length cS, .slice aH s.heads.length cH]), slabR s, isP (.agg #[.int .i64 k.key, .int .i64 k.cur, .int .i64 k.stage, .int .i64 k.state, .int .i64 k.slot, .int .i64 k.gen, .int .i64 k.steps]), isP (.agg #[.int .i64 k.key, .int .i64 k.cur, .int .i64 k.stage, .int .i64 k.state, .int .i64 k.slot, .int .i64 k.gen, .int .i64 k.steps]), isP (.bool q), isP (.bool q)] rfl (by kernel_rfl) (by kernel_rfl) ⟨(fun v W W' h _ => h), (slabR_last _), (fun v W W' h _ => h), (fun v W W' h _ => h), (fun v W W' h _ => h), (fun v W W' h _ => h), trivial⟩ ?steps5 ?fin5
  case steps5 =>
    refine ⟨?_, ?_, ?_, ?_, ?_, ?_, trivial⟩
    · refine stepW_of_u ⟨rfl, fun v W ρ hC kc kf ks ki kd => ?_⟩
      have t2 : ρ (.tmp 2) = .pointer (some ⟨w.heap.size, 0, none⟩) := ki 2 (by decide)
      have hg := blk_later hGA1.out hC
      have c0 := blk_cell hg 0
      have c1 := blk_cell hg 1
      simp at c0 c1
      simp [execOp, go_sem, kc, t2, c0, c1]
      exact ⟨hC, Below.refl _ _, rfl⟩
    · refine stepW_of_u ⟨rfl, fun v W ρ hC kc kf ks ki kd => ?_⟩
      have d0 : v 0 = .agg #[.slice aS s.slots.length cS, .slice aH s.heads.length cH] := by first | exact kd _ (mem0 rfl) rfl | exact kd _ (mem1 rfl) rfl | exact kd _ (mem2 rfl) rfl | exact kd _ (mem3 rfl) rfl | exact kd _ (mem4 rfl) rfl | exact kd _ (mem5 rfl) rfl
      have t14 : ρ (.tmp 14) = .agg #[.slice aS s.slots.length cS, .slice aH s.heads.length cH] := (ks 0 14 (by decide) rfl).trans d0
      simp [execOp, go_sem, kc, kf, t14]
      refine Calls.mono (HTO.out W (hL1.out.trans (hC.mono hL1.out.size))) (fun e x h => ?_)
      obtain ⟨bS, bH, rfl, hO, hb⟩ := h
      exact ⟨_, rfl, hC.trans (hb.mono hC.size), hb, bS, _, bH, _, rfl, hO.read⟩
    · refine stepW_of_u ⟨rfl, fun v W ρ hC kc kf ks ki kd => ?_⟩
      have t3 : ρ (.tmp 3) = .pointer (some ⟨w.heap.size + 1, 0, none⟩) := ki 3 (by decide)
      have hg := blk_later hGK1.out hC
      have c0 := blk_cell hg 0
      have c1 := blk_cell hg 1
      have c2 := blk_cell hg 2
      have c3 := blk_cell hg 3
      have c4 := blk_cell hg 4
      have c5 := blk_cell hg 5
      have c6 := blk_cell hg 6
      simp at c0 c1 c2 c3 c4 c5 c6
      simp [execOp, go_sem, kc, t3, c0, c1, c2, c3, c4, c5, c6]
      exact ⟨hC, Below.refl _ _, rfl⟩
    · refine stepW_of_u ⟨rfl, fun v W ρ hC kc kf ks ki kd => ?_⟩
      have d2 : v 2 = .agg #[.int .i64 k.key, .int .i64 k.cur, .int .i64 k.stage, .int .i64 k.state, .int .i64 k.slot, .int .i64 k.gen, .int .i64 k.steps] := by first | exact kd _ (mem0 rfl) rfl | exact kd _ (mem1 rfl) rfl | exact kd _ (mem2 rfl) rfl | exact kd _ (mem3 rfl) rfl | exact kd _ (mem4 rfl) rfl | exact kd _ (mem5 rfl) rfl
      have t16 : ρ (.tmp 16) = .agg #[.int .i64 k.key, .int .i64 k.cur, .int .i64 k.stage, .int .i64 k.state, .int .i64 k.slot, .int .i64 k.gen, .int .i64 k.steps] := (ks 2 16 (by decide) rfl).trans d2
      simp [execOp, go_sem, t16, kf]
      exact Calls.mono (HTW.out W) (fun e x h => ⟨_, h.1, hC.trans (h.2.mono hC.size), h.2, rfl⟩)
    · refine stepW_of_u ⟨rfl, fun v W ρ hC kc kf ks ki kd => ?_⟩
      have d3 : v 3 = .agg #[.int .i64 k.key, .int .i64 k.cur, .int .i64 k.stage, .int .i64 k.state, .int .i64 k.slot, .int .i64 k.gen, .int .i64 k.steps] := by first | exact kd _ (mem0 rfl) rfl | exact kd _ (mem1 rfl) rfl | exact kd _ (mem2 rfl) rfl | exact kd _ (mem3 rfl) rfl | exact kd _ (mem4 rfl) rfl | exact kd _ (mem5 rfl) rfl
      have t17 : ρ (.tmp 17) = .agg #[.int .i64 k.key, .int .i64 k.cur, .int .i64 k.stage, .int .i64 k.state, .int .i64 k.slot, .int .i64 k.gen, .int .i64 k.steps] := (ks 3 17 (by decide) rfl).trans d3
      obtain ⟨xS15, xc15, xH15, xd15, e15, hz15⟩ : (slabR s) (v 1) W := by first | exact kd _ (mem0 rfl) rfl | exact kd _ (mem1 rfl) rfl | exact kd _ (mem2 rfl) rfl | exact kd _ (mem3 rfl) rfl | exact kd _ (mem4 rfl) rfl | exact kd _ (mem5 rfl) rfl
      have t15 : ρ (.tmp 15) = .agg #[.slice xS15 s.slots.length xc15, .slice xH15 s.heads.length xd15] := (ks 1 15 (by decide) rfl).trans e15
      simp [execOp, go_sem, t15, t17, kf]
      exact Calls.mono (HSP.out xS15 xH15 xc15 xd15 W hz15) (fun e x h => ⟨_, h.1, hC.trans (h.2.mono hC.size), h.2, rfl⟩)
    · refine stepW_of_u ⟨rfl, fun v W ρ hC kc kf ks ki kd => ?_⟩
      have d4 : v 4 = .bool q := by first | exact kd _ (mem0 rfl) rfl | exact kd _ (mem1 rfl) rfl | exact kd _ (mem2 rfl) rfl | exact kd _ (mem3 rfl) rfl | exact kd _ (mem4 rfl) rfl | exact kd _ (mem5 rfl) rfl
      have t18 : ρ (.tmp 18) = .bool q := (ks 4 18 (by decide) rfl).trans d4
      simp [execOp, go_sem, kc, t18]
      exact ⟨hC, Below.refl _ _, rfl⟩
  intro v5 w2 hb hall
  have hv5 : v5 5 = .bool q := hall 5 (by decide)
  simp [upto, Act.put]
  rw [hv5]
  clear hall hv5
  have hGA2 := hidS (blk_later hGA1.out hb)
  have hGK2 := hidS (blk_later hGK1.out hb)
  have hL2 := hidS (hL1.out.trans (hb.mono hL1.out.size))
  have z2 := hb.size
  clear hGA1 hGK1 hL1 hb
  have a0 := blk_cell hGA2.out 0
  have a1 := blk_cell hGA2.out 1
  simp at a0 a1
  go_wp2_with fail
  refine (HTO.out _ hL2.out).mono ?_
  rintro _ w3 ⟨bxS, bxH, rfl, hOX, hb⟩
  clear a0 a1
  have hGA3 := hidS (blk_later hGA2.out hb)
  have hGK3 := hidS (blk_later hGK2.out hb)
  have hL3 := hidS (hL2.out.trans (hb.mono hL2.out.size))
  have z3 := hb.size
  clear hGA2 hGK2 hL2 hb
  have HOX3 := hidS hOX
  clear hOX
  have hGA4 := hidS (blk_alloc hGA3.out (.cells #[.slice bxS s.slots.length s.slots.length, .slice bxH s.heads.length s.heads.length] 32))
  have hGK4 := hidS (blk_alloc hGK3.out (.cells #[.slice bxS s.slots.length s.slots.length, .slice bxH s.heads.length s.heads.length] 32))
  have HOX4 := hidS (HOX3.out.later ((Below.refl w3.heap.size w3).alloc (Nat.le_refl _) (.cells #[.slice bxS s.slots.length s.slots.length, .slice bxH s.heads.length s.heads.length] 32)))
  have hGX4 := hidS (heap_newG w3 (.cells #[.slice bxS s.slots.length s.slots.length, .slice bxH s.heads.length s.heads.length] 32))
  have hL4 := hidS (hL3.out.alloc hL3.out.size (.cells #[.slice bxS s.slots.length s.slots.length, .slice bxH s.heads.length s.heads.length] 32))
  have z4 : (w3.alloc (.cells #[.slice bxS s.slots.length s.slots.length, .slice bxH s.heads.length s.heads.length] 32)).heap.size = w3.heap.size + 1 := by simp
  clear hGA3 hGK3 HOX3 hL3
  go_upto_region 7 with fail
  generalize w3.alloc (.cells #[.slice bxS s.slots.length s.slots.length, .slice bxH s.heads.length s.heads.length] 32) = w4 at hGA4 hGK4 HOX4 hGX4 hL4 z4 ⊢
  obtain ⟨gx, hgx⟩ : ∃ q, w3.heap.size = q := ⟨_, rfl⟩
  rw [hgx] at hGX4
  try rw [hgx]
  go_wp2_with fail
  refine grow_gk 5 [isP (.agg #[.slice bxS s.slots.length s.slots.length, .slice bxH s.heads.length s.heads.length]), isP (.agg #[.int .i64 k.key, .int .i64 k.cur, .int .i64 k.stage, .int .i64 k.state, .int .i64 k.slot, .int .i64 k.gen, .int .i64 k.steps]), isP (.agg #[.int .i64 k.key, .int .i64 k.cur, .int .i64 k.stage, .int .i64 k.state, .int .i64 k.slot, .int .i64 k.gen, .int .i64 k.steps]), isP (.bool q), isP (.bool q)] rfl (by kernel_rfl) (by kernel_rfl) ⟨(fun v W W' h _ => h), (fun v W W' h _ => h), (fun v W W' h _ => h), (fun v W W' h _ => h), (fun v W W' h _ => h), trivial⟩ ?steps7 ?fin7
  case steps7 =>
    refine ⟨?_, ?_, ?_, ?_, ?_, trivial⟩
    · refine stepW_of_u ⟨rfl, fun v W ρ hC kc kf ks ki kd => ?_⟩
      have t7 : ρ (.tmp 7) = .pointer (some ⟨gx, 0, none⟩) := ki 7 (by decide)
      have hg := blk_later hGX4.out hC
      have c0 := blk_cell hg 0
      have c1 := blk_cell hg 1
      simp at c0 c1
      simp [execOp, go_sem, kc, t7, c0, c1]
      exact ⟨hC, Below.refl _ _, rfl⟩
    · refine stepW_of_u ⟨rfl, fun v W ρ hC kc kf ks ki kd => ?_⟩
      have t3 : ρ (.tmp 3) = .pointer (some ⟨w.heap.size + 1, 0, none⟩) := ki 3 (by decide)
      have hg := blk_later hGK4.out hC
      have c0 := blk_cell hg 0
      have c1 := blk_cell hg 1
      have c2 := blk_cell hg 2
      have c3 := blk_cell hg 3
      have c4 := blk_cell hg 4
      have c5 := blk_cell hg 5
      have c6 := blk_cell hg 6
      simp at c0 c1 c2 c3 c4 c5 c6
      simp [execOp, go_sem, kc, t3, c0, c1, c2, c3, c4, c5, c6]
      exact ⟨hC, Below.refl _ _, rfl⟩
    · refine stepW_of_u ⟨rfl, fun v W ρ hC kc kf ks ki kd => ?_⟩
      have d1 : v 1 = .agg #[.int .i64 k.key, .int .i64 k.cur, .int .i64 k.stage, .int .i64 k.state, .int .i64 k.slot, .int .i64 k.gen, .int .i64 k.steps] := by first | exact kd _ (mem0 rfl) rfl | exact kd _ (mem1 rfl) rfl | exact kd _ (mem2 rfl) rfl | exact kd _ (mem3 rfl) rfl | exact kd _ (mem4 rfl) rfl | exact kd _ (mem5 rfl) rfl
      have t22 : ρ (.tmp 22) = .agg #[.int .i64 k.key, .int .i64 k.cur, .int .i64 k.stage, .int .i64 k.state, .int .i64 k.slot, .int .i64 k.gen, .int .i64 k.steps] := (ks 1 22 (by decide) rfl).trans d1
      simp [execOp, go_sem, t22, kf]
      exact Calls.mono (HTW.out W) (fun e x h => ⟨_, h.1, hC.trans (h.2.mono hC.size), h.2, rfl⟩)
    · refine stepW_of_u ⟨rfl, fun v W ρ hC kc kf ks ki kd => ?_⟩
      have d0 : v 0 = .agg #[.slice bxS s.slots.length s.slots.length, .slice bxH s.heads.length s.heads.length] := by first | exact kd _ (mem0 rfl) rfl | exact kd _ (mem1 rfl) rfl | exact kd _ (mem2 rfl) rfl | exact kd _ (mem3 rfl) rfl | exact kd _ (mem4 rfl) rfl | exact kd _ (mem5 rfl) rfl
      have t21 : ρ (.tmp 21) = .agg #[.slice bxS s.slots.length s.slots.length, .slice bxH s.heads.length s.heads.length] := (ks 0 21 (by decide) rfl).trans d0
      have d2 : v 2 = .agg #[.int .i64 k.key, .int .i64 k.cur, .int .i64 k.stage, .int .i64 k.state, .int .i64 k.slot, .int .i64 k.gen, .int .i64 k.steps] := by first | exact kd _ (mem0 rfl) rfl | exact kd _ (mem1 rfl) rfl | exact kd _ (mem2 rfl) rfl | exact kd _ (mem3 rfl) rfl | exact kd _ (mem4 rfl) rfl | exact kd _ (mem5 rfl) rfl
      have t23 : ρ (.tmp 23) = .agg #[.int .i64 k.key, .int .i64 k.cur, .int .i64 k.stage, .int .i64 k.state, .int .i64 k.slot, .int .i64 k.gen, .int .i64 k.steps] := (ks 2 23 (by decide) rfl).trans d2
      simp [execOp, go_sem, t21, t23, kf]
      exact Calls.mono (HIM.out bxS bxH _ _ W (HOX4.out.later hC).read) (fun e x h => ⟨_, h.1, hC.trans (h.2.mono hC.size), h.2, rfl⟩)
    · refine stepW_of_u ⟨rfl, fun v W ρ hC kc kf ks ki kd => ?_⟩
      have d3 : v 3 = .bool q := by first | exact kd _ (mem0 rfl) rfl | exact kd _ (mem1 rfl) rfl | exact kd _ (mem2 rfl) rfl | exact kd _ (mem3 rfl) rfl | exact kd _ (mem4 rfl) rfl | exact kd _ (mem5 rfl) rfl
      have t24 : ρ (.tmp 24) = .bool q := (ks 3 24 (by decide) rfl).trans d3
      simp [execOp, go_sem, kc, t24]
      exact ⟨hC, Below.refl _ _, rfl⟩
  intro v7 w5 hb hall
  have hv7 : v7 4 = .bool q := hall 4 (by decide)
  simp [upto, Act.put]
  rw [hv7]
  clear hall hv7
  have hGA5 := hidS (blk_later hGA4.out hb)
  have hGK5 := hidS (blk_later hGK4.out hb)
  have HOX5 := hidS (HOX4.out.later hb)
  have hGX5 := hidS (blk_later hGX4.out hb)
  have hL5 := hidS (hL4.out.trans (hb.mono hL4.out.size))
  have z5 := hb.size
  clear hGA4 hGK4 HOX4 hGX4 hL4 hb
  go_wp2_with fail
  refine grow_gk 5 [isP (.agg #[.slice bxS s.slots.length s.slots.length, .slice bxH s.heads.length s.heads.length]), isP (.agg #[.slice aS s.slots.length cS, .slice aH s.heads.length cH]), slabR s, isP (.bool true), isP (.bool false)] rfl (by kernel_rfl) (by kernel_rfl) ⟨(fun v W W' h _ => h), (fun v W W' h _ => h), (slabR_last _), (fun v W W' h _ => h), (fun v W W' h _ => h), trivial⟩ ?steps10 ?fin10
  case steps10 =>
    refine ⟨?_, ?_, ?_, ?_, ?_, trivial⟩
    · refine stepW_of_u ⟨rfl, fun v W ρ hC kc kf ks ki kd => ?_⟩
      have t7 : ρ (.tmp 7) = .pointer (some ⟨gx, 0, none⟩) := ki 7 (by decide)
      have hg := blk_later hGX5.out hC
      have c0 := blk_cell hg 0
      have c1 := blk_cell hg 1
      simp at c0 c1
      simp [execOp, go_sem, kc, t7, c0, c1]
      exact ⟨hC, Below.refl _ _, rfl⟩
    · refine stepW_of_u ⟨rfl, fun v W ρ hC kc kf ks ki kd => ?_⟩
      have t2 : ρ (.tmp 2) = .pointer (some ⟨w.heap.size, 0, none⟩) := ki 2 (by decide)
      have hg := blk_later hGA5.out hC
      have c0 := blk_cell hg 0
      have c1 := blk_cell hg 1
      simp at c0 c1
      simp [execOp, go_sem, kc, t2, c0, c1]
      exact ⟨hC, Below.refl _ _, rfl⟩
    · refine stepW_of_u ⟨rfl, fun v W ρ hC kc kf ks ki kd => ?_⟩
      have d1 : v 1 = .agg #[.slice aS s.slots.length cS, .slice aH s.heads.length cH] := by first | exact kd _ (mem0 rfl) rfl | exact kd _ (mem1 rfl) rfl | exact kd _ (mem2 rfl) rfl | exact kd _ (mem3 rfl) rfl | exact kd _ (mem4 rfl) rfl | exact kd _ (mem5 rfl) rfl
      have t29 : ρ (.tmp 29) = .agg #[.slice aS s.slots.length cS, .slice aH s.heads.length cH] := (ks 1 29 (by decide) rfl).trans d1
      simp [execOp, go_sem, kc, kf, t29]
      refine Calls.mono (HTO.out W (hL5.out.trans (hC.mono hL5.out.size))) (fun e x h => ?_)
      obtain ⟨bS, bH, rfl, hO, hb⟩ := h
      exact ⟨_, rfl, hC.trans (hb.mono hC.size), hb, bS, _, bH, _, rfl, hO.read⟩
    · refine stepW_of_u ⟨rfl, fun v W ρ hC kc kf ks ki kd => ?_⟩
      have d0 : v 0 = .agg #[.slice bxS s.slots.length s.slots.length, .slice bxH s.heads.length s.heads.length] := by first | exact kd _ (mem0 rfl) rfl | exact kd _ (mem1 rfl) rfl | exact kd _ (mem2 rfl) rfl | exact kd _ (mem3 rfl) rfl | exact kd _ (mem4 rfl) rfl | exact kd _ (mem5 rfl) rfl
      have t28 : ρ (.tmp 28) = .agg #[.slice bxS s.slots.length s.slots.length, .slice bxH s.heads.length s.heads.length] := (ks 0 28 (by decide) rfl).trans d0
      obtain ⟨xS30, xc30, xH30, xd30, e30, hz30⟩ : (slabR s) (v 2) W := by first | exact kd _ (mem0 rfl) rfl | exact kd _ (mem1 rfl) rfl | exact kd _ (mem2 rfl) rfl | exact kd _ (mem3 rfl) rfl | exact kd _ (mem4 rfl) rfl | exact kd _ (mem5 rfl) rfl
      have t30 : ρ (.tmp 30) = .agg #[.slice xS30 s.slots.length xc30, .slice xH30 s.heads.length xd30] := (ks 2 30 (by decide) rfl).trans e30
      simp [execOp, go_sem, t30, t28, kf]
      exact Calls.mono (HEX.out bxS bxH xS30 xH30 _ _ xc30 xd30 W (HOX5.out.later hC).read hz30) (fun e x h => ⟨_, h.1, hC.trans (h.2.mono hC.size), h.2, rfl⟩)
    · refine stepW_of_u ⟨rfl, fun v W ρ hC kc kf ks ki kd => ?_⟩
      have d3 : v 3 = .bool true := by first | exact kd _ (mem0 rfl) rfl | exact kd _ (mem1 rfl) rfl | exact kd _ (mem2 rfl) rfl | exact kd _ (mem3 rfl) rfl | exact kd _ (mem4 rfl) rfl | exact kd _ (mem5 rfl) rfl
      have t31 : ρ (.tmp 31) = .bool true := (ks 3 31 (by decide) rfl).trans d3
      simp [execOp, go_sem, kc, t31]
      exact ⟨hC, Below.refl _ _, rfl⟩
  intro v10 w6 hb hall
  have hv10 : v10 4 = .bool false := hall 4 (by decide)
  simp [upto, Act.put]
  rw [hv10]
  clear hall hv10
  have hGA6 := hidS (blk_later hGA5.out hb)
  have hGK6 := hidS (blk_later hGK5.out hb)
  have HOX6 := hidS (HOX5.out.later hb)
  have hGX6 := hidS (blk_later hGX5.out hb)
  have hL6 := hidS (hL5.out.trans (hb.mono hL5.out.size))
  have z6 := hb.size
  clear hGA5 hGK5 HOX5 hGX5 hL5 hb
  go_wp2_with fail
  go_ret
  exact ⟨rfl, hL6.out⟩
theorem walkrightLaw_walk (aS aH : Option Addr) (cS cH : Nat) (s : Slb) (k0 k1 k2 k3 k4 k5 k6 : Int) (w : World) (hz : SlabZ aS aH s w) (hf : SlabFit s) (m1 : s.slots.length ≤ maxLen) (m2 : s.heads.length ≤ maxLen) (g0 : (Lit.int .i64 k0).wf = true) (g1 : (Lit.int .i64 k1).wf = true) (g2 : (Lit.int .i64 k2).wf = true) (g3 : (Lit.int .i64 k3).wf = true) (g4 : (Lit.int .i64 k4).wf = true) (g5 : (Lit.int .i64 k5).wf = true) (g6 : (Lit.int .i64 k6).wf = true) :
    Calls Try.prog 3 #[.agg #[.slice aS s.slots.length cS, .slice aH s.heads.length cH], .agg #[.int .i64 k0, .int .i64 k1, .int .i64 k2, .int .i64 k3, .int .i64 k4, .int .i64 k5, .int .i64 k6]] w fun e w' => e = .returned (.bool true) ∧ Below w.heap.size w w' :=
  walkrightLaw_all aS aH cS cH s ⟨k0, k1, k2, k3, k4, k5, k6⟩ w hz hf ⟨fit_wf g0, fit_wf g1, fit_wf g2, fit_wf g3, fit_wf g4, fit_wf g5, fit_wf g6⟩ m1 m2
theorem laidOut_fnExactWalkRight : laidOutB Try.prog = true := by kernel_rfl
theorem own_fnExactWalkRight : ownKnob Try.prog.godebug = none := by kernel_rfl
set_option maxRecDepth 100000 in
theorem lifted_fnExactWalkRight (os : Os) (started : os.Started) (H : Type) (enc : TypeId × Value → H) :
    ReturnsInHanded {} Try.checked os 3 .any (Rows.fnExactWalkRightSpec.pre6 enc Try.prog Try.f3 Rows.fnExactWalkRightRow.domain false) (Rows.fnExactWalkRightSpec.post enc Try.prog Try.f3 false true false false) := by
  refine returnsInHanded_of_change (C := Try.checked) own_fnExactWalkRight started (by kernel_rfl) Try.func3
    (ChangeSpec.witness6 (enc := enc) (C := Try.checked) false ⟨#[], #[.agg #[.slice none 0 0, .slice none 0 0], .agg #[.int .i64 0, .int .i64 0, .int .i64 0, .int .i64 0, .int .i64 0, .int .i64 0, .int .i64 0]], []⟩ 8 (by kernel_rfl) (by kernel_rfl) (by kernel_rfl) (by kernel_rfl)) ?_
  intro W base args ds gs before hval0 hW hcnd _
  have hval : ∀ (j : Nat) t v, Try.f3.params[j]? = some t → args[j]? = some v → Value.okWide Try.prog W .any base t v := hval0
  have hW' := hW
  obtain ⟨p, q, hA0, hV, rfl, hfz, hnd⟩ := hW
  have hA : DataW.TrodAll enc Try.prog W 0 (fun _ => true) true Try.f3.params.toList args.toList ds p := hA0
  rw [Try.params3] at hA hval
  obtain ⟨v0, vs0, d0, ds0, p0, q0, hargs, rfl, rfl, h0, r0⟩ := trodAll_cons hA
  obtain ⟨v1, vs1, d1, ds1, p1, q1, rfl, rfl, rfl, h1, r1⟩ := trodAll_cons r0
  obtain ⟨rfl, rfl, rfl⟩ := trodAll_nil r1
  obtain rfl : args = #[v0, v1] := by cases args; simp_all
  obtain ⟨rfl, rfl⟩ := trodVars_none hV
  have k0 := h0
  have lt0 : ∀ x ∈ p0, x.block < W.heap.size := by obtain ⟨m, hm⟩ := k0; exact DataW.trod_lt m _ _ _ hm
  obtain ⟨aS0, aH0, cS0, cH0, s0, rfl, z0, f0, m0, n0⟩ := open_slab (hval 0 25 v0 rfl rfl) h0
  have k1 := h1
  have lt1 : ∀ x ∈ p1, x.block < W.heap.size := by obtain ⟨m, hm⟩ := k1; exact DataW.trod_lt m _ _ _ hm
  obtain ⟨f1_0, f1_1, f1_2, f1_3, f1_4, f1_5, f1_6, rfl, g1_0, g1_1, g1_2, g1_3, g1_4, g1_5, g1_6⟩ := open_walk (hval 1 27 v1 rfl rfl) h1
  clear hA0 hval0
  refine (walkrightLaw_walk aS0 aH0 cS0 cH0 s0 f1_0 f1_1 f1_2 f1_3 f1_4 f1_5 f1_6 W z0 f0 m0 n0 g1_0 g1_1 g1_2 g1_3 g1_4 g1_5 g1_6).mono fun e W' ⟨he, bel⟩ => ?_
  subst he
  exact ⟨_, rfl, _, _, _, [], _, [], hW', trodAll_mk1 (shut_bool Try.underlying4 _), (trodAll_cons_mk (Below.trod laidOut_fnExactWalkRight (by kernel_rfl) (of_decide_eq_true (by kernel_rfl)) k0 bel lt0) (trodAll_cons_mk (Below.trod laidOut_fnExactWalkRight (by kernel_rfl) (of_decide_eq_true (by kernel_rfl)) k1 bel lt1) trodAll_mk0)), rfl, bel.frame _, fun h => by cases h⟩

theorem walkright_holds : Rows.FnExactWalkRightSaid :=
  OpenClaim.holds_of_wide 3 Try.f3 rfl rfl rfl rfl rfl rfl rfl ⟨rfl, rfl, rfl, rfl, rfl⟩ rfl rfl rfl rfl rfl (by kernel_rfl) Try.func3 (by kernel_rfl)
    (of_decide_eq_true (by kernel_rfl)) (by unfold Func.isWrapper; first | (rw [if_pos (by decide +kernel)]; kernel_rfl) | (rw [if_neg (by decide +kernel)]; exact ⟨rfl, rfl⟩))
    (fun os started H enc _ => lifted_fnExactWalkRight os started H enc)
#print axioms walkright_holds
end Go.Proofs.Ytjhkaideckgffaa
