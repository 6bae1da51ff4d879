/- Proved here: laws.FnExactWalkEnd returns true at every argument, and each argument reads afterwards as before (no conditions). -/
import Derived.Test.YtjhkaideckgffaaOpenSlab
import Derived.Test.YtjhkaideckgffaaOpenWalk
import Derived.Test.YtjhkaideckgffaaLawsWalk
import Derived.Test.YtjhkaideckgffaaWalkEndS
import Derived.Test.YtjhkaideckgffaaWalkEndI
import Derived.Test.YtjhkaideckgffaaAll51
import Derived.Test.YtjhkaideckgffaaGrowLast
import Derived.Test.YtjhkaideckgffaaGrowCases
import Derived.WalkKit
import Derived.WalkSpells
import Derived.ProofKit
import Derived.OpenShut
import Derived.ShutString
import Derived.Handy
import Derived.Below
import Derived.ChangeOld
namespace Go.Proofs.Ytjhkaideckgffaa
open Go.ChangeShapes Go.WideShapes Go.ChangeAt Go.RowKit
set_option linter.unusedVariables false
set_option linter.unusedSimpArgs false
set_option maxRecDepth 100000

set_option maxHeartbeats 8000000 in
theorem walkendLaw_all (aS aH : Option Addr) (cS cH : Nat) (s : Slb) (k : Wlk) (n : Int) (w : World) (hz : SlabZ aS aH s w) (hf : SlabFit s) (hk : fitW k) (m1 : s.slots.length ≤ maxLen) (m2 : s.heads.length ≤ maxLen) :
    Calls Try.prog 6 #[.agg #[.slice aS s.slots.length cS, .slice aH s.heads.length cH], .agg #[.int .i64 k.key, .int .i64 k.cur, .int .i64 k.stage, .int .i64 k.state, .int .i64 k.slot, .int .i64 k.gen, .int .i64 k.steps], .int .i64 n] w fun e w' => e = .returned (.bool true) ∧ Below w.heap.size w w' := by
  have m1' : s.slots.length ≤ 9223372036854775807 := m1
  have m2' : s.heads.length ≤ 9223372036854775807 := m2
  have HZ := hidS hz
  have HFT := hidS hf
  have HKF := hidS hk
  clear hz hf hk m1 m2
  have hGA0 : Hid (((w.alloc (.cells #[.slice aS s.slots.length cS, .slice aH s.heads.length cH] 25)).alloc (.cells #[.int .i64 k.key, .int .i64 k.cur, .int .i64 k.stage, .int .i64 k.state, .int .i64 k.slot, .int .i64 k.gen, .int .i64 k.steps] 27)).heap[w.heap.size]? = some (.cells #[.slice aS s.slots.length cS, .slice aH s.heads.length cH] 25)) := by
    show _ = _
    have := blk_alloc (heap_newG w (.cells #[.slice aS s.slots.length cS, .slice aH s.heads.length cH] 25)) (.cells #[.int .i64 k.key, .int .i64 k.cur, .int .i64 k.stage, .int .i64 k.state, .int .i64 k.slot, .int .i64 k.gen, .int .i64 k.steps] 27)
    simpa using this
  have hGK0 : Hid (((w.alloc (.cells #[.slice aS s.slots.length cS, .slice aH s.heads.length cH] 25)).alloc (.cells #[.int .i64 k.key, .int .i64 k.cur, .int .i64 k.stage, .int .i64 k.state, .int .i64 k.slot, .int .i64 k.gen, .int .i64 k.steps] 27)).heap[w.heap.size + 1]? = some (.cells #[.int .i64 k.key, .int .i64 k.cur, .int .i64 k.stage, .int .i64 k.state, .int .i64 k.slot, .int .i64 k.gen, .int .i64 k.steps] 27)) := by
    show _ = _
    have := heap_newG (w.alloc (.cells #[.slice aS s.slots.length cS, .slice aH s.heads.length cH] 25)) (.cells #[.int .i64 k.key, .int .i64 k.cur, .int .i64 k.stage, .int .i64 k.state, .int .i64 k.slot, .int .i64 k.gen, .int .i64 k.steps] 27)
    simpa using this
  have hL0 := hidS (((Below.refl w.heap.size w).alloc (Nat.le_refl _) (.cells #[.slice aS s.slots.length cS, .slice aH s.heads.length cH] 25)).alloc (by simp) (.cells #[.int .i64 k.key, .int .i64 k.cur, .int .i64 k.stage, .int .i64 k.state, .int .i64 k.slot, .int .i64 k.gen, .int .i64 k.steps] 27))
  by_cases hbig : 1048576 < s.slots.length + s.heads.length
  · have HSZ := hidS (fun W => szSlab_big aS aH cS cH s W m1' m2' hbig)
    go_enter Try.func6, Try.ntmps6
    go_wp2_with fail
    refine (HSZ.out _).mono ?_
    rintro _ w1 ⟨⟨r, rfl, hr⟩, hb1⟩
    have hL1 := hidS (hL0.out.trans (hb1.mono hL0.out.size))
    clear hb1 hL0 hGA0 hGK0
    go_wp2_with fail
    go_ret
    exact ⟨rfl, hL1.out⟩
  have HSZ := hidS (fun W => szSlab_ok aS aH cS cH s W m1' m2' hbig)
  have h1 : s.slots.length ≤ 1048576 := by omega
  have h2 : s.heads.length ≤ 1048576 := by omega
  have HTO := hidS (fun W (h : Below w.heap.size w W) => toSlab_any aS aH cS cH s W (HZ.out.later h) h1 h2)
  have HTW := hidS (fun W => toWalk_any k W)
  have HSP := hidS (fun (bS bH : Option Addr) (a b : Nat) (W : World) (h : SlabZ bS bH s W) => specWalkEnd_any bS bH a b s k n W h h1 h2)
  have HIM := hidS (fun (bS bH : Option Addr) (a b : Nat) (W : World) (h : SlabZ bS bH s W) => implWalkEnd_any bS bH a b s k n W h HFT.out h1 h2 HKF.out)
  have HEX := hidS (fun (bS bH bS' bH' : Option Addr) (a b c d : Nat) (W : World) (h : SlabZ bS bH s W) (h' : SlabZ bS' bH' s W) => eqSlab_any bS bH bS' bH' a b c d s W h h' h1 h2)
  obtain ⟨t1, t2⟩ : (endWS s k n).slots.length ≤ 1048576 ∧ (endWS s k n).heads.length ≤ 1048576 := endW_len h1 h2
  generalize endWS s k n = t at HSP HIM t1 t2
  generalize endWW s k n = tk at HSP HIM
  generalize endC s k n = tc at HSP HIM
  have HEQ := hidS (fun (bS bH bS' bH' : Option Addr) (k1 k2 k3 k4 : Nat) (W : World) (h : SlabZ bS bH t W) (h' : SlabZ bS' bH' t W) => eqWalkOut_any bS bH bS' bH' k1 k2 k3 k4 t tk tc W h h' t1 t2)
  have HMX := hidS (fun (lo hi : Nat) (bS bH : Option Addr) (W : World) (h : SlabO lo hi bS bH s W) (hh : hi ≤ W.heap.size) => markSlab_any lo hi bS bH s.slots.length s.heads.length s 1 W h hh h1 h2 (by omega) (by omega))
  have HMG := hidS (fun (lo hi : Nat) (bS bH : Option Addr) (k1 k2 : Nat) (W : World) (h : SlabO lo hi bS bH t W) (hh : hi ≤ W.heap.size) => markWalkOut_any lo hi bS bH k1 k2 t tk tc 1 W h hh t1 t2 (by omega) (by omega))
  have HHE := hidS (fun (bS bH : Option Addr) (k1 k2 : Nat) (W : World) (h : RowZ bS (marks 1 (4 * t.slots.length)) W) (h' : RowZ bH (marks (1 + 4 * t.slots.length) t.heads.length) W) => heldWalkOut_any bS bH k1 k2 t.slots.length t.heads.length tk tc 1 W h h' t1 t2 (by omega) (by omega))
  have hk1 : ¬ (1 + 4 * (s.slots.length : Int) + (s.heads.length : Int)) < 0 := by omega
  have hk2 : ¬ (1 + 4 * (t.slots.length : Int) + (t.heads.length : Int)) < 0 := by omega
  clear m1' m2' hbig
  go_enter Try.func6, Try.ntmps6
  go_wp2_with fail
  generalize (w.alloc (.cells #[.slice aS s.slots.length cS, .slice aH s.heads.length cH] 25)).alloc (.cells #[.int .i64 k.key, .int .i64 k.cur, .int .i64 k.stage, .int .i64 k.state, .int .i64 k.slot, .int .i64 k.gen, .int .i64 k.steps] 27) = w0 at hGA0 hGK0 hL0 ⊢
  have lK := blk_lt hGK0.out
  refine (HSZ.out _).mono ?_
  rintro _ w1 ⟨⟨r, rfl, hr0, hr1⟩, hb1⟩
  have hr2 : ¬ r < 0 := by omega
  have hGA1 := hidS (blk_later hGA0.out hb1)
  have hGK1 := hidS (blk_later hGK0.out hb1)
  have hL1 := hidS (hL0.out.trans (hb1.mono hL0.out.size))
  have z1 := hb1.size
  clear hGA0 hGK0 hL0 hb1
  clear HSZ
  go_wp2_with fail
  refine grow_pair_store 7 _ [isP (.agg #[.slice aS s.slots.length cS, .slice aH s.heads.length cH]), slabR s, isP (.agg #[.int .i64 k.key, .int .i64 k.cur, .int .i64 k.stage, .int .i64 k.state, .int .i64 k.slot, .int .i64 k.gen, .int .i64 k.steps]), isP (.agg #[.int .i64 k.key, .int .i64 k.cur, .int .i64 k.stage, .int .i64 k.state, .int .i64 k.slot, .int .i64 k.gen, .int .i64 k.steps]), isP (.int .i64 n), woK w1.heap.size t tk tc, madeK w1.heap.size #[.slice none 0 0, .slice none 0 0, .int .i64 0, .int .i64 0, .int .i64 0, .int .i64 0, .int .i64 0, .int .i64 0, .int .i64 0, .int .i64 0] 39] 5 6 (by decide) (woR w1.heap.size t tk tc) 5 8 25 39 39 #[.slice none 0 0, .slice none 0 0, .int .i64 0, .int .i64 0, .int .i64 0, .int .i64 0, .int .i64 0, .int .i64 0, .int .i64 0, .int .i64 0] 10 rfl rfl rfl (by kernel_rfl) (by kernel_rfl) (by kernel_rfl) ⟨(fun v W W' h _ => h), (slabR_last _), (fun v W W' h _ => h), (fun v W W' h _ => h), (fun v W W' h _ => h), (woK_last _ _ _ _), (madeK_last _ _ _), trivial⟩ (woR_last _ _ _ _) (by decide) (by decide) (by decide) rfl rfl rfl rfl (fun v W h => h) (fun v W h => by obtain ⟨oS, oc, oH, od, lo, hi, e, _⟩ : (woK w1.heap.size t tk tc) v W := h; exact ⟨_, e, rfl, by simp [Value.oneCell']⟩) rfl (by kernel_rfl) ?steps5 ?fin5
  case steps5 =>
    refine ⟨?_, ?_, ?_, ?_, ?_, ?_, ?_, trivial⟩
    · refine ⟨rfl, fun v W ρ hC kc kf ks ki kd => ?_⟩
      have t3 : ρ (.tmp 3) = .pointer (some ⟨w.heap.size, 0, none⟩) := ki 3 (by decide)
      have hg := blk_later hGA1.out hC
      have c0 := blk_cell hg 0
      have c1 := blk_cell hg 1
      simp at c0 c1
      simp [execOp, go_sem, kc, t3, c0, c1]
      simp only [RanS]
      first | exact ⟨hC, Below.refl _ _, rfl⟩ | exact ⟨hC, Below.refl _ _, rfl, by first | exact fun _ _ => trivial | exact fun h => absurd h (by decide), by first | exact fun _ _ => trivial | exact fun h => absurd h (by decide)⟩
    · refine ⟨rfl, fun v W ρ hC kc kf ks ki kd => ?_⟩
      have d0 : v 0 = .agg #[.slice aS s.slots.length cS, .slice aH s.heads.length cH] := by first | exact kd _ (mem0 rfl) rfl | exact kd _ (mem1 rfl) rfl | exact kd _ (mem2 rfl) rfl | exact kd _ (mem3 rfl) rfl | exact kd _ (mem4 rfl) rfl | exact kd _ (mem5 rfl) rfl
      have t20 : ρ (.tmp 20) = .agg #[.slice aS s.slots.length cS, .slice aH s.heads.length cH] := (ks 0 20 (by decide) rfl).trans d0
      simp [execOp, go_sem, kc, kf, t20]
      simp only [RanS]
      refine Calls.mono (HTO.out W (hL1.out.trans (hC.mono hL1.out.size))) (fun e x h => ?_)
      obtain ⟨bS, bH, rfl, hO, hb⟩ := h
      exact ⟨_, rfl, hC.trans (hb.mono hC.size), hb, bS, _, bH, _, rfl, hO.read⟩
    · refine ⟨rfl, fun v W ρ hC kc kf ks ki kd => ?_⟩
      have t4 : ρ (.tmp 4) = .pointer (some ⟨w.heap.size + 1, 0, none⟩) := ki 4 (by decide)
      have hg := blk_later hGK1.out hC
      have c0 := blk_cell hg 0
      have c1 := blk_cell hg 1
      have c2 := blk_cell hg 2
      have c3 := blk_cell hg 3
      have c4 := blk_cell hg 4
      have c5 := blk_cell hg 5
      have c6 := blk_cell hg 6
      simp at c0 c1 c2 c3 c4 c5 c6
      simp [execOp, go_sem, kc, t4, c0, c1, c2, c3, c4, c5, c6]
      simp only [RanS]
      first | exact ⟨hC, Below.refl _ _, rfl⟩ | exact ⟨hC, Below.refl _ _, rfl, by first | exact fun _ _ => trivial | exact fun h => absurd h (by decide), by first | exact fun _ _ => trivial | exact fun h => absurd h (by decide)⟩
    · refine ⟨rfl, fun v W ρ hC kc kf ks ki kd => ?_⟩
      have d2 : v 2 = .agg #[.int .i64 k.key, .int .i64 k.cur, .int .i64 k.stage, .int .i64 k.state, .int .i64 k.slot, .int .i64 k.gen, .int .i64 k.steps] := by first | exact kd _ (mem0 rfl) rfl | exact kd _ (mem1 rfl) rfl | exact kd _ (mem2 rfl) rfl | exact kd _ (mem3 rfl) rfl | exact kd _ (mem4 rfl) rfl | exact kd _ (mem5 rfl) rfl
      have t22 : ρ (.tmp 22) = .agg #[.int .i64 k.key, .int .i64 k.cur, .int .i64 k.stage, .int .i64 k.state, .int .i64 k.slot, .int .i64 k.gen, .int .i64 k.steps] := (ks 2 22 (by decide) rfl).trans d2
      simp [execOp, go_sem, t22, kf]
      simp only [RanS]
      first | exact Calls.mono (HTW.out W) (fun e x h => ⟨_, h.1, hC.trans (h.2.mono hC.size), h.2, rfl⟩) | exact Calls.mono (HTW.out W) (fun e x h => ⟨_, h.1, hC.trans (h.2.mono hC.size), h.2, rfl, by first | exact fun _ _ => trivial | exact fun h => absurd h (by decide), by first | exact fun _ _ => trivial | exact fun h => absurd h (by decide)⟩)
    · refine ⟨rfl, fun v W ρ hC kc kf ks ki kd => ?_⟩
      have t2 : ρ (.tmp 2) = .int .i64 n := ki 2 (by decide)
      simp [execOp, go_sem, kc, t2]
      simp only [RanS]
      first | exact ⟨hC, Below.refl _ _, rfl⟩ | exact ⟨hC, Below.refl _ _, rfl, by first | exact fun _ _ => trivial | exact fun h => absurd h (by decide), by first | exact fun _ _ => trivial | exact fun h => absurd h (by decide)⟩
    · refine ⟨rfl, fun v W ρ hC kc kf ks ki kd => ?_⟩
      obtain ⟨xS21, xc21, xH21, xd21, e21, hz21⟩ : (slabR s) (v 1) W := by first | exact kd _ (mem0 rfl) rfl | exact kd _ (mem1 rfl) rfl | exact kd _ (mem2 rfl) rfl | exact kd _ (mem3 rfl) rfl | exact kd _ (mem4 rfl) rfl | exact kd _ (mem5 rfl) rfl
      have t21 : ρ (.tmp 21) = .agg #[.slice xS21 s.slots.length xc21, .slice xH21 s.heads.length xd21] := (ks 1 21 (by decide) rfl).trans e21
      have d3 : v 3 = .agg #[.int .i64 k.key, .int .i64 k.cur, .int .i64 k.stage, .int .i64 k.state, .int .i64 k.slot, .int .i64 k.gen, .int .i64 k.steps] := by first | exact kd _ (mem0 rfl) rfl | exact kd _ (mem1 rfl) rfl | exact kd _ (mem2 rfl) rfl | exact kd _ (mem3 rfl) rfl | exact kd _ (mem4 rfl) rfl | exact kd _ (mem5 rfl) rfl
      have t23 : ρ (.tmp 23) = .agg #[.int .i64 k.key, .int .i64 k.cur, .int .i64 k.stage, .int .i64 k.state, .int .i64 k.slot, .int .i64 k.gen, .int .i64 k.steps] := (ks 3 23 (by decide) rfl).trans d3
      have d4 : v 4 = .int .i64 n := by first | exact kd _ (mem0 rfl) rfl | exact kd _ (mem1 rfl) rfl | exact kd _ (mem2 rfl) rfl | exact kd _ (mem3 rfl) rfl | exact kd _ (mem4 rfl) rfl | exact kd _ (mem5 rfl) rfl
      have t24 : ρ (.tmp 24) = .int .i64 n := (ks 4 24 (by decide) rfl).trans d4
      simp [execOp, go_sem, kc, kf, t21, t23, t24]
      simp only [RanS]
      refine Calls.mono (HSP.out xS21 xH21 xc21 xd21 W hz21) (fun e x h => ?_)
      obtain ⟨oS, oc, oH, od, rfl, hO, hb⟩ := h
      exact ⟨_, rfl, hC.trans (hb.mono hC.size), hb, ⟨oS, oc, oH, od, W.heap.size, x.heap.size, rfl, hO, hC.size, hb.size, Nat.le_refl _⟩, fun hx => woR_call hx hO hC.size hb⟩
    · refine ⟨rfl, fun v W ρ hC kc kf ks ki kd => ?_⟩
      simp [execOp, go_sem, kc, kf, ]
      simp only [RanS]
      exact ⟨hC.alloc hC.size _, (Below.refl _ _).alloc (Nat.le_refl _) _, ⟨W.heap.size, rfl, hC.size, heap_newG _ _⟩, fun hc => woR_made _ hc hC.size⟩
  intro v WW2 w2 gB new hC hall hrl hvB hnB e hheap hoth hbel
  obtain ⟨bWS, kW, bWH, lW, loW, hiW, gW, e1, e2, hO, rW1, rW2, rW3, rW4, rW5, rW6⟩ := hrl
  rw [hvB] at e2
  injection e2 with e2
  injection e2 with e2
  injection e2 with e2
  subst e2
  rw [e1] at e
  injection e with e
  subst e
  have hb := hC.trans (hbel w1.heap.size hnB hC.size)
  have hq := hbel 0 (Nat.zero_le _) (Nat.zero_le _)
  have hM : Mid gB (gB + 1) WW2 w2 := ⟨hq.os, hq.tape, hq.output, hq.size, fun k _ ho => hoth k (by omega)⟩
  have HOW2 := hidS (hO.apart hM (by omega))
  have hGW2 := hidS hheap
  have zz2 := hq.size
  simp [upto, Act.put]
  rw [hvB]
  clear hall hvB hoth hbel hheap hO hM e1 hq
  have hGA2 := hidS (blk_later hGA1.out hb)
  have hGK2 := hidS (blk_later hGK1.out hb)
  have hL2 := hidS (hL1.out.trans (hb.mono hL1.out.size))
  have z2 := hb.size
  clear hGA1 hGK1 hL1 hb
  obtain ⟨gW, hgW⟩ : ∃ q, gB = q := ⟨_, rfl⟩
  subst hgW
  have a0 := blk_cell hGA2.out 0
  have a1 := blk_cell hGA2.out 1
  simp at a0 a1
  go_wp2_with fail
  refine (HTO.out _ hL2.out).mono ?_
  rintro _ w3 ⟨bxS, bxH, rfl, hOX, hb⟩
  clear a0 a1
  have hGA3 := hidS (blk_later hGA2.out hb)
  have hGK3 := hidS (blk_later hGK2.out hb)
  have hGW3 := hidS (blk_later hGW2.out hb)
  have HOW3 := hidS (HOW2.out.later hb)
  have hL3 := hidS (hL2.out.trans (hb.mono hL2.out.size))
  have z3 := hb.size
  clear hGA2 hGK2 hGW2 HOW2 hL2 hb
  have HOX3 := hidS hOX
  clear hOX
  have hGA4 := hidS (blk_alloc hGA3.out (.cells #[.slice bxS s.slots.length s.slots.length, .slice bxH s.heads.length s.heads.length] 32))
  have hGK4 := hidS (blk_alloc hGK3.out (.cells #[.slice bxS s.slots.length s.slots.length, .slice bxH s.heads.length s.heads.length] 32))
  have hGW4 := hidS (blk_alloc hGW3.out (.cells #[.slice bxS s.slots.length s.slots.length, .slice bxH s.heads.length s.heads.length] 32))
  have HOW4 := hidS (HOW3.out.later ((Below.refl w3.heap.size w3).alloc (Nat.le_refl _) (.cells #[.slice bxS s.slots.length s.slots.length, .slice bxH s.heads.length s.heads.length] 32)))
  have HOX4 := hidS (HOX3.out.later ((Below.refl w3.heap.size w3).alloc (Nat.le_refl _) (.cells #[.slice bxS s.slots.length s.slots.length, .slice bxH s.heads.length s.heads.length] 32)))
  have hGX4 := hidS (heap_newG w3 (.cells #[.slice bxS s.slots.length s.slots.length, .slice bxH s.heads.length s.heads.length] 32))
  have hL4 := hidS (hL3.out.alloc hL3.out.size (.cells #[.slice bxS s.slots.length s.slots.length, .slice bxH s.heads.length s.heads.length] 32))
  have z4 : (w3.alloc (.cells #[.slice bxS s.slots.length s.slots.length, .slice bxH s.heads.length s.heads.length] 32)).heap.size = w3.heap.size + 1 := by simp
  clear hGA3 hGK3 hGW3 HOW3 HOX3 hL3
  go_upto_region 7 with fail
  generalize w3.alloc (.cells #[.slice bxS s.slots.length s.slots.length, .slice bxH s.heads.length s.heads.length] 32) = w4 at hGA4 hGK4 hGW4 HOW4 HOX4 hGX4 hL4 z4 ⊢
  obtain ⟨gx, hgx⟩ : ∃ q, w3.heap.size = q := ⟨_, rfl⟩
  rw [hgx] at hGX4
  try rw [hgx]
  go_wp2_with fail
  refine grow_pair_store 6 _ [isP (.agg #[.slice bxS s.slots.length s.slots.length, .slice bxH s.heads.length s.heads.length]), isP (.agg #[.int .i64 k.key, .int .i64 k.cur, .int .i64 k.stage, .int .i64 k.state, .int .i64 k.slot, .int .i64 k.gen, .int .i64 k.steps]), isP (.agg #[.int .i64 k.key, .int .i64 k.cur, .int .i64 k.stage, .int .i64 k.state, .int .i64 k.slot, .int .i64 k.gen, .int .i64 k.steps]), isP (.int .i64 n), woK w4.heap.size t tk tc, madeK w4.heap.size #[.slice none 0 0, .slice none 0 0, .int .i64 0, .int .i64 0, .int .i64 0, .int .i64 0, .int .i64 0, .int .i64 0, .int .i64 0, .int .i64 0] 39] 4 5 (by decide) (woR w4.heap.size t tk tc) 4 10 32 39 39 #[.slice none 0 0, .slice none 0 0, .int .i64 0, .int .i64 0, .int .i64 0, .int .i64 0, .int .i64 0, .int .i64 0, .int .i64 0, .int .i64 0] 10 rfl rfl rfl (by kernel_rfl) (by kernel_rfl) (by kernel_rfl) ⟨(fun v W W' h _ => h), (fun v W W' h _ => h), (fun v W W' h _ => h), (fun v W W' h _ => h), (woK_last _ _ _ _), (madeK_last _ _ _), trivial⟩ (woR_last _ _ _ _) (by decide) (by decide) (by decide) rfl rfl rfl rfl (fun v W h => h) (fun v W h => by obtain ⟨oS, oc, oH, od, lo, hi, e, _⟩ : (woK w4.heap.size t tk tc) v W := h; exact ⟨_, e, rfl, by simp [Value.oneCell']⟩) rfl (by kernel_rfl) ?steps7 ?fin7
  case steps7 =>
    refine ⟨?_, ?_, ?_, ?_, ?_, ?_, trivial⟩
    · refine ⟨rfl, fun v W ρ hC kc kf ks ki kd => ?_⟩
      have t9 : ρ (.tmp 9) = .pointer (some ⟨gx, 0, none⟩) := ki 9 (by decide)
      have hg := blk_later hGX4.out hC
      have c0 := blk_cell hg 0
      have c1 := blk_cell hg 1
      simp at c0 c1
      simp [execOp, go_sem, kc, t9, c0, c1]
      simp only [RanS]
      first | exact ⟨hC, Below.refl _ _, rfl⟩ | exact ⟨hC, Below.refl _ _, rfl, by first | exact fun _ _ => trivial | exact fun h => absurd h (by decide), by first | exact fun _ _ => trivial | exact fun h => absurd h (by decide)⟩
    · refine ⟨rfl, fun v W ρ hC kc kf ks ki kd => ?_⟩
      have t4 : ρ (.tmp 4) = .pointer (some ⟨w.heap.size + 1, 0, none⟩) := ki 4 (by decide)
      have hg := blk_later hGK4.out hC
      have c0 := blk_cell hg 0
      have c1 := blk_cell hg 1
      have c2 := blk_cell hg 2
      have c3 := blk_cell hg 3
      have c4 := blk_cell hg 4
      have c5 := blk_cell hg 5
      have c6 := blk_cell hg 6
      simp at c0 c1 c2 c3 c4 c5 c6
      simp [execOp, go_sem, kc, t4, c0, c1, c2, c3, c4, c5, c6]
      simp only [RanS]
      first | exact ⟨hC, Below.refl _ _, rfl⟩ | exact ⟨hC, Below.refl _ _, rfl, by first | exact fun _ _ => trivial | exact fun h => absurd h (by decide), by first | exact fun _ _ => trivial | exact fun h => absurd h (by decide)⟩
    · refine ⟨rfl, fun v W ρ hC kc kf ks ki kd => ?_⟩
      have d1 : v 1 = .agg #[.int .i64 k.key, .int .i64 k.cur, .int .i64 k.stage, .int .i64 k.state, .int .i64 k.slot, .int .i64 k.gen, .int .i64 k.steps] := by first | exact kd _ (mem0 rfl) rfl | exact kd _ (mem1 rfl) rfl | exact kd _ (mem2 rfl) rfl | exact kd _ (mem3 rfl) rfl | exact kd _ (mem4 rfl) rfl | exact kd _ (mem5 rfl) rfl
      have t29 : ρ (.tmp 29) = .agg #[.int .i64 k.key, .int .i64 k.cur, .int .i64 k.stage, .int .i64 k.state, .int .i64 k.slot, .int .i64 k.gen, .int .i64 k.steps] := (ks 1 29 (by decide) rfl).trans d1
      simp [execOp, go_sem, t29, kf]
      simp only [RanS]
      first | exact Calls.mono (HTW.out W) (fun e x h => ⟨_, h.1, hC.trans (h.2.mono hC.size), h.2, rfl⟩) | exact Calls.mono (HTW.out W) (fun e x h => ⟨_, h.1, hC.trans (h.2.mono hC.size), h.2, rfl, by first | exact fun _ _ => trivial | exact fun h => absurd h (by decide), by first | exact fun _ _ => trivial | exact fun h => absurd h (by decide)⟩)
    · refine ⟨rfl, fun v W ρ hC kc kf ks ki kd => ?_⟩
      have t2 : ρ (.tmp 2) = .int .i64 n := ki 2 (by decide)
      simp [execOp, go_sem, kc, t2]
      simp only [RanS]
      first | exact ⟨hC, Below.refl _ _, rfl⟩ | exact ⟨hC, Below.refl _ _, rfl, by first | exact fun _ _ => trivial | exact fun h => absurd h (by decide), by first | exact fun _ _ => trivial | exact fun h => absurd h (by decide)⟩
    · refine ⟨rfl, fun v W ρ hC kc kf ks ki kd => ?_⟩
      have d0 : v 0 = .agg #[.slice bxS s.slots.length s.slots.length, .slice bxH s.heads.length s.heads.length] := by first | exact kd _ (mem0 rfl) rfl | exact kd _ (mem1 rfl) rfl | exact kd _ (mem2 rfl) rfl | exact kd _ (mem3 rfl) rfl | exact kd _ (mem4 rfl) rfl | exact kd _ (mem5 rfl) rfl
      have t28 : ρ (.tmp 28) = .agg #[.slice bxS s.slots.length s.slots.length, .slice bxH s.heads.length s.heads.length] := (ks 0 28 (by decide) rfl).trans d0
      have d2 : v 2 = .agg #[.int .i64 k.key, .int .i64 k.cur, .int .i64 k.stage, .int .i64 k.state, .int .i64 k.slot, .int .i64 k.gen, .int .i64 k.steps] := by first | exact kd _ (mem0 rfl) rfl | exact kd _ (mem1 rfl) rfl | exact kd _ (mem2 rfl) rfl | exact kd _ (mem3 rfl) rfl | exact kd _ (mem4 rfl) rfl | exact kd _ (mem5 rfl) rfl
      have t30 : ρ (.tmp 30) = .agg #[.int .i64 k.key, .int .i64 k.cur, .int .i64 k.stage, .int .i64 k.state, .int .i64 k.slot, .int .i64 k.gen, .int .i64 k.steps] := (ks 2 30 (by decide) rfl).trans d2
      have d3 : v 3 = .int .i64 n := by first | exact kd _ (mem0 rfl) rfl | exact kd _ (mem1 rfl) rfl | exact kd _ (mem2 rfl) rfl | exact kd _ (mem3 rfl) rfl | exact kd _ (mem4 rfl) rfl | exact kd _ (mem5 rfl) rfl
      have t31 : ρ (.tmp 31) = .int .i64 n := (ks 3 31 (by decide) rfl).trans d3
      simp [execOp, go_sem, kc, kf, t28, t30, t31]
      simp only [RanS]
      refine Calls.mono (HIM.out bxS bxH _ _ W (HOX4.out.later hC).read) (fun e x h => ?_)
      obtain ⟨oS, oc, oH, od, rfl, hO, hb⟩ := h
      exact ⟨_, rfl, hC.trans (hb.mono hC.size), hb, ⟨oS, oc, oH, od, W.heap.size, x.heap.size, rfl, hO, hC.size, hb.size, Nat.le_refl _⟩, fun hx => woR_call hx hO hC.size hb⟩
    · refine ⟨rfl, fun v W ρ hC kc kf ks ki kd => ?_⟩
      simp [execOp, go_sem, kc, kf, ]
      simp only [RanS]
      exact ⟨hC.alloc hC.size _, (Below.refl _ _).alloc (Nat.le_refl _) _, ⟨W.heap.size, rfl, hC.size, heap_newG _ _⟩, fun hc => woR_made _ hc hC.size⟩
  intro v WW5 w5 gB new hC hall hrl hvB hnB e hheap hoth hbel
  obtain ⟨bGS, kG, bGH, lG, loG, hiG, gG, e1, e2, hO, rG1, rG2, rG3, rG4, rG5, rG6⟩ := hrl
  rw [hvB] at e2
  injection e2 with e2
  injection e2 with e2
  injection e2 with e2
  subst e2
  rw [e1] at e
  injection e with e
  subst e
  have hb := hC.trans (hbel w4.heap.size hnB hC.size)
  have hq := hbel 0 (Nat.zero_le _) (Nat.zero_le _)
  have hM : Mid gB (gB + 1) WW5 w5 := ⟨hq.os, hq.tape, hq.output, hq.size, fun k _ ho => hoth k (by omega)⟩
  have HOG5 := hidS (hO.apart hM (by omega))
  have hGG5 := hidS hheap
  have zz5 := hq.size
  simp [upto, Act.put]
  rw [hvB]
  clear hall hvB hoth hbel hheap hO hM e1 hq
  have hGA5 := hidS (blk_later hGA4.out hb)
  have hGK5 := hidS (blk_later hGK4.out hb)
  have hGW5 := hidS (blk_later hGW4.out hb)
  have HOW5 := hidS (HOW4.out.later hb)
  have HOX5 := hidS (HOX4.out.later hb)
  have hGX5 := hidS (blk_later hGX4.out hb)
  have hL5 := hidS (hL4.out.trans (hb.mono hL4.out.size))
  have z5 := hb.size
  clear hGA4 hGK4 hGW4 HOW4 HOX4 hGX4 hL4 hb
  have u0 := blk_cell hGG5.out 0
  have u1 := blk_cell hGG5.out 1
  have u2 := blk_cell hGG5.out 2
  have u3 := blk_cell hGG5.out 3
  have u4 := blk_cell hGG5.out 4
  have u5 := blk_cell hGG5.out 5
  have u6 := blk_cell hGG5.out 6
  have u7 := blk_cell hGG5.out 7
  have u8 := blk_cell hGG5.out 8
  have u9 := blk_cell hGG5.out 9
  simp at u0 u1 u2 u3 u4 u5 u6 u7 u8 u9
  have v0 := blk_cell hGW5.out 0
  have v1 := blk_cell hGW5.out 1
  have v2 := blk_cell hGW5.out 2
  have v3 := blk_cell hGW5.out 3
  have v4 := blk_cell hGW5.out 4
  have v5 := blk_cell hGW5.out 5
  have v6 := blk_cell hGW5.out 6
  have v7 := blk_cell hGW5.out 7
  have v8 := blk_cell hGW5.out 8
  have v9 := blk_cell hGW5.out 9
  simp at v0 v1 v2 v3 v4 v5 v6 v7 v8 v9
  go_wp2_with fail
  refine (HEQ.out _ _ _ _ _ _ _ _ _ HOG5.out.read HOW5.out.read).mono ?_
  rintro _ w6 ⟨rfl, hb⟩
  clear u0 u1 u2 u3 u4 u5 u6 u7 u8 u9 v0 v1 v2 v3 v4 v5 v6 v7 v8 v9
  have hGA6 := hidS (blk_later hGA5.out hb)
  have hGK6 := hidS (blk_later hGK5.out hb)
  have hGW6 := hidS (blk_later hGW5.out hb)
  have HOW6 := hidS (HOW5.out.later hb)
  have HOX6 := hidS (HOX5.out.later hb)
  have hGX6 := hidS (blk_later hGX5.out hb)
  have hGG6 := hidS (blk_later hGG5.out hb)
  have HOG6 := hidS (HOG5.out.later hb)
  have hL6 := hidS (hL5.out.trans (hb.mono hL5.out.size))
  have z6 := hb.size
  clear hGA5 hGK5 hGW5 HOW5 HOX5 hGX5 hGG5 HOG5 hL5 hb
  go_wp2_with fail
  refine grow_gk 5 [isP (.agg #[.slice bxS s.slots.length s.slots.length, .slice bxH s.heads.length s.heads.length]), isP (.agg #[.slice aS s.slots.length cS, .slice aH s.heads.length cH]), slabR s, isP (.bool true), isP (.bool false)] rfl (by kernel_rfl) (by kernel_rfl) ⟨(fun v W W' h _ => h), (fun v W W' h _ => h), (slabR_last _), (fun v W W' h _ => h), (fun v W W' h _ => h), trivial⟩ ?steps10 ?fin10
  case steps10 =>
    refine ⟨?_, ?_, ?_, ?_, ?_, trivial⟩
    · refine stepW_of_u ⟨rfl, fun v W ρ hC kc kf ks ki kd => ?_⟩
      have t9 : ρ (.tmp 9) = .pointer (some ⟨gx, 0, none⟩) := ki 9 (by decide)
      have hg := blk_later hGX6.out hC
      have c0 := blk_cell hg 0
      have c1 := blk_cell hg 1
      simp at c0 c1
      simp [execOp, go_sem, kc, t9, c0, c1]
      exact ⟨hC, Below.refl _ _, rfl⟩
    · refine stepW_of_u ⟨rfl, fun v W ρ hC kc kf ks ki kd => ?_⟩
      have t3 : ρ (.tmp 3) = .pointer (some ⟨w.heap.size, 0, none⟩) := ki 3 (by decide)
      have hg := blk_later hGA6.out hC
      have c0 := blk_cell hg 0
      have c1 := blk_cell hg 1
      simp at c0 c1
      simp [execOp, go_sem, kc, t3, c0, c1]
      exact ⟨hC, Below.refl _ _, rfl⟩
    · refine stepW_of_u ⟨rfl, fun v W ρ hC kc kf ks ki kd => ?_⟩
      have d1 : v 1 = .agg #[.slice aS s.slots.length cS, .slice aH s.heads.length cH] := by first | exact kd _ (mem0 rfl) rfl | exact kd _ (mem1 rfl) rfl | exact kd _ (mem2 rfl) rfl | exact kd _ (mem3 rfl) rfl | exact kd _ (mem4 rfl) rfl | exact kd _ (mem5 rfl) rfl
      have t38 : ρ (.tmp 38) = .agg #[.slice aS s.slots.length cS, .slice aH s.heads.length cH] := (ks 1 38 (by decide) rfl).trans d1
      simp [execOp, go_sem, kc, kf, t38]
      refine Calls.mono (HTO.out W (hL6.out.trans (hC.mono hL6.out.size))) (fun e x h => ?_)
      obtain ⟨bS, bH, rfl, hO, hb⟩ := h
      exact ⟨_, rfl, hC.trans (hb.mono hC.size), hb, bS, _, bH, _, rfl, hO.read⟩
    · refine stepW_of_u ⟨rfl, fun v W ρ hC kc kf ks ki kd => ?_⟩
      have d0 : v 0 = .agg #[.slice bxS s.slots.length s.slots.length, .slice bxH s.heads.length s.heads.length] := by first | exact kd _ (mem0 rfl) rfl | exact kd _ (mem1 rfl) rfl | exact kd _ (mem2 rfl) rfl | exact kd _ (mem3 rfl) rfl | exact kd _ (mem4 rfl) rfl | exact kd _ (mem5 rfl) rfl
      have t37 : ρ (.tmp 37) = .agg #[.slice bxS s.slots.length s.slots.length, .slice bxH s.heads.length s.heads.length] := (ks 0 37 (by decide) rfl).trans d0
      obtain ⟨xS39, xc39, xH39, xd39, e39, hz39⟩ : (slabR s) (v 2) W := by first | exact kd _ (mem0 rfl) rfl | exact kd _ (mem1 rfl) rfl | exact kd _ (mem2 rfl) rfl | exact kd _ (mem3 rfl) rfl | exact kd _ (mem4 rfl) rfl | exact kd _ (mem5 rfl) rfl
      have t39 : ρ (.tmp 39) = .agg #[.slice xS39 s.slots.length xc39, .slice xH39 s.heads.length xd39] := (ks 2 39 (by decide) rfl).trans e39
      simp [execOp, go_sem, t39, t37, kf]
      exact Calls.mono (HEX.out bxS bxH xS39 xH39 _ _ xc39 xd39 W (HOX6.out.later hC).read hz39) (fun e x h => ⟨_, h.1, hC.trans (h.2.mono hC.size), h.2, rfl⟩)
    · refine stepW_of_u ⟨rfl, fun v W ρ hC kc kf ks ki kd => ?_⟩
      have d3 : v 3 = .bool true := by first | exact kd _ (mem0 rfl) rfl | exact kd _ (mem1 rfl) rfl | exact kd _ (mem2 rfl) rfl | exact kd _ (mem3 rfl) rfl | exact kd _ (mem4 rfl) rfl | exact kd _ (mem5 rfl) rfl
      have t40 : ρ (.tmp 40) = .bool true := (ks 3 40 (by decide) rfl).trans d3
      simp [execOp, go_sem, kc, t40]
      exact ⟨hC, Below.refl _ _, rfl⟩
  intro v10 w7 hb hall
  have hv10 : v10 4 = .bool false := hall 4 (by decide)
  simp [upto, Act.put]
  rw [hv10]
  clear hall hv10
  have hGA7 := hidS (blk_later hGA6.out hb)
  have hGK7 := hidS (blk_later hGK6.out hb)
  have hGW7 := hidS (blk_later hGW6.out hb)
  have HOW7 := hidS (HOW6.out.later hb)
  have HOX7 := hidS (HOX6.out.later hb)
  have hGX7 := hidS (blk_later hGX6.out hb)
  have hGG7 := hidS (blk_later hGG6.out hb)
  have HOG7 := hidS (HOG6.out.later hb)
  have hL7 := hidS (hL6.out.trans (hb.mono hL6.out.size))
  have z7 := hb.size
  clear hGA6 hGK6 hGW6 HOW6 HOX6 hGX6 hGG6 HOG6 hL6 hb
  have x0 := blk_cell hGX7.out 0
  have x1 := blk_cell hGX7.out 1
  simp at x0 x1
  go_wp2_with fail
  refine (HMX.out w2.heap.size w3.heap.size _ _ _ HOX7.out (by omega)).mono ?_
  rintro _ w8 ⟨rfl, _, _, hm⟩
  clear x0 x1
  have hGA8 := hidS ((hm.block _ (blk_lt hGA7.out) (by omega)).trans hGA7.out)
  have hGK8 := hidS ((hm.block _ (blk_lt hGK7.out) (by omega)).trans hGK7.out)
  have hGW8 := hidS ((hm.block _ (blk_lt hGW7.out) (by omega)).trans hGW7.out)
  have HOW8 := hidS (HOW7.out.apart hm (by omega))
  have hGX8 := hidS ((hm.block _ (blk_lt hGX7.out) (by omega)).trans hGX7.out)
  have hGG8 := hidS ((hm.block _ (blk_lt hGG7.out) (by omega)).trans hGG7.out)
  have HOG8 := hidS (HOG7.out.apart hm (by omega))
  have hL8 := hidS (hL7.out.trans (hm.below (by omega) hL7.out.size))
  have z8 := hm.size
  clear hGA7 hGK7 hGW7 HOW7 HOX7 hGX7 hGG7 HOG7 hL7 hm
  have u0 := blk_cell hGG8.out 0
  have u1 := blk_cell hGG8.out 1
  have u2 := blk_cell hGG8.out 2
  have u3 := blk_cell hGG8.out 3
  have u4 := blk_cell hGG8.out 4
  have u5 := blk_cell hGG8.out 5
  have u6 := blk_cell hGG8.out 6
  have u7 := blk_cell hGG8.out 7
  have u8 := blk_cell hGG8.out 8
  have u9 := blk_cell hGG8.out 9
  simp at u0 u1 u2 u3 u4 u5 u6 u7 u8 u9
  have v0 := blk_cell hGW8.out 0
  have v1 := blk_cell hGW8.out 1
  have v2 := blk_cell hGW8.out 2
  have v3 := blk_cell hGW8.out 3
  have v4 := blk_cell hGW8.out 4
  have v5 := blk_cell hGW8.out 5
  have v6 := blk_cell hGW8.out 6
  have v7 := blk_cell hGW8.out 7
  have v8 := blk_cell hGW8.out 8
  have v9 := blk_cell hGW8.out 9
  simp at v0 v1 v2 v3 v4 v5 v6 v7 v8 v9
  go_wp2_with fail
  refine (HEQ.out _ _ _ _ _ _ _ _ _ HOG8.out.read HOW8.out.read).mono ?_
  rintro _ w9 ⟨rfl, hb⟩
  clear u0 u1 u2 u3 u4 u5 u6 u7 u8 u9 v0 v1 v2 v3 v4 v5 v6 v7 v8 v9
  have hGA9 := hidS (blk_later hGA8.out hb)
  have hGK9 := hidS (blk_later hGK8.out hb)
  have hGW9 := hidS (blk_later hGW8.out hb)
  have HOW9 := hidS (HOW8.out.later hb)
  have hGX9 := hidS (blk_later hGX8.out hb)
  have hGG9 := hidS (blk_later hGG8.out hb)
  have HOG9 := hidS (HOG8.out.later hb)
  have hL9 := hidS (hL8.out.trans (hb.mono hL8.out.size))
  have z9 := hb.size
  clear hGA8 hGK8 hGW8 HOW8 hGX8 hGG8 HOG8 hL8 hb
  have u0 := blk_cell hGG9.out 0
  have u1 := blk_cell hGG9.out 1
  have u2 := blk_cell hGG9.out 2
  have u3 := blk_cell hGG9.out 3
  have u4 := blk_cell hGG9.out 4
  have u5 := blk_cell hGG9.out 5
  have u6 := blk_cell hGG9.out 6
  have u7 := blk_cell hGG9.out 7
  have u8 := blk_cell hGG9.out 8
  have u9 := blk_cell hGG9.out 9
  simp at u0 u1 u2 u3 u4 u5 u6 u7 u8 u9
  go_wp2_with fail
  refine (HMG.out loG hiG _ _ _ _ _ HOG9.out (by omega)).mono ?_
  rintro _ w10 ⟨rfl, hRS, hRH, hm⟩
  have HRS10 := hidS hRS
  have HRH10 := hidS hRH
  clear hRS hRH u0 u1 u2 u3 u4 u5 u6 u7 u8 u9
  have hGA10 := hidS ((hm.block _ (blk_lt hGA9.out) (by omega)).trans hGA9.out)
  have hGK10 := hidS ((hm.block _ (blk_lt hGK9.out) (by omega)).trans hGK9.out)
  have hGW10 := hidS ((hm.block _ (blk_lt hGW9.out) (by omega)).trans hGW9.out)
  have HOW10 := hidS (HOW9.out.apart hm (by omega))
  have hGX10 := hidS ((hm.block _ (blk_lt hGX9.out) (by omega)).trans hGX9.out)
  have hGG10 := hidS ((hm.block _ (blk_lt hGG9.out) (by omega)).trans hGG9.out)
  have hL10 := hidS (hL9.out.trans (hm.below (by omega) hL9.out.size))
  have z10 := hm.size
  clear hGA9 hGK9 hGW9 HOW9 hGX9 hGG9 HOG9 hL9 hm
  have u0 := blk_cell hGG10.out 0
  have u1 := blk_cell hGG10.out 1
  have u2 := blk_cell hGG10.out 2
  have u3 := blk_cell hGG10.out 3
  have u4 := blk_cell hGG10.out 4
  have u5 := blk_cell hGG10.out 5
  have u6 := blk_cell hGG10.out 6
  have u7 := blk_cell hGG10.out 7
  have u8 := blk_cell hGG10.out 8
  have u9 := blk_cell hGG10.out 9
  simp at u0 u1 u2 u3 u4 u5 u6 u7 u8 u9
  go_wp2_with fail
  refine (HHE.out _ _ _ _ _ HRS10.out.read HRH10.out.read).mono ?_
  rintro _ w11 ⟨rfl, hb⟩
  clear u0 u1 u2 u3 u4 u5 u6 u7 u8 u9
  have hGA11 := hidS (blk_later hGA10.out hb)
  have hGK11 := hidS (blk_later hGK10.out hb)
  have hGW11 := hidS (blk_later hGW10.out hb)
  have HOW11 := hidS (HOW10.out.later hb)
  have hGX11 := hidS (blk_later hGX10.out hb)
  have hGG11 := hidS (blk_later hGG10.out hb)
  have HRS11 := hidS (HRS10.out.later hb)
  have HRH11 := hidS (HRH10.out.later hb)
  have hL11 := hidS (hL10.out.trans (hb.mono hL10.out.size))
  have z11 := hb.size
  clear hGA10 hGK10 hGW10 HOW10 hGX10 hGG10 HRS10 HRH10 hL10 hb
  go_wp2_with fail
  refine grow_pair_store 7 _ [isP (.agg #[.slice aS s.slots.length cS, .slice aH s.heads.length cH]), slabR s, isP (.agg #[.int .i64 k.key, .int .i64 k.cur, .int .i64 k.stage, .int .i64 k.state, .int .i64 k.slot, .int .i64 k.gen, .int .i64 k.steps]), isP (.agg #[.int .i64 k.key, .int .i64 k.cur, .int .i64 k.stage, .int .i64 k.state, .int .i64 k.slot, .int .i64 k.gen, .int .i64 k.steps]), isP (.int .i64 n), woK w11.heap.size t tk tc, madeK w11.heap.size #[.slice none 0 0, .slice none 0 0, .int .i64 0, .int .i64 0, .int .i64 0, .int .i64 0, .int .i64 0, .int .i64 0, .int .i64 0, .int .i64 0] 39] 5 6 (by decide) (woR w11.heap.size t tk tc) 5 14 69 39 39 #[.slice none 0 0, .slice none 0 0, .int .i64 0, .int .i64 0, .int .i64 0, .int .i64 0, .int .i64 0, .int .i64 0, .int .i64 0, .int .i64 0] 10 rfl rfl rfl (by kernel_rfl) (by kernel_rfl) (by kernel_rfl) ⟨(fun v W W' h _ => h), (slabR_last _), (fun v W W' h _ => h), (fun v W W' h _ => h), (fun v W W' h _ => h), (woK_last _ _ _ _), (madeK_last _ _ _), trivial⟩ (woR_last _ _ _ _) (by decide) (by decide) (by decide) rfl rfl rfl rfl (fun v W h => h) (fun v W h => by obtain ⟨oS, oc, oH, od, lo, hi, e, _⟩ : (woK w11.heap.size t tk tc) v W := h; exact ⟨_, e, rfl, by simp [Value.oneCell']⟩) rfl (by kernel_rfl) ?steps24 ?fin24
  case steps24 =>
    refine ⟨?_, ?_, ?_, ?_, ?_, ?_, ?_, trivial⟩
    · refine ⟨rfl, fun v W ρ hC kc kf ks ki kd => ?_⟩
      have t3 : ρ (.tmp 3) = .pointer (some ⟨w.heap.size, 0, none⟩) := ki 3 (by decide)
      have hg := blk_later hGA11.out hC
      have c0 := blk_cell hg 0
      have c1 := blk_cell hg 1
      simp at c0 c1
      simp [execOp, go_sem, kc, t3, c0, c1]
      simp only [RanS]
      first | exact ⟨hC, Below.refl _ _, rfl⟩ | exact ⟨hC, Below.refl _ _, rfl, by first | exact fun _ _ => trivial | exact fun h => absurd h (by decide), by first | exact fun _ _ => trivial | exact fun h => absurd h (by decide)⟩
    · refine ⟨rfl, fun v W ρ hC kc kf ks ki kd => ?_⟩
      have d0 : v 0 = .agg #[.slice aS s.slots.length cS, .slice aH s.heads.length cH] := by first | exact kd _ (mem0 rfl) rfl | exact kd _ (mem1 rfl) rfl | exact kd _ (mem2 rfl) rfl | exact kd _ (mem3 rfl) rfl | exact kd _ (mem4 rfl) rfl | exact kd _ (mem5 rfl) rfl
      have t64 : ρ (.tmp 64) = .agg #[.slice aS s.slots.length cS, .slice aH s.heads.length cH] := (ks 0 64 (by decide) rfl).trans d0
      simp [execOp, go_sem, kc, kf, t64]
      simp only [RanS]
      refine Calls.mono (HTO.out W (hL11.out.trans (hC.mono hL11.out.size))) (fun e x h => ?_)
      obtain ⟨bS, bH, rfl, hO, hb⟩ := h
      exact ⟨_, rfl, hC.trans (hb.mono hC.size), hb, bS, _, bH, _, rfl, hO.read⟩
    · refine ⟨rfl, fun v W ρ hC kc kf ks ki kd => ?_⟩
      have t4 : ρ (.tmp 4) = .pointer (some ⟨w.heap.size + 1, 0, none⟩) := ki 4 (by decide)
      have hg := blk_later hGK11.out hC
      have c0 := blk_cell hg 0
      have c1 := blk_cell hg 1
      have c2 := blk_cell hg 2
      have c3 := blk_cell hg 3
      have c4 := blk_cell hg 4
      have c5 := blk_cell hg 5
      have c6 := blk_cell hg 6
      simp at c0 c1 c2 c3 c4 c5 c6
      simp [execOp, go_sem, kc, t4, c0, c1, c2, c3, c4, c5, c6]
      simp only [RanS]
      first | exact ⟨hC, Below.refl _ _, rfl⟩ | exact ⟨hC, Below.refl _ _, rfl, by first | exact fun _ _ => trivial | exact fun h => absurd h (by decide), by first | exact fun _ _ => trivial | exact fun h => absurd h (by decide)⟩
    · refine ⟨rfl, fun v W ρ hC kc kf ks ki kd => ?_⟩
      have d2 : v 2 = .agg #[.int .i64 k.key, .int .i64 k.cur, .int .i64 k.stage, .int .i64 k.state, .int .i64 k.slot, .int .i64 k.gen, .int .i64 k.steps] := by first | exact kd _ (mem0 rfl) rfl | exact kd _ (mem1 rfl) rfl | exact kd _ (mem2 rfl) rfl | exact kd _ (mem3 rfl) rfl | exact kd _ (mem4 rfl) rfl | exact kd _ (mem5 rfl) rfl
      have t66 : ρ (.tmp 66) = .agg #[.int .i64 k.key, .int .i64 k.cur, .int .i64 k.stage, .int .i64 k.state, .int .i64 k.slot, .int .i64 k.gen, .int .i64 k.steps] := (ks 2 66 (by decide) rfl).trans d2
      simp [execOp, go_sem, t66, kf]
      simp only [RanS]
      first | exact Calls.mono (HTW.out W) (fun e x h => ⟨_, h.1, hC.trans (h.2.mono hC.size), h.2, rfl⟩) | exact Calls.mono (HTW.out W) (fun e x h => ⟨_, h.1, hC.trans (h.2.mono hC.size), h.2, rfl, by first | exact fun _ _ => trivial | exact fun h => absurd h (by decide), by first | exact fun _ _ => trivial | exact fun h => absurd h (by decide)⟩)
    · refine ⟨rfl, fun v W ρ hC kc kf ks ki kd => ?_⟩
      have t2 : ρ (.tmp 2) = .int .i64 n := ki 2 (by decide)
      simp [execOp, go_sem, kc, t2]
      simp only [RanS]
      first | exact ⟨hC, Below.refl _ _, rfl⟩ | exact ⟨hC, Below.refl _ _, rfl, by first | exact fun _ _ => trivial | exact fun h => absurd h (by decide), by first | exact fun _ _ => trivial | exact fun h => absurd h (by decide)⟩
    · refine ⟨rfl, fun v W ρ hC kc kf ks ki kd => ?_⟩
      obtain ⟨xS65, xc65, xH65, xd65, e65, hz65⟩ : (slabR s) (v 1) W := by first | exact kd _ (mem0 rfl) rfl | exact kd _ (mem1 rfl) rfl | exact kd _ (mem2 rfl) rfl | exact kd _ (mem3 rfl) rfl | exact kd _ (mem4 rfl) rfl | exact kd _ (mem5 rfl) rfl
      have t65 : ρ (.tmp 65) = .agg #[.slice xS65 s.slots.length xc65, .slice xH65 s.heads.length xd65] := (ks 1 65 (by decide) rfl).trans e65
      have d3 : v 3 = .agg #[.int .i64 k.key, .int .i64 k.cur, .int .i64 k.stage, .int .i64 k.state, .int .i64 k.slot, .int .i64 k.gen, .int .i64 k.steps] := by first | exact kd _ (mem0 rfl) rfl | exact kd _ (mem1 rfl) rfl | exact kd _ (mem2 rfl) rfl | exact kd _ (mem3 rfl) rfl | exact kd _ (mem4 rfl) rfl | exact kd _ (mem5 rfl) rfl
      have t67 : ρ (.tmp 67) = .agg #[.int .i64 k.key, .int .i64 k.cur, .int .i64 k.stage, .int .i64 k.state, .int .i64 k.slot, .int .i64 k.gen, .int .i64 k.steps] := (ks 3 67 (by decide) rfl).trans d3
      have d4 : v 4 = .int .i64 n := by first | exact kd _ (mem0 rfl) rfl | exact kd _ (mem1 rfl) rfl | exact kd _ (mem2 rfl) rfl | exact kd _ (mem3 rfl) rfl | exact kd _ (mem4 rfl) rfl | exact kd _ (mem5 rfl) rfl
      have t68 : ρ (.tmp 68) = .int .i64 n := (ks 4 68 (by decide) rfl).trans d4
      simp [execOp, go_sem, kc, kf, t65, t67, t68]
      simp only [RanS]
      refine Calls.mono (HIM.out xS65 xH65 xc65 xd65 W hz65) (fun e x h => ?_)
      obtain ⟨oS, oc, oH, od, rfl, hO, hb⟩ := h
      exact ⟨_, rfl, hC.trans (hb.mono hC.size), hb, ⟨oS, oc, oH, od, W.heap.size, x.heap.size, rfl, hO, hC.size, hb.size, Nat.le_refl _⟩, fun hx => woR_call hx hO hC.size hb⟩
    · refine ⟨rfl, fun v W ρ hC kc kf ks ki kd => ?_⟩
      simp [execOp, go_sem, kc, kf, ]
      simp only [RanS]
      exact ⟨hC.alloc hC.size _, (Below.refl _ _).alloc (Nat.le_refl _) _, ⟨W.heap.size, rfl, hC.size, heap_newG _ _⟩, fun hc => woR_made _ hc hC.size⟩
  intro v WW12 w12 gB new hC hall hrl hvB hnB e hheap hoth hbel
  obtain ⟨bHS, kH, bHH, lH, loH, hiH, gH, e1, e2, hO, rH1, rH2, rH3, rH4, rH5, rH6⟩ := hrl
  rw [hvB] at e2
  injection e2 with e2
  injection e2 with e2
  injection e2 with e2
  subst e2
  rw [e1] at e
  injection e with e
  subst e
  have hb := hC.trans (hbel w11.heap.size hnB hC.size)
  have hq := hbel 0 (Nat.zero_le _) (Nat.zero_le _)
  have hM : Mid gB (gB + 1) WW12 w12 := ⟨hq.os, hq.tape, hq.output, hq.size, fun k _ ho => hoth k (by omega)⟩
  have HOH12 := hidS (hO.apart hM (by omega))
  have hGH12 := hidS hheap
  have zz12 := hq.size
  simp [upto, Act.put]
  rw [hvB]
  clear hall hvB hoth hbel hheap hO hM e1 hq
  have hGA12 := hidS (blk_later hGA11.out hb)
  have hGK12 := hidS (blk_later hGK11.out hb)
  have hGW12 := hidS (blk_later hGW11.out hb)
  have HOW12 := hidS (HOW11.out.later hb)
  have hGX12 := hidS (blk_later hGX11.out hb)
  have hGG12 := hidS (blk_later hGG11.out hb)
  have HRS12 := hidS (HRS11.out.later hb)
  have HRH12 := hidS (HRH11.out.later hb)
  have hL12 := hidS (hL11.out.trans (hb.mono hL11.out.size))
  have z12 := hb.size
  clear hGA11 hGK11 hGW11 HOW11 hGX11 hGG11 HRS11 HRH11 hL11 hb
  have u0 := blk_cell hGH12.out 0
  have u1 := blk_cell hGH12.out 1
  have u2 := blk_cell hGH12.out 2
  have u3 := blk_cell hGH12.out 3
  have u4 := blk_cell hGH12.out 4
  have u5 := blk_cell hGH12.out 5
  have u6 := blk_cell hGH12.out 6
  have u7 := blk_cell hGH12.out 7
  have u8 := blk_cell hGH12.out 8
  have u9 := blk_cell hGH12.out 9
  simp at u0 u1 u2 u3 u4 u5 u6 u7 u8 u9
  have v0 := blk_cell hGW12.out 0
  have v1 := blk_cell hGW12.out 1
  have v2 := blk_cell hGW12.out 2
  have v3 := blk_cell hGW12.out 3
  have v4 := blk_cell hGW12.out 4
  have v5 := blk_cell hGW12.out 5
  have v6 := blk_cell hGW12.out 6
  have v7 := blk_cell hGW12.out 7
  have v8 := blk_cell hGW12.out 8
  have v9 := blk_cell hGW12.out 9
  simp at v0 v1 v2 v3 v4 v5 v6 v7 v8 v9
  go_wp2_with fail
  refine (HEQ.out _ _ _ _ _ _ _ _ _ HOH12.out.read HOW12.out.read).mono ?_
  rintro _ w13 ⟨rfl, hb⟩
  clear u0 u1 u2 u3 u4 u5 u6 u7 u8 u9 v0 v1 v2 v3 v4 v5 v6 v7 v8 v9
  have hGA13 := hidS (blk_later hGA12.out hb)
  have hGK13 := hidS (blk_later hGK12.out hb)
  have hGW13 := hidS (blk_later hGW12.out hb)
  have HOW13 := hidS (HOW12.out.later hb)
  have hGX13 := hidS (blk_later hGX12.out hb)
  have hGG13 := hidS (blk_later hGG12.out hb)
  have HRS13 := hidS (HRS12.out.later hb)
  have HRH13 := hidS (HRH12.out.later hb)
  have hGH13 := hidS (blk_later hGH12.out hb)
  have HOH13 := hidS (HOH12.out.later hb)
  have hL13 := hidS (hL12.out.trans (hb.mono hL12.out.size))
  have z13 := hb.size
  clear hGA12 hGK12 hGW12 HOW12 hGX12 hGG12 HRS12 HRH12 hGH12 HOH12 hL12 hb
  have u0 := blk_cell hGG13.out 0
  have u1 := blk_cell hGG13.out 1
  have u2 := blk_cell hGG13.out 2
  have u3 := blk_cell hGG13.out 3
  have u4 := blk_cell hGG13.out 4
  have u5 := blk_cell hGG13.out 5
  have u6 := blk_cell hGG13.out 6
  have u7 := blk_cell hGG13.out 7
  have u8 := blk_cell hGG13.out 8
  have u9 := blk_cell hGG13.out 9
  simp at u0 u1 u2 u3 u4 u5 u6 u7 u8 u9
  go_wp2_with fail
  refine (HHE.out _ _ _ _ _ HRS13.out.read HRH13.out.read).mono ?_
  rintro _ w14 ⟨rfl, hb⟩
  clear u0 u1 u2 u3 u4 u5 u6 u7 u8 u9
  have hGA14 := hidS (blk_later hGA13.out hb)
  have hGK14 := hidS (blk_later hGK13.out hb)
  have hGW14 := hidS (blk_later hGW13.out hb)
  have HOW14 := hidS (HOW13.out.later hb)
  have hGX14 := hidS (blk_later hGX13.out hb)
  have hGG14 := hidS (blk_later hGG13.out hb)
  have HRS14 := hidS (HRS13.out.later hb)
  have HRH14 := hidS (HRH13.out.later hb)
  have hGH14 := hidS (blk_later hGH13.out hb)
  have HOH14 := hidS (HOH13.out.later hb)
  have hL14 := hidS (hL13.out.trans (hb.mono hL13.out.size))
  have z14 := hb.size
  clear hGA13 hGK13 hGW13 HOW13 hGX13 hGG13 HRS13 HRH13 hGH13 HOH13 hL13 hb
  go_wp2_with fail
  go_ret
  exact ⟨rfl, hL14.out⟩
theorem walkendLaw_walk (aS aH : Option Addr) (cS cH : Nat) (s : Slb) (k0 k1 k2 k3 k4 k5 k6 : Int) (n : Int) (w : World) (hz : SlabZ aS aH s w) (hf : SlabFit s) (m1 : s.slots.length ≤ maxLen) (m2 : s.heads.length ≤ maxLen) (g0 : (Lit.int .i64 k0).wf = true) (g1 : (Lit.int .i64 k1).wf = true) (g2 : (Lit.int .i64 k2).wf = true) (g3 : (Lit.int .i64 k3).wf = true) (g4 : (Lit.int .i64 k4).wf = true) (g5 : (Lit.int .i64 k5).wf = true) (g6 : (Lit.int .i64 k6).wf = true) (gn : (Lit.int .i64 n).wf = true) :
    Calls Try.prog 6 #[.agg #[.slice aS s.slots.length cS, .slice aH s.heads.length cH], .agg #[.int .i64 k0, .int .i64 k1, .int .i64 k2, .int .i64 k3, .int .i64 k4, .int .i64 k5, .int .i64 k6], .int .i64 n] w fun e w' => e = .returned (.bool true) ∧ Below w.heap.size w w' :=
  walkendLaw_all aS aH cS cH s ⟨k0, k1, k2, k3, k4, k5, k6⟩ n w hz hf ⟨fit_wf g0, fit_wf g1, fit_wf g2, fit_wf g3, fit_wf g4, fit_wf g5, fit_wf g6⟩ m1 m2
theorem laidOut_fnExactWalkEnd : laidOutB Try.prog = true := by kernel_rfl
theorem own_fnExactWalkEnd : ownKnob Try.prog.godebug = none := by kernel_rfl
set_option maxRecDepth 100000 in
theorem lifted_fnExactWalkEnd (os : Os) (started : os.Started) (H : Type) (enc : TypeId × Value → H) :
    ReturnsInHanded {} Try.checked os 6 .any (Rows.fnExactWalkEndSpec.pre6 enc Try.prog Try.f6 Rows.fnExactWalkEndRow.domain false) (Rows.fnExactWalkEndSpec.post enc Try.prog Try.f6 false true false false) := by
  refine returnsInHanded_of_change (C := Try.checked) own_fnExactWalkEnd started (by kernel_rfl) Try.func6
    (ChangeSpec.witness6 (enc := enc) (C := Try.checked) false ⟨#[], #[.agg #[.slice none 0 0, .slice none 0 0], .agg #[.int .i64 0, .int .i64 0, .int .i64 0, .int .i64 0, .int .i64 0, .int .i64 0, .int .i64 0], .int .i64 0], []⟩ 8 (by kernel_rfl) (by kernel_rfl) (by kernel_rfl) (by kernel_rfl)) ?_
  intro W base args ds gs before hval0 hW hcnd _
  have hval : ∀ (j : Nat) t v, Try.f6.params[j]? = some t → args[j]? = some v → Value.okWide Try.prog W .any base t v := hval0
  have hW' := hW
  obtain ⟨p, q, hA0, hV, rfl, hfz, hnd⟩ := hW
  have hA : DataW.TrodAll enc Try.prog W 0 (fun _ => true) true Try.f6.params.toList args.toList ds p := hA0
  rw [Try.params6] at hA hval
  obtain ⟨v0, vs0, d0, ds0, p0, q0, hargs, rfl, rfl, h0, r0⟩ := trodAll_cons hA
  obtain ⟨v1, vs1, d1, ds1, p1, q1, rfl, rfl, rfl, h1, r1⟩ := trodAll_cons r0
  obtain ⟨v2, vs2, d2, ds2, p2, q2, rfl, rfl, rfl, h2, r2⟩ := trodAll_cons r1
  obtain ⟨rfl, rfl, rfl⟩ := trodAll_nil r2
  obtain rfl : args = #[v0, v1, v2] := by cases args; simp_all
  obtain ⟨rfl, rfl⟩ := trodVars_none hV
  have k0 := h0
  have lt0 : ∀ x ∈ p0, x.block < W.heap.size := by obtain ⟨m, hm⟩ := k0; exact DataW.trod_lt m _ _ _ hm
  obtain ⟨aS0, aH0, cS0, cH0, s0, rfl, z0, f0, m0, n0⟩ := open_slab (hval 0 25 v0 rfl rfl) h0
  have k1 := h1
  have lt1 : ∀ x ∈ p1, x.block < W.heap.size := by obtain ⟨m, hm⟩ := k1; exact DataW.trod_lt m _ _ _ hm
  obtain ⟨f1_0, f1_1, f1_2, f1_3, f1_4, f1_5, f1_6, rfl, g1_0, g1_1, g1_2, g1_3, g1_4, g1_5, g1_6⟩ := open_walk (hval 1 27 v1 rfl rfl) h1
  obtain ⟨a2, rfl, rfl, rfl, w2⟩ := open_int Try.underlying2 (hval 2 2 v2 rfl rfl) h2
  clear hA0 hval0
  refine (walkendLaw_walk aS0 aH0 cS0 cH0 s0 f1_0 f1_1 f1_2 f1_3 f1_4 f1_5 f1_6 a2 W z0 f0 m0 n0 g1_0 g1_1 g1_2 g1_3 g1_4 g1_5 g1_6 w2).mono fun e W' ⟨he, bel⟩ => ?_
  subst he
  exact ⟨_, rfl, _, _, _, [], _, [], hW', trodAll_mk1 (shut_bool Try.underlying4 _), (trodAll_cons_mk (Below.trod laidOut_fnExactWalkEnd (by kernel_rfl) (of_decide_eq_true (by kernel_rfl)) k0 bel lt0) (trodAll_cons_mk (Below.trod laidOut_fnExactWalkEnd (by kernel_rfl) (of_decide_eq_true (by kernel_rfl)) k1 bel lt1) (trodAll_cons_mk (shut_int Try.underlying2 w2) trodAll_mk0))), rfl, bel.frame _, fun h => by cases h⟩

theorem walkend_holds : Rows.FnExactWalkEndSaid :=
  OpenClaim.holds_of_wide 6 Try.f6 rfl rfl rfl rfl rfl rfl rfl ⟨rfl, rfl, rfl, rfl, rfl⟩ rfl rfl rfl rfl rfl (by kernel_rfl) Try.func6 (by kernel_rfl)
    (of_decide_eq_true (by kernel_rfl)) (by unfold Func.isWrapper; first | (rw [if_pos (by decide +kernel)]; kernel_rfl) | (rw [if_neg (by decide +kernel)]; exact ⟨rfl, rfl⟩))
    (fun os started H enc _ => lifted_fnExactWalkEnd os started H enc)
#print axioms walkend_holds
end Go.Proofs.Ytjhkaideckgffaa
