/- Proved here: laws.FnExactWalkNew returns true at every argument, and each argument reads afterwards as before (no conditions). -/
import Derived.Test.YtjhkaideckgffaaOpenSlab
import Derived.Test.YtjhkaideckgffaaLawsWalk
import Derived.Test.YtjhkaideckgffaaWalkNewS
import Derived.Test.YtjhkaideckgffaaWalkNewI
import Derived.Test.YtjhkaideckgffaaKinds
import Derived.Test.YtjhkaideckgffaaGrowRes
import Derived.Test.YtjhkaideckgffaaGrowCases
import Derived.WalkKit
import Derived.WalkSpells
import Derived.ProofKit
import Derived.OpenShut
import Derived.ShutString
import Derived.Handy
import Derived.Below
import Derived.ChangeOld
namespace Go.Proofs.Ytjhkaideckgffaa
open Go.ChangeShapes Go.WideShapes Go.ChangeAt Go.RowKit
set_option linter.unusedVariables false
set_option linter.unusedSimpArgs false
set_option maxRecDepth 100000

/-- a new slab -/
def slabK (lo : Nat) (s : Slb) : Kp := fun v W => ∃ (bS bH : Option Addr) (hi : Nat), v = .agg #[.slice bS s.slots.length s.slots.length, .slice bH s.heads.length s.heads.length] ∧ SlabO lo hi bS bH s W
set_option maxHeartbeats 8000000 in
theorem walknewLaw_all (aS aH : Option Addr) (cS cH : Nat) (s : Slb) (c : Int) (w : World) (hz : SlabZ aS aH s w) (hf : SlabFit s) (m1 : s.slots.length ≤ maxLen) (m2 : s.heads.length ≤ maxLen) :
    Calls Try.prog 4 #[.agg #[.slice aS s.slots.length cS, .slice aH s.heads.length cH], .int .i64 c] w fun e w' => e = .returned (.bool true) ∧ Below w.heap.size w w' := by
  have m1' : s.slots.length ≤ 9223372036854775807 := m1
  have m2' : s.heads.length ≤ 9223372036854775807 := m2
  have HZ := hidS hz
  have HFT := hidS hf
  clear hz hf m1 m2
  by_cases hbig : 1048576 < s.slots.length + s.heads.length
  · have HSZ := hidS (fun W => szSlab_big aS aH cS cH s W m1' m2' hbig)
    have hL0 := hidS ((Below.refl w.heap.size w).alloc (Nat.le_refl _) (.cells #[.slice aS s.slots.length cS, .slice aH s.heads.length cH] 25))
    go_enter Try.func4, Try.ntmps4
    go_wp2_with fail
    refine (HSZ.out _).mono ?_
    rintro _ w1 ⟨⟨r, rfl, hr⟩, hb1⟩
    have hL1 := hidS (hL0.out.trans (hb1.mono hL0.out.size))
    clear hb1 hL0
    go_wp2_with fail
    go_ret
    exact ⟨rfl, hL1.out⟩
  have HSZ := hidS (fun W => szSlab_ok aS aH cS cH s W m1' m2' hbig)
  have h1 : s.slots.length ≤ 1048576 := by omega
  have h2 : s.heads.length ≤ 1048576 := by omega
  have HTO := hidS (fun W (h : Below w.heap.size w W) => toSlab_any aS aH cS cH s W (HZ.out.later h) h1 h2)
  have HSP := hidS (fun (bS bH : Option Addr) (W : World) (h : SlabZ bS bH s W) => specWalkNew_any bS bH s.slots.length s.heads.length s c W h h1 h2)
  have HIM := hidS (fun (bS bH : Option Addr) (W : World) (h : SlabZ bS bH s W) => implWalkNew_any bS bH s.slots.length s.heads.length s c W h HFT.out h1 h2)
  obtain ⟨t1, t2⟩ : (newWS s c).slots.length ≤ 1048576 ∧ (newWS s c).heads.length ≤ 1048576 := newW_len h1 h2
  generalize newWS s c = t at HSP HIM t1 t2
  generalize newWW s c = ta at HSP HIM
  generalize newC s c = tc at HSP HIM
  have HEX := hidS (fun (bS bH bS' bH' : Option Addr) (W : World) (h : SlabZ bS bH s W) (h' : SlabZ bS' bH' s W) => eqSlab_any bS bH bS' bH' s.slots.length s.heads.length s.slots.length s.heads.length s W h h' h1 h2)
  have HEQ := hidS (fun (bS bH bS' bH' : Option Addr) (k1 k2 k3 k4 : Nat) (W : World) (h : SlabZ bS bH t W) (h' : SlabZ bS' bH' t W) => eqWalkOut_any bS bH bS' bH' k1 k2 k3 k4 t ta tc W h h' t1 t2)
  have HMX := hidS (fun (lo hi : Nat) (bS bH : Option Addr) (W : World) (h : SlabO lo hi bS bH s W) (hh : hi ≤ W.heap.size) => markSlab_any lo hi bS bH s.slots.length s.heads.length s 1 W h hh h1 h2 (by omega) (by omega))
  have HMG := hidS (fun (lo hi : Nat) (bS bH : Option Addr) (k1 k2 : Nat) (W : World) (h : SlabO lo hi bS bH t W) (hh : hi ≤ W.heap.size) => markWalkOut_any lo hi bS bH k1 k2 t ta tc 1 W h hh t1 t2 (by omega) (by omega))
  have HHE := hidS (fun (bS bH : Option Addr) (k1 k2 : Nat) (W : World) (h : RowZ bS (marks 1 (4 * t.slots.length)) W) (h' : RowZ bH (marks (1 + 4 * t.slots.length) t.heads.length) W) => heldWalkOut_any bS bH k1 k2 t.slots.length t.heads.length ta tc 1 W h h' t1 t2 (by omega) (by omega))
  have hk1 : ¬ (1 + 4 * (s.slots.length : Int) + (s.heads.length : Int)) < 0 := by omega
  have hk2 : ¬ (1 + 4 * (t.slots.length : Int) + (t.heads.length : Int)) < 0 := by omega
  clear m1' m2' hbig
  have hGA0 := hidS (heap_newG w (.cells #[.slice aS s.slots.length cS, .slice aH s.heads.length cH] 25))
  have hL0 := hidS ((Below.refl w.heap.size w).alloc (Nat.le_refl _) (.cells #[.slice aS s.slots.length cS, .slice aH s.heads.length cH] 25))
  go_enter Try.func4, Try.ntmps4
  go_wp2_with fail
  refine (HSZ.out _).mono ?_
  rintro _ w1 ⟨⟨r, rfl, hr0, hr1⟩, hb1⟩
  have hr2 : ¬ r < 0 := by omega
  have hGA1 := hidS (blk_later hGA0.out hb1)
  have hL1 := hidS (hL0.out.trans (hb1.mono hL0.out.size))
  clear hGA0 hL0 hb1
  clear HSZ
  have a0 := blk_cell hGA1.out 0
  have a1 := blk_cell hGA1.out 1
  simp at a0 a1
  go_wp2_with fail
  refine (HTO.out _ hL1.out).mono ?_
  rintro _ w2 ⟨bpS, bpH, rfl, hO2, hb2⟩
  have g0 : w.heap.size ≤ w2.heap.size := Nat.le_trans hL1.out.size hb2.size
  have HO2 := hidS hO2.read
  clear hO2 a0 a1
  have hGA2 := hidS (blk_later hGA1.out hb2)
  have hL2 := hidS (hL1.out.trans (hb2.mono hL1.out.size))
  clear hGA1 hL1 hb2
  go_wp2_with fail
  refine (HSP.out _ _ _ HO2.out).mono ?_
  rintro _ w3 ⟨bwS, kw, bwH, lw, rfl, hOW, hb3⟩
  have HOW3 := hidS hOW
  clear HO2 hOW
  have b3 := hb3.size
  have hGA3 := hidS (blk_later hGA2.out hb3)
  have hL3 := hidS (hL2.out.trans (hb3.mono hL2.out.size))
  clear hGA2 hL2 hb3
  have hGA4 := hidS (blk_alloc hGA3.out (.cells #[.slice bwS t.slots.length kw, .slice bwH t.heads.length lw, .int .i64 ta.key, .int .i64 ta.cur, .int .i64 ta.stage, .int .i64 ta.state, .int .i64 ta.slot, .int .i64 ta.gen, .int .i64 ta.steps, .int .i64 tc] 39))
  have HOW4 := hidS (HOW3.out.later ((Below.refl w3.heap.size w3).alloc (Nat.le_refl _) (.cells #[.slice bwS t.slots.length kw, .slice bwH t.heads.length lw, .int .i64 ta.key, .int .i64 ta.cur, .int .i64 ta.stage, .int .i64 ta.state, .int .i64 ta.slot, .int .i64 ta.gen, .int .i64 ta.steps, .int .i64 tc] 39)))
  have hGW4 := hidS (heap_newG w3 (.cells #[.slice bwS t.slots.length kw, .slice bwH t.heads.length lw, .int .i64 ta.key, .int .i64 ta.cur, .int .i64 ta.stage, .int .i64 ta.state, .int .i64 ta.slot, .int .i64 ta.gen, .int .i64 ta.steps, .int .i64 tc] 39))
  have hL4 := hidS (hL3.out.alloc hL3.out.size (.cells #[.slice bwS t.slots.length kw, .slice bwH t.heads.length lw, .int .i64 ta.key, .int .i64 ta.cur, .int .i64 ta.stage, .int .i64 ta.state, .int .i64 ta.slot, .int .i64 ta.gen, .int .i64 ta.steps, .int .i64 tc] 39))
  have z4 : (w3.alloc (.cells #[.slice bwS t.slots.length kw, .slice bwH t.heads.length lw, .int .i64 ta.key, .int .i64 ta.cur, .int .i64 ta.stage, .int .i64 ta.state, .int .i64 ta.slot, .int .i64 ta.gen, .int .i64 ta.steps, .int .i64 tc] 39)).heap.size = w3.heap.size + 1 := by simp
  clear hGA3 HOW3 hL3
  go_upto_region 6 with fail
  generalize w3.alloc (.cells #[.slice bwS t.slots.length kw, .slice bwH t.heads.length lw, .int .i64 ta.key, .int .i64 ta.cur, .int .i64 ta.stage, .int .i64 ta.state, .int .i64 ta.slot, .int .i64 ta.gen, .int .i64 ta.steps, .int .i64 tc] 39) = w4 at hGA4 HOW4 hGW4 hL4 z4 ⊢
  have a0 := blk_cell hGA4.out 0
  have a1 := blk_cell hGA4.out 1
  simp at a0 a1
  go_wp2_with fail
  refine (HTO.out _ hL4.out).mono ?_
  rintro _ w5 ⟨bxS, bxH, rfl, hOX, hb5⟩
  have HOX5 := hidS hOX
  have b5 := hb5.size
  clear hOX a0 a1
  have hGA5 := hidS (blk_later hGA4.out hb5)
  have HOW5 := hidS (HOW4.out.later hb5)
  have hGW5 := hidS (blk_later hGW4.out hb5)
  have hL5 := hidS (hL4.out.trans (hb5.mono hL4.out.size))
  clear hGA4 HOW4 hGW4 hL4 hb5
  have hGA6 := hidS (blk_alloc hGA5.out (.cells #[.slice bxS s.slots.length s.slots.length, .slice bxH s.heads.length s.heads.length] 32))
  have HOW6 := hidS (HOW5.out.later ((Below.refl w5.heap.size w5).alloc (Nat.le_refl _) (.cells #[.slice bxS s.slots.length s.slots.length, .slice bxH s.heads.length s.heads.length] 32)))
  have hGW6 := hidS (blk_alloc hGW5.out (.cells #[.slice bxS s.slots.length s.slots.length, .slice bxH s.heads.length s.heads.length] 32))
  have HOX6 := hidS (HOX5.out.later ((Below.refl w5.heap.size w5).alloc (Nat.le_refl _) (.cells #[.slice bxS s.slots.length s.slots.length, .slice bxH s.heads.length s.heads.length] 32)))
  have hGX6 := hidS (heap_newG w5 (.cells #[.slice bxS s.slots.length s.slots.length, .slice bxH s.heads.length s.heads.length] 32))
  have hL6 := hidS (hL5.out.alloc hL5.out.size (.cells #[.slice bxS s.slots.length s.slots.length, .slice bxH s.heads.length s.heads.length] 32))
  have z6 : (w5.alloc (.cells #[.slice bxS s.slots.length s.slots.length, .slice bxH s.heads.length s.heads.length] 32)).heap.size = w5.heap.size + 1 := by simp
  clear hGA5 HOW5 hGW5 HOX5 hL5
  go_upto_region 7 with fail
  generalize w5.alloc (.cells #[.slice bxS s.slots.length s.slots.length, .slice bxH s.heads.length s.heads.length] 32) = w6 at hGA6 HOW6 hGW6 HOX6 hGX6 hL6 z6 ⊢
  have x0 := blk_cell hGX6.out 0
  have x1 := blk_cell hGX6.out 1
  simp at x0 x1
  go_wp2_with fail
  refine (HIM.out _ _ _ HOX6.out.read).mono ?_
  rintro _ w7 ⟨bgS, kg, bgH, lg, rfl, hOG, hb7⟩
  have HOG7 := hidS hOG
  have b7 := hb7.size
  clear hOG x0 x1
  have hGA7 := hidS (blk_later hGA6.out hb7)
  have HOW7 := hidS (HOW6.out.later hb7)
  have hGW7 := hidS (blk_later hGW6.out hb7)
  have HOX7 := hidS (HOX6.out.later hb7)
  have hGX7 := hidS (blk_later hGX6.out hb7)
  have hL7 := hidS (hL6.out.trans (hb7.mono hL6.out.size))
  clear hGA6 HOW6 hGW6 HOX6 hGX6 hL6 hb7
  have hGA8 := hidS (blk_alloc hGA7.out (.cells #[.slice bgS t.slots.length kg, .slice bgH t.heads.length lg, .int .i64 ta.key, .int .i64 ta.cur, .int .i64 ta.stage, .int .i64 ta.state, .int .i64 ta.slot, .int .i64 ta.gen, .int .i64 ta.steps, .int .i64 tc] 39))
  have HOW8 := hidS (HOW7.out.later ((Below.refl w7.heap.size w7).alloc (Nat.le_refl _) (.cells #[.slice bgS t.slots.length kg, .slice bgH t.heads.length lg, .int .i64 ta.key, .int .i64 ta.cur, .int .i64 ta.stage, .int .i64 ta.state, .int .i64 ta.slot, .int .i64 ta.gen, .int .i64 ta.steps, .int .i64 tc] 39)))
  have hGW8 := hidS (blk_alloc hGW7.out (.cells #[.slice bgS t.slots.length kg, .slice bgH t.heads.length lg, .int .i64 ta.key, .int .i64 ta.cur, .int .i64 ta.stage, .int .i64 ta.state, .int .i64 ta.slot, .int .i64 ta.gen, .int .i64 ta.steps, .int .i64 tc] 39))
  have HOX8 := hidS (HOX7.out.later ((Below.refl w7.heap.size w7).alloc (Nat.le_refl _) (.cells #[.slice bgS t.slots.length kg, .slice bgH t.heads.length lg, .int .i64 ta.key, .int .i64 ta.cur, .int .i64 ta.stage, .int .i64 ta.state, .int .i64 ta.slot, .int .i64 ta.gen, .int .i64 ta.steps, .int .i64 tc] 39)))
  have hGX8 := hidS (blk_alloc hGX7.out (.cells #[.slice bgS t.slots.length kg, .slice bgH t.heads.length lg, .int .i64 ta.key, .int .i64 ta.cur, .int .i64 ta.stage, .int .i64 ta.state, .int .i64 ta.slot, .int .i64 ta.gen, .int .i64 ta.steps, .int .i64 tc] 39))
  have HOG8 := hidS (HOG7.out.later ((Below.refl w7.heap.size w7).alloc (Nat.le_refl _) (.cells #[.slice bgS t.slots.length kg, .slice bgH t.heads.length lg, .int .i64 ta.key, .int .i64 ta.cur, .int .i64 ta.stage, .int .i64 ta.state, .int .i64 ta.slot, .int .i64 ta.gen, .int .i64 ta.steps, .int .i64 tc] 39)))
  have hGG8 := hidS (heap_newG w7 (.cells #[.slice bgS t.slots.length kg, .slice bgH t.heads.length lg, .int .i64 ta.key, .int .i64 ta.cur, .int .i64 ta.stage, .int .i64 ta.state, .int .i64 ta.slot, .int .i64 ta.gen, .int .i64 ta.steps, .int .i64 tc] 39))
  have hL8 := hidS (hL7.out.alloc hL7.out.size (.cells #[.slice bgS t.slots.length kg, .slice bgH t.heads.length lg, .int .i64 ta.key, .int .i64 ta.cur, .int .i64 ta.stage, .int .i64 ta.state, .int .i64 ta.slot, .int .i64 ta.gen, .int .i64 ta.steps, .int .i64 tc] 39))
  have z8 : (w7.alloc (.cells #[.slice bgS t.slots.length kg, .slice bgH t.heads.length lg, .int .i64 ta.key, .int .i64 ta.cur, .int .i64 ta.stage, .int .i64 ta.state, .int .i64 ta.slot, .int .i64 ta.gen, .int .i64 ta.steps, .int .i64 tc] 39)).heap.size = w7.heap.size + 1 := by simp
  clear hGA7 HOW7 hGW7 HOX7 hGX7 HOG7 hL7
  go_upto_region 8 with fail
  generalize w7.alloc (.cells #[.slice bgS t.slots.length kg, .slice bgH t.heads.length lg, .int .i64 ta.key, .int .i64 ta.cur, .int .i64 ta.stage, .int .i64 ta.state, .int .i64 ta.slot, .int .i64 ta.gen, .int .i64 ta.steps, .int .i64 tc] 39) = w8 at hGA8 HOW8 hGW8 HOX8 hGX8 HOG8 hGG8 hL8 z8 ⊢
  generalize w2.heap.size = L0 at *
  generalize w3.heap.size = L1 at *
  generalize w4.heap.size = L2 at *
  generalize w5.heap.size = L3 at *
  generalize w6.heap.size = L4 at *
  generalize w7.heap.size = L5 at *
  have LL : Hid (w.heap.size ≤ L0 ∧ L0 ≤ L1 ∧ L1 < L2 ∧ L2 ≤ L3 ∧ L3 < L4 ∧ L4 ≤ L5) := hidS ⟨g0, b3, by omega, b5, by omega, b7⟩
  clear g0 b3 b5 b7 z4 z6 z8
  have g0 := blk_cell hGG8.out 0
  have g1 := blk_cell hGG8.out 1
  have g2 := blk_cell hGG8.out 2
  have g3 := blk_cell hGG8.out 3
  have g4 := blk_cell hGG8.out 4
  have g5 := blk_cell hGG8.out 5
  have g6 := blk_cell hGG8.out 6
  have g7 := blk_cell hGG8.out 7
  have g8 := blk_cell hGG8.out 8
  have g9 := blk_cell hGG8.out 9
  simp at g0 g1 g2 g3 g4 g5 g6 g7 g8 g9
  have v0 := blk_cell hGW8.out 0
  have v1 := blk_cell hGW8.out 1
  have v2 := blk_cell hGW8.out 2
  have v3 := blk_cell hGW8.out 3
  have v4 := blk_cell hGW8.out 4
  have v5 := blk_cell hGW8.out 5
  have v6 := blk_cell hGW8.out 6
  have v7 := blk_cell hGW8.out 7
  have v8 := blk_cell hGW8.out 8
  have v9 := blk_cell hGW8.out 9
  simp at v0 v1 v2 v3 v4 v5 v6 v7 v8 v9
  go_wp2_with fail
  refine (HEQ.out _ _ _ _ _ _ _ _ _ HOG8.out.read HOW8.out.read).mono ?_
  rintro _ w9 ⟨rfl, hb9⟩
  clear g0 g1 g2 g3 g4 g5 g6 g7 g8 g9 v0 v1 v2 v3 v4 v5 v6 v7 v8 v9
  have hGA9 := hidS (blk_later hGA8.out hb9)
  have HOW9 := hidS (HOW8.out.later hb9)
  have hGW9 := hidS (blk_later hGW8.out hb9)
  have HOX9 := hidS (HOX8.out.later hb9)
  have hGX9 := hidS (blk_later hGX8.out hb9)
  have HOG9 := hidS (HOG8.out.later hb9)
  have hGG9 := hidS (blk_later hGG8.out hb9)
  have hL9 := hidS (hL8.out.trans (hb9.mono hL8.out.size))
  clear hGA8 HOW8 hGW8 HOX8 hGX8 HOG8 hGG8 hL8 hb9
  go_wp2_with fail
  refine grow_res (fun W => Below w9.heap.size w9 W) (fun W W' => Below W.heap.size W W') (kpOf [isP (.agg #[.slice bxS s.slots.length s.slots.length, .slice bxH s.heads.length s.heads.length]), isP (.agg #[.slice aS s.slots.length cS, .slice aH s.heads.length cH]), slabK w9.heap.size s, isP (.bool true), isP (.bool false)]) (by kernel_rfl) (by kernel_rfl) (all_lastB _ ⟨(fun v W W' h _ => h), (fun v W W' h _ => h), (fun v W W' h hR => by obtain ⟨bS, bH, hi, e, ho⟩ := h; exact ⟨bS, bH, hi, e, ho.later hR⟩), (fun v W W' h _ => h), (fun v W W' h _ => h), trivial⟩) (Below.refl _ _).drew ?stepsq ?finq
  case stepsq =>
    refine ⟨?_, ?_, ?_, ?_, ?_, trivial⟩
    · refine ⟨rfl, fun v W ρ hC kc kf ks ki kd => ?_⟩
      have tp : ρ (.tmp 7) = .pointer (some ⟨L3, 0, none⟩) := ki 7 (by decide)
      have e0 := blk_cell (blk_later hGX9.out hC) 0
      have e1 := blk_cell (blk_later hGX9.out hC) 1
      simp at e0 e1
      simp [execOp, go_sem, tp, e0, e1]
      simp only [RanS]
      exact ⟨hC, Below.refl _ _, rfl⟩
    · refine ⟨rfl, fun v W ρ hC kc kf ks ki kd => ?_⟩
      have tp : ρ (.tmp 2) = .pointer (some ⟨w.heap.size, 0, none⟩) := ki 2 (by decide)
      have e0 := blk_cell (blk_later hGA9.out hC) 0
      have e1 := blk_cell (blk_later hGA9.out hC) 1
      simp at e0 e1
      simp [execOp, go_sem, tp, e0, e1]
      simp only [RanS]
      exact ⟨hC, Below.refl _ _, rfl⟩
    · refine ⟨rfl, fun v W ρ hC kc kf ks ki kd => ?_⟩
      have d1 : v 1 = .agg #[.slice aS s.slots.length cS, .slice aH s.heads.length cH] := by first | exact kd _ (mem0 rfl) rfl | exact kd _ (mem1 rfl) rfl | exact kd _ (mem2 rfl) rfl
      have t1 : ρ (.tmp 32) = .agg #[.slice aS s.slots.length cS, .slice aH s.heads.length cH] := (ks 1 32 (by decide) rfl).trans d1
      simp [execOp, go_sem, t1, kf]
      simp only [RanS]
      refine Calls.mono (HTO.out W (hL9.out.trans (hC.mono hL9.out.size))) (fun e x h => ?_)
      obtain ⟨bS, bH, rfl, ho, hb⟩ := h
      have hC2 : Below w9.heap.size w9 x := hC.trans (hb.mono hC.size)
      exact ⟨_, rfl, hC2, hb, bS, bH, x.heap.size, rfl, ho.low hC.size⟩
    · refine ⟨rfl, fun v W ρ hC kc kf ks ki kd => ?_⟩
      have d0 : v 0 = .agg #[.slice bxS s.slots.length s.slots.length, .slice bxH s.heads.length s.heads.length] := by first | exact kd _ (mem0 rfl) rfl | exact kd _ (mem1 rfl) rfl | exact kd _ (mem2 rfl) rfl
      have t0 : ρ (.tmp 31) = .agg #[.slice bxS s.slots.length s.slots.length, .slice bxH s.heads.length s.heads.length] := (ks 0 31 (by decide) rfl).trans d0
      obtain ⟨bS, bH, hi, hv, ho⟩ : slabK w9.heap.size s (v 2) W := by first | exact kd _ (mem0 rfl) rfl | exact kd _ (mem1 rfl) rfl | exact kd _ (mem2 rfl) rfl
      have t2 : ρ (.tmp 33) = .agg #[.slice bS s.slots.length s.slots.length, .slice bH s.heads.length s.heads.length] := (ks 2 33 (by decide) rfl).trans hv
      simp [execOp, go_sem, t0, t2, kf]
      simp only [RanS]
      exact Calls.mono (HEX.out _ _ _ _ W (HOX9.out.later hC).read ho.read) (fun e x h => ⟨_, h.1, hC.trans (h.2.mono hC.size), h.2, rfl⟩)
    · refine ⟨rfl, fun v W ρ hC kc kf ks ki kd => ?_⟩
      have d3 : v 3 = .bool true := by first | exact kd _ (mem0 rfl) rfl | exact kd _ (mem1 rfl) rfl | exact kd _ (mem2 rfl) rfl
      have t3 : ρ (.tmp 34) = .bool true := (ks 3 34 (by decide) rfl).trans d3
      simp [execOp, go_sem, t3]
      simp only [RanS]
      exact ⟨hC, Below.refl _ _, rfl⟩
  intro v10 w10 hb10 hall
  have hv10 : v10 4 = .bool false := hall 4 (by decide)
  simp [upto, Act.put]
  rw [hv10]
  clear hall hv10
  have hGA10 := hidS (blk_later hGA9.out hb10)
  have HOW10 := hidS (HOW9.out.later hb10)
  have hGW10 := hidS (blk_later hGW9.out hb10)
  have HOX10 := hidS (HOX9.out.later hb10)
  have hGX10 := hidS (blk_later hGX9.out hb10)
  have HOG10 := hidS (HOG9.out.later hb10)
  have hGG10 := hidS (blk_later hGG9.out hb10)
  have hL10 := hidS (hL9.out.trans (hb10.mono hL9.out.size))
  clear hGA9 HOW9 hGW9 HOX9 hGX9 HOG9 hGG9 hL9 hb10
  have x0 := blk_cell hGX10.out 0
  have x1 := blk_cell hGX10.out 1
  simp at x0 x1
  go_wp2_with fail
  refine (HMX.out L2 L3 _ _ _ HOX10.out (Nat.le_of_lt (blk_lt hGX10.out))).mono ?_
  rintro _ w11 ⟨rfl, _, _, hm11⟩
  have l := LL.out
  clear x0 x1
  have hGA11 := hidS ((hm11.block _ (blk_lt hGA10.out) (by omega)).trans hGA10.out)
  have HOW11 := hidS (HOW10.out.apart hm11 (by omega))
  have hGW11 := hidS ((hm11.block _ (blk_lt hGW10.out) (by omega)).trans hGW10.out)
  have hGX11 := hidS ((hm11.block _ (blk_lt hGX10.out) (by omega)).trans hGX10.out)
  have HOG11 := hidS (HOG10.out.apart hm11 (by omega))
  have hGG11 := hidS ((hm11.block _ (blk_lt hGG10.out) (by omega)).trans hGG10.out)
  have hL11 := hidS (hL10.out.trans (hm11.below (by omega) hL10.out.size))
  clear hGA10 HOW10 hGW10 HOX10 hGX10 HOG10 hGG10 hL10 hm11
  clear l
  have g0 := blk_cell hGG11.out 0
  have g1 := blk_cell hGG11.out 1
  have g2 := blk_cell hGG11.out 2
  have g3 := blk_cell hGG11.out 3
  have g4 := blk_cell hGG11.out 4
  have g5 := blk_cell hGG11.out 5
  have g6 := blk_cell hGG11.out 6
  have g7 := blk_cell hGG11.out 7
  have g8 := blk_cell hGG11.out 8
  have g9 := blk_cell hGG11.out 9
  simp at g0 g1 g2 g3 g4 g5 g6 g7 g8 g9
  have v0 := blk_cell hGW11.out 0
  have v1 := blk_cell hGW11.out 1
  have v2 := blk_cell hGW11.out 2
  have v3 := blk_cell hGW11.out 3
  have v4 := blk_cell hGW11.out 4
  have v5 := blk_cell hGW11.out 5
  have v6 := blk_cell hGW11.out 6
  have v7 := blk_cell hGW11.out 7
  have v8 := blk_cell hGW11.out 8
  have v9 := blk_cell hGW11.out 9
  simp at v0 v1 v2 v3 v4 v5 v6 v7 v8 v9
  go_wp2_with fail
  refine (HEQ.out _ _ _ _ _ _ _ _ _ HOG11.out.read HOW11.out.read).mono ?_
  rintro _ w12 ⟨rfl, hb12⟩
  clear g0 g1 g2 g3 g4 g5 g6 g7 g8 g9 v0 v1 v2 v3 v4 v5 v6 v7 v8 v9
  have hGA12 := hidS (blk_later hGA11.out hb12)
  have HOW12 := hidS (HOW11.out.later hb12)
  have hGW12 := hidS (blk_later hGW11.out hb12)
  have hGX12 := hidS (blk_later hGX11.out hb12)
  have HOG12 := hidS (HOG11.out.later hb12)
  have hGG12 := hidS (blk_later hGG11.out hb12)
  have hL12 := hidS (hL11.out.trans (hb12.mono hL11.out.size))
  clear hGA11 HOW11 hGW11 hGX11 HOG11 hGG11 hL11 hb12
  have g0 := blk_cell hGG12.out 0
  have g1 := blk_cell hGG12.out 1
  have g2 := blk_cell hGG12.out 2
  have g3 := blk_cell hGG12.out 3
  have g4 := blk_cell hGG12.out 4
  have g5 := blk_cell hGG12.out 5
  have g6 := blk_cell hGG12.out 6
  have g7 := blk_cell hGG12.out 7
  have g8 := blk_cell hGG12.out 8
  have g9 := blk_cell hGG12.out 9
  simp at g0 g1 g2 g3 g4 g5 g6 g7 g8 g9
  go_wp2_with fail
  refine (HMG.out L4 L5 _ _ _ _ _ HOG12.out (Nat.le_of_lt (blk_lt hGG12.out))).mono ?_
  rintro _ w13 ⟨rfl, hRS, hRH, hm13⟩
  have HRS13 := hidS hRS
  have HRH13 := hidS hRH
  have l := LL.out
  clear hRS hRH g0 g1 g2 g3 g4 g5 g6 g7 g8 g9
  have hGA13 := hidS ((hm13.block _ (blk_lt hGA12.out) (by omega)).trans hGA12.out)
  have HOW13 := hidS (HOW12.out.apart hm13 (by omega))
  have hGW13 := hidS ((hm13.block _ (blk_lt hGW12.out) (by omega)).trans hGW12.out)
  have hGX13 := hidS ((hm13.block _ (blk_lt hGX12.out) (by omega)).trans hGX12.out)
  have hGG13 := hidS ((hm13.block _ (blk_lt hGG12.out) (by omega)).trans hGG12.out)
  have hL13 := hidS (hL12.out.trans (hm13.below (by omega) hL12.out.size))
  clear hGA12 HOW12 hGW12 hGX12 HOG12 hGG12 hL12 hm13
  clear l
  have g0 := blk_cell hGG13.out 0
  have g1 := blk_cell hGG13.out 1
  have g2 := blk_cell hGG13.out 2
  have g3 := blk_cell hGG13.out 3
  have g4 := blk_cell hGG13.out 4
  have g5 := blk_cell hGG13.out 5
  have g6 := blk_cell hGG13.out 6
  have g7 := blk_cell hGG13.out 7
  have g8 := blk_cell hGG13.out 8
  have g9 := blk_cell hGG13.out 9
  simp at g0 g1 g2 g3 g4 g5 g6 g7 g8 g9
  go_wp2_with fail
  refine (HHE.out _ _ _ _ _ HRS13.out.read HRH13.out.read).mono ?_
  rintro _ w14 ⟨rfl, hb14⟩
  clear g0 g1 g2 g3 g4 g5 g6 g7 g8 g9
  have hGA14 := hidS (blk_later hGA13.out hb14)
  have HOW14 := hidS (HOW13.out.later hb14)
  have hGW14 := hidS (blk_later hGW13.out hb14)
  have hGX14 := hidS (blk_later hGX13.out hb14)
  have hGG14 := hidS (blk_later hGG13.out hb14)
  have HRS14 := hidS (HRS13.out.later hb14)
  have HRH14 := hidS (HRH13.out.later hb14)
  have hL14 := hidS (hL13.out.trans (hb14.mono hL13.out.size))
  clear hGA13 HOW13 hGW13 hGX13 hGG13 HRS13 HRH13 hL13 hb14
  have a0 := blk_cell hGA14.out 0
  have a1 := blk_cell hGA14.out 1
  simp at a0 a1
  go_wp2_with fail
  refine (HTO.out _ hL14.out).mono ?_
  rintro _ w15 ⟨bpS, bpH, rfl, hO15, hb15⟩
  have HOP15 := hidS hO15.read
  clear hO15 a0 a1
  have hGA15 := hidS (blk_later hGA14.out hb15)
  have HOW15 := hidS (HOW14.out.later hb15)
  have hGW15 := hidS (blk_later hGW14.out hb15)
  have hGX15 := hidS (blk_later hGX14.out hb15)
  have hGG15 := hidS (blk_later hGG14.out hb15)
  have HRS15 := hidS (HRS14.out.later hb15)
  have HRH15 := hidS (HRH14.out.later hb15)
  have hL15 := hidS (hL14.out.trans (hb15.mono hL14.out.size))
  clear hGA14 HOW14 hGW14 hGX14 hGG14 HRS14 HRH14 hL14 hb15
  go_wp2_with fail
  refine (HIM.out _ _ _ HOP15.out).mono ?_
  rintro _ w16 ⟨bhS, kh, bhH, lh, rfl, hOH, hb16⟩
  have HOH16 := hidS hOH.read
  clear hOH HOP15
  have hGA16 := hidS (blk_later hGA15.out hb16)
  have HOW16 := hidS (HOW15.out.later hb16)
  have hGW16 := hidS (blk_later hGW15.out hb16)
  have hGX16 := hidS (blk_later hGX15.out hb16)
  have hGG16 := hidS (blk_later hGG15.out hb16)
  have HRS16 := hidS (HRS15.out.later hb16)
  have HRH16 := hidS (HRH15.out.later hb16)
  have hL16 := hidS (hL15.out.trans (hb16.mono hL15.out.size))
  clear hGA15 HOW15 hGW15 hGX15 hGG15 HRS15 HRH15 hL15 hb16
  have hGA17 := hidS (blk_alloc hGA16.out (.cells #[.slice bhS t.slots.length kh, .slice bhH t.heads.length lh, .int .i64 ta.key, .int .i64 ta.cur, .int .i64 ta.stage, .int .i64 ta.state, .int .i64 ta.slot, .int .i64 ta.gen, .int .i64 ta.steps, .int .i64 tc] 39))
  have HOW17 := hidS (HOW16.out.later ((Below.refl w16.heap.size w16).alloc (Nat.le_refl _) (.cells #[.slice bhS t.slots.length kh, .slice bhH t.heads.length lh, .int .i64 ta.key, .int .i64 ta.cur, .int .i64 ta.stage, .int .i64 ta.state, .int .i64 ta.slot, .int .i64 ta.gen, .int .i64 ta.steps, .int .i64 tc] 39)))
  have hGW17 := hidS (blk_alloc hGW16.out (.cells #[.slice bhS t.slots.length kh, .slice bhH t.heads.length lh, .int .i64 ta.key, .int .i64 ta.cur, .int .i64 ta.stage, .int .i64 ta.state, .int .i64 ta.slot, .int .i64 ta.gen, .int .i64 ta.steps, .int .i64 tc] 39))
  have hGX17 := hidS (blk_alloc hGX16.out (.cells #[.slice bhS t.slots.length kh, .slice bhH t.heads.length lh, .int .i64 ta.key, .int .i64 ta.cur, .int .i64 ta.stage, .int .i64 ta.state, .int .i64 ta.slot, .int .i64 ta.gen, .int .i64 ta.steps, .int .i64 tc] 39))
  have hGG17 := hidS (blk_alloc hGG16.out (.cells #[.slice bhS t.slots.length kh, .slice bhH t.heads.length lh, .int .i64 ta.key, .int .i64 ta.cur, .int .i64 ta.stage, .int .i64 ta.state, .int .i64 ta.slot, .int .i64 ta.gen, .int .i64 ta.steps, .int .i64 tc] 39))
  have HRS17 := hidS (HRS16.out.later ((Below.refl w16.heap.size w16).alloc (Nat.le_refl _) (.cells #[.slice bhS t.slots.length kh, .slice bhH t.heads.length lh, .int .i64 ta.key, .int .i64 ta.cur, .int .i64 ta.stage, .int .i64 ta.state, .int .i64 ta.slot, .int .i64 ta.gen, .int .i64 ta.steps, .int .i64 tc] 39)))
  have HRH17 := hidS (HRH16.out.later ((Below.refl w16.heap.size w16).alloc (Nat.le_refl _) (.cells #[.slice bhS t.slots.length kh, .slice bhH t.heads.length lh, .int .i64 ta.key, .int .i64 ta.cur, .int .i64 ta.stage, .int .i64 ta.state, .int .i64 ta.slot, .int .i64 ta.gen, .int .i64 ta.steps, .int .i64 tc] 39)))
  have HOH17 := hidS (HOH16.out.later ((Below.refl w16.heap.size w16).alloc (Nat.le_refl _) (.cells #[.slice bhS t.slots.length kh, .slice bhH t.heads.length lh, .int .i64 ta.key, .int .i64 ta.cur, .int .i64 ta.stage, .int .i64 ta.state, .int .i64 ta.slot, .int .i64 ta.gen, .int .i64 ta.steps, .int .i64 tc] 39)))
  have hGH17 := hidS (heap_newG w16 (.cells #[.slice bhS t.slots.length kh, .slice bhH t.heads.length lh, .int .i64 ta.key, .int .i64 ta.cur, .int .i64 ta.stage, .int .i64 ta.state, .int .i64 ta.slot, .int .i64 ta.gen, .int .i64 ta.steps, .int .i64 tc] 39))
  have hL17 := hidS (hL16.out.alloc hL16.out.size (.cells #[.slice bhS t.slots.length kh, .slice bhH t.heads.length lh, .int .i64 ta.key, .int .i64 ta.cur, .int .i64 ta.stage, .int .i64 ta.state, .int .i64 ta.slot, .int .i64 ta.gen, .int .i64 ta.steps, .int .i64 tc] 39))
  have z17 : (w16.alloc (.cells #[.slice bhS t.slots.length kh, .slice bhH t.heads.length lh, .int .i64 ta.key, .int .i64 ta.cur, .int .i64 ta.stage, .int .i64 ta.state, .int .i64 ta.slot, .int .i64 ta.gen, .int .i64 ta.steps, .int .i64 tc] 39)).heap.size = w16.heap.size + 1 := by simp
  clear hGA16 HOW16 hGW16 hGX16 hGG16 HRS16 HRH16 HOH16 hL16
  go_upto_region 25 with fail
  generalize w16.alloc (.cells #[.slice bhS t.slots.length kh, .slice bhH t.heads.length lh, .int .i64 ta.key, .int .i64 ta.cur, .int .i64 ta.stage, .int .i64 ta.state, .int .i64 ta.slot, .int .i64 ta.gen, .int .i64 ta.steps, .int .i64 tc] 39) = w17 at hGA17 HOW17 hGW17 hGX17 hGG17 HRS17 HRH17 HOH17 hGH17 hL17 z17 ⊢
  generalize w16.heap.size = L6 at *
  clear z17
  have g0 := blk_cell hGH17.out 0
  have g1 := blk_cell hGH17.out 1
  have g2 := blk_cell hGH17.out 2
  have g3 := blk_cell hGH17.out 3
  have g4 := blk_cell hGH17.out 4
  have g5 := blk_cell hGH17.out 5
  have g6 := blk_cell hGH17.out 6
  have g7 := blk_cell hGH17.out 7
  have g8 := blk_cell hGH17.out 8
  have g9 := blk_cell hGH17.out 9
  simp at g0 g1 g2 g3 g4 g5 g6 g7 g8 g9
  have v0 := blk_cell hGW17.out 0
  have v1 := blk_cell hGW17.out 1
  have v2 := blk_cell hGW17.out 2
  have v3 := blk_cell hGW17.out 3
  have v4 := blk_cell hGW17.out 4
  have v5 := blk_cell hGW17.out 5
  have v6 := blk_cell hGW17.out 6
  have v7 := blk_cell hGW17.out 7
  have v8 := blk_cell hGW17.out 8
  have v9 := blk_cell hGW17.out 9
  simp at v0 v1 v2 v3 v4 v5 v6 v7 v8 v9
  go_wp2_with fail
  refine (HEQ.out _ _ _ _ _ _ _ _ _ HOH17.out HOW17.out.read).mono ?_
  rintro _ w18 ⟨rfl, hb18⟩
  clear g0 g1 g2 g3 g4 g5 g6 g7 g8 g9 v0 v1 v2 v3 v4 v5 v6 v7 v8 v9
  have hGA18 := hidS (blk_later hGA17.out hb18)
  have HOW18 := hidS (HOW17.out.later hb18)
  have hGW18 := hidS (blk_later hGW17.out hb18)
  have hGX18 := hidS (blk_later hGX17.out hb18)
  have hGG18 := hidS (blk_later hGG17.out hb18)
  have HRS18 := hidS (HRS17.out.later hb18)
  have HRH18 := hidS (HRH17.out.later hb18)
  have hGH18 := hidS (blk_later hGH17.out hb18)
  have hL18 := hidS (hL17.out.trans (hb18.mono hL17.out.size))
  clear hGA17 HOW17 hGW17 hGX17 hGG17 HRS17 HRH17 HOH17 hGH17 hL17 hb18
  have g0 := blk_cell hGG18.out 0
  have g1 := blk_cell hGG18.out 1
  have g2 := blk_cell hGG18.out 2
  have g3 := blk_cell hGG18.out 3
  have g4 := blk_cell hGG18.out 4
  have g5 := blk_cell hGG18.out 5
  have g6 := blk_cell hGG18.out 6
  have g7 := blk_cell hGG18.out 7
  have g8 := blk_cell hGG18.out 8
  have g9 := blk_cell hGG18.out 9
  simp at g0 g1 g2 g3 g4 g5 g6 g7 g8 g9
  go_wp2_with fail
  refine (HHE.out _ _ _ _ _ HRS18.out.read HRH18.out.read).mono ?_
  rintro _ w19 ⟨rfl, hb19⟩
  clear g0 g1 g2 g3 g4 g5 g6 g7 g8 g9
  have hGA19 := hidS (blk_later hGA18.out hb19)
  have HOW19 := hidS (HOW18.out.later hb19)
  have hGW19 := hidS (blk_later hGW18.out hb19)
  have hGX19 := hidS (blk_later hGX18.out hb19)
  have hGG19 := hidS (blk_later hGG18.out hb19)
  have HRS19 := hidS (HRS18.out.later hb19)
  have HRH19 := hidS (HRH18.out.later hb19)
  have hGH19 := hidS (blk_later hGH18.out hb19)
  have hL19 := hidS (hL18.out.trans (hb19.mono hL18.out.size))
  clear hGA18 HOW18 hGW18 hGX18 hGG18 HRS18 HRH18 hGH18 hL18 hb19
  go_wp2_with fail
  go_ret
  exact ⟨rfl, hL19.out⟩
theorem walknewLaw_walk (aS aH : Option Addr) (cS cH : Nat) (s : Slb) (c : Int) (w : World) (hz : SlabZ aS aH s w) (hf : SlabFit s) (m1 : s.slots.length ≤ maxLen) (m2 : s.heads.length ≤ maxLen) (hk : (Lit.int .i64 c).wf = true) :
    Calls Try.prog 4 #[.agg #[.slice aS s.slots.length cS, .slice aH s.heads.length cH], .int .i64 c] w fun e w' => e = .returned (.bool true) ∧ Below w.heap.size w w' := walknewLaw_all aS aH cS cH s c w hz hf m1 m2
theorem laidOut_fnExactWalkNew : laidOutB Try.prog = true := by kernel_rfl
theorem own_fnExactWalkNew : ownKnob Try.prog.godebug = none := by kernel_rfl
set_option maxRecDepth 100000 in
theorem lifted_fnExactWalkNew (os : Os) (started : os.Started) (H : Type) (enc : TypeId × Value → H) :
    ReturnsInHanded {} Try.checked os 4 .any (Rows.fnExactWalkNewSpec.pre6 enc Try.prog Try.f4 Rows.fnExactWalkNewRow.domain false) (Rows.fnExactWalkNewSpec.post enc Try.prog Try.f4 false true false false) := by
  refine returnsInHanded_of_change (C := Try.checked) own_fnExactWalkNew started (by kernel_rfl) Try.func4
    (ChangeSpec.witness6 (enc := enc) (C := Try.checked) false ⟨#[], #[.agg #[.slice none 0 0, .slice none 0 0], .int .i64 0], []⟩ 8 (by kernel_rfl) (by kernel_rfl) (by kernel_rfl) (by kernel_rfl)) ?_
  intro W base args ds gs before hval0 hW hcnd _
  have hval : ∀ (j : Nat) t v, Try.f4.params[j]? = some t → args[j]? = some v → Value.okWide Try.prog W .any base t v := hval0
  have hW' := hW
  obtain ⟨p, q, hA0, hV, rfl, hfz, hnd⟩ := hW
  have hA : DataW.TrodAll enc Try.prog W 0 (fun _ => true) true Try.f4.params.toList args.toList ds p := hA0
  rw [Try.params4] at hA hval
  obtain ⟨v0, vs0, d0, ds0, p0, q0, hargs, rfl, rfl, h0, r0⟩ := trodAll_cons hA
  obtain ⟨v1, vs1, d1, ds1, p1, q1, rfl, rfl, rfl, h1, r1⟩ := trodAll_cons r0
  obtain ⟨rfl, rfl, rfl⟩ := trodAll_nil r1
  obtain rfl : args = #[v0, v1] := by cases args; simp_all
  obtain ⟨rfl, rfl⟩ := trodVars_none hV
  have k0 := h0
  have lt0 : ∀ x ∈ p0, x.block < W.heap.size := by obtain ⟨m, hm⟩ := k0; exact DataW.trod_lt m _ _ _ hm
  obtain ⟨aS0, aH0, cS0, cH0, s0, rfl, z0, f0, m0, n0⟩ := open_slab (hval 0 25 v0 rfl rfl) h0
  obtain ⟨a1, rfl, rfl, rfl, w1⟩ := open_int Try.underlying2 (hval 1 2 v1 rfl rfl) h1
  clear hA0 hval0
  refine (walknewLaw_walk aS0 aH0 cS0 cH0 s0 a1 W z0 f0 m0 n0 w1).mono fun e W' ⟨he, bel⟩ => ?_
  subst he
  exact ⟨_, rfl, _, _, _, [], _, [], hW', trodAll_mk1 (shut_bool Try.underlying4 _), (trodAll_cons_mk (Below.trod laidOut_fnExactWalkNew (by kernel_rfl) (of_decide_eq_true (by kernel_rfl)) k0 bel lt0) (trodAll_cons_mk (shut_int Try.underlying2 w1) trodAll_mk0)), rfl, bel.frame _, fun h => by cases h⟩

theorem walknew_holds : Rows.FnExactWalkNewSaid :=
  OpenClaim.holds_of_wide 4 Try.f4 rfl rfl rfl rfl rfl rfl rfl ⟨rfl, rfl, rfl, rfl, rfl⟩ rfl rfl rfl rfl rfl (by kernel_rfl) Try.func4 (by kernel_rfl)
    (of_decide_eq_true (by kernel_rfl)) (by unfold Func.isWrapper; first | (rw [if_pos (by decide +kernel)]; kernel_rfl) | (rw [if_neg (by decide +kernel)]; exact ⟨rfl, rfl⟩))
    (fun os started H enc _ => lifted_fnExactWalkNew os started H enc)
#print axioms walknew_holds
end Go.Proofs.Ytjhkaideckgffaa
