/- Proved here: spec.l07Ill, l07Head and l07Code answer as the plain functions; all old memory stays (conditions: the slab's rows can be read; at most 2^20 numbers). -/
import Derived.Test.YtfjgofmjhccdkaaAll12
import Derived.Test.YtfjgofmjhccdkaaWalkRS
import Derived.Test.YtfjgofmjhccdkaaGrow
import Derived.Test.YtfjgofmjhccdkaaAll2
import Derived.Deep.Cut
namespace Go.Proofs.Ytfjgofmjhccdkaa
open Go.ChangeShapes Go.WideShapes Go.ChangeAt Go.RowKit
set_option linter.unusedVariables false
set_option linter.unusedSimpArgs false
set_option maxRecDepth 100000

set_option maxHeartbeats 2000000 in
theorem l07Ill_any (c : Int) (w : World) :
    Calls Try.prog 56 #[.int .i64 c] w fun e w' => e = .returned (.agg #[.slice none 0 0, .slice none 0 0, .int .i64 0, .int .i64 0, .int .i64 0, .int .i64 0, .int .i64 0, .int .i64 0, .int .i64 0, .int .i64 c]) ∧ Below w.heap.size w w' := by
  have HB1 := hidS ((Below.refl w.heap.size w).alloc (Nat.le_refl _) (.cells #[.slice none 0 0, .slice none 0 0, .int .i64 0, .int .i64 0, .int .i64 0, .int .i64 0, .int .i64 0, .int .i64 0, .int .i64 0, .int .i64 c] 32))
  go_enter Try.func56, Try.ntmps56
  go_wp2_with fail
  have hR1 := heap_newG w (.cells #[.slice none 0 0, .slice none 0 0, .int .i64 0, .int .i64 0, .int .i64 0, .int .i64 0, .int .i64 0, .int .i64 0, .int .i64 0, .int .i64 c] 32)
  have k0 := blk_cell hR1 0
  have k1 := blk_cell hR1 1
  have k2 := blk_cell hR1 2
  have k3 := blk_cell hR1 3
  have k4 := blk_cell hR1 4
  have k5 := blk_cell hR1 5
  have k6 := blk_cell hR1 6
  have k7 := blk_cell hR1 7
  have k8 := blk_cell hR1 8
  have k9 := blk_cell hR1 9
  simp at k0 k1 k2 k3 k4 k5 k6 k7 k8 k9
  exact bodyPost_ret (v := .agg #[.slice none 0 0, .slice none 0 0, .int .i64 0, .int .i64 0, .int .i64 0, .int .i64 0, .int .i64 0, .int .i64 0, .int .i64 0, .int .i64 c]) (by simp [results, Try.results56, go_sem, *]) rfl ⟨rfl, HB1.out⟩
set_option maxHeartbeats 2000000 in
theorem l07Head_any (bS oS bH oH cS cH : Nat) (s : Slb) (key : Int) (w : World) (hR : RowZ (some ⟨bH, oH, none⟩) s.heads w) (hk : 0 ≤ key) (hl : 1 ≤ s.heads.length) (hl2 : s.heads.length ≤ 4) :
    Calls Try.prog 58 #[.agg #[.slice (some ⟨bS, oS, none⟩) s.slots.length cS, .slice (some ⟨bH, oH, none⟩) s.heads.length cH], .int .i64 key] w fun e w' => e = .returned (.int .i64 (hdK s key)) ∧ Below w.heap.size w w' := by
  obtain ⟨hcl, hmod⟩ := chN_lt (s := s) hk hl
  unfold hdK
  generalize chN s key = c at hcl hmod ⊢
  replace hmod := hmod.symm
  have hne : s.heads ≠ [] := fun e => by rw [e] at hl; simp at hl
  have hcc : (0 : Int) ≤ (c : Int) ∧ (c : Int) < (s.heads.length : Int) := by omega
  have HC := hidS (fun W (h : Below w.heap.size w W) => (hR.later h) c hcl)
  generalize s.heads.getD c 0 = z at HC ⊢
  clear hR
  have HA := hidS (heap_newG w (.cells #[.slice (some ⟨bS, oS, none⟩) s.slots.length cS, .slice (some ⟨bH, oH, none⟩) s.heads.length cH] 26))
  have HB0 := hidS ((Below.refl w.heap.size w).alloc (Nat.le_refl _) (.cells #[.slice (some ⟨bS, oS, none⟩) s.slots.length cS, .slice (some ⟨bH, oH, none⟩) s.heads.length cH] 26))
  go_enter Try.func58, Try.ntmps58
  go_wp2_with fail
  generalize w.alloc (.cells #[.slice (some ⟨bS, oS, none⟩) s.slots.length cS, .slice (some ⟨bH, oH, none⟩) s.heads.length cH] 26) = w0 at HA HB0 ⊢
  refine grow_guarded 10 [.is (.pointer (some ⟨w.heap.size, 1, none⟩)), .is (.slice (some ⟨bH, oH, none⟩) s.heads.length cH), .is (.int .i64 key), .is (.pointer (some ⟨w.heap.size, 1, none⟩)), .is (.slice (some ⟨bH, oH, none⟩) s.heads.length cH), .is (.int .i64 (s.heads.length : Int)), .is (.int .i64 (c : Int)), .is (.pointer (some ⟨bH, oH + c, none⟩)), .is (.int .i64 z), .is (.int .i64 z)] rfl (by kernel_rfl) (by kernel_rfl) ?steps1 ?fin1
  case steps1 =>
    refine ⟨?_, ?_, ?_, ?_, ?_, ?_, ?_, ?_, ?_, ?_, trivial⟩
    · refine stepW_of_u ⟨rfl, fun v W ρ hC kc kf ks ki kd => ?_⟩
      have t2 : ρ (.tmp 2) = .pointer (some ⟨w.heap.size, 0, none⟩) := ki 2 (by decide)
      simp [execOp, go_sem, kc, t2]
      exact ⟨hC, Below.refl _ _, rfl⟩
    · refine stepW_of_u ⟨rfl, fun v W ρ hC kc kf ks ki kd => ?_⟩
      have d0 : v 0 = .pointer (some ⟨w.heap.size, 1, none⟩) := (kdj kd 0 rfl :)
      have t5 : ρ (.tmp 5) = .pointer (some ⟨w.heap.size, 1, none⟩) := (ks 0 5 (by decide) rfl).trans d0
      have hg := blk_later HA.out hC
      have c1 := blk_cell hg 1
      simp at c1
      simp [execOp, go_sem, kc, t5, c1]
      exact ⟨hC, Below.refl _ _, rfl⟩
    · refine stepW_of_u ⟨rfl, fun v W ρ hC kc kf ks ki kd => ?_⟩
      have t1 : ρ (.tmp 1) = .int .i64 key := ki 1 (by decide)
      simp [execOp, go_sem, kc, t1]
      exact ⟨hC, Below.refl _ _, rfl⟩
    · refine stepW_of_u ⟨rfl, fun v W ρ hC kc kf ks ki kd => ?_⟩
      have t2 : ρ (.tmp 2) = .pointer (some ⟨w.heap.size, 0, none⟩) := ki 2 (by decide)
      simp [execOp, go_sem, kc, t2]
      exact ⟨hC, Below.refl _ _, rfl⟩
    · refine stepW_of_u ⟨rfl, fun v W ρ hC kc kf ks ki kd => ?_⟩
      have d3 : v 3 = .pointer (some ⟨w.heap.size, 1, none⟩) := (kdj kd 3 rfl :)
      have t8 : ρ (.tmp 8) = .pointer (some ⟨w.heap.size, 1, none⟩) := (ks 3 8 (by decide) rfl).trans d3
      have hg := blk_later HA.out hC
      have c1 := blk_cell hg 1
      simp at c1
      simp [execOp, go_sem, kc, t8, c1]
      exact ⟨hC, Below.refl _ _, rfl⟩
    · refine stepW_of_u ⟨rfl, fun v W ρ hC kc kf ks ki kd => ?_⟩
      have d4 : v 4 = .slice (some ⟨bH, oH, none⟩) s.heads.length cH := (kdj kd 4 rfl :)
      have t9 : ρ (.tmp 9) = .slice (some ⟨bH, oH, none⟩) s.heads.length cH := (ks 4 9 (by decide) rfl).trans d4
      simp [execOp, go_sem, kc, t9]
      exact ⟨hC, Below.refl _ _, rfl⟩
    · refine stepW_of_u ⟨rfl, fun v W ρ hC kc kf ks ki kd => ?_⟩
      have d2 : v 2 = .int .i64 key := (kdj kd 2 rfl :)
      have t7 : ρ (.tmp 7) = .int .i64 key := (ks 2 7 (by decide) rfl).trans d2
      have d5 : v 5 = .int .i64 (s.heads.length : Int) := (kdj kd 5 rfl :)
      have t10 : ρ (.tmp 10) = .int .i64 (s.heads.length : Int) := (ks 5 10 (by decide) rfl).trans d5
      simp [execOp, go_sem, kc, t7, t10, hmod, hne]
      exact ⟨hC, Below.refl _ _, rfl⟩
    · refine stepW_of_u ⟨rfl, fun v W ρ hC kc kf ks ki kd => ?_⟩
      have d1 : v 1 = .slice (some ⟨bH, oH, none⟩) s.heads.length cH := (kdj kd 1 rfl :)
      have t6 : ρ (.tmp 6) = .slice (some ⟨bH, oH, none⟩) s.heads.length cH := (ks 1 6 (by decide) rfl).trans d1
      have d6 : v 6 = .int .i64 (c : Int) := (kdj kd 6 rfl :)
      have t11 : ρ (.tmp 11) = .int .i64 (c : Int) := (ks 6 11 (by decide) rfl).trans d6
      simp [execOp, go_sem, kc, t6, t11, hcc]
      exact ⟨hC, Below.refl _ _, rfl⟩
    · refine stepW_of_u ⟨rfl, fun v W ρ hC kc kf ks ki kd => ?_⟩
      have d7 : v 7 = .pointer (some ⟨bH, oH + c, none⟩) := (kdj kd 7 rfl :)
      have t12 : ρ (.tmp 12) = .pointer (some ⟨bH, oH + c, none⟩) := (ks 7 12 (by decide) rfl).trans d7
      obtain ⟨b', o', e', hlt, hz⟩ := HC.out W (HB0.out.trans (hC.mono HB0.out.size))
      injection e' with e'; injection e' with e1 e2
      subst e1 e2
      simp [execOp, go_sem, kc, t12, hz]
      exact ⟨hC, Below.refl _ _, rfl⟩
    · refine stepW_of_u ⟨rfl, fun v W ρ hC kc kf ks ki kd => ?_⟩
      have d8 : v 8 = .int .i64 z := (kdj kd 8 rfl :)
      have t13 : ρ (.tmp 13) = .int .i64 z := (ks 8 13 (by decide) rfl).trans d8
      simp [execOp, go_sem, kc, t13]
      exact ⟨hC, Below.refl _ _, rfl⟩
  intro v1 W1 hb1 hall
  have hv1 : v1 9 = .int .i64 z := hall 9 (by decide)
  simp [upto, Act.put]
  rw [hv1]
  clear hall hv1
  go_wp2_with fail
  go_ret
  exact ⟨rfl, HB0.out.trans (hb1.mono HB0.out.size)⟩
set_option maxHeartbeats 4000000 in
theorem l07Code_any (aS aH : Option Addr) (cS cH : Nat) (s : Slb) (k : Wlk) (w : World) (hR : SlabZ aS aH s w) (h1 : s.slots.length ≤ 1048576) (h2 : s.heads.length ≤ 1048576) :
    Calls Try.prog 59 #[.agg #[.slice aS s.slots.length cS, .slice aH s.heads.length cH], .agg #[.int .i64 k.key, .int .i64 k.cur, .int .i64 k.stage, .int .i64 k.state, .int .i64 k.slot, .int .i64 k.gen, .int .i64 k.steps]] w fun e w' => e = .returned (.int .i64 (stepC s k)) ∧ Below w.heap.size w w' := by
  have HS := hidS (fun W (h : Below w.heap.size w W) => specWalkRight_any aS aH cS cH s k W (hR.later h) h1 h2)
  clear hR
  unfold stepC
  generalize wkRight s k = q at HS ⊢
  obtain ⟨key, cur, stage, state, slot, gen, steps⟩ := k
  cases q
  · have hGA0 : Hid (((w.alloc (.cells #[.slice aS s.slots.length cS, .slice aH s.heads.length cH] 26)).alloc (.cells #[.int .i64 key, .int .i64 cur, .int .i64 stage, .int .i64 state, .int .i64 slot, .int .i64 gen, .int .i64 steps] 30)).heap[w.heap.size]? = some (.cells #[.slice aS s.slots.length cS, .slice aH s.heads.length cH] 26)) := by
      show _ = _
      have := blk_alloc (heap_newG w (.cells #[.slice aS s.slots.length cS, .slice aH s.heads.length cH] 26)) (.cells #[.int .i64 key, .int .i64 cur, .int .i64 stage, .int .i64 state, .int .i64 slot, .int .i64 gen, .int .i64 steps] 30)
      simpa using this
    have hGK0 : Hid (((w.alloc (.cells #[.slice aS s.slots.length cS, .slice aH s.heads.length cH] 26)).alloc (.cells #[.int .i64 key, .int .i64 cur, .int .i64 stage, .int .i64 state, .int .i64 slot, .int .i64 gen, .int .i64 steps] 30)).heap[w.heap.size + 1]? = some (.cells #[.int .i64 key, .int .i64 cur, .int .i64 stage, .int .i64 state, .int .i64 slot, .int .i64 gen, .int .i64 steps] 30)) := by
      show _ = _
      have := heap_newG (w.alloc (.cells #[.slice aS s.slots.length cS, .slice aH s.heads.length cH] 26)) (.cells #[.int .i64 key, .int .i64 cur, .int .i64 stage, .int .i64 state, .int .i64 slot, .int .i64 gen, .int .i64 steps] 30)
      simpa using this
    have hL0 := hidS (((Below.refl w.heap.size w).alloc (Nat.le_refl _) (.cells #[.slice aS s.slots.length cS, .slice aH s.heads.length cH] 26)).alloc (by simp) (.cells #[.int .i64 key, .int .i64 cur, .int .i64 stage, .int .i64 state, .int .i64 slot, .int .i64 gen, .int .i64 steps] 30))
    go_enter Try.func59, Try.ntmps59
    go_wp2_with fail
    refine (HS.out _ hL0.out).mono ?_
    rintro _ w1 ⟨rfl, hb1⟩
    have hGA1 := hidS (blk_later hGA0.out hb1)
    have hGK1 := hidS (blk_later hGK0.out hb1)
    have hL1 := hidS (hL0.out.trans (hb1.mono hL0.out.size))
    clear hb1 hL0 hGA0 hGK0
    have cK0 := blk_cell hGK1.out 0
    have cK1 := blk_cell hGK1.out 1
    have cK2 := blk_cell hGK1.out 2
    have cK3 := blk_cell hGK1.out 3
    have cK4 := blk_cell hGK1.out 4
    have cK5 := blk_cell hGK1.out 5
    have cK6 := blk_cell hGK1.out 6
    simp at cK0 cK1 cK2 cK3 cK4 cK5 cK6
    go_wp2_with fail
    go_ret
    exact ⟨by simp, hL1.out⟩
  by_cases hs : state = 0
  · subst hs
    by_cases ht : steps < 1000000
    · have hb : ¬ (1000000 ≤ steps) := by omega
      have hGA0 : Hid (((w.alloc (.cells #[.slice aS s.slots.length cS, .slice aH s.heads.length cH] 26)).alloc (.cells #[.int .i64 key, .int .i64 cur, .int .i64 stage, .int .i64 0, .int .i64 slot, .int .i64 gen, .int .i64 steps] 30)).heap[w.heap.size]? = some (.cells #[.slice aS s.slots.length cS, .slice aH s.heads.length cH] 26)) := by
        show _ = _
        have := blk_alloc (heap_newG w (.cells #[.slice aS s.slots.length cS, .slice aH s.heads.length cH] 26)) (.cells #[.int .i64 key, .int .i64 cur, .int .i64 stage, .int .i64 0, .int .i64 slot, .int .i64 gen, .int .i64 steps] 30)
        simpa using this
      have hGK0 : Hid (((w.alloc (.cells #[.slice aS s.slots.length cS, .slice aH s.heads.length cH] 26)).alloc (.cells #[.int .i64 key, .int .i64 cur, .int .i64 stage, .int .i64 0, .int .i64 slot, .int .i64 gen, .int .i64 steps] 30)).heap[w.heap.size + 1]? = some (.cells #[.int .i64 key, .int .i64 cur, .int .i64 stage, .int .i64 0, .int .i64 slot, .int .i64 gen, .int .i64 steps] 30)) := by
        show _ = _
        have := heap_newG (w.alloc (.cells #[.slice aS s.slots.length cS, .slice aH s.heads.length cH] 26)) (.cells #[.int .i64 key, .int .i64 cur, .int .i64 stage, .int .i64 0, .int .i64 slot, .int .i64 gen, .int .i64 steps] 30)
        simpa using this
      have hL0 := hidS (((Below.refl w.heap.size w).alloc (Nat.le_refl _) (.cells #[.slice aS s.slots.length cS, .slice aH s.heads.length cH] 26)).alloc (by simp) (.cells #[.int .i64 key, .int .i64 cur, .int .i64 stage, .int .i64 0, .int .i64 slot, .int .i64 gen, .int .i64 steps] 30))
      go_enter Try.func59, Try.ntmps59
      go_wp2_with fail
      refine (HS.out _ hL0.out).mono ?_
      rintro _ w1 ⟨rfl, hb1⟩
      have hGA1 := hidS (blk_later hGA0.out hb1)
      have hGK1 := hidS (blk_later hGK0.out hb1)
      have hL1 := hidS (hL0.out.trans (hb1.mono hL0.out.size))
      clear hb1 hL0 hGA0 hGK0
      have cK0 := blk_cell hGK1.out 0
      have cK1 := blk_cell hGK1.out 1
      have cK2 := blk_cell hGK1.out 2
      have cK3 := blk_cell hGK1.out 3
      have cK4 := blk_cell hGK1.out 4
      have cK5 := blk_cell hGK1.out 5
      have cK6 := blk_cell hGK1.out 6
      simp at cK0 cK1 cK2 cK3 cK4 cK5 cK6
      go_wp2_with fail
      go_ret
      exact ⟨by simp [ht], hL1.out⟩
    · have hb : (1000000 : Int) ≤ steps := by omega
      have hGA0 : Hid (((w.alloc (.cells #[.slice aS s.slots.length cS, .slice aH s.heads.length cH] 26)).alloc (.cells #[.int .i64 key, .int .i64 cur, .int .i64 stage, .int .i64 0, .int .i64 slot, .int .i64 gen, .int .i64 steps] 30)).heap[w.heap.size]? = some (.cells #[.slice aS s.slots.length cS, .slice aH s.heads.length cH] 26)) := by
        show _ = _
        have := blk_alloc (heap_newG w (.cells #[.slice aS s.slots.length cS, .slice aH s.heads.length cH] 26)) (.cells #[.int .i64 key, .int .i64 cur, .int .i64 stage, .int .i64 0, .int .i64 slot, .int .i64 gen, .int .i64 steps] 30)
        simpa using this
      have hGK0 : Hid (((w.alloc (.cells #[.slice aS s.slots.length cS, .slice aH s.heads.length cH] 26)).alloc (.cells #[.int .i64 key, .int .i64 cur, .int .i64 stage, .int .i64 0, .int .i64 slot, .int .i64 gen, .int .i64 steps] 30)).heap[w.heap.size + 1]? = some (.cells #[.int .i64 key, .int .i64 cur, .int .i64 stage, .int .i64 0, .int .i64 slot, .int .i64 gen, .int .i64 steps] 30)) := by
        show _ = _
        have := heap_newG (w.alloc (.cells #[.slice aS s.slots.length cS, .slice aH s.heads.length cH] 26)) (.cells #[.int .i64 key, .int .i64 cur, .int .i64 stage, .int .i64 0, .int .i64 slot, .int .i64 gen, .int .i64 steps] 30)
        simpa using this
      have hL0 := hidS (((Below.refl w.heap.size w).alloc (Nat.le_refl _) (.cells #[.slice aS s.slots.length cS, .slice aH s.heads.length cH] 26)).alloc (by simp) (.cells #[.int .i64 key, .int .i64 cur, .int .i64 stage, .int .i64 0, .int .i64 slot, .int .i64 gen, .int .i64 steps] 30))
      go_enter Try.func59, Try.ntmps59
      go_wp2_with fail
      refine (HS.out _ hL0.out).mono ?_
      rintro _ w1 ⟨rfl, hb1⟩
      have hGA1 := hidS (blk_later hGA0.out hb1)
      have hGK1 := hidS (blk_later hGK0.out hb1)
      have hL1 := hidS (hL0.out.trans (hb1.mono hL0.out.size))
      clear hb1 hL0 hGA0 hGK0
      have cK0 := blk_cell hGK1.out 0
      have cK1 := blk_cell hGK1.out 1
      have cK2 := blk_cell hGK1.out 2
      have cK3 := blk_cell hGK1.out 3
      have cK4 := blk_cell hGK1.out 4
      have cK5 := blk_cell hGK1.out 5
      have cK6 := blk_cell hGK1.out 6
      simp at cK0 cK1 cK2 cK3 cK4 cK5 cK6
      go_wp2_with fail
      go_ret
      exact ⟨by simp [ht], hL1.out⟩
  · have hb : (state == 0) = false := beq_eq_false_iff_ne.2 hs
    have hGA0 : Hid (((w.alloc (.cells #[.slice aS s.slots.length cS, .slice aH s.heads.length cH] 26)).alloc (.cells #[.int .i64 key, .int .i64 cur, .int .i64 stage, .int .i64 state, .int .i64 slot, .int .i64 gen, .int .i64 steps] 30)).heap[w.heap.size]? = some (.cells #[.slice aS s.slots.length cS, .slice aH s.heads.length cH] 26)) := by
      show _ = _
      have := blk_alloc (heap_newG w (.cells #[.slice aS s.slots.length cS, .slice aH s.heads.length cH] 26)) (.cells #[.int .i64 key, .int .i64 cur, .int .i64 stage, .int .i64 state, .int .i64 slot, .int .i64 gen, .int .i64 steps] 30)
      simpa using this
    have hGK0 : Hid (((w.alloc (.cells #[.slice aS s.slots.length cS, .slice aH s.heads.length cH] 26)).alloc (.cells #[.int .i64 key, .int .i64 cur, .int .i64 stage, .int .i64 state, .int .i64 slot, .int .i64 gen, .int .i64 steps] 30)).heap[w.heap.size + 1]? = some (.cells #[.int .i64 key, .int .i64 cur, .int .i64 stage, .int .i64 state, .int .i64 slot, .int .i64 gen, .int .i64 steps] 30)) := by
      show _ = _
      have := heap_newG (w.alloc (.cells #[.slice aS s.slots.length cS, .slice aH s.heads.length cH] 26)) (.cells #[.int .i64 key, .int .i64 cur, .int .i64 stage, .int .i64 state, .int .i64 slot, .int .i64 gen, .int .i64 steps] 30)
      simpa using this
    have hL0 := hidS (((Below.refl w.heap.size w).alloc (Nat.le_refl _) (.cells #[.slice aS s.slots.length cS, .slice aH s.heads.length cH] 26)).alloc (by simp) (.cells #[.int .i64 key, .int .i64 cur, .int .i64 stage, .int .i64 state, .int .i64 slot, .int .i64 gen, .int .i64 steps] 30))
    go_enter Try.func59, Try.ntmps59
    go_wp2_with fail
    refine (HS.out _ hL0.out).mono ?_
    rintro _ w1 ⟨rfl, hb1⟩
    have hGA1 := hidS (blk_later hGA0.out hb1)
    have hGK1 := hidS (blk_later hGK0.out hb1)
    have hL1 := hidS (hL0.out.trans (hb1.mono hL0.out.size))
    clear hb1 hL0 hGA0 hGK0
    have cK0 := blk_cell hGK1.out 0
    have cK1 := blk_cell hGK1.out 1
    have cK2 := blk_cell hGK1.out 2
    have cK3 := blk_cell hGK1.out 3
    have cK4 := blk_cell hGK1.out 4
    have cK5 := blk_cell hGK1.out 5
    have cK6 := blk_cell hGK1.out 6
    simp at cK0 cK1 cK2 cK3 cK4 cK5 cK6
    go_wp2_with fail
    go_ret
    exact ⟨by simp [hs], hL1.out⟩
end Go.Proofs.Ytfjgofmjhccdkaa
