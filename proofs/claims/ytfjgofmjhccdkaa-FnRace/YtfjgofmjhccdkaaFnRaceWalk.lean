/- Proved here: laws.FnRace answers true, whatever is drawn; all old memory stays (condition: the bytes that are drawn from can be read, at most 2^20 each). -/
import Derived.Test.YtfjgofmjhccdkaaAll20
import Derived.Test.YtfjgofmjhccdkaaAll21
import Derived.Test.YtfjgofmjhccdkaaAll24
import Derived.Test.YtfjgofmjhccdkaaSlabAddI
import Derived.Test.YtfjgofmjhccdkaaSlabCutI
import Derived.Test.YtfjgofmjhccdkaaSlabNewI
import Derived.Test.YtfjgofmjhccdkaaAll28
import Derived.Test.YtfjgofmjhccdkaaWalkNewI
import Derived.Test.YtfjgofmjhccdkaaWalkStepI
import Derived.Test.YtfjgofmjhccdkaaAll39
import Derived.Test.YtfjgofmjhccdkaaAll31
import Derived.Test.YtfjgofmjhccdkaaAll2
import Derived.Test.YtfjgofmjhccdkaaRaceStep
import Derived.Deep.Cut
import Derived.Deep.CutRange
import Derived.BigRegion
namespace Go.Proofs.Ytfjgofmjhccdkaa
open Go.ChangeShapes Go.WideShapes Go.ChangeAt Go.RowKit
set_option linter.unusedVariables false
set_option linter.unusedSimpArgs false
set_option maxRecDepth 100000

theorem size_set {n : Nat} {W : World} (h : n ≤ W.heap.size) (b k : Nat) (v : Value) : n ≤ (W.setCell ⟨b, k, none⟩ v).heap.size := by simpa using h
theorem size_alloc {n : Nat} {W : World} (h : n ≤ W.heap.size) (o : Obj) : n ≤ (W.alloc o).heap.size := by simp; omega
/-- a block below the rows is written -/
theorem SlabO.put {lo hi : Nat} {aS aH : Option Addr} {s : Slb} {W : World} (h : SlabO lo hi aS aH s W) {b : Nat} (hb : b < lo) (k : Nat) (v : Value) : SlabO lo hi aS aH s (W.setCell ⟨b, k, none⟩ v) :=
  h.apart (lo' := b) (hi' := b + 1) ⟨rfl, rfl, rfl, by simp, fun q _ ho => Below.heap_setCell W ⟨b, k, none⟩ v q (by show q ≠ b; omega)⟩ (.inr (by omega))
theorem inv_fit {s : Slb} {k : Wlk} {ab : Bool} {sl gs : List Int} (h : RInv s k ab sl gs) : fitW k := by
  obtain ⟨⟨k0, k1⟩, hp, ho, s0, s1⟩ := wk_parts.1 h.w
  obtain ⟨z1, z2⟩ := out_zero ho h.st
  obtain ⟨p1, p2, p3, p4⟩ := place_cur hp
  obtain ⟨_, n1, n2, n3, n4⟩ := right_leads h.r
  have hst := h.st
  have hc : -100 ≤ k.cur ∧ k.cur ≤ 100 := by
    by_cases e : k.cur < 0
    · have := (p1 e).2; omega
    · have := p2 (by omega); omega
  unfold fitW fitZ
  omega
theorem find_ok {s : Slb} (hr : rightSl s = true) : findAns s 3 = findSl s 3 := by unfold findAns; rw [hr]; rfl
theorem field_walk (aS aH : Option Addr) (n a m b : Nat) (x0 x1 x2 x3 x4 x5 x6 y : Int) (W : World) : (Instr.field 32 (.agg #[.slice aS n a, .slice aH m b, .int .i64 x0, .int .i64 x1, .int .i64 x2, .int .i64 x3, .int .i64 x4, .int .i64 x5, .int .i64 x6, .int .i64 y]) 1).run Try.prog W = .ok (.agg #[.int .i64 x0, .int .i64 x1, .int .i64 x2, .int .i64 x3, .int .i64 x4, .int .i64 x5, .int .i64 x6]) W := by
  first
  | rfl
  | kernel_rfl
  | (simp [Instr.field, go_sem])
theorem field_code (aS aH : Option Addr) (n a m b : Nat) (x y : Int) (W : World) : (Instr.field 47 (.agg #[.slice aS n a, .slice aH m b, .int .i64 x, .int .i64 y]) 2).run Try.prog W = .ok (.int .i64 y) W := by
  first
  | rfl
  | kernel_rfl
  | (simp [Instr.field, go_sem])
set_option maxHeartbeats 16000000 in
theorem fnRace_in (a0 : Option Addr) (len0 cap0 : Nat) (a1 : Option Addr) (len1 cap1 : Nat) (w : World) (h0 : RowAt w.heap.size a0 len0 w) (h1 : RowAt w.heap.size a1 len1 w) (hl0 : len0 ≤ 1048576) (hl1 : len1 ≤ 1048576) :
    Calls Try.prog 4 #[.slice a0 len0 cap0, .slice a1 len1 cap1] w fun e w' => e = .returned (.bool true) ∧ Below w.heap.size w w' := by
  have g0 : ¬ ((1048576 : Int) < (len0 : Int)) := by omega
  have g1 : ¬ ((1048576 : Int) < (len1 : Int)) := by omega
  obtain ⟨f0, hf0⟩ := rowF_of h0
  obtain ⟨f1, hf1⟩ := rowF_of h1
  have HA := hidS (fun (i most : Int) (W : World) (h : Below w.heap.size w W) (hi : 0 ≤ i) (hi2 : i ≤ 1000) (hm : most ≤ 4611686018427387904) => lwAtF_any w.heap.size a0 len0 cap0 f0 i most W (hf0.later h) hl0 hi hi2 hm)
  have HM := hidS (fun (i most : Int) (W : World) (h : Below w.heap.size w W) (hi : 0 ≤ i) (hi2 : i ≤ 1000) (hm : most ≤ 4611686018427387904) => lwAtF_any w.heap.size a1 len1 cap1 f1 i most W (hf1.later h) hl1 hi hi2 hm)
  have HB := hidS (fun (i most : Int) (W : World) (h : Below w.heap.size w W) (hi : 0 ≤ i) (hi2 : i ≤ 1000) (hm : most ≤ 4611686018427387904) => Calls.mono (lwAtF_any w.heap.size a0 len0 cap0 f0 i most W (hf0.later h) hl0 hi hi2 hm) (fun e x h => (⟨h.1, h.2 ▸ Below.refl _ _⟩ : e = .returned (.int .i64 (lwV len0 f0 i most)) ∧ Below W.heap.size W x)))
  clear h0 h1 hf0 hf1
  have B0 := lwV_in len0 f0 0 4
  have B1 := lwV_in len0 f0 1 3
  have HA0 := hidS (fun W h => HA.out 0 4 W h (by omega) (by omega) (by omega))
  have HA1 := hidS (fun W h => HA.out 1 3 W h (by omega) (by omega) (by omega))
  have HB0 := hidS (fun W h => HB.out 0 4 W h (by omega) (by omega) (by omega))
  have HB1 := hidS (fun W h => HB.out 1 3 W h (by omega) (by omega) (by omega))
  generalize lwV len0 f0 0 4 = r0 at B0 HA0 HB0
  generalize lwV len0 f0 1 3 = r1 at B1 HA1 HB1
  have HNI := hidS (fun W => implSlabNew_any (4 + r0) (1 + r1) W)
  have HNS := hidS (fun W => specSlabNew_any (4 + r0) (1 + r1) W)
  obtain ⟨hr0, hRR0⟩ := new_is (n := 4 + r0) (m := 1 + r1) (by omega) (by omega) (by omega) (by omega)
  generalize newSl (4 + r0) (1 + r1) = s at HNI HNS hr0 hRR0
  obtain ⟨_, n1, n2, n3, n4⟩ := right_leads hr0
  have N1 := hidS n1
  have N3 := hidS n3
  have RR := hidS hr0
  have RF := hidS hRR0
  have hL0 := hidS (Below.refl w.heap.size w)
  clear hr0 hRR0
  go_enter Try.func4, Try.ntmps4
  go_wp2_with fail
  refine (HA0.out _ hL0.out).mono ?_
  rintro _ v9 ⟨rfl, hv9⟩
  rw [hv9]
  clear hv9 v9
  go_wp2_with fail
  refine (HA1.out _ hL0.out).mono ?_
  rintro _ v9 ⟨rfl, hv9⟩
  rw [hv9]
  clear hv9 v9
  go_wp2_with fail
  refine (HNI.out _).mono ?_
  intro e w0 hans
  obtain ⟨b2, o2, u2, b3, o3, u3, rfl, q1, q2, q3, hP, hQ, hb⟩ := SlabAns.rows hans N1.out N3.out
  clear hans
  have P0 := hidS hP
  have Q0 := hidS hQ
  have L0 := hidS (hL0.out.trans (hb.mono (Nat.le_refl _)))
  clear hP hQ hb hL0
  have lP0 := P0.out.lt
  have lQ0 := Q0.out.lt
  go_wp2_with fail
  have P1 : Hid (RowB b2 o2 (flat s.slots) (w0.alloc (.cells #[.slice (some ⟨b2, o2, none⟩) s.slots.length u2, .slice (some ⟨b3, o3, none⟩) s.heads.length u3] 26))) := hidS (P0.out.later ((Below.refl w0.heap.size w0).alloc (Nat.le_refl _) (.cells #[.slice (some ⟨b2, o2, none⟩) s.slots.length u2, .slice (some ⟨b3, o3, none⟩) s.heads.length u3] 26)))
  have lP1 := P0.out.lt
  have Q1 : Hid (RowB b3 o3 s.heads (w0.alloc (.cells #[.slice (some ⟨b2, o2, none⟩) s.slots.length u2, .slice (some ⟨b3, o3, none⟩) s.heads.length u3] 26))) := hidS (Q0.out.later ((Below.refl w0.heap.size w0).alloc (Nat.le_refl _) (.cells #[.slice (some ⟨b2, o2, none⟩) s.slots.length u2, .slice (some ⟨b3, o3, none⟩) s.heads.length u3] 26)))
  have lQ1 := Q0.out.lt
  have S1 : Hid ((w0.alloc (.cells #[.slice (some ⟨b2, o2, none⟩) s.slots.length u2, .slice (some ⟨b3, o3, none⟩) s.heads.length u3] 26)).heap[w0.heap.size]? = some (.cells #[.slice (some ⟨b2, o2, none⟩) s.slots.length u2, .slice (some ⟨b3, o3, none⟩) s.heads.length u3] 26)) := hidS (heap_newG w0 (.cells #[.slice (some ⟨b2, o2, none⟩) s.slots.length u2, .slice (some ⟨b3, o3, none⟩) s.heads.length u3] 26))
  have L1 : Hid (Below w.heap.size w (w0.alloc (.cells #[.slice (some ⟨b2, o2, none⟩) s.slots.length u2, .slice (some ⟨b3, o3, none⟩) s.heads.length u3] 26))) := hidS (L0.out.alloc L0.out.size (.cells #[.slice (some ⟨b2, o2, none⟩) s.slots.length u2, .slice (some ⟨b3, o3, none⟩) s.heads.length u3] 26))
  have ls1 := L0.out.size
  clear L0 P0 Q0
  generalize w0.alloc (.cells #[.slice (some ⟨b2, o2, none⟩) s.slots.length u2, .slice (some ⟨b3, o3, none⟩) s.heads.length u3] 26) = w1 at P1 Q1 S1 L1 ⊢
  generalize w0.heap.size = sa at *
  have wr0 : IntKind.i64.wrap (4 + r0) = 4 + r0 := IntWalk.i64_in _ (by omega)
  have wr1 : IntKind.i64.wrap (1 + r1) = 1 + r1 := IntWalk.i64_in _ (by omega)
  have hn0 : ((s.slots.length : Int) == 0) = false := beq_eq_false_iff_ne.2 (by omega)
  refine grow_gk 16 [isP (.agg #[.slice (some ⟨b2, o2, none⟩) s.slots.length u2, .slice (some ⟨b3, o3, none⟩) s.heads.length u3]), isP (.slice a0 len0 cap0), isP (.int .i64 r0), isP (.int .i64 (4 + r0)), isP (.slice a0 len0 cap0), isP (.int .i64 r1), isP (.int .i64 (1 + r1)), slabR s, isP (.bool true), isP (.bool false), isP (.bool false), isP (.pointer (some ⟨sa, 0, none⟩)), isP (.slice (some ⟨b2, o2, none⟩) s.slots.length u2), isP (.int .i64 (s.slots.length : Int)), isP (.bool false), isP (.bool false)] rfl (by kernel_rfl) (by kernel_rfl) ⟨(fun v W W' h _ => h), (fun v W W' h _ => h), (fun v W W' h _ => h), (fun v W W' h _ => h), (fun v W W' h _ => h), (fun v W W' h _ => h), (fun v W W' h _ => h), (slabR_last _), (fun v W W' h _ => h), (fun v W W' h _ => h), (fun v W W' h _ => h), (fun v W W' h _ => h), (fun v W W' h _ => h), (fun v W W' h _ => h), (fun v W W' h _ => h), (fun v W W' h _ => h), trivial⟩ ?steps4 ?fin4
  case steps4 =>
    refine ⟨?_, ?_, ?_, ?_, ?_, ?_, ?_, ?_, ?_, ?_, ?_, ?_, ?_, ?_, ?_, ?_, trivial⟩
    · refine stepW_of_u ⟨rfl, fun v W ρ hC kc kf ks ki kd => ?_⟩
      have t5 : ρ (.tmp 5) = .pointer (some ⟨sa, 0, none⟩) := ki 5 (by decide)
      have hg := blk_later S1.out hC
      have c0 := blk_cell hg 0
      have c1 := blk_cell hg 1
      simp at c0 c1
      simp [execOp, go_sem, kc, t5, c0, c1]
      exact ⟨hC, Below.refl _ _, rfl⟩
    · refine stepW_of_u ⟨rfl, fun v W ρ hC kc kf ks ki kd => ?_⟩
      have t0 : ρ (.tmp 0) = .slice a0 len0 cap0 := ki 0 (by decide)
      simp [execOp, go_sem, kc, t0]
      exact ⟨hC, Below.refl _ _, rfl⟩
    · refine stepW_of_u ⟨rfl, fun v W ρ hC kc kf ks ki kd => ?_⟩
      have d1 : v 1 = .slice a0 len0 cap0 := (kdj kd 1 rfl :)
      have t34 : ρ (.tmp 34) = .slice a0 len0 cap0 := (ks 1 34 (by decide) rfl).trans d1
      simp [execOp, go_sem, kc, t34, kf]
      exact Calls.mono (HB0.out W (L1.out.trans (hC.mono L1.out.size))) (fun e x h => ⟨_, h.1, hC.trans (h.2.mono hC.size), h.2, rfl⟩)
    · refine stepW_of_u ⟨rfl, fun v W ρ hC kc kf ks ki kd => ?_⟩
      have d2 : v 2 = .int .i64 r0 := (kdj kd 2 rfl :)
      have t35 : ρ (.tmp 35) = .int .i64 r0 := (ks 2 35 (by decide) rfl).trans d2
      simp [execOp, go_sem, kc, t35, wr0]
      exact ⟨hC, Below.refl _ _, rfl⟩
    · refine stepW_of_u ⟨rfl, fun v W ρ hC kc kf ks ki kd => ?_⟩
      have t0 : ρ (.tmp 0) = .slice a0 len0 cap0 := ki 0 (by decide)
      simp [execOp, go_sem, kc, t0]
      exact ⟨hC, Below.refl _ _, rfl⟩
    · refine stepW_of_u ⟨rfl, fun v W ρ hC kc kf ks ki kd => ?_⟩
      have d4 : v 4 = .slice a0 len0 cap0 := (kdj kd 4 rfl :)
      have t37 : ρ (.tmp 37) = .slice a0 len0 cap0 := (ks 4 37 (by decide) rfl).trans d4
      simp [execOp, go_sem, kc, t37, kf]
      exact Calls.mono (HB1.out W (L1.out.trans (hC.mono L1.out.size))) (fun e x h => ⟨_, h.1, hC.trans (h.2.mono hC.size), h.2, rfl⟩)
    · refine stepW_of_u ⟨rfl, fun v W ρ hC kc kf ks ki kd => ?_⟩
      have d5 : v 5 = .int .i64 r1 := (kdj kd 5 rfl :)
      have t38 : ρ (.tmp 38) = .int .i64 r1 := (ks 5 38 (by decide) rfl).trans d5
      simp [execOp, go_sem, kc, t38, wr1]
      exact ⟨hC, Below.refl _ _, rfl⟩
    · refine stepW_of_u ⟨rfl, fun v W ρ hC kc kf ks ki kd => ?_⟩
      have d3 : v 3 = .int .i64 (4 + r0) := (kdj kd 3 rfl :)
      have t36 : ρ (.tmp 36) = .int .i64 (4 + r0) := (ks 3 36 (by decide) rfl).trans d3
      have d6 : v 6 = .int .i64 (1 + r1) := (kdj kd 6 rfl :)
      have t39 : ρ (.tmp 39) = .int .i64 (1 + r1) := (ks 6 39 (by decide) rfl).trans d6
      simp [execOp, go_sem, kc, kf, t36, t39]
      refine Calls.mono (HNS.out W) (fun e x h => ?_)
      obtain ⟨bS, oc, bH, od, rfl, hO, hb⟩ := h
      exact ⟨_, rfl, hC.trans (hb.mono hC.size), hb, bS, oc, bH, od, rfl, hO.read⟩
    · refine stepW_of_u ⟨rfl, fun v W ρ hC kc kf ks ki kd => ?_⟩
      have d0 : v 0 = .agg #[.slice (some ⟨b2, o2, none⟩) s.slots.length u2, .slice (some ⟨b3, o3, none⟩) s.heads.length u3] := (kdj kd 0 rfl :)
      have t33 : ρ (.tmp 33) = .agg #[.slice (some ⟨b2, o2, none⟩) s.slots.length u2, .slice (some ⟨b3, o3, none⟩) s.heads.length u3] := (ks 0 33 (by decide) rfl).trans d0
      obtain ⟨xS40, xc40, xH40, xd40, e40, hz40⟩ : (slabR s) (v 7) W := (kdj kd 7 rfl :)
      have t40 : ρ (.tmp 40) = .agg #[.slice xS40 s.slots.length xc40, .slice xH40 s.heads.length xd40] := (ks 7 40 (by decide) rfl).trans e40
      simp [execOp, go_sem, t40, kc, t33, kf]
      exact Calls.mono (lwSlab_any (some ⟨b2, o2, none⟩) xS40 (some ⟨b3, o3, none⟩) xH40 u2 u3 xc40 xd40 s W ⟨(P1.out.later hC).read, (Q1.out.later hC).read⟩ hz40 (by omega) (by omega)) (fun e x h => ⟨_, h.1, hC.trans (h.2.mono hC.size), h.2, rfl⟩)
    · refine stepW_of_u ⟨rfl, fun v W ρ hC kc kf ks ki kd => ?_⟩
      have d8 : v 8 = .bool true := (kdj kd 8 rfl :)
      have t41 : ρ (.tmp 41) = .bool true := (ks 8 41 (by decide) rfl).trans d8
      simp [execOp, go_sem, kc, t41]
      exact ⟨hC, Below.refl _ _, rfl⟩
    · refine stepW_of_u ⟨rfl, fun v W ρ hC kc kf ks ki kd => ?_⟩
      have d9 : v 9 = .bool false := (kdj kd 9 rfl :)
      have t42 : ρ (.tmp 42) = .bool false := (ks 9 42 (by decide) rfl).trans d9
      simp [execOp, go_sem, kc, t42]
      exact ⟨hC, Below.refl _ _, rfl⟩
    · intro v W ρ y hC kc kf ks ki ky ku kd
      have dg : v 10 = .bool false := (kdj kd 10 rfl :)
      have hy := ky 10 43 false (by decide) rfl dg
      rw [if_pos (by simp [Region.wanted, hy])]
      have t5 : ρ (.tmp 5) = .pointer (some ⟨sa, 0, none⟩) := ki 5 (by decide)
      simp [execOp, go_sem, kc, t5]
      exact ⟨hC, Below.refl _ _, rfl⟩
    · intro v W ρ y hC kc kf ks ki ky ku kd
      have dg : v 10 = .bool false := (kdj kd 10 rfl :)
      have hy := ky 10 43 false (by decide) rfl dg
      rw [if_pos (by simp [Region.wanted, hy])]
      have d11 : v 11 = .pointer (some ⟨sa, 0, none⟩) := (kdj kd 11 rfl :)
      have t44 : ρ (.tmp 44) = .pointer (some ⟨sa, 0, none⟩) := (ks 11 44 (by decide) rfl).trans d11
      have hg := blk_later S1.out hC
      have c0 := blk_cell hg 0
      simp at c0
      simp [execOp, go_sem, kc, t44, c0]
      exact ⟨hC, Below.refl _ _, rfl⟩
    · intro v W ρ y hC kc kf ks ki ky ku kd
      have dg : v 10 = .bool false := (kdj kd 10 rfl :)
      have hy := ky 10 43 false (by decide) rfl dg
      rw [if_pos (by simp [Region.wanted, hy])]
      have d12 : v 12 = .slice (some ⟨b2, o2, none⟩) s.slots.length u2 := (kdj kd 12 rfl :)
      have t45 : ρ (.tmp 45) = .slice (some ⟨b2, o2, none⟩) s.slots.length u2 := (ks 12 45 (by decide) rfl).trans d12
      simp [execOp, go_sem, kc, t45]
      exact ⟨hC, Below.refl _ _, rfl⟩
    · intro v W ρ y hC kc kf ks ki ky ku kd
      have dg : v 10 = .bool false := (kdj kd 10 rfl :)
      have hy := ky 10 43 false (by decide) rfl dg
      rw [if_pos (by simp [Region.wanted, hy])]
      have d13 : v 13 = .int .i64 (s.slots.length : Int) := (kdj kd 13 rfl :)
      have t46 : ρ (.tmp 46) = .int .i64 (s.slots.length : Int) := (ks 13 46 (by decide) rfl).trans d13
      simp [execOp, go_sem, kc, t46, hn0]
      exact ⟨hC, Below.refl _ _, rfl⟩
    · refine stepW_of_u ⟨rfl, fun v W ρ hC kc kf ks ki kd => ?_⟩
      have d10 : v 10 = .bool false := (kdj kd 10 rfl :)
      have t43 : ρ (.tmp 43) = .bool false := (ks 10 43 (by decide) rfl).trans d10
      have d14 : v 14 = .bool false := (kdj kd 14 rfl :)
      have t47 : ρ (.tmp 47) = .bool false := (ks 14 47 (by decide) rfl).trans d14
      simp [execOp, go_sem, kc, t43, t47]
      exact ⟨hC, Below.refl _ _, rfl⟩
  intro v4 w2 hb hall
  have hv4 : v4 15 = .bool false := hall 15 (by decide)
  simp [upto, Act.put]
  rw [hv4]
  clear hall hv4
  have P2 := hidS (P1.out.later hb)
  have Q2 := hidS (Q1.out.later hb)
  have S2 := hidS (blk_later S1.out hb)
  have L2 := hidS (L1.out.trans (hb.mono L1.out.size))
  clear L1 hb P1 Q1 S1
  go_wp2_with fail
  go_loopw [6] (fun v wr => ∃ (i : Nat) (s : Slb) (b2 o2 u2 b3 o3 u3 : Nat), v = .int .i64 (i : Int) ∧ 2 ≤ i ∧ i ≤ 8 ∧ RcM w wr sa b2 o2 u2 b3 o3 u3 s ∧ Hid (rightSl s = true ∧ RRefs s 0 0)) (fun v _ => (8 - (intOf v).toNat))
  case atStart => exact ⟨2, s, b2, o2, u2, b3, o3, u3, rfl, by omega, by omega, ⟨S2.out, P2.out, Q2.out, by omega, L2.out⟩, hidS ⟨RR.out, RF.out⟩⟩
  case round =>
    clear N1 N3 RR RF n1 n2 n3 n4 HNI HNS S2 P2 Q2 L2
    obtain ⟨i, s, b2, o2, u2, b3, o3, u3, rfl, hi2, hi8, hM, hR⟩ := hrel
    obtain ⟨w0, hwr⟩ : ∃ x, x = wr := ⟨_, rfl⟩
    subst hwr
    have S0 := hidS hM.S
    have P0 := hidS hM.P
    have Q0 := hidS hM.Q
    have L0 := hidS hM.L
    obtain ⟨lb1, lb2, lb3, lb4, lb5⟩ := hM.lb
    clear hM
    obtain ⟨hrs, hrr⟩ := hR.out
    obtain ⟨_, n1, n2, n3, n4⟩ := right_leads hrs
    by_cases hlt : i < 8
    · have hltI : (i : Int) < 8 := by omega
      have BR := lwV_in len0 f0 (i : Int) 8
      have HBi := hidS (fun W h => HB.out (i : Int) 8 W h (by omega) (by omega) (by omega))
      generalize lwV len0 f0 (i : Int) 8 = r at BR HBi
      have HAI := hidS (fun (aS aH : Option Addr) (a b : Nat) (W : World) (h : SlabZ aS aH s W) => implSlabAdd_any aS aH a b s r W h (right_fit hrs) (by omega) (by omega))
      have HAS := hidS (fun (aS aH : Option Addr) (a b : Nat) (W : World) (h : SlabZ aS aH s W) => specSlabAdd_any aS aH a b s r W h (by omega) (by omega))
      have FA := hidS (fun (hq : addC s r = 0) => show rightSl (addS s r) = true ∧ RRefs (addS s r) 0 0 by
        have e : addS s r = addIn s r := by unfold addS; rw [if_pos hq]
        rw [e]
        exact ⟨(add_facts hq).1, refs_add hq hrr⟩)
      generalize addS s r = t at HAI HAS FA
      generalize addA s r = pl at HAI HAS
      generalize addC s r = tc at HAI HAS FA
      go_wp2_with fail
      refine grow_pair_store 6 _ [isP (.agg #[.slice (some ⟨b2, o2, none⟩) s.slots.length u2, .slice (some ⟨b3, o3, none⟩) s.heads.length u3]), isP (.slice a0 len0 cap0), isP (.int .i64 (i : Int)), isP (.int .i64 r), soK w0.heap.size t pl tc, madeK w0.heap.size #[.slice none 0 0, .slice none 0 0, .int .i64 0, .int .i64 0] 47] 4 5 (by decide) (soR w0.heap.size t pl tc) 4 7 57 47 47 #[.slice none 0 0, .slice none 0 0, .int .i64 0, .int .i64 0] 4 rfl rfl rfl (by kernel_rfl) (by kernel_rfl) (by kernel_rfl) ⟨(fun v W W' h _ => h), (fun v W W' h _ => h), (fun v W W' h _ => h), (fun v W W' h _ => h), (soK_last _ _ _ _), (madeK_last _ _ _), trivial⟩ (soR_last _ _ _ _) (by decide) (by decide) (by decide) rfl rfl rfl rfl (fun v W h => h) (fun v W h => by obtain ⟨oS, oc, oH, od, lo, hi, e, _⟩ : (soK w0.heap.size t pl tc) v W := h; exact ⟨_, e, rfl, by simp [Value.oneCell']⟩) rfl (by kernel_rfl) ?steps9 ?fin9
      case steps9 =>
        refine ⟨?_, ?_, ?_, ?_, ?_, ?_, trivial⟩
        · refine ⟨rfl, fun v W ρ hC kc kf ks ki kd => ?_⟩
          have t5 : ρ (.tmp 5) = .pointer (some ⟨sa, 0, none⟩) := ki 5 (by decide)
          have hg := blk_later S0.out hC
          have c0 := blk_cell hg 0
          have c1 := blk_cell hg 1
          simp at c0 c1
          simp [execOp, go_sem, kc, t5, c0, c1]
          simp only [RanS]
          first | exact ⟨hC, Below.refl _ _, rfl⟩ | exact ⟨hC, Below.refl _ _, rfl, by first | exact fun _ _ => trivial | exact fun h => absurd h (by decide), by first | exact fun _ _ => trivial | exact fun h => absurd h (by decide)⟩
        · refine ⟨rfl, fun v W ρ hC kc kf ks ki kd => ?_⟩
          have t0 : ρ (.tmp 0) = .slice a0 len0 cap0 := ki 0 (by decide)
          simp [execOp, go_sem, kc, t0]
          simp only [RanS]
          first | exact ⟨hC, Below.refl _ _, rfl⟩ | exact ⟨hC, Below.refl _ _, rfl, by first | exact fun _ _ => trivial | exact fun h => absurd h (by decide), by first | exact fun _ _ => trivial | exact fun h => absurd h (by decide)⟩
        · refine ⟨rfl, fun v W ρ hC kc kf ks ki kd => ?_⟩
          have t6 : ρ (.tmp 6) = .int .i64 (i : Int) := ki 6 (by decide)
          simp [execOp, go_sem, kc, t6]
          simp only [RanS]
          first | exact ⟨hC, Below.refl _ _, rfl⟩ | exact ⟨hC, Below.refl _ _, rfl, by first | exact fun _ _ => trivial | exact fun h => absurd h (by decide), by first | exact fun _ _ => trivial | exact fun h => absurd h (by decide)⟩
        · refine ⟨rfl, fun v W ρ hC kc kf ks ki kd => ?_⟩
          have d1 : v 1 = .slice a0 len0 cap0 := (kdj kd 1 rfl :)
          have t54 : ρ (.tmp 54) = .slice a0 len0 cap0 := (ks 1 54 (by decide) rfl).trans d1
          have d2 : v 2 = .int .i64 (i : Int) := (kdj kd 2 rfl :)
          have t55 : ρ (.tmp 55) = .int .i64 (i : Int) := (ks 2 55 (by decide) rfl).trans d2
          simp [execOp, go_sem, kc, t54, t55, kf]
          simp only [RanS]
          first | exact Calls.mono (HBi.out W (L0.out.trans (hC.mono L0.out.size))) (fun e x h => ⟨_, h.1, hC.trans (h.2.mono hC.size), h.2, rfl⟩) | exact Calls.mono (HBi.out W (L0.out.trans (hC.mono L0.out.size))) (fun e x h => ⟨_, h.1, hC.trans (h.2.mono hC.size), h.2, rfl, by first | exact fun _ _ => trivial | exact fun h => absurd h (by decide), by first | exact fun _ _ => trivial | exact fun h => absurd h (by decide)⟩)
        · refine ⟨rfl, fun v W ρ hC kc kf ks ki kd => ?_⟩
          have d0 : v 0 = .agg #[.slice (some ⟨b2, o2, none⟩) s.slots.length u2, .slice (some ⟨b3, o3, none⟩) s.heads.length u3] := (kdj kd 0 rfl :)
          have t53 : ρ (.tmp 53) = .agg #[.slice (some ⟨b2, o2, none⟩) s.slots.length u2, .slice (some ⟨b3, o3, none⟩) s.heads.length u3] := (ks 0 53 (by decide) rfl).trans d0
          have d3 : v 3 = .int .i64 r := (kdj kd 3 rfl :)
          have t56 : ρ (.tmp 56) = .int .i64 r := (ks 3 56 (by decide) rfl).trans d3
          simp [execOp, go_sem, kc, kf, t53, t56]
          simp only [RanS]
          refine Calls.mono (HAI.out _ _ _ _ W ⟨(P0.out.later hC).read, (Q0.out.later hC).read⟩) (fun e x h => ?_)
          obtain ⟨oS, oc, oH, od, rfl, hO, hb⟩ := h
          exact ⟨_, rfl, hC.trans (hb.mono hC.size), hb, ⟨oS, oc, oH, od, W.heap.size, x.heap.size, rfl, hO, hC.size, hb.size, Nat.le_refl _⟩, fun hx => soR_call hx hO hC.size hb⟩
        · refine ⟨rfl, fun v W ρ hC kc kf ks ki kd => ?_⟩
          simp [execOp, go_sem, kc, kf, ]
          simp only [RanS]
          exact ⟨hC.alloc hC.size _, (Below.refl _ _).alloc (Nat.le_refl _) _, ⟨W.heap.size, rfl, hC.size, heap_newG _ _⟩, fun hc => soR_made _ hc hC.size⟩
      intro v WW w1 gB new hC hall hrl hvB hnB e hheap hoth hbel
      obtain ⟨xS, xc, xH, xd, lo, hi, gx, e1, e2, hO, r1', r2', r3', r4', r5', r6'⟩ := hrl
      rw [hvB] at e2
      injection e2 with e2
      injection e2 with e2
      injection e2 with e2
      subst e2
      rw [e1] at e
      injection e with e
      subst e
      have hb := hC.trans (hbel w0.heap.size hnB hC.size)
      have hq := hbel 0 (Nat.zero_le _) (Nat.zero_le _)
      have hM : Mid gB (gB + 1) WW w1 := ⟨hq.os, hq.tape, hq.output, hq.size, fun k _ ho => hoth k (by omega)⟩
      have HOX := hidS (hO.apart hM (by omega))
      have HGX := hidS hheap
      have zz := hq.size
      simp [upto, Act.put]
      rw [hvB]
      clear hall hvB hoth hbel hheap hO hM e1 hq
      have lS' := blk_lt S0.out
      have lP' := P0.out.lt
      have lQ' := Q0.out.lt
      have S1 := hidS (blk_later S0.out hb)
      have P1 := hidS (P0.out.later hb)
      have Q1 := hidS (Q0.out.later hb)
      have L1 := hidS (L0.out.trans (hb.mono L0.out.size))
      clear L0 hb S0 P0 Q0
      have X1 := HGX
      clear HGX
      go_wp2_with fail
      refine grow_gk 9 [isP (.pointer (some ⟨gB, 3, none⟩)), isP (.int .i64 tc), isP (.agg #[.slice (some ⟨b2, o2, none⟩) s.slots.length u2, .slice (some ⟨b3, o3, none⟩) s.heads.length u3]), isP (.slice a0 len0 cap0), isP (.int .i64 (i : Int)), isP (.int .i64 r), outR t pl tc, isP (.int .i64 tc), isP (.bool false)] rfl (by kernel_rfl) (by kernel_rfl) ⟨(fun v W W' h _ => h), (fun v W W' h _ => h), (fun v W W' h _ => h), (fun v W W' h _ => h), (fun v W W' h _ => h), (fun v W W' h _ => h), (outR_last _ _ _), (fun v W W' h _ => h), (fun v W W' h _ => h), trivial⟩ ?steps10 ?fin10
      case steps10 =>
        refine ⟨?_, ?_, ?_, ?_, ?_, ?_, ?_, ?_, ?_, trivial⟩
        · refine stepW_of_u ⟨rfl, fun v W ρ hC kc kf ks ki kd => ?_⟩
          have t7 : ρ (.tmp 7) = .pointer (some ⟨gB, 0, none⟩) := ki 7 (by decide)
          simp [execOp, go_sem, kc, t7]
          exact ⟨hC, Below.refl _ _, rfl⟩
        · refine stepW_of_u ⟨rfl, fun v W ρ hC kc kf ks ki kd => ?_⟩
          have d0 : v 0 = .pointer (some ⟨gB, 3, none⟩) := (kdj kd 0 rfl :)
          have t58 : ρ (.tmp 58) = .pointer (some ⟨gB, 3, none⟩) := (ks 0 58 (by decide) rfl).trans d0
          have hg := blk_later X1.out hC
          have c3 := blk_cell hg 3
          simp at c3
          simp [execOp, go_sem, kc, t58, c3]
          exact ⟨hC, Below.refl _ _, rfl⟩
        · refine stepW_of_u ⟨rfl, fun v W ρ hC kc kf ks ki kd => ?_⟩
          have t5 : ρ (.tmp 5) = .pointer (some ⟨sa, 0, none⟩) := ki 5 (by decide)
          have hg := blk_later S1.out hC
          have c0 := blk_cell hg 0
          have c1 := blk_cell hg 1
          simp at c0 c1
          simp [execOp, go_sem, kc, t5, c0, c1]
          exact ⟨hC, Below.refl _ _, rfl⟩
        · refine stepW_of_u ⟨rfl, fun v W ρ hC kc kf ks ki kd => ?_⟩
          have t0 : ρ (.tmp 0) = .slice a0 len0 cap0 := ki 0 (by decide)
          simp [execOp, go_sem, kc, t0]
          exact ⟨hC, Below.refl _ _, rfl⟩
        · refine stepW_of_u ⟨rfl, fun v W ρ hC kc kf ks ki kd => ?_⟩
          have t6 : ρ (.tmp 6) = .int .i64 (i : Int) := ki 6 (by decide)
          simp [execOp, go_sem, kc, t6]
          exact ⟨hC, Below.refl _ _, rfl⟩
        · refine stepW_of_u ⟨rfl, fun v W ρ hC kc kf ks ki kd => ?_⟩
          have d3 : v 3 = .slice a0 len0 cap0 := (kdj kd 3 rfl :)
          have t61 : ρ (.tmp 61) = .slice a0 len0 cap0 := (ks 3 61 (by decide) rfl).trans d3
          have d4 : v 4 = .int .i64 (i : Int) := (kdj kd 4 rfl :)
          have t62 : ρ (.tmp 62) = .int .i64 (i : Int) := (ks 4 62 (by decide) rfl).trans d4
          simp [execOp, go_sem, kc, t61, t62, kf]
          exact Calls.mono (HBi.out W (L1.out.trans (hC.mono L1.out.size))) (fun e x h => ⟨_, h.1, hC.trans (h.2.mono hC.size), h.2, rfl⟩)
        · refine stepW_of_u ⟨rfl, fun v W ρ hC kc kf ks ki kd => ?_⟩
          have d2 : v 2 = .agg #[.slice (some ⟨b2, o2, none⟩) s.slots.length u2, .slice (some ⟨b3, o3, none⟩) s.heads.length u3] := (kdj kd 2 rfl :)
          have t60 : ρ (.tmp 60) = .agg #[.slice (some ⟨b2, o2, none⟩) s.slots.length u2, .slice (some ⟨b3, o3, none⟩) s.heads.length u3] := (ks 2 60 (by decide) rfl).trans d2
          have d5 : v 5 = .int .i64 r := (kdj kd 5 rfl :)
          have t63 : ρ (.tmp 63) = .int .i64 r := (ks 5 63 (by decide) rfl).trans d5
          simp [execOp, go_sem, kc, kf, t60, t63]
          refine Calls.mono (HAS.out _ _ _ _ W ⟨(P1.out.later hC).read, (Q1.out.later hC).read⟩) (fun e x h => ?_)
          obtain ⟨bS, oc, bH, od, rfl, hO, hb⟩ := h
          exact ⟨_, rfl, hC.trans (hb.mono hC.size), hb, bS, oc, bH, od, rfl, hO.read⟩
        · refine stepW_of_u ⟨rfl, fun v W ρ hC kc kf ks ki kd => ?_⟩
          obtain ⟨xS64, xc64, xH64, xd64, e64, hz64⟩ : (outR t pl tc) (v 6) W := (kdj kd 6 rfl :)
          have t64 : ρ (.tmp 64) = .agg #[.slice xS64 t.slots.length xc64, .slice xH64 t.heads.length xd64, .int .i64 pl, .int .i64 tc] := (ks 6 64 (by decide) rfl).trans e64
          simp [execOp, go_sem, kc, t64]
          exact ⟨hC, Below.refl _ _, rfl⟩
        · refine stepW_of_u ⟨rfl, fun v W ρ hC kc kf ks ki kd => ?_⟩
          have d1 : v 1 = .int .i64 tc := (kdj kd 1 rfl :)
          have t59 : ρ (.tmp 59) = .int .i64 tc := (ks 1 59 (by decide) rfl).trans d1
          have d7 : v 7 = .int .i64 tc := (kdj kd 7 rfl :)
          have t65 : ρ (.tmp 65) = .int .i64 tc := (ks 7 65 (by decide) rfl).trans d7
          simp [execOp, go_sem, kc, t59, t65]
          exact ⟨hC, Below.refl _ _, rfl⟩
      intro v10 w2 hb hall
      have hv10 : v10 8 = .bool false := hall 8 (by decide)
      simp [upto, Act.put]
      rw [hv10]
      clear hall hv10
      have HOX2 := hidS (HOX.out.later hb)
      clear HOX
      have S2 := hidS (blk_later S1.out hb)
      have P2 := hidS (P1.out.later hb)
      have Q2 := hidS (Q1.out.later hb)
      have X2 := hidS (blk_later X1.out hb)
      have L2 := hidS (L1.out.trans (hb.mono L1.out.size))
      clear L1 hb S1 P1 Q1 X1
      have x0 := blk_cell X2.out 0
      have x1 := blk_cell X2.out 1
      have x2 := blk_cell X2.out 2
      have x3 := blk_cell X2.out 3
      simp at x0 x1 x2 x3
      by_cases hq : tc = 0
      · subst hq
        obtain ⟨hr2, hrr2⟩ := FA.out rfl
        obtain ⟨_, y1, y2, y3, y4⟩ := right_leads hr2
        obtain ⟨g2, p2, g3, p3, rfl, rfl, t1, t2, t3, t4, t5, t6⟩ := own_rows HOX2.out (by omega) (by omega)
        have P22 := hidS t5
        have Q22 := hidS t6
        clear t5 t6 HOX2
        have s0 := blk_cell S2.out 0
        have s1 := blk_cell S2.out 1
        simp at s0 s1
        have fS := blk_free S2.out
        go_upto_region 8 with fail
        clear x0 x1 x2 x3 s0 s1 fS
        have S3 : Hid ((((w2.setCell ⟨sa, 0, none⟩ (.slice (some ⟨g2, p2, none⟩) t.slots.length xc)).setCell ⟨sa, 1, none⟩ (.slice (some ⟨g3, p3, none⟩) t.heads.length xd))).heap[sa]? = some (.cells #[.slice (some ⟨g2, p2, none⟩) t.slots.length xc, .slice (some ⟨g3, p3, none⟩) t.heads.length xd] 26)) := by
          have := (blk_set (blk_set S2.out 0 (.slice (some ⟨g2, p2, none⟩) t.slots.length xc)) 1 (.slice (some ⟨g3, p3, none⟩) t.heads.length xd))
          exact this
        have P3 : Hid (RowB b2 o2 (flat s.slots) (((w2.setCell ⟨sa, 0, none⟩ (.slice (some ⟨g2, p2, none⟩) t.slots.length xc)).setCell ⟨sa, 1, none⟩ (.slice (some ⟨g3, p3, none⟩) t.heads.length xd)))) := hidS (RowB.other (g := sa) (k := 1) (v := .slice (some ⟨g3, p3, none⟩) t.heads.length xd) (RowB.other (g := sa) (k := 0) (v := .slice (some ⟨g2, p2, none⟩) t.slots.length xc) P2.out (by omega)) (by omega))
        have Q3 : Hid (RowB b3 o3 s.heads (((w2.setCell ⟨sa, 0, none⟩ (.slice (some ⟨g2, p2, none⟩) t.slots.length xc)).setCell ⟨sa, 1, none⟩ (.slice (some ⟨g3, p3, none⟩) t.heads.length xd)))) := hidS (RowB.other (g := sa) (k := 1) (v := .slice (some ⟨g3, p3, none⟩) t.heads.length xd) (RowB.other (g := sa) (k := 0) (v := .slice (some ⟨g2, p2, none⟩) t.slots.length xc) Q2.out (by omega)) (by omega))
        have X3 : Hid ((((w2.setCell ⟨sa, 0, none⟩ (.slice (some ⟨g2, p2, none⟩) t.slots.length xc)).setCell ⟨sa, 1, none⟩ (.slice (some ⟨g3, p3, none⟩) t.heads.length xd))).heap[gB]? = some (.cells #[.slice (some ⟨g2, p2, none⟩) t.slots.length xc, .slice (some ⟨g3, p3, none⟩) t.heads.length xd, .int .i64 pl, .int .i64 0] 47)) := hidS (blk_other (B := sa) (blk_other (B := sa) X2.out (by omega) 0 (.slice (some ⟨g2, p2, none⟩) t.slots.length xc)) (by omega) 1 (.slice (some ⟨g3, p3, none⟩) t.heads.length xd))
        have P23 : Hid (RowB g2 p2 (flat t.slots) (((w2.setCell ⟨sa, 0, none⟩ (.slice (some ⟨g2, p2, none⟩) t.slots.length xc)).setCell ⟨sa, 1, none⟩ (.slice (some ⟨g3, p3, none⟩) t.heads.length xd)))) := hidS (RowB.other (g := sa) (k := 1) (v := .slice (some ⟨g3, p3, none⟩) t.heads.length xd) (RowB.other (g := sa) (k := 0) (v := .slice (some ⟨g2, p2, none⟩) t.slots.length xc) P22.out (by omega)) (by omega))
        have Q23 : Hid (RowB g3 p3 t.heads (((w2.setCell ⟨sa, 0, none⟩ (.slice (some ⟨g2, p2, none⟩) t.slots.length xc)).setCell ⟨sa, 1, none⟩ (.slice (some ⟨g3, p3, none⟩) t.heads.length xd)))) := hidS (RowB.other (g := sa) (k := 1) (v := .slice (some ⟨g3, p3, none⟩) t.heads.length xd) (RowB.other (g := sa) (k := 0) (v := .slice (some ⟨g2, p2, none⟩) t.slots.length xc) Q22.out (by omega)) (by omega))
        have L3 : Hid (Below w.heap.size w (((w2.setCell ⟨sa, 0, none⟩ (.slice (some ⟨g2, p2, none⟩) t.slots.length xc)).setCell ⟨sa, 1, none⟩ (.slice (some ⟨g3, p3, none⟩) t.heads.length xd)))) := hidS (below_at (k := 1) (b := sa) (v := .slice (some ⟨g3, p3, none⟩) t.heads.length xd) (below_at (k := 0) (b := sa) (v := .slice (some ⟨g2, p2, none⟩) t.slots.length xc) L2.out (by omega)) (by omega))
        clear L2 S2 P2 Q2 X2 P22 Q22
        generalize ((w2.setCell ⟨sa, 0, none⟩ (.slice (some ⟨g2, p2, none⟩) t.slots.length xc)).setCell ⟨sa, 1, none⟩ (.slice (some ⟨g3, p3, none⟩) t.heads.length xd)) = w3 at S3 P3 Q3 X3 P23 Q23 L3 ⊢
        go_wp2
        go_roundw
        case rel => exact ⟨i + 1, t, g2, p2, xc, g3, p3, xd, by simp, by omega, by omega, ⟨S3.out, P23.out, Q23.out, by omega, L3.out⟩, hidS ⟨hr2, hrr2⟩⟩
        case measure => simp [intOf]; omega
      · have bq : (tc == 0) = false := beq_eq_false_iff_ne.2 hq
        go_wp2
        go_roundw
        case rel => exact ⟨i + 1, s, b2, o2, u2, b3, o3, u3, by simp, by omega, by omega, ⟨S2.out, P2.out, Q2.out, by omega, L2.out⟩, hR⟩
        case measure => simp [intOf]; omega
    have hge : ¬ (i : Int) < 8 := by omega
    clear hlt
    have s0 := blk_cell S0.out 0
    have s1 := blk_cell S0.out 1
    simp at s0 s1
    go_wp2_with fail
    have HI := hidS (inv_new hrs hrr)
    have HN := implWalkNew_any (some ⟨b2, o2, none⟩) (some ⟨b3, o3, none⟩) u2 u3 s 3 w0 ⟨P0.out.read, Q0.out.read⟩ (right_fit hrs) (by omega) (by omega)
    rw [newWW_ok hrs, newC_ok hrs] at HN
    generalize hdK s 3 = hd at HI HN
    generalize newWS s 3 = sx at HN
    have HN1 := hidS HN
    clear HN
    refine HN1.out.mono ?_
    intro e w1 hans
    obtain ⟨aS, cS, aH, cH, rfl, _, hb⟩ := hans
    clear HN1 s0 s1
    have S1 := hidS (blk_later S0.out hb)
    have P1 := hidS (P0.out.later hb)
    have Q1 := hidS (Q0.out.later hb)
    have L1 := hidS (L0.out.trans (hb.mono L0.out.size))
    clear L0 hb S0 P0 Q0
    have hF := field_walk aS aH sx.slots.length cS sx.heads.length cH 3 hd 0 0 0 0 0 0 w1
    go_upto_region 15 with fail
    clear hF
    have S2 : Hid ((w1.alloc (.cells #[.int .i64 3, .int .i64 hd, .int .i64 0, .int .i64 0, .int .i64 0, .int .i64 0, .int .i64 0] 30)).heap[sa]? = some (.cells #[.slice (some ⟨b2, o2, none⟩) s.slots.length u2, .slice (some ⟨b3, o3, none⟩) s.heads.length u3] 26)) := hidS (blk_alloc S1.out (.cells #[.int .i64 3, .int .i64 hd, .int .i64 0, .int .i64 0, .int .i64 0, .int .i64 0, .int .i64 0] 30))
    have lS2 := blk_lt S1.out
    have P2 : Hid (RowB b2 o2 (flat s.slots) (w1.alloc (.cells #[.int .i64 3, .int .i64 hd, .int .i64 0, .int .i64 0, .int .i64 0, .int .i64 0, .int .i64 0] 30))) := hidS (P1.out.later ((Below.refl w1.heap.size w1).alloc (Nat.le_refl _) (.cells #[.int .i64 3, .int .i64 hd, .int .i64 0, .int .i64 0, .int .i64 0, .int .i64 0, .int .i64 0] 30)))
    have lP2 := P1.out.lt
    have Q2 : Hid (RowB b3 o3 s.heads (w1.alloc (.cells #[.int .i64 3, .int .i64 hd, .int .i64 0, .int .i64 0, .int .i64 0, .int .i64 0, .int .i64 0] 30))) := hidS (Q1.out.later ((Below.refl w1.heap.size w1).alloc (Nat.le_refl _) (.cells #[.int .i64 3, .int .i64 hd, .int .i64 0, .int .i64 0, .int .i64 0, .int .i64 0, .int .i64 0] 30)))
    have lQ2 := Q1.out.lt
    have K2 : Hid ((w1.alloc (.cells #[.int .i64 3, .int .i64 hd, .int .i64 0, .int .i64 0, .int .i64 0, .int .i64 0, .int .i64 0] 30)).heap[w1.heap.size]? = some (.cells #[.int .i64 3, .int .i64 hd, .int .i64 0, .int .i64 0, .int .i64 0, .int .i64 0, .int .i64 0] 30)) := hidS (heap_newG w1 (.cells #[.int .i64 3, .int .i64 hd, .int .i64 0, .int .i64 0, .int .i64 0, .int .i64 0, .int .i64 0] 30))
    have L2 : Hid (Below w.heap.size w (w1.alloc (.cells #[.int .i64 3, .int .i64 hd, .int .i64 0, .int .i64 0, .int .i64 0, .int .i64 0, .int .i64 0] 30))) := hidS (L1.out.alloc L1.out.size (.cells #[.int .i64 3, .int .i64 hd, .int .i64 0, .int .i64 0, .int .i64 0, .int .i64 0, .int .i64 0] 30))
    have ls2 := L1.out.size
    clear L1 S1 P1 Q1
    generalize w1.alloc (.cells #[.int .i64 3, .int .i64 hd, .int .i64 0, .int .i64 0, .int .i64 0, .int .i64 0, .int .i64 0] 30) = w2 at S2 P2 Q2 K2 L2 ⊢
    generalize w1.heap.size = ka at *
    go_upto_region 17 with fail
    have S3 : Hid ((w2.alloc (.cells #[] 2)).heap[sa]? = some (.cells #[.slice (some ⟨b2, o2, none⟩) s.slots.length u2, .slice (some ⟨b3, o3, none⟩) s.heads.length u3] 26)) := hidS (blk_alloc S2.out (.cells #[] 2))
    have lS3 := blk_lt S2.out
    have P3 : Hid (RowB b2 o2 (flat s.slots) (w2.alloc (.cells #[] 2))) := hidS (P2.out.later ((Below.refl w2.heap.size w2).alloc (Nat.le_refl _) (.cells #[] 2)))
    have lP3 := P2.out.lt
    have Q3 : Hid (RowB b3 o3 s.heads (w2.alloc (.cells #[] 2))) := hidS (Q2.out.later ((Below.refl w2.heap.size w2).alloc (Nat.le_refl _) (.cells #[] 2)))
    have lQ3 := Q2.out.lt
    have K3 : Hid ((w2.alloc (.cells #[] 2)).heap[ka]? = some (.cells #[.int .i64 3, .int .i64 hd, .int .i64 0, .int .i64 0, .int .i64 0, .int .i64 0, .int .i64 0] 30)) := hidS (blk_alloc K2.out (.cells #[] 2))
    have lK3 := blk_lt K2.out
    have E13 : Hid ((w2.alloc (.cells #[] 2)).heap[w2.heap.size]? = some (.cells #[] 2)) := hidS (heap_newG w2 (.cells #[] 2))
    have L3 : Hid (Below w.heap.size w (w2.alloc (.cells #[] 2))) := hidS (L2.out.alloc L2.out.size (.cells #[] 2))
    have ls3 := L2.out.size
    clear L2 S2 P2 Q2 K2
    generalize w2.alloc (.cells #[] 2) = w3 at S3 P3 Q3 K3 E13 L3 ⊢
    generalize w2.heap.size = r1 at *
    go_wp2_with fail
    have S4 : Hid ((w3.alloc (.cells #[] 2)).heap[sa]? = some (.cells #[.slice (some ⟨b2, o2, none⟩) s.slots.length u2, .slice (some ⟨b3, o3, none⟩) s.heads.length u3] 26)) := hidS (blk_alloc S3.out (.cells #[] 2))
    have lS4 := blk_lt S3.out
    have P4 : Hid (RowB b2 o2 (flat s.slots) (w3.alloc (.cells #[] 2))) := hidS (P3.out.later ((Below.refl w3.heap.size w3).alloc (Nat.le_refl _) (.cells #[] 2)))
    have lP4 := P3.out.lt
    have Q4 : Hid (RowB b3 o3 s.heads (w3.alloc (.cells #[] 2))) := hidS (Q3.out.later ((Below.refl w3.heap.size w3).alloc (Nat.le_refl _) (.cells #[] 2)))
    have lQ4 := Q3.out.lt
    have K4 : Hid ((w3.alloc (.cells #[] 2)).heap[ka]? = some (.cells #[.int .i64 3, .int .i64 hd, .int .i64 0, .int .i64 0, .int .i64 0, .int .i64 0, .int .i64 0] 30)) := hidS (blk_alloc K3.out (.cells #[] 2))
    have lK4 := blk_lt K3.out
    have E14 : Hid ((w3.alloc (.cells #[] 2)).heap[r1]? = some (.cells #[] 2)) := hidS (blk_alloc E13.out (.cells #[] 2))
    have lE14 := blk_lt E13.out
    have E24 : Hid ((w3.alloc (.cells #[] 2)).heap[w3.heap.size]? = some (.cells #[] 2)) := hidS (heap_newG w3 (.cells #[] 2))
    have L4 : Hid (Below w.heap.size w (w3.alloc (.cells #[] 2))) := hidS (L3.out.alloc L3.out.size (.cells #[] 2))
    have ls4 := L3.out.size
    clear L3 S3 P3 Q3 K3 E13
    generalize w3.alloc (.cells #[] 2) = w4 at S4 P4 Q4 K4 E14 E24 L4 ⊢
    generalize w3.heap.size = r2 at *
    have HR2 := hidS (TwoR.made (lo := w.heap.size) (av := [sa, ka, b2, b3]) E14.out E24.out (by omega) (by omega) (by omega) (by simp; omega) (by simp; omega))
    clear E14 E24
    go_loopw [9, 10, 11, 12] (fun v1 v2 v3 v4 wr => ∃ (i : Nat) (s : Slb) (k : Wlk) (ab : Bool) (sl gs : List Int) (b2 o2 u2 b3 o3 u3 : Nat), v1 = .bool ab ∧ v4 = .int .i64 (i : Int) ∧ i ≤ 60 ∧ k.steps ≤ i ∧ sl.length ≤ i ∧ gs.length = sl.length ∧ RcK w wr sa ka b2 o2 u2 b3 o3 u3 s k v2 v3 sl gs ∧ Hid (RInv s k ab sl gs)) (fun _ _ _ v _ => (60 - (intOf v).toNat))
    case atStart => exact ⟨0, s, ⟨3, hd, 0, 0, 0, 0, 0⟩, false, [], [], b2, o2, u2, b3, o3, u3, rfl, rfl, by omega, by show (0 : Int) ≤ 0; omega, by simp, rfl, ⟨⟨S4.out, P4.out, Q4.out, ⟨by omega, by omega, by omega, by omega, by omega⟩, L4.out⟩, K4.out, ⟨by omega, by omega, by omega, by omega⟩, HR2.out⟩, HI⟩
    case round =>
      clear S4 P4 Q4 K4 L4 HR2 HI hrs hrr hR n1 n2 n3 n4
      obtain ⟨n, s, k, ab, sl, gs, b2, o2, u2, b3, o3, u3, rfl, rfl, hn60, hst, hsl, hgs, hM, hR⟩ := hrel
      obtain ⟨w0, hwr⟩ : ∃ x, x = wr := ⟨_, rfl⟩
      subst hwr
      have S0 := hidS hM.M.S
      have P0 := hidS hM.M.P
      have Q0 := hidS hM.M.Q
      have K0 := hidS hM.K
      have L0 := hidS hM.M.L
      have T0 := hidS hM.R
      obtain ⟨lb1, lb2, lb3, lb4, lb5⟩ := hM.M.lb
      obtain ⟨kb1, kb2, kb3, kb4⟩ := hM.kb
      clear hM
      obtain ⟨x2, cp2, e2⟩ := own_form T0.out.one
      subst e2
      obtain ⟨x3, cp3, e3⟩ := own_form T0.out.two
      subst e3
      have HGS := hidS hgs
      clear hgs
      obtain ⟨_, n1, n2, n3, n4⟩ := right_leads hR.out.r
      have sz0 := L0.out.size
      by_cases hlt : n < 60
      · have hltI : (n : Int) < 60 := by omega
        have HFS := hidS (specSlabFind_any (some ⟨b2, o2, none⟩) (some ⟨b3, o3, none⟩) u2 u3 s 3 w0 ⟨P0.out.read, Q0.out.read⟩ (by omega) (by omega))
        rw [find_ok hR.out.r] at HFS
        obtain ⟨fd, hfd⟩ : ∃ x, findSl s 3 = x := ⟨_, rfl⟩
        rw [hfd] at HFS
        have HFD := hidS hfd
        clear hfd
        have s0 := blk_cell S0.out 0
        have s1 := blk_cell S0.out 1
        simp at s0 s1
        go_wp2_with fail
        refine HFS.out.mono ?_
        rintro _ w1 ⟨rfl, hb⟩
        clear HFS s0 s1
        have T1 := hidS (T0.out.later hb)
        clear T0
        have S1 := hidS (blk_later S0.out hb)
        have P1 := hidS (P0.out.later hb)
        have Q1 := hidS (Q0.out.later hb)
        have K1 := hidS (blk_later K0.out hb)
        have L1 := hidS (L0.out.trans (hb.mono L0.out.size))
        clear L0 hb S0 P0 Q0 K0
        go_upto_region 22 with fail
        go_cut [9] from 77 to 191 (fun v9 wx => v9 = .bool (ab || decide (fd < 0)) ∧ wx = w1)
        case first =>
          cases ab
          · by_cases hf : fd < 0
            · go_wp2_with fail
              go_meet
              exact ⟨by simp [hf], rfl⟩
            · go_wp2_with fail
              go_meet
              exact ⟨by simp [hf], rfl⟩
          · go_wp2_with fail
            go_meet
            exact ⟨by simp, rfl⟩
        case rest =>
          obtain ⟨e9, ewx⟩ := hcut
          subst e9
          subst ewx
          obtain ⟨w1, hww⟩ : ∃ x, x = wc := ⟨_, rfl⟩
          subst hww
          have HM1 := hidS (⟨⟨S1.out, P1.out, Q1.out, ⟨by omega, by omega, by omega, by omega, by omega⟩, L1.out⟩, K1.out, ⟨by omega, by omega, by omega, by omega⟩, T1.out⟩ : RcK w w1 sa ka b2 o2 u2 b3 o3 u3 s k (.slice x2 sl.length cp2) (.slice x3 gs.length cp3) sl gs)
          clear S1 P1 Q1 L1 K1 T1
          go_upto_if 89 with fail
          go_cut [10, 11] from 77 to 191 (fun v10 v11 wx => ∃ sl2 gs2 : List Int, sl2.length ≤ n + 1 ∧ gs2.length = sl2.length ∧ RcK w wx sa ka b2 o2 u2 b3 o3 u3 s k v10 v11 sl2 gs2 ∧ Hid (ROb s k (ab || decide (fd < 0)) sl2 gs2))
          case first =>
            by_cases hf : fd < 0
            · have HO := ob_not hR.out (by rw [HFD.out]; exact hf)
              go_wp2_with fail
              go_meet
              exact ⟨sl, gs, by omega, HGS.out, HM1.out, hidS (by rw [show (ab || decide (fd < 0)) = true by simp [hf]]; exact HO)⟩
            · obtain ⟨j, hj⟩ : ∃ j : Nat, fd = (j : Int) := ⟨fd.toNat, by omega⟩
              subst hj
              have HO := ob_yes hR.out (by rw [HFD.out]; omega)
              rw [HFD.out, slot_nat] at HO
              have hjl : j < s.slots.length := by have := (find_slot hR.out.r (key := 3) (by omega) (by rw [HFD.out]; omega)).2.2; rw [HFD.out] at this; omega
              have HO2 := hidS HO
              clear HO
              have hfj : (0 : Int) ≤ (j : Int) := by omega
              have hgl : gs.length ≤ 60 := by rw [HGS.out]; omega
              have sz1 := HM1.out.M.L.size
              obtain ⟨i0, hi, hz0, hz1, hz2⟩ := info_parts infoI64
              go_wp2_with (at_builtin; refine wpList_append_own_at _ rfl _ _ 24 rfl w.heap.size 2 i0 (.int .i64 0) 1 8 Try.underlying24 hi hz0 hz1 hz2 rfl (by decide) _ _ _ rfl (HM1.out.R.one.alloc _) ⟨w1.heap.size, 0, none⟩ 1 1 [.int .i64 (j : Int)] rfl rfl (cell_one_new _ _ _) ?a2 ?a3 ?a4 ?a5 ?_)
              case a2 => first | rfl | (intro x hx; simp at hx; subst hx; rfl)
              case a3 => unfold maxLen; omega
              case a4 => omega
              case a5 => first | omega | (simp; omega)
              intro v' w2 hown' hgrow _ hat
              have HM2 := hidS ((HM1.out.later ((Below.refl _ _).alloc (Nat.le_refl _) (.cells #[.int .i64 (j : Int)] 2))).first hown' hgrow (hat.imp_right fun e => e.trans (by simp)))
              clear hown' hgrow hat HM1
              have sz2 := HM2.out.M.L.size
              obtain ⟨bS, oS, eS, lS, c0, c1, c2, c3⟩ := HM2.out.M.P.read.slot hjl
              injection eS with eS
              injection eS with e1 e2
              subst e1 e2
              clear c0 c2 c3
              have d0 := blk_cell HM2.out.M.S 0
              simp at d0
              obtain ⟨gn, hgn⟩ : ∃ x, (s.slots.getD j zeroSlt).gen = x := ⟨_, rfl⟩
              rw [hgn] at c1 HO2
              clear hgn
              go_wp2_with (at_builtin; refine wpList_append_own_at _ rfl _ _ 24 rfl w.heap.size 2 i0 (.int .i64 0) 1 8 Try.underlying24 hi hz0 hz1 hz2 rfl (by decide) _ _ _ rfl (HM2.out.R.two.alloc _) ⟨w2.heap.size, 0, none⟩ 1 1 [.int .i64 gn] rfl rfl (cell_one_new _ _ _) ?b2 ?b3 ?b4 ?b5 ?_)
              case b2 => first | rfl | (intro x hx; simp at hx; subst hx; rfl)
              case b3 => unfold maxLen; omega
              case b4 => omega
              case b5 => first | omega | (simp; omega)
              intro v2' w3 hown2 hgrow2 _ hat2
              have HM3 := hidS ((HM2.out.later ((Below.refl _ _).alloc (Nat.le_refl _) (.cells #[.int .i64 gn] 2))).second hown2 hgrow2 (hat2.imp_right fun e => e.trans (by simp)))
              clear hown2 hgrow2 hat2 HM2 c1 d0
              go_wp2_with fail
              go_meet
              exact ⟨sl ++ [(j : Int)], gs ++ [gn], by simp; omega, by simp [HGS.out], HM3.out, hidS (by rw [show (ab || decide ((j : Int) < 0)) = ab by simp; omega]; exact HO2.out)⟩
          case rest =>
            skip
            clear hR HM1 HGS HFD
            obtain ⟨sl2, gs2, hl2, hg2, HM2, HO⟩ := hcut
            obtain ⟨w0, hww⟩ : ∃ x, x = wc := ⟨_, rfl⟩
            subst hww
            have HG2 := hidS hg2
            clear hg2
            have S0 := hidS HM2.M.S
            have P0 := hidS HM2.M.P
            have Q0 := hidS HM2.M.Q
            have K0 := hidS HM2.K
            have L0 := hidS HM2.M.L
            have T0 := hidS HM2.R
            clear HM2
            generalize (ab || decide (fd < 0)) = ab2 at HO ⊢
            obtain ⟨x2, cp2, e2⟩ := own_form T0.out.one
            subst e2
            obtain ⟨x3, cp3, e3⟩ := own_form T0.out.two
            subst e3
            have sz1 := L0.out.size
            have KB := lwV_in len1 f1 (n : Int) 8
            have HKc := hidS (HM.out (n : Int) 8 w0 L0.out (by omega) (by omega) (by omega))
            generalize lwV len1 f1 (n : Int) 8 = kk at KB HKc
            have wn : IntKind.i64.wrap (8 + (n : Int)) = 8 + (n : Int) := IntWalk.i64_in _ (by omega)
            have HGc := hidS (HA.out (8 + (n : Int)) 2 w0 L0.out (by omega) (by omega) (by omega))
            generalize lwV len0 f0 (8 + (n : Int)) 2 = gg at HGc
            go_wp2_with fail
            refine (HKc.out).mono ?_
            rintro _ v9 ⟨rfl, hv9⟩
            rw [hv9]
            clear hv9 v9
            go_wp2_with fail
            refine (HGc.out).mono ?_
            rintro _ v9 ⟨rfl, hv9⟩
            rw [hv9]
            clear hv9 v9
            clear HKc HGc
            by_cases hg : gg = 0
            have TL := hidS T0.out.lt
            have Z0 := hidS (Nat.le_refl w0.heap.size)
            have lS0 := blk_lt S0.out
            have lK0 := blk_lt K0.out
            have lP0 := P0.out.lt
            have lQ0 := Q0.out.lt
            · subst hg
              have HAI := hidS (implSlabAdd_any (some ⟨b2, o2, none⟩) (some ⟨b3, o3, none⟩) u2 u3 s kk w0 ⟨P0.out.read, Q0.out.read⟩ (right_fit HO.out.r) (by omega) (by omega))
              have HCI := hidS (fun (W : World) (h : SlabZ (some ⟨b2, o2, none⟩) (some ⟨b3, o3, none⟩) s W) => implSlabCut_any (some ⟨b2, o2, none⟩) (some ⟨b3, o3, none⟩) u2 u3 s kk W h (right_fit HO.out.r) (by omega) (by omega))
              have FA := hidS (fun (hq : addC s kk = 0) => show RInv (addS s kk) k ab2 sl2 gs2 by rw [show addS s kk = addIn s kk by unfold addS; rw [if_pos hq]]; exact inv_add HO.out hq)
              have FC := hidS (fun (hq : cutC s kk = 0) => show RInv (cutS s kk) k ab2 sl2 gs2 by rw [show cutS s kk = cutIn s kk by unfold cutS; rw [if_pos hq]]; exact inv_cut HO.out hq)
              generalize addS s kk = t at HAI FA
              generalize addA s kk = pl at HAI
              generalize addC s kk = tc at HAI FA
              generalize cutS s kk = tt at HCI FC
              generalize cutA s kk = pp at HCI
              generalize cutC s kk = cc at HCI FC
              have wn2 : IntKind.i64.wrap (70 + (n : Int)) = 70 + (n : Int) := IntWalk.i64_in _ (by omega)
              have HHc := hidS (fun W h => HA.out (70 + (n : Int)) 2 W h (by omega) (by omega) (by omega))
              generalize lwV len0 f0 (70 + (n : Int)) 2 = hh at HHc
              have s0 := blk_cell S0.out 0
              have s1 := blk_cell S0.out 1
              simp at s0 s1
              go_wp2_with fail
              refine HAI.out.mono ?_
              intro e w1 hans
              clear HAI s0 s1
              obtain ⟨oS, oc, oH, od, rfl, hOX, hb⟩ := hans
              skip
              have T1 := hidS (T0.out.later hb)
              clear T0
              have Z1 := hidS (Nat.le_trans Z0.out (hb).size)
              clear Z0
              have S1 := hidS (blk_later S0.out hb)
              have P1 := hidS (P0.out.later hb)
              have Q1 := hidS (Q0.out.later hb)
              have K1 := hidS (blk_later K0.out hb)
              have L1 := hidS (L0.out.trans (hb.mono L0.out.size))
              clear L0 hb S0 P0 Q0 K0
              have R1 := hidS hOX
              clear hOX
              go_upto_region 29 with fail
              have T2 := hidS (TwoR.alloc T1.out (.cells #[.slice oS t.slots.length oc, .slice oH t.heads.length od, .int .i64 pl, .int .i64 tc] 47))
              clear T1
              have Z2 := hidS (size_alloc Z1.out (.cells #[.slice oS t.slots.length oc, .slice oH t.heads.length od, .int .i64 pl, .int .i64 tc] 47))
              clear Z1
              have R2 := hidS (R1.out.later ((Below.refl _ _).alloc (Nat.le_refl _) (.cells #[.slice oS t.slots.length oc, .slice oH t.heads.length od, .int .i64 pl, .int .i64 tc] 47)))
              clear R1
              have S2 : Hid ((w1.alloc (.cells #[.slice oS t.slots.length oc, .slice oH t.heads.length od, .int .i64 pl, .int .i64 tc] 47)).heap[sa]? = some (.cells #[.slice (some ⟨b2, o2, none⟩) s.slots.length u2, .slice (some ⟨b3, o3, none⟩) s.heads.length u3] 26)) := hidS (blk_alloc S1.out (.cells #[.slice oS t.slots.length oc, .slice oH t.heads.length od, .int .i64 pl, .int .i64 tc] 47))
              have lS2 := blk_lt S1.out
              have P2 : Hid (RowB b2 o2 (flat s.slots) (w1.alloc (.cells #[.slice oS t.slots.length oc, .slice oH t.heads.length od, .int .i64 pl, .int .i64 tc] 47))) := hidS (P1.out.later ((Below.refl w1.heap.size w1).alloc (Nat.le_refl _) (.cells #[.slice oS t.slots.length oc, .slice oH t.heads.length od, .int .i64 pl, .int .i64 tc] 47)))
              have lP2 := P1.out.lt
              have Q2 : Hid (RowB b3 o3 s.heads (w1.alloc (.cells #[.slice oS t.slots.length oc, .slice oH t.heads.length od, .int .i64 pl, .int .i64 tc] 47))) := hidS (Q1.out.later ((Below.refl w1.heap.size w1).alloc (Nat.le_refl _) (.cells #[.slice oS t.slots.length oc, .slice oH t.heads.length od, .int .i64 pl, .int .i64 tc] 47)))
              have lQ2 := Q1.out.lt
              have K2 : Hid ((w1.alloc (.cells #[.slice oS t.slots.length oc, .slice oH t.heads.length od, .int .i64 pl, .int .i64 tc] 47)).heap[ka]? = some (.cells #[.int .i64 k.key, .int .i64 k.cur, .int .i64 k.stage, .int .i64 k.state, .int .i64 k.slot, .int .i64 k.gen, .int .i64 k.steps] 30)) := hidS (blk_alloc K1.out (.cells #[.slice oS t.slots.length oc, .slice oH t.heads.length od, .int .i64 pl, .int .i64 tc] 47))
              have lK2 := blk_lt K1.out
              have X2 : Hid ((w1.alloc (.cells #[.slice oS t.slots.length oc, .slice oH t.heads.length od, .int .i64 pl, .int .i64 tc] 47)).heap[w1.heap.size]? = some (.cells #[.slice oS t.slots.length oc, .slice oH t.heads.length od, .int .i64 pl, .int .i64 tc] 47)) := hidS (heap_newG w1 (.cells #[.slice oS t.slots.length oc, .slice oH t.heads.length od, .int .i64 pl, .int .i64 tc] 47))
              have L2 : Hid (Below w.heap.size w (w1.alloc (.cells #[.slice oS t.slots.length oc, .slice oH t.heads.length od, .int .i64 pl, .int .i64 tc] 47))) := hidS (L1.out.alloc L1.out.size (.cells #[.slice oS t.slots.length oc, .slice oH t.heads.length od, .int .i64 pl, .int .i64 tc] 47))
              have ls2 := L1.out.size
              clear L1 S1 P1 Q1 K1
              generalize w1.alloc (.cells #[.slice oS t.slots.length oc, .slice oH t.heads.length od, .int .i64 pl, .int .i64 tc] 47) = w2 at S2 P2 Q2 K2 X2 T2 Z2 R2 L2 ⊢
              generalize w1.heap.size = xa at *
              go_wp2_with fail
              refine (HHc.out _ L2.out).mono ?_
              rintro _ v9 ⟨rfl, hv9⟩
              rw [hv9]
              clear hv9 v9
              clear HHc
              by_cases hh0 : hh = 0
              · subst hh0
                have HCJ := hidS (HCI.out w2 ⟨P2.out.read, Q2.out.read⟩)
                have zz := Z2.out
                have lx := blk_lt X2.out
                clear HCI
                have s0 := blk_cell S2.out 0
                have s1 := blk_cell S2.out 1
                simp at s0 s1
                clear R2
                go_wp2_with fail
                refine HCJ.out.mono ?_
                intro e w3 hans
                obtain ⟨oS2, oc2, oH2, od2, rfl, hOX2, hb⟩ := hans
                clear HCJ s0 s1
                have T3 := hidS (T2.out.later hb)
                clear T2
                have Z3 := hidS (Nat.le_trans Z2.out (hb).size)
                clear Z2
                have S3 := hidS (blk_later S2.out hb)
                have P3 := hidS (P2.out.later hb)
                have Q3 := hidS (Q2.out.later hb)
                have K3 := hidS (blk_later K2.out hb)
                have X3 := hidS (blk_later X2.out hb)
                have L3 := hidS (L2.out.trans (hb.mono L2.out.size))
                clear L2 hb S2 P2 Q2 K2 X2
                have x0 := blk_cell X3.out 0
                have x1 := blk_cell X3.out 1
                have x2 := blk_cell X3.out 2
                have x3 := blk_cell X3.out 3
                simp at x0 x1 x2 x3
                have fX := blk_free X3.out
                skip
                have R3 := hidS hOX2
                clear hOX2
                go_upto_region 31 with fail
                clear x0 x1 x2 x3 fX
                have T4 := hidS (TwoR.set (b := xa) (TwoR.set (b := xa) (TwoR.set (b := xa) (TwoR.set (b := xa) T3.out (by simp) 0 (.slice oS2 tt.slots.length oc2)) (by simp) 1 (.slice oH2 tt.heads.length od2)) (by simp) 2 (.int .i64 pp)) (by simp) 3 (.int .i64 cc))
                clear T3
                have Z4 := hidS (size_set (size_set (size_set (size_set Z3.out xa 0 (.slice oS2 tt.slots.length oc2)) xa 1 (.slice oH2 tt.heads.length od2)) xa 2 (.int .i64 pp)) xa 3 (.int .i64 cc))
                clear Z3
                have R4 := hidS (SlabO.put (SlabO.put (SlabO.put (SlabO.put R3.out (b := xa) (by omega) 0 (.slice oS2 tt.slots.length oc2)) (b := xa) (by omega) 1 (.slice oH2 tt.heads.length od2)) (b := xa) (by omega) 2 (.int .i64 pp)) (b := xa) (by omega) 3 (.int .i64 cc))
                clear R3
                have S4 : Hid ((((((w3.setCell ⟨xa, 0, none⟩ (.slice oS2 tt.slots.length oc2)).setCell ⟨xa, 1, none⟩ (.slice oH2 tt.heads.length od2)).setCell ⟨xa, 2, none⟩ (.int .i64 pp)).setCell ⟨xa, 3, none⟩ (.int .i64 cc))).heap[sa]? = some (.cells #[.slice (some ⟨b2, o2, none⟩) s.slots.length u2, .slice (some ⟨b3, o3, none⟩) s.heads.length u3] 26)) := hidS (blk_other (B := xa) (blk_other (B := xa) (blk_other (B := xa) (blk_other (B := xa) S3.out (by omega) 0 (.slice oS2 tt.slots.length oc2)) (by omega) 1 (.slice oH2 tt.heads.length od2)) (by omega) 2 (.int .i64 pp)) (by omega) 3 (.int .i64 cc))
                have P4 : Hid (RowB b2 o2 (flat s.slots) (((((w3.setCell ⟨xa, 0, none⟩ (.slice oS2 tt.slots.length oc2)).setCell ⟨xa, 1, none⟩ (.slice oH2 tt.heads.length od2)).setCell ⟨xa, 2, none⟩ (.int .i64 pp)).setCell ⟨xa, 3, none⟩ (.int .i64 cc)))) := hidS (RowB.other (g := xa) (k := 3) (v := .int .i64 cc) (RowB.other (g := xa) (k := 2) (v := .int .i64 pp) (RowB.other (g := xa) (k := 1) (v := .slice oH2 tt.heads.length od2) (RowB.other (g := xa) (k := 0) (v := .slice oS2 tt.slots.length oc2) P3.out (by omega)) (by omega)) (by omega)) (by omega))
                have Q4 : Hid (RowB b3 o3 s.heads (((((w3.setCell ⟨xa, 0, none⟩ (.slice oS2 tt.slots.length oc2)).setCell ⟨xa, 1, none⟩ (.slice oH2 tt.heads.length od2)).setCell ⟨xa, 2, none⟩ (.int .i64 pp)).setCell ⟨xa, 3, none⟩ (.int .i64 cc)))) := hidS (RowB.other (g := xa) (k := 3) (v := .int .i64 cc) (RowB.other (g := xa) (k := 2) (v := .int .i64 pp) (RowB.other (g := xa) (k := 1) (v := .slice oH2 tt.heads.length od2) (RowB.other (g := xa) (k := 0) (v := .slice oS2 tt.slots.length oc2) Q3.out (by omega)) (by omega)) (by omega)) (by omega))
                have K4 : Hid ((((((w3.setCell ⟨xa, 0, none⟩ (.slice oS2 tt.slots.length oc2)).setCell ⟨xa, 1, none⟩ (.slice oH2 tt.heads.length od2)).setCell ⟨xa, 2, none⟩ (.int .i64 pp)).setCell ⟨xa, 3, none⟩ (.int .i64 cc))).heap[ka]? = some (.cells #[.int .i64 k.key, .int .i64 k.cur, .int .i64 k.stage, .int .i64 k.state, .int .i64 k.slot, .int .i64 k.gen, .int .i64 k.steps] 30)) := hidS (blk_other (B := xa) (blk_other (B := xa) (blk_other (B := xa) (blk_other (B := xa) K3.out (by omega) 0 (.slice oS2 tt.slots.length oc2)) (by omega) 1 (.slice oH2 tt.heads.length od2)) (by omega) 2 (.int .i64 pp)) (by omega) 3 (.int .i64 cc))
                have X4 : Hid ((((((w3.setCell ⟨xa, 0, none⟩ (.slice oS2 tt.slots.length oc2)).setCell ⟨xa, 1, none⟩ (.slice oH2 tt.heads.length od2)).setCell ⟨xa, 2, none⟩ (.int .i64 pp)).setCell ⟨xa, 3, none⟩ (.int .i64 cc))).heap[xa]? = some (.cells #[.slice oS2 tt.slots.length oc2, .slice oH2 tt.heads.length od2, .int .i64 pp, .int .i64 cc] 47)) := by
                  have := (blk_set (blk_set (blk_set (blk_set X3.out 0 (.slice oS2 tt.slots.length oc2)) 1 (.slice oH2 tt.heads.length od2)) 2 (.int .i64 pp)) 3 (.int .i64 cc))
                  exact this
                have L4 : Hid (Below w.heap.size w (((((w3.setCell ⟨xa, 0, none⟩ (.slice oS2 tt.slots.length oc2)).setCell ⟨xa, 1, none⟩ (.slice oH2 tt.heads.length od2)).setCell ⟨xa, 2, none⟩ (.int .i64 pp)).setCell ⟨xa, 3, none⟩ (.int .i64 cc)))) := hidS (below_at (k := 3) (b := xa) (v := .int .i64 cc) (below_at (k := 2) (b := xa) (v := .int .i64 pp) (below_at (k := 1) (b := xa) (v := .slice oH2 tt.heads.length od2) (below_at (k := 0) (b := xa) (v := .slice oS2 tt.slots.length oc2) L3.out (by omega)) (by omega)) (by omega)) (by omega))
                clear L3 S3 P3 Q3 K3 X3
                generalize ((((w3.setCell ⟨xa, 0, none⟩ (.slice oS2 tt.slots.length oc2)).setCell ⟨xa, 1, none⟩ (.slice oH2 tt.heads.length od2)).setCell ⟨xa, 2, none⟩ (.int .i64 pp)).setCell ⟨xa, 3, none⟩ (.int .i64 cc)) = w4 at S4 P4 Q4 K4 X4 T4 Z4 R4 L4 ⊢
                have x0 := blk_cell X4.out 0
                have x1 := blk_cell X4.out 1
                have x2 := blk_cell X4.out 2
                have x3 := blk_cell X4.out 3
                simp at x0 x1 x2 x3
                by_cases hq : cc = 0
                · subst hq
                  have HI2 := hidS (FC.out rfl)
                  obtain ⟨_, y1, y2, y3, y4⟩ := right_leads HI2.out.r
                  obtain ⟨g2, p2, g3, p3, rfl, rfl, t1, t2, t3, t4, t5, t6⟩ := own_rows R4.out (by omega) (by omega)
                  have P24 := hidS t5
                  have Q24 := hidS t6
                  skip
                  clear t5 t6 R4
                  have s0 := blk_cell S4.out 0
                  have s1 := blk_cell S4.out 1
                  simp at s0 s1
                  have fS := blk_free S4.out
                  go_upto_region 20 with fail
                  clear x0 x1 x2 x3 s0 s1 fS
                  have T5 := hidS (TwoR.set (b := sa) (TwoR.set (b := sa) T4.out (by simp) 0 (.slice (some ⟨g2, p2, none⟩) tt.slots.length oc2)) (by simp) 1 (.slice (some ⟨g3, p3, none⟩) tt.heads.length od2))
                  clear T4
                  have Z5 := hidS (size_set (size_set Z4.out sa 0 (.slice (some ⟨g2, p2, none⟩) tt.slots.length oc2)) sa 1 (.slice (some ⟨g3, p3, none⟩) tt.heads.length od2))
                  clear Z4
                  have S5 : Hid ((((w4.setCell ⟨sa, 0, none⟩ (.slice (some ⟨g2, p2, none⟩) tt.slots.length oc2)).setCell ⟨sa, 1, none⟩ (.slice (some ⟨g3, p3, none⟩) tt.heads.length od2))).heap[sa]? = some (.cells #[.slice (some ⟨g2, p2, none⟩) tt.slots.length oc2, .slice (some ⟨g3, p3, none⟩) tt.heads.length od2] 26)) := by
                    have := (blk_set (blk_set S4.out 0 (.slice (some ⟨g2, p2, none⟩) tt.slots.length oc2)) 1 (.slice (some ⟨g3, p3, none⟩) tt.heads.length od2))
                    exact this
                  have P5 : Hid (RowB b2 o2 (flat s.slots) (((w4.setCell ⟨sa, 0, none⟩ (.slice (some ⟨g2, p2, none⟩) tt.slots.length oc2)).setCell ⟨sa, 1, none⟩ (.slice (some ⟨g3, p3, none⟩) tt.heads.length od2)))) := hidS (RowB.other (g := sa) (k := 1) (v := .slice (some ⟨g3, p3, none⟩) tt.heads.length od2) (RowB.other (g := sa) (k := 0) (v := .slice (some ⟨g2, p2, none⟩) tt.slots.length oc2) P4.out (by omega)) (by omega))
                  have Q5 : Hid (RowB b3 o3 s.heads (((w4.setCell ⟨sa, 0, none⟩ (.slice (some ⟨g2, p2, none⟩) tt.slots.length oc2)).setCell ⟨sa, 1, none⟩ (.slice (some ⟨g3, p3, none⟩) tt.heads.length od2)))) := hidS (RowB.other (g := sa) (k := 1) (v := .slice (some ⟨g3, p3, none⟩) tt.heads.length od2) (RowB.other (g := sa) (k := 0) (v := .slice (some ⟨g2, p2, none⟩) tt.slots.length oc2) Q4.out (by omega)) (by omega))
                  have K5 : Hid ((((w4.setCell ⟨sa, 0, none⟩ (.slice (some ⟨g2, p2, none⟩) tt.slots.length oc2)).setCell ⟨sa, 1, none⟩ (.slice (some ⟨g3, p3, none⟩) tt.heads.length od2))).heap[ka]? = some (.cells #[.int .i64 k.key, .int .i64 k.cur, .int .i64 k.stage, .int .i64 k.state, .int .i64 k.slot, .int .i64 k.gen, .int .i64 k.steps] 30)) := hidS (blk_other (B := sa) (blk_other (B := sa) K4.out (by omega) 0 (.slice (some ⟨g2, p2, none⟩) tt.slots.length oc2)) (by omega) 1 (.slice (some ⟨g3, p3, none⟩) tt.heads.length od2))
                  have X5 : Hid ((((w4.setCell ⟨sa, 0, none⟩ (.slice (some ⟨g2, p2, none⟩) tt.slots.length oc2)).setCell ⟨sa, 1, none⟩ (.slice (some ⟨g3, p3, none⟩) tt.heads.length od2))).heap[xa]? = some (.cells #[.slice (some ⟨g2, p2, none⟩) tt.slots.length oc2, .slice (some ⟨g3, p3, none⟩) tt.heads.length od2, .int .i64 pp, .int .i64 0] 47)) := hidS (blk_other (B := sa) (blk_other (B := sa) X4.out (by omega) 0 (.slice (some ⟨g2, p2, none⟩) tt.slots.length oc2)) (by omega) 1 (.slice (some ⟨g3, p3, none⟩) tt.heads.length od2))
                  have P25 : Hid (RowB g2 p2 (flat tt.slots) (((w4.setCell ⟨sa, 0, none⟩ (.slice (some ⟨g2, p2, none⟩) tt.slots.length oc2)).setCell ⟨sa, 1, none⟩ (.slice (some ⟨g3, p3, none⟩) tt.heads.length od2)))) := hidS (RowB.other (g := sa) (k := 1) (v := .slice (some ⟨g3, p3, none⟩) tt.heads.length od2) (RowB.other (g := sa) (k := 0) (v := .slice (some ⟨g2, p2, none⟩) tt.slots.length oc2) P24.out (by omega)) (by omega))
                  have Q25 : Hid (RowB g3 p3 tt.heads (((w4.setCell ⟨sa, 0, none⟩ (.slice (some ⟨g2, p2, none⟩) tt.slots.length oc2)).setCell ⟨sa, 1, none⟩ (.slice (some ⟨g3, p3, none⟩) tt.heads.length od2)))) := hidS (RowB.other (g := sa) (k := 1) (v := .slice (some ⟨g3, p3, none⟩) tt.heads.length od2) (RowB.other (g := sa) (k := 0) (v := .slice (some ⟨g2, p2, none⟩) tt.slots.length oc2) Q24.out (by omega)) (by omega))
                  have L5 : Hid (Below w.heap.size w (((w4.setCell ⟨sa, 0, none⟩ (.slice (some ⟨g2, p2, none⟩) tt.slots.length oc2)).setCell ⟨sa, 1, none⟩ (.slice (some ⟨g3, p3, none⟩) tt.heads.length od2)))) := hidS (below_at (k := 1) (b := sa) (v := .slice (some ⟨g3, p3, none⟩) tt.heads.length od2) (below_at (k := 0) (b := sa) (v := .slice (some ⟨g2, p2, none⟩) tt.slots.length oc2) L4.out (by omega)) (by omega))
                  clear L4 S4 P4 Q4 K4 X4 P24 Q24
                  generalize ((w4.setCell ⟨sa, 0, none⟩ (.slice (some ⟨g2, p2, none⟩) tt.slots.length oc2)).setCell ⟨sa, 1, none⟩ (.slice (some ⟨g3, p3, none⟩) tt.heads.length od2)) = w5 at S5 P5 Q5 K5 X5 P25 Q25 T5 Z5 L5 ⊢
                  go_wp2
                  go_roundw
                  case measure => simp [intOf]; omega
                  case rel => exact ⟨n + 1, tt, k, ab2, sl2, gs2, g2, p2, oc2, g3, p3, od2, rfl, by simp, by omega, by omega, hl2, HG2.out, ⟨⟨S5.out, P25.out, Q25.out, ⟨lb1, by omega, by omega, by omega, by omega⟩, L5.out⟩, K5.out, ⟨kb1, kb2, by omega, by omega⟩, TwoR.avoidB T5.out TL.out (fun q hq => by simp at hq ⊢; omega)⟩, HI2⟩
                · have bq : (cc == 0) = false := beq_eq_false_iff_ne.2 hq
                  go_wp2
                  go_roundw
                  case measure => simp [intOf]; omega
                  case rel => exact ⟨n + 1, s, k, ab2, sl2, gs2, b2, o2, u2, b3, o3, u3, rfl, by simp, by omega, by omega, hl2, HG2.out, ⟨⟨S4.out, P4.out, Q4.out, ⟨lb1, lb2, lb3, lb4, lb5⟩, L4.out⟩, K4.out, ⟨kb1, kb2, kb3, kb4⟩, TwoR.avoid T4.out (fun q hq => .inl (by simp at hq ⊢; omega))⟩, hidS HO.out.toRInv⟩
              · have hb0 : (hh == 0) = false := beq_eq_false_iff_ne.2 hh0
                have x0 := blk_cell X2.out 0
                have x1 := blk_cell X2.out 1
                have x2 := blk_cell X2.out 2
                have x3 := blk_cell X2.out 3
                simp at x0 x1 x2 x3
                by_cases hq : tc = 0
                · subst hq
                  have HI2 := hidS (FA.out rfl)
                  obtain ⟨_, y1, y2, y3, y4⟩ := right_leads HI2.out.r
                  obtain ⟨g2, p2, g3, p3, rfl, rfl, t1, t2, t3, t4, t5, t6⟩ := own_rows R2.out (by omega) (by omega)
                  have P22 := hidS t5
                  have Q22 := hidS t6
                  skip
                  clear t5 t6 R2
                  have s0 := blk_cell S2.out 0
                  have s1 := blk_cell S2.out 1
                  simp at s0 s1
                  have fS := blk_free S2.out
                  go_upto_region 20 with fail
                  clear x0 x1 x2 x3 s0 s1 fS
                  have T3 := hidS (TwoR.set (b := sa) (TwoR.set (b := sa) T2.out (by simp) 0 (.slice (some ⟨g2, p2, none⟩) t.slots.length oc)) (by simp) 1 (.slice (some ⟨g3, p3, none⟩) t.heads.length od))
                  clear T2
                  have Z3 := hidS (size_set (size_set Z2.out sa 0 (.slice (some ⟨g2, p2, none⟩) t.slots.length oc)) sa 1 (.slice (some ⟨g3, p3, none⟩) t.heads.length od))
                  clear Z2
                  have S3 : Hid ((((w2.setCell ⟨sa, 0, none⟩ (.slice (some ⟨g2, p2, none⟩) t.slots.length oc)).setCell ⟨sa, 1, none⟩ (.slice (some ⟨g3, p3, none⟩) t.heads.length od))).heap[sa]? = some (.cells #[.slice (some ⟨g2, p2, none⟩) t.slots.length oc, .slice (some ⟨g3, p3, none⟩) t.heads.length od] 26)) := by
                    have := (blk_set (blk_set S2.out 0 (.slice (some ⟨g2, p2, none⟩) t.slots.length oc)) 1 (.slice (some ⟨g3, p3, none⟩) t.heads.length od))
                    exact this
                  have P3 : Hid (RowB b2 o2 (flat s.slots) (((w2.setCell ⟨sa, 0, none⟩ (.slice (some ⟨g2, p2, none⟩) t.slots.length oc)).setCell ⟨sa, 1, none⟩ (.slice (some ⟨g3, p3, none⟩) t.heads.length od)))) := hidS (RowB.other (g := sa) (k := 1) (v := .slice (some ⟨g3, p3, none⟩) t.heads.length od) (RowB.other (g := sa) (k := 0) (v := .slice (some ⟨g2, p2, none⟩) t.slots.length oc) P2.out (by omega)) (by omega))
                  have Q3 : Hid (RowB b3 o3 s.heads (((w2.setCell ⟨sa, 0, none⟩ (.slice (some ⟨g2, p2, none⟩) t.slots.length oc)).setCell ⟨sa, 1, none⟩ (.slice (some ⟨g3, p3, none⟩) t.heads.length od)))) := hidS (RowB.other (g := sa) (k := 1) (v := .slice (some ⟨g3, p3, none⟩) t.heads.length od) (RowB.other (g := sa) (k := 0) (v := .slice (some ⟨g2, p2, none⟩) t.slots.length oc) Q2.out (by omega)) (by omega))
                  have K3 : Hid ((((w2.setCell ⟨sa, 0, none⟩ (.slice (some ⟨g2, p2, none⟩) t.slots.length oc)).setCell ⟨sa, 1, none⟩ (.slice (some ⟨g3, p3, none⟩) t.heads.length od))).heap[ka]? = some (.cells #[.int .i64 k.key, .int .i64 k.cur, .int .i64 k.stage, .int .i64 k.state, .int .i64 k.slot, .int .i64 k.gen, .int .i64 k.steps] 30)) := hidS (blk_other (B := sa) (blk_other (B := sa) K2.out (by omega) 0 (.slice (some ⟨g2, p2, none⟩) t.slots.length oc)) (by omega) 1 (.slice (some ⟨g3, p3, none⟩) t.heads.length od))
                  have X3 : Hid ((((w2.setCell ⟨sa, 0, none⟩ (.slice (some ⟨g2, p2, none⟩) t.slots.length oc)).setCell ⟨sa, 1, none⟩ (.slice (some ⟨g3, p3, none⟩) t.heads.length od))).heap[xa]? = some (.cells #[.slice (some ⟨g2, p2, none⟩) t.slots.length oc, .slice (some ⟨g3, p3, none⟩) t.heads.length od, .int .i64 pl, .int .i64 0] 47)) := hidS (blk_other (B := sa) (blk_other (B := sa) X2.out (by omega) 0 (.slice (some ⟨g2, p2, none⟩) t.slots.length oc)) (by omega) 1 (.slice (some ⟨g3, p3, none⟩) t.heads.length od))
                  have P23 : Hid (RowB g2 p2 (flat t.slots) (((w2.setCell ⟨sa, 0, none⟩ (.slice (some ⟨g2, p2, none⟩) t.slots.length oc)).setCell ⟨sa, 1, none⟩ (.slice (some ⟨g3, p3, none⟩) t.heads.length od)))) := hidS (RowB.other (g := sa) (k := 1) (v := .slice (some ⟨g3, p3, none⟩) t.heads.length od) (RowB.other (g := sa) (k := 0) (v := .slice (some ⟨g2, p2, none⟩) t.slots.length oc) P22.out (by omega)) (by omega))
                  have Q23 : Hid (RowB g3 p3 t.heads (((w2.setCell ⟨sa, 0, none⟩ (.slice (some ⟨g2, p2, none⟩) t.slots.length oc)).setCell ⟨sa, 1, none⟩ (.slice (some ⟨g3, p3, none⟩) t.heads.length od)))) := hidS (RowB.other (g := sa) (k := 1) (v := .slice (some ⟨g3, p3, none⟩) t.heads.length od) (RowB.other (g := sa) (k := 0) (v := .slice (some ⟨g2, p2, none⟩) t.slots.length oc) Q22.out (by omega)) (by omega))
                  have L3 : Hid (Below w.heap.size w (((w2.setCell ⟨sa, 0, none⟩ (.slice (some ⟨g2, p2, none⟩) t.slots.length oc)).setCell ⟨sa, 1, none⟩ (.slice (some ⟨g3, p3, none⟩) t.heads.length od)))) := hidS (below_at (k := 1) (b := sa) (v := .slice (some ⟨g3, p3, none⟩) t.heads.length od) (below_at (k := 0) (b := sa) (v := .slice (some ⟨g2, p2, none⟩) t.slots.length oc) L2.out (by omega)) (by omega))
                  clear L2 S2 P2 Q2 K2 X2 P22 Q22
                  generalize ((w2.setCell ⟨sa, 0, none⟩ (.slice (some ⟨g2, p2, none⟩) t.slots.length oc)).setCell ⟨sa, 1, none⟩ (.slice (some ⟨g3, p3, none⟩) t.heads.length od)) = w3 at S3 P3 Q3 K3 X3 P23 Q23 T3 Z3 L3 ⊢
                  go_wp2
                  go_roundw
                  case measure => simp [intOf]; omega
                  case rel => exact ⟨n + 1, t, k, ab2, sl2, gs2, g2, p2, oc, g3, p3, od, rfl, by simp, by omega, by omega, hl2, HG2.out, ⟨⟨S3.out, P23.out, Q23.out, ⟨lb1, by omega, by omega, by omega, by omega⟩, L3.out⟩, K3.out, ⟨kb1, kb2, by omega, by omega⟩, TwoR.avoidB T3.out TL.out (fun q hq => by simp at hq ⊢; omega)⟩, HI2⟩
                · have bq : (tc == 0) = false := beq_eq_false_iff_ne.2 hq
                  go_wp2
                  go_roundw
                  case measure => simp [intOf]; omega
                  case rel => exact ⟨n + 1, s, k, ab2, sl2, gs2, b2, o2, u2, b3, o3, u3, rfl, by simp, by omega, by omega, hl2, HG2.out, ⟨⟨S2.out, P2.out, Q2.out, ⟨lb1, lb2, lb3, lb4, lb5⟩, L2.out⟩, K2.out, ⟨kb1, kb2, kb3, kb4⟩, TwoR.avoid T2.out (fun q hq => .inl (by simp at hq ⊢; omega))⟩, hidS HO.out.toRInv⟩
            · have bq : (gg == 0) = false := beq_eq_false_iff_ne.2 hg
              have TL := hidS T0.out.lt
              have Z0 := hidS (Nat.le_refl w0.heap.size)
              have lS0 := blk_lt S0.out
              have lK0 := blk_lt K0.out
              have lP0 := P0.out.lt
              have lQ0 := Q0.out.lt
              obtain ⟨t, k2, e1, e2, hc0, WR0, hln1, hhd1, hn1, hh1, hst2, IS0⟩ := race_step HO.out hst hlt n1 n2 n3 n4
              have HWI := hidS (implWalkStep_any (some ⟨b2, o2, none⟩) (some ⟨b3, o3, none⟩) u2 u3 s k w0 ⟨P0.out.read, Q0.out.read⟩ (right_fit HO.out.r) (Nat.le_trans n2 (by decide)) (Nat.le_trans n4 (by decide)) (inv_fit HO.out.toRInv))
              have HWS := hidS (fun aS aH cS cH W (h : SlabZ aS aH s W) => specWalkStep_any aS aH cS cH s k W h (Nat.le_trans n2 (by decide)) (Nat.le_trans n4 (by decide)))
              rw [e1, e2, hc0] at HWI HWS
              have WR := hidS WR0
              have IS := hidS IS0
              clear e1 e2 hc0 WR0 IS0 HA HM HB hg
              have s0 := blk_cell S0.out 0
              have s1 := blk_cell S0.out 1
              simp at s0 s1
              have kc0 := blk_cell K0.out 0
              have kc1 := blk_cell K0.out 1
              have kc2 := blk_cell K0.out 2
              have kc3 := blk_cell K0.out 3
              have kc4 := blk_cell K0.out 4
              have kc5 := blk_cell K0.out 5
              have kc6 := blk_cell K0.out 6
              simp at kc0 kc1 kc2 kc3 kc4 kc5 kc6
              go_wp2_with fail
              refine HWI.out.mono ?_
              intro e w1 hans
              obtain ⟨oS, oc, oH, od, rfl, hOX, hb⟩ := hans
              clear HWI s0 s1 kc0 kc1 kc2 kc3 kc4 kc5 kc6
              have T1 := hidS (T0.out.later hb)
              clear T0
              have Z1 := hidS (Nat.le_trans Z0.out (hb).size)
              clear Z0
              have S1 := hidS (blk_later S0.out hb)
              have P1 := hidS (P0.out.later hb)
              have Q1 := hidS (Q0.out.later hb)
              have K1 := hidS (blk_later K0.out hb)
              have L1 := hidS (L0.out.trans (hb.mono L0.out.size))
              clear L0 hb S0 P0 Q0 K0
              have R1 := hidS hOX
              clear hOX
              go_upto_region 34 with fail
              have T2 := hidS (TwoR.alloc T1.out (.cells #[.slice oS t.slots.length oc, .slice oH t.heads.length od, .int .i64 k2.key, .int .i64 k2.cur, .int .i64 k2.stage, .int .i64 k2.state, .int .i64 k2.slot, .int .i64 k2.gen, .int .i64 k2.steps, .int .i64 0] 32))
              clear T1
              have Z2 := hidS (size_alloc Z1.out (.cells #[.slice oS t.slots.length oc, .slice oH t.heads.length od, .int .i64 k2.key, .int .i64 k2.cur, .int .i64 k2.stage, .int .i64 k2.state, .int .i64 k2.slot, .int .i64 k2.gen, .int .i64 k2.steps, .int .i64 0] 32))
              clear Z1
              have R2 := hidS (R1.out.later ((Below.refl _ _).alloc (Nat.le_refl _) (.cells #[.slice oS t.slots.length oc, .slice oH t.heads.length od, .int .i64 k2.key, .int .i64 k2.cur, .int .i64 k2.stage, .int .i64 k2.state, .int .i64 k2.slot, .int .i64 k2.gen, .int .i64 k2.steps, .int .i64 0] 32)))
              clear R1
              have S2 : Hid ((w1.alloc (.cells #[.slice oS t.slots.length oc, .slice oH t.heads.length od, .int .i64 k2.key, .int .i64 k2.cur, .int .i64 k2.stage, .int .i64 k2.state, .int .i64 k2.slot, .int .i64 k2.gen, .int .i64 k2.steps, .int .i64 0] 32)).heap[sa]? = some (.cells #[.slice (some ⟨b2, o2, none⟩) s.slots.length u2, .slice (some ⟨b3, o3, none⟩) s.heads.length u3] 26)) := hidS (blk_alloc S1.out (.cells #[.slice oS t.slots.length oc, .slice oH t.heads.length od, .int .i64 k2.key, .int .i64 k2.cur, .int .i64 k2.stage, .int .i64 k2.state, .int .i64 k2.slot, .int .i64 k2.gen, .int .i64 k2.steps, .int .i64 0] 32))
              have lS2 := blk_lt S1.out
              have P2 : Hid (RowB b2 o2 (flat s.slots) (w1.alloc (.cells #[.slice oS t.slots.length oc, .slice oH t.heads.length od, .int .i64 k2.key, .int .i64 k2.cur, .int .i64 k2.stage, .int .i64 k2.state, .int .i64 k2.slot, .int .i64 k2.gen, .int .i64 k2.steps, .int .i64 0] 32))) := hidS (P1.out.later ((Below.refl w1.heap.size w1).alloc (Nat.le_refl _) (.cells #[.slice oS t.slots.length oc, .slice oH t.heads.length od, .int .i64 k2.key, .int .i64 k2.cur, .int .i64 k2.stage, .int .i64 k2.state, .int .i64 k2.slot, .int .i64 k2.gen, .int .i64 k2.steps, .int .i64 0] 32)))
              have lP2 := P1.out.lt
              have Q2 : Hid (RowB b3 o3 s.heads (w1.alloc (.cells #[.slice oS t.slots.length oc, .slice oH t.heads.length od, .int .i64 k2.key, .int .i64 k2.cur, .int .i64 k2.stage, .int .i64 k2.state, .int .i64 k2.slot, .int .i64 k2.gen, .int .i64 k2.steps, .int .i64 0] 32))) := hidS (Q1.out.later ((Below.refl w1.heap.size w1).alloc (Nat.le_refl _) (.cells #[.slice oS t.slots.length oc, .slice oH t.heads.length od, .int .i64 k2.key, .int .i64 k2.cur, .int .i64 k2.stage, .int .i64 k2.state, .int .i64 k2.slot, .int .i64 k2.gen, .int .i64 k2.steps, .int .i64 0] 32)))
              have lQ2 := Q1.out.lt
              have K2 : Hid ((w1.alloc (.cells #[.slice oS t.slots.length oc, .slice oH t.heads.length od, .int .i64 k2.key, .int .i64 k2.cur, .int .i64 k2.stage, .int .i64 k2.state, .int .i64 k2.slot, .int .i64 k2.gen, .int .i64 k2.steps, .int .i64 0] 32)).heap[ka]? = some (.cells #[.int .i64 k.key, .int .i64 k.cur, .int .i64 k.stage, .int .i64 k.state, .int .i64 k.slot, .int .i64 k.gen, .int .i64 k.steps] 30)) := hidS (blk_alloc K1.out (.cells #[.slice oS t.slots.length oc, .slice oH t.heads.length od, .int .i64 k2.key, .int .i64 k2.cur, .int .i64 k2.stage, .int .i64 k2.state, .int .i64 k2.slot, .int .i64 k2.gen, .int .i64 k2.steps, .int .i64 0] 32))
              have lK2 := blk_lt K1.out
              have Y2 : Hid ((w1.alloc (.cells #[.slice oS t.slots.length oc, .slice oH t.heads.length od, .int .i64 k2.key, .int .i64 k2.cur, .int .i64 k2.stage, .int .i64 k2.state, .int .i64 k2.slot, .int .i64 k2.gen, .int .i64 k2.steps, .int .i64 0] 32)).heap[w1.heap.size]? = some (.cells #[.slice oS t.slots.length oc, .slice oH t.heads.length od, .int .i64 k2.key, .int .i64 k2.cur, .int .i64 k2.stage, .int .i64 k2.state, .int .i64 k2.slot, .int .i64 k2.gen, .int .i64 k2.steps, .int .i64 0] 32)) := hidS (heap_newG w1 (.cells #[.slice oS t.slots.length oc, .slice oH t.heads.length od, .int .i64 k2.key, .int .i64 k2.cur, .int .i64 k2.stage, .int .i64 k2.state, .int .i64 k2.slot, .int .i64 k2.gen, .int .i64 k2.steps, .int .i64 0] 32))
              have L2 : Hid (Below w.heap.size w (w1.alloc (.cells #[.slice oS t.slots.length oc, .slice oH t.heads.length od, .int .i64 k2.key, .int .i64 k2.cur, .int .i64 k2.stage, .int .i64 k2.state, .int .i64 k2.slot, .int .i64 k2.gen, .int .i64 k2.steps, .int .i64 0] 32))) := hidS (L1.out.alloc L1.out.size (.cells #[.slice oS t.slots.length oc, .slice oH t.heads.length od, .int .i64 k2.key, .int .i64 k2.cur, .int .i64 k2.stage, .int .i64 k2.state, .int .i64 k2.slot, .int .i64 k2.gen, .int .i64 k2.steps, .int .i64 0] 32))
              have ls2 := L1.out.size
              clear L1 S1 P1 Q1 K1
              generalize w1.alloc (.cells #[.slice oS t.slots.length oc, .slice oH t.heads.length od, .int .i64 k2.key, .int .i64 k2.cur, .int .i64 k2.stage, .int .i64 k2.state, .int .i64 k2.slot, .int .i64 k2.gen, .int .i64 k2.steps, .int .i64 0] 32) = w2 at S2 P2 Q2 K2 Y2 T2 Z2 R2 L2 ⊢
              generalize w1.heap.size = ya at *
              refine grow_gk 11 [isP (.agg #[.slice oS t.slots.length oc, .slice oH t.heads.length od, .int .i64 k2.key, .int .i64 k2.cur, .int .i64 k2.stage, .int .i64 k2.state, .int .i64 k2.slot, .int .i64 k2.gen, .int .i64 k2.steps, .int .i64 0]), isP (.agg #[.slice (some ⟨b2, o2, none⟩) s.slots.length u2, .slice (some ⟨b3, o3, none⟩) s.heads.length u3]), isP (.agg #[.int .i64 k.key, .int .i64 k.cur, .int .i64 k.stage, .int .i64 k.state, .int .i64 k.slot, .int .i64 k.gen, .int .i64 k.steps]), wkZ t k2 0, isP (.bool true), isP (.bool false), isP (.bool false), isP (.pointer (some ⟨ya, 9, none⟩)), isP (.int .i64 0), isP (.bool false), isP (.bool false)] rfl (by kernel_rfl) (by kernel_rfl) ⟨(fun v W W' h _ => h), (fun v W W' h _ => h), (fun v W W' h _ => h), (wkZ_last _ _ _), (fun v W W' h _ => h), (fun v W W' h _ => h), (fun v W W' h _ => h), (fun v W W' h _ => h), (fun v W W' h _ => h), (fun v W W' h _ => h), (fun v W W' h _ => h), trivial⟩ ?stepsB ?finB
              case stepsB =>
                refine ⟨?_, ?_, ?_, ?_, ?_, ?_, ?_, ?_, ?_, ?_, ?_, trivial⟩
                · refine stepW_of_u ⟨rfl, fun v W ρ hC kc kf ks ki kd => ?_⟩
                  have t16 : ρ (.tmp 16) = .pointer (some ⟨ya, 0, none⟩) := ki 16 (by decide)
                  have hg := blk_later Y2.out hC
                  have c0 := blk_cell hg 0
                  have c1 := blk_cell hg 1
                  have c2 := blk_cell hg 2
                  have c3 := blk_cell hg 3
                  have c4 := blk_cell hg 4
                  have c5 := blk_cell hg 5
                  have c6 := blk_cell hg 6
                  have c7 := blk_cell hg 7
                  have c8 := blk_cell hg 8
                  have c9 := blk_cell hg 9
                  simp at c0 c1 c2 c3 c4 c5 c6 c7 c8 c9
                  simp [execOp, go_sem, kc, t16, c0, c1, c2, c3, c4, c5, c6, c7, c8, c9]
                  exact ⟨hC, Below.refl _ _, rfl⟩
                · refine stepW_of_u ⟨rfl, fun v W ρ hC kc kf ks ki kd => ?_⟩
                  have t5 : ρ (.tmp 5) = .pointer (some ⟨sa, 0, none⟩) := ki 5 (by decide)
                  have hg := blk_later S2.out hC
                  have c0 := blk_cell hg 0
                  have c1 := blk_cell hg 1
                  simp at c0 c1
                  simp [execOp, go_sem, kc, t5, c0, c1]
                  exact ⟨hC, Below.refl _ _, rfl⟩
                · refine stepW_of_u ⟨rfl, fun v W ρ hC kc kf ks ki kd => ?_⟩
                  have t8 : ρ (.tmp 8) = .pointer (some ⟨ka, 0, none⟩) := ki 8 (by decide)
                  have hg := blk_later K2.out hC
                  have c0 := blk_cell hg 0
                  have c1 := blk_cell hg 1
                  have c2 := blk_cell hg 2
                  have c3 := blk_cell hg 3
                  have c4 := blk_cell hg 4
                  have c5 := blk_cell hg 5
                  have c6 := blk_cell hg 6
                  simp at c0 c1 c2 c3 c4 c5 c6
                  simp [execOp, go_sem, kc, t8, c0, c1, c2, c3, c4, c5, c6]
                  exact ⟨hC, Below.refl _ _, rfl⟩
                · refine stepW_of_u ⟨rfl, fun v W ρ hC kc kf ks ki kd => ?_⟩
                  have d1 : v 1 = .agg #[.slice (some ⟨b2, o2, none⟩) s.slots.length u2, .slice (some ⟨b3, o3, none⟩) s.heads.length u3] := (kdj kd 1 rfl :)
                  have t131 : ρ (.tmp 131) = .agg #[.slice (some ⟨b2, o2, none⟩) s.slots.length u2, .slice (some ⟨b3, o3, none⟩) s.heads.length u3] := (ks 1 131 (by decide) rfl).trans d1
                  have d2 : v 2 = .agg #[.int .i64 k.key, .int .i64 k.cur, .int .i64 k.stage, .int .i64 k.state, .int .i64 k.slot, .int .i64 k.gen, .int .i64 k.steps] := (kdj kd 2 rfl :)
                  have t132 : ρ (.tmp 132) = .agg #[.int .i64 k.key, .int .i64 k.cur, .int .i64 k.stage, .int .i64 k.state, .int .i64 k.slot, .int .i64 k.gen, .int .i64 k.steps] := (ks 2 132 (by decide) rfl).trans d2
                  simp [execOp, go_sem, kc, kf, t131, t132]
                  refine Calls.mono (HWS.out (some ⟨b2, o2, none⟩) (some ⟨b3, o3, none⟩) u2 u3 W ⟨(P2.out.later hC).read, (Q2.out.later hC).read⟩) (fun e x h => ?_)
                  obtain ⟨pS, pc, pH, pd, rfl, hO, hb⟩ := h
                  exact ⟨_, rfl, hC.trans (hb.mono hC.size), hb, pS, pc, pH, pd, rfl, hO.read⟩
                · refine stepW_of_u ⟨rfl, fun v W ρ hC kc kf ks ki kd => ?_⟩
                  have d0 : v 0 = .agg #[.slice oS t.slots.length oc, .slice oH t.heads.length od, .int .i64 k2.key, .int .i64 k2.cur, .int .i64 k2.stage, .int .i64 k2.state, .int .i64 k2.slot, .int .i64 k2.gen, .int .i64 k2.steps, .int .i64 0] := (kdj kd 0 rfl :)
                  have t130 : ρ (.tmp 130) = .agg #[.slice oS t.slots.length oc, .slice oH t.heads.length od, .int .i64 k2.key, .int .i64 k2.cur, .int .i64 k2.stage, .int .i64 k2.state, .int .i64 k2.slot, .int .i64 k2.gen, .int .i64 k2.steps, .int .i64 0] := (ks 0 130 (by decide) rfl).trans d0
                  obtain ⟨xS133, xc133, xH133, xd133, e133, hz133⟩ : (wkZ t k2 0) (v 3) W := (kdj kd 3 rfl :)
                  have t133 : ρ (.tmp 133) = .agg #[.slice xS133 t.slots.length xc133, .slice xH133 t.heads.length xd133, .int .i64 k2.key, .int .i64 k2.cur, .int .i64 k2.stage, .int .i64 k2.state, .int .i64 k2.slot, .int .i64 k2.gen, .int .i64 k2.steps, .int .i64 0] := (ks 3 133 (by decide) rfl).trans e133
                  simp [execOp, go_sem, t133, kc, t130, kf]
                  exact Calls.mono (lwWalk_any oS xS133 oH xH133 oc od xc133 xd133 t k2 0 W ((R2.out.later hC).read) hz133 hln1 hhd1 (fun _ => WR.out)) (fun e x h => ⟨_, h.1, hC.trans (h.2.mono hC.size), h.2, rfl⟩)
                · refine stepW_of_u ⟨rfl, fun v W ρ hC kc kf ks ki kd => ?_⟩
                  have d4 : v 4 = .bool true := (kdj kd 4 rfl :)
                  have t134 : ρ (.tmp 134) = .bool true := (ks 4 134 (by decide) rfl).trans d4
                  simp [execOp, go_sem, kc, t134]
                  exact ⟨hC, Below.refl _ _, rfl⟩
                · refine stepW_of_u ⟨rfl, fun v W ρ hC kc kf ks ki kd => ?_⟩
                  have d5 : v 5 = .bool false := (kdj kd 5 rfl :)
                  have t135 : ρ (.tmp 135) = .bool false := (ks 5 135 (by decide) rfl).trans d5
                  simp [execOp, go_sem, kc, t135]
                  exact ⟨hC, Below.refl _ _, rfl⟩
                · intro v W ρ y hC kc kf ks ki ky ku kd
                  have dg : v 6 = .bool false := (kdj kd 6 rfl :)
                  have hy := ky 6 136 false (by decide) rfl dg
                  rw [if_pos (by simp [Region.wanted, hy])]
                  have t16 : ρ (.tmp 16) = .pointer (some ⟨ya, 0, none⟩) := ki 16 (by decide)
                  simp [execOp, go_sem, kc, t16]
                  exact ⟨hC, Below.refl _ _, rfl⟩
                · intro v W ρ y hC kc kf ks ki ky ku kd
                  have dg : v 6 = .bool false := (kdj kd 6 rfl :)
                  have hy := ky 6 136 false (by decide) rfl dg
                  rw [if_pos (by simp [Region.wanted, hy])]
                  have d7 : v 7 = .pointer (some ⟨ya, 9, none⟩) := (kdj kd 7 rfl :)
                  have t137 : ρ (.tmp 137) = .pointer (some ⟨ya, 9, none⟩) := (ks 7 137 (by decide) rfl).trans d7
                  have hg := blk_later Y2.out hC
                  have c9 := blk_cell hg 9
                  simp at c9
                  simp [execOp, go_sem, kc, t137, c9]
                  exact ⟨hC, Below.refl _ _, rfl⟩
                · intro v W ρ y hC kc kf ks ki ky ku kd
                  have dg : v 6 = .bool false := (kdj kd 6 rfl :)
                  have hy := ky 6 136 false (by decide) rfl dg
                  rw [if_pos (by simp [Region.wanted, hy])]
                  have d8 : v 8 = .int .i64 0 := (kdj kd 8 rfl :)
                  have t138 : ρ (.tmp 138) = .int .i64 0 := (ks 8 138 (by decide) rfl).trans d8
                  simp [execOp, go_sem, kc, t138]
                  exact ⟨hC, Below.refl _ _, rfl⟩
                · refine stepW_of_u ⟨rfl, fun v W ρ hC kc kf ks ki kd => ?_⟩
                  have d6 : v 6 = .bool false := (kdj kd 6 rfl :)
                  have t136 : ρ (.tmp 136) = .bool false := (ks 6 136 (by decide) rfl).trans d6
                  have d9 : v 9 = .bool false := (kdj kd 9 rfl :)
                  have t139 : ρ (.tmp 139) = .bool false := (ks 9 139 (by decide) rfl).trans d9
                  simp [execOp, go_sem, kc, t136, t139]
                  exact ⟨hC, Below.refl _ _, rfl⟩
              intro vB w3 hb hall
              have hvB : vB 10 = .bool false := hall 10 (by decide)
              simp [upto, Act.put]
              rw [hvB]
              clear hall hvB
              have T3 := hidS (T2.out.later hb)
              clear T2
              have Z3 := hidS (Nat.le_trans Z2.out (hb).size)
              clear Z2
              have R3 := hidS (R2.out.later hb)
              clear R2
              have S3 := hidS (blk_later S2.out hb)
              have P3 := hidS (P2.out.later hb)
              have Q3 := hidS (Q2.out.later hb)
              have K3 := hidS (blk_later K2.out hb)
              have Y3 := hidS (blk_later Y2.out hb)
              have L3 := hidS (L2.out.trans (hb.mono L2.out.size))
              clear L2 hb S2 P2 Q2 K2 Y2
              obtain ⟨g2, p2, g3, p3, rfl, rfl, t1, t2, t3, t4, t5, t6⟩ := own_rows R3.out hn1 hh1
              have P23 := hidS t5
              have Q23 := hidS t6
              clear t5 t6 HWS WR
              go_upto_region 36 with fail
              go_cut [] from 77 to 191 (fun wx => RcK w wx sa ka g2 p2 oc g3 p3 od t k2 (.slice x2 sl2.length cp2) (.slice x3 gs2.length cp3) sl2 gs2)
              case first =>
                have q1 : g2 ≠ sa := by omega
                have q2 : g3 ≠ sa := by omega
                have q3 : g2 ≠ ka := by omega
                have q4 : g3 ≠ ka := by omega
                have u1 : w.heap.size ≤ g2 := by omega
                have u2' : w.heap.size ≤ g3 := by omega
                have y0 := blk_cell Y3.out 0
                have y1 := blk_cell Y3.out 1
                have y2 := blk_cell Y3.out 2
                have y3 := blk_cell Y3.out 3
                have y4 := blk_cell Y3.out 4
                have y5 := blk_cell Y3.out 5
                have y6 := blk_cell Y3.out 6
                have y7 := blk_cell Y3.out 7
                have y8 := blk_cell Y3.out 8
                have y9 := blk_cell Y3.out 9
                simp at y0 y1 y2 y3 y4 y5 y6 y7 y8 y9
                have s0 := blk_cell S3.out 0
                have s1 := blk_cell S3.out 1
                simp at s0 s1
                have fS := blk_free S3.out
                have kc0 := blk_cell K3.out 0
                have kc1 := blk_cell K3.out 1
                have kc2 := blk_cell K3.out 2
                have kc3 := blk_cell K3.out 3
                have kc4 := blk_cell K3.out 4
                have kc5 := blk_cell K3.out 5
                have kc6 := blk_cell K3.out 6
                simp at kc0 kc1 kc2 kc3 kc4 kc5 kc6
                have fK := blk_free K3.out
                go_region
                clear y0 y1 y2 y3 y4 y5 y6 y7 y8 y9 s0 s1 fS kc0 kc1 kc2 kc3 kc4 kc5 kc6 fK
                have zS : Hid (((w3.setCell ⟨sa, 0, none⟩ (.slice (some ⟨g2, p2, none⟩) t.slots.length oc)).setCell ⟨sa, 1, none⟩ (.slice (some ⟨g3, p3, none⟩) t.heads.length od)).heap[sa]? = some (.cells #[.slice (some ⟨g2, p2, none⟩) t.slots.length oc, .slice (some ⟨g3, p3, none⟩) t.heads.length od] 26)) := by
                  have := (blk_set (blk_set S3.out 0 (.slice (some ⟨g2, p2, none⟩) t.slots.length oc)) 1 (.slice (some ⟨g3, p3, none⟩) t.heads.length od))
                  exact this
                have zK : Hid (((w3.setCell ⟨sa, 0, none⟩ (.slice (some ⟨g2, p2, none⟩) t.slots.length oc)).setCell ⟨sa, 1, none⟩ (.slice (some ⟨g3, p3, none⟩) t.heads.length od)).heap[ka]? = some (.cells #[.int .i64 k.key, .int .i64 k.cur, .int .i64 k.stage, .int .i64 k.state, .int .i64 k.slot, .int .i64 k.gen, .int .i64 k.steps] 30)) := by
                  have := (blk_other (B := sa) (blk_other (B := sa) K3.out kb2 0 (.slice (some ⟨g2, p2, none⟩) t.slots.length oc)) kb2 1 (.slice (some ⟨g3, p3, none⟩) t.heads.length od))
                  exact this
                have zP := hidS (RowB.other (g := sa) (k := 1) (v := .slice (some ⟨g3, p3, none⟩) t.heads.length od) (RowB.other (g := sa) (k := 0) (v := .slice (some ⟨g2, p2, none⟩) t.slots.length oc) P23.out q1) q1)
                have zQ := hidS (RowB.other (g := sa) (k := 1) (v := .slice (some ⟨g3, p3, none⟩) t.heads.length od) (RowB.other (g := sa) (k := 0) (v := .slice (some ⟨g2, p2, none⟩) t.slots.length oc) Q23.out q2) q2)
                have zL := hidS (below_at (k := 1) (b := sa) (v := .slice (some ⟨g3, p3, none⟩) t.heads.length od) (below_at (k := 0) (b := sa) (v := .slice (some ⟨g2, p2, none⟩) t.slots.length oc) L3.out lb1) lb1)
                have zT := hidS (TwoR.set (b := sa) (TwoR.set (b := sa) T3.out (by simp) 0 (.slice (some ⟨g2, p2, none⟩) t.slots.length oc)) (by simp) 1 (.slice (some ⟨g3, p3, none⟩) t.heads.length od))
                generalize ((w3.setCell ⟨sa, 0, none⟩ (.slice (some ⟨g2, p2, none⟩) t.slots.length oc)).setCell ⟨sa, 1, none⟩ (.slice (some ⟨g3, p3, none⟩) t.heads.length od)) = w8 at zS zK zP zQ zL zT ⊢
                have yS : Hid ((((((((w8.setCell ⟨ka, 0, none⟩ (.int .i64 k2.key)).setCell ⟨ka, 1, none⟩ (.int .i64 k2.cur)).setCell ⟨ka, 2, none⟩ (.int .i64 k2.stage)).setCell ⟨ka, 3, none⟩ (.int .i64 k2.state)).setCell ⟨ka, 4, none⟩ (.int .i64 k2.slot)).setCell ⟨ka, 5, none⟩ (.int .i64 k2.gen)).setCell ⟨ka, 6, none⟩ (.int .i64 k2.steps)).heap[sa]? = some (.cells #[.slice (some ⟨g2, p2, none⟩) t.slots.length oc, .slice (some ⟨g3, p3, none⟩) t.heads.length od] 26)) := by
                  have := (blk_other (B := ka) (blk_other (B := ka) (blk_other (B := ka) (blk_other (B := ka) (blk_other (B := ka) (blk_other (B := ka) (blk_other (B := ka) zS.out (Ne.symm kb2) 0 (.int .i64 k2.key)) (Ne.symm kb2) 1 (.int .i64 k2.cur)) (Ne.symm kb2) 2 (.int .i64 k2.stage)) (Ne.symm kb2) 3 (.int .i64 k2.state)) (Ne.symm kb2) 4 (.int .i64 k2.slot)) (Ne.symm kb2) 5 (.int .i64 k2.gen)) (Ne.symm kb2) 6 (.int .i64 k2.steps))
                  exact this
                have yK : Hid ((((((((w8.setCell ⟨ka, 0, none⟩ (.int .i64 k2.key)).setCell ⟨ka, 1, none⟩ (.int .i64 k2.cur)).setCell ⟨ka, 2, none⟩ (.int .i64 k2.stage)).setCell ⟨ka, 3, none⟩ (.int .i64 k2.state)).setCell ⟨ka, 4, none⟩ (.int .i64 k2.slot)).setCell ⟨ka, 5, none⟩ (.int .i64 k2.gen)).setCell ⟨ka, 6, none⟩ (.int .i64 k2.steps)).heap[ka]? = some (.cells #[.int .i64 k2.key, .int .i64 k2.cur, .int .i64 k2.stage, .int .i64 k2.state, .int .i64 k2.slot, .int .i64 k2.gen, .int .i64 k2.steps] 30)) := by
                  have := (blk_set (blk_set (blk_set (blk_set (blk_set (blk_set (blk_set zK.out 0 (.int .i64 k2.key)) 1 (.int .i64 k2.cur)) 2 (.int .i64 k2.stage)) 3 (.int .i64 k2.state)) 4 (.int .i64 k2.slot)) 5 (.int .i64 k2.gen)) 6 (.int .i64 k2.steps))
                  exact this
                have yP := hidS (RowB.other (g := ka) (k := 6) (v := .int .i64 k2.steps) (RowB.other (g := ka) (k := 5) (v := .int .i64 k2.gen) (RowB.other (g := ka) (k := 4) (v := .int .i64 k2.slot) (RowB.other (g := ka) (k := 3) (v := .int .i64 k2.state) (RowB.other (g := ka) (k := 2) (v := .int .i64 k2.stage) (RowB.other (g := ka) (k := 1) (v := .int .i64 k2.cur) (RowB.other (g := ka) (k := 0) (v := .int .i64 k2.key) zP.out q3) q3) q3) q3) q3) q3) q3)
                have yQ := hidS (RowB.other (g := ka) (k := 6) (v := .int .i64 k2.steps) (RowB.other (g := ka) (k := 5) (v := .int .i64 k2.gen) (RowB.other (g := ka) (k := 4) (v := .int .i64 k2.slot) (RowB.other (g := ka) (k := 3) (v := .int .i64 k2.state) (RowB.other (g := ka) (k := 2) (v := .int .i64 k2.stage) (RowB.other (g := ka) (k := 1) (v := .int .i64 k2.cur) (RowB.other (g := ka) (k := 0) (v := .int .i64 k2.key) zQ.out q4) q4) q4) q4) q4) q4) q4)
                have yL := hidS (below_at (k := 6) (b := ka) (v := .int .i64 k2.steps) (below_at (k := 5) (b := ka) (v := .int .i64 k2.gen) (below_at (k := 4) (b := ka) (v := .int .i64 k2.slot) (below_at (k := 3) (b := ka) (v := .int .i64 k2.state) (below_at (k := 2) (b := ka) (v := .int .i64 k2.stage) (below_at (k := 1) (b := ka) (v := .int .i64 k2.cur) (below_at (k := 0) (b := ka) (v := .int .i64 k2.key) zL.out kb1) kb1) kb1) kb1) kb1) kb1) kb1)
                have yT := hidS (TwoR.set (b := ka) (TwoR.set (b := ka) (TwoR.set (b := ka) (TwoR.set (b := ka) (TwoR.set (b := ka) (TwoR.set (b := ka) (TwoR.set (b := ka) zT.out (by simp) 0 (.int .i64 k2.key)) (by simp) 1 (.int .i64 k2.cur)) (by simp) 2 (.int .i64 k2.stage)) (by simp) 3 (.int .i64 k2.state)) (by simp) 4 (.int .i64 k2.slot)) (by simp) 5 (.int .i64 k2.gen)) (by simp) 6 (.int .i64 k2.steps))
                generalize (((((((w8.setCell ⟨ka, 0, none⟩ (.int .i64 k2.key)).setCell ⟨ka, 1, none⟩ (.int .i64 k2.cur)).setCell ⟨ka, 2, none⟩ (.int .i64 k2.stage)).setCell ⟨ka, 3, none⟩ (.int .i64 k2.state)).setCell ⟨ka, 4, none⟩ (.int .i64 k2.slot)).setCell ⟨ka, 5, none⟩ (.int .i64 k2.gen)).setCell ⟨ka, 6, none⟩ (.int .i64 k2.steps)) = w9 at yS yK yP yQ yL yT ⊢
                have yR := hidS (RcK.later (⟨⟨yS.out, yP.out, yQ.out, ⟨lb1, u1, u2', Ne.symm q1, Ne.symm q2⟩, yL.out⟩, yK.out, ⟨kb1, kb2, Ne.symm q3, Ne.symm q4⟩, TwoR.avoidB (av' := [sa, ka, g2, g3]) yT.out TL.out (fun q hq => by simp at hq ⊢; omega)⟩ : RcK w w9 sa ka g2 p2 oc g3 p3 od t k2 (.slice x2 sl2.length cp2) (.slice x3 gs2.length cp3) sl2 gs2) (Below.refl _ _).drew)
                clear yS yP yQ yL yK yT
                go_wp2_with fail
                go_meet
                exact yR.out
              case rest =>
                obtain ⟨w9, hww⟩ : ∃ x, x = wc := ⟨_, rfl⟩
                subst hww
                have HK := hidS hcut
                clear hcut S3 P3 Q3 K3 L3 T3 R3 P23 Q23 Y3 Z3 TL HO
                have kc0 := blk_cell HK.out.K 0
                have kc1 := blk_cell HK.out.K 1
                have kc2 := blk_cell HK.out.K 2
                have kc3 := blk_cell HK.out.K 3
                have kc4 := blk_cell HK.out.K 4
                have kc5 := blk_cell HK.out.K 5
                have kc6 := blk_cell HK.out.K 6
                simp at kc0 kc1 kc2 kc3 kc4 kc5 kc6
                by_cases h2 : k2.state = 2
                · have E := hidS (IS.out.1 h2)
                  have b2' : (k2.state == 2) = true := beq_iff_eq.2 h2
                  clear h2
                  go_wp2_with fail
                  go_ret
                  exact ⟨by rw [E.out]; rfl, HK.out.M.L⟩
                have b2' : (k2.state == 2) = false := beq_eq_false_iff_ne.2 h2
                by_cases h1 : k2.state = 1
                · have b1' : (k2.state == 1) = true := beq_iff_eq.2 h1
                  obtain ⟨m1, m2, m3, m4, m5⟩ := IS.out.2.1 h1
                  have M1 := hidS m1
                  have M4 := hidS m4
                  clear h1 h2 m1 m4 IS
                  go_wp2_with fail
                  go_loopw [17] (fun v wr => ∃ j : Nat, v = .int .i64 (j : Int) ∧ j ≤ sl2.length ∧ Hid (notYet sl2 gs2 k2.slot k2.gen j) ∧ Hid (RcK w wr sa ka g2 p2 oc g3 p3 od t k2 (.slice x2 sl2.length cp2) (.slice x3 gs2.length cp3) sl2 gs2)) (fun v _ => (sl2.length - (intOf v).toNat))
                  case atStart => exact ⟨0, rfl, Nat.zero_le _, (fun i hi => absurd hi (Nat.not_lt_zero _)), HK⟩
                  case round =>
                    clear HK b1' b2' kc0 kc1 kc2 kc3 kc4 kc5 kc6
                    obtain ⟨j, rfl, hj, hN, HK⟩ := hrel
                    obtain ⟨w9, hww⟩ : ∃ x, x = wr := ⟨_, rfl⟩
                    subst hww
                    by_cases hjl : j < sl2.length
                    · have hjI : (0 : Int) ≤ (j : Int) ∧ (j : Int) < (sl2.length : Int) := by omega
                      have hjG : (0 : Int) ≤ (j : Int) ∧ (j : Int) < (gs2.length : Int) := by have := HG2.out; omega
                      have hjL := hjI.2
                      obtain ⟨bx, ox, ex, lx, cx⟩ := own_read HK.out.R.one j hjl
                      obtain ⟨by', oy, ey, ly, cy⟩ := own_read HK.out.R.two j (by have := HG2.out; omega)
                      subst ex
                      subst ey
                      have KK := hidS HK.out.K
                      obtain ⟨sx1, hsx⟩ : ∃ q, sl2.getD j 0 = q := ⟨_, rfl⟩
                      obtain ⟨gx1, hgx⟩ : ∃ q, gs2.getD j 0 = q := ⟨_, rfl⟩
                      rw [hsx] at cx
                      rw [hgx] at cy
                      have NX : Hid (¬ (sx1 = k2.slot ∧ gx1 = k2.gen) → notYet sl2 gs2 k2.slot k2.gen (j + 1)) := fun q => notYet_succ hN.out (by rw [hsx, hgx]; exact q)
                      clear hsx hgx hN
                      go_wp2_with fail
                      cases q1 : (sx1 == k2.slot)
                      · refine grow_guarded 16 [.is (.slice (some ⟨bx, ox, none⟩) sl2.length cp2), .is (.int .i64 (j : Int)), .is (.pointer (some ⟨bx, ox + j, none⟩)), .is (.int .i64 sx1), .is (.pointer (some ⟨ka, 4, none⟩)), .is (.int .i64 k2.slot), .is (.bool false), .is (.bool false), .is (undef), .is (undef), .is (undef), .is (undef), .is (undef), .is (undef), .is (undef), .is (.bool false)] rfl (by kernel_rfl) (by kernel_rfl) ?stepsF ?finF
                        case stepsF =>
                          refine ⟨?_, ?_, ?_, ?_, ?_, ?_, ?_, ?_, ?_, ?_, ?_, ?_, ?_, ?_, ?_, ?_, trivial⟩
                          · refine stepW_of_u ⟨rfl, fun v W ρ hC kc kf ks ki kd => ?_⟩
                            have t10 : ρ (.tmp 10) = .slice (some ⟨bx, ox, none⟩) sl2.length cp2 := ki 10 (by decide)
                            simp [execOp, go_sem, kc, t10]
                            exact ⟨hC, Below.refl _ _, rfl⟩
                          · refine stepW_of_u ⟨rfl, fun v W ρ hC kc kf ks ki kd => ?_⟩
                            have t17 : ρ (.tmp 17) = .int .i64 (j : Int) := ki 17 (by decide)
                            simp [execOp, go_sem, kc, t17]
                            exact ⟨hC, Below.refl _ _, rfl⟩
                          · refine stepW_of_u ⟨rfl, fun v W ρ hC kc kf ks ki kd => ?_⟩
                            have d0 : v 0 = .slice (some ⟨bx, ox, none⟩) sl2.length cp2 := (kdj kd 0 rfl :)
                            have t158 : ρ (.tmp 158) = .slice (some ⟨bx, ox, none⟩) sl2.length cp2 := (ks 0 158 (by decide) rfl).trans d0
                            have d1 : v 1 = .int .i64 (j : Int) := (kdj kd 1 rfl :)
                            have t159 : ρ (.tmp 159) = .int .i64 (j : Int) := (ks 1 159 (by decide) rfl).trans d1
                            simp [execOp, go_sem, kc, t158, t159, hjI]
                            exact ⟨hC, Below.refl _ _, rfl⟩
                          · refine stepW_of_u ⟨rfl, fun v W ρ hC kc kf ks ki kd => ?_⟩
                            have d2 : v 2 = .pointer (some ⟨bx, ox + j, none⟩) := (kdj kd 2 rfl :)
                            have t160 : ρ (.tmp 160) = .pointer (some ⟨bx, ox + j, none⟩) := (ks 2 160 (by decide) rfl).trans d2
                            have e0 := (hC.cell (p := ⟨bx, ox + j, none⟩) lx).trans cx
                            simp [execOp, go_sem, kc, t160, e0]
                            exact ⟨hC, Below.refl _ _, rfl⟩
                          · refine stepW_of_u ⟨rfl, fun v W ρ hC kc kf ks ki kd => ?_⟩
                            have t8 : ρ (.tmp 8) = .pointer (some ⟨ka, 0, none⟩) := ki 8 (by decide)
                            simp [execOp, go_sem, kc, t8]
                            exact ⟨hC, Below.refl _ _, rfl⟩
                          · refine stepW_of_u ⟨rfl, fun v W ρ hC kc kf ks ki kd => ?_⟩
                            have d4 : v 4 = .pointer (some ⟨ka, 4, none⟩) := (kdj kd 4 rfl :)
                            have t162 : ρ (.tmp 162) = .pointer (some ⟨ka, 4, none⟩) := (ks 4 162 (by decide) rfl).trans d4
                            have hg := blk_later KK.out hC
                            have c4 := blk_cell hg 4
                            simp at c4
                            simp [execOp, go_sem, kc, t162, c4]
                            exact ⟨hC, Below.refl _ _, rfl⟩
                          · refine stepW_of_u ⟨rfl, fun v W ρ hC kc kf ks ki kd => ?_⟩
                            have d3 : v 3 = .int .i64 sx1 := (kdj kd 3 rfl :)
                            have t161 : ρ (.tmp 161) = .int .i64 sx1 := (ks 3 161 (by decide) rfl).trans d3
                            have d5 : v 5 = .int .i64 k2.slot := (kdj kd 5 rfl :)
                            have t163 : ρ (.tmp 163) = .int .i64 k2.slot := (ks 5 163 (by decide) rfl).trans d5
                            simp [execOp, go_sem, kc, t161, t163, q1]
                            exact ⟨hC, Below.refl _ _, rfl⟩
                          · refine stepW_of_u ⟨rfl, fun v W ρ hC kc kf ks ki kd => ?_⟩
                            have d6 : v 6 = .bool false := (kdj kd 6 rfl :)
                            have t164 : ρ (.tmp 164) = .bool false := (ks 6 164 (by decide) rfl).trans d6
                            simp [execOp, go_sem, kc, t164]
                            exact ⟨hC, Below.refl _ _, rfl⟩
                          · intro v W ρ y hC kc kf ks ki ky ku kd
                            have dg : v 7 = .bool false := (kdj kd 7 rfl :)
                            have hy := ky 7 165 false (by decide) rfl dg
                            rw [if_neg (by simp [Region.wanted, hy])]
                            exact ⟨Below.refl _ _, rfl⟩
                          · intro v W ρ y hC kc kf ks ki ky ku kd
                            have dg : v 7 = .bool false := (kdj kd 7 rfl :)
                            have hy := ky 7 165 false (by decide) rfl dg
                            rw [if_neg (by simp [Region.wanted, hy])]
                            exact ⟨Below.refl _ _, rfl⟩
                          · intro v W ρ y hC kc kf ks ki ky ku kd
                            have dg : v 7 = .bool false := (kdj kd 7 rfl :)
                            have hy := ky 7 165 false (by decide) rfl dg
                            rw [if_neg (by simp [Region.wanted, hy])]
                            exact ⟨Below.refl _ _, rfl⟩
                          · intro v W ρ y hC kc kf ks ki ky ku kd
                            have dg : v 7 = .bool false := (kdj kd 7 rfl :)
                            have hy := ky 7 165 false (by decide) rfl dg
                            rw [if_neg (by simp [Region.wanted, hy])]
                            exact ⟨Below.refl _ _, rfl⟩
                          · intro v W ρ y hC kc kf ks ki ky ku kd
                            have dg : v 7 = .bool false := (kdj kd 7 rfl :)
                            have hy := ky 7 165 false (by decide) rfl dg
                            rw [if_neg (by simp [Region.wanted, hy])]
                            exact ⟨Below.refl _ _, rfl⟩
                          · intro v W ρ y hC kc kf ks ki ky ku kd
                            have dg : v 7 = .bool false := (kdj kd 7 rfl :)
                            have hy := ky 7 165 false (by decide) rfl dg
                            rw [if_neg (by simp [Region.wanted, hy])]
                            exact ⟨Below.refl _ _, rfl⟩
                          · intro v W ρ y hC kc kf ks ki ky ku kd
                            have dg : v 7 = .bool false := (kdj kd 7 rfl :)
                            have hy := ky 7 165 false (by decide) rfl dg
                            rw [if_neg (by simp [Region.wanted, hy])]
                            exact ⟨Below.refl _ _, rfl⟩
                          · refine stepW_of_u ⟨rfl, fun v W ρ hC kc kf ks ki kd => ?_⟩
                            have d7 : v 7 = .bool false := (kdj kd 7 rfl :)
                            have t165 : ρ (.tmp 165) = .bool false := (ks 7 165 (by decide) rfl).trans d7
                            simp [execOp, go_sem, kc, t165]
                            exact ⟨hC, Below.refl _ _, rfl⟩
                        intro vF w10 hb hall
                        have hvF : vF 15 = .bool false := hall 15 (by decide)
                        simp [upto, Act.put]
                        rw [hvF]
                        clear hall hvF
                        have HK1 := hidS (HK.out.later hb)
                        have N1 := hidS (NX.out (by intro h; rw [h.1] at q1; simp at q1))
                        clear hb HK KK NX cx cy
                        go_wp2_with fail
                        go_roundw
                        case rel => exact ⟨j + 1, by simp, by omega, N1, HK1⟩
                        case measure => simp [intOf]; omega
                      cases q2 : (gx1 == k2.gen)
                      · refine grow_guarded 16 [.is (.slice (some ⟨bx, ox, none⟩) sl2.length cp2), .is (.int .i64 (j : Int)), .is (.pointer (some ⟨bx, ox + j, none⟩)), .is (.int .i64 sx1), .is (.pointer (some ⟨ka, 4, none⟩)), .is (.int .i64 k2.slot), .is (.bool true), .is (.bool true), .is (.slice (some ⟨by', oy, none⟩) gs2.length cp3), .is (.int .i64 (j : Int)), .is (.pointer (some ⟨by', oy + j, none⟩)), .is (.int .i64 gx1), .is (.pointer (some ⟨ka, 5, none⟩)), .is (.int .i64 k2.gen), .is (.bool false), .is (.bool false)] rfl (by kernel_rfl) (by kernel_rfl) ?stepsG ?finG
                        case stepsG =>
                          refine ⟨?_, ?_, ?_, ?_, ?_, ?_, ?_, ?_, ?_, ?_, ?_, ?_, ?_, ?_, ?_, ?_, trivial⟩
                          · refine stepW_of_u ⟨rfl, fun v W ρ hC kc kf ks ki kd => ?_⟩
                            have t10 : ρ (.tmp 10) = .slice (some ⟨bx, ox, none⟩) sl2.length cp2 := ki 10 (by decide)
                            simp [execOp, go_sem, kc, t10]
                            exact ⟨hC, Below.refl _ _, rfl⟩
                          · refine stepW_of_u ⟨rfl, fun v W ρ hC kc kf ks ki kd => ?_⟩
                            have t17 : ρ (.tmp 17) = .int .i64 (j : Int) := ki 17 (by decide)
                            simp [execOp, go_sem, kc, t17]
                            exact ⟨hC, Below.refl _ _, rfl⟩
                          · refine stepW_of_u ⟨rfl, fun v W ρ hC kc kf ks ki kd => ?_⟩
                            have d0 : v 0 = .slice (some ⟨bx, ox, none⟩) sl2.length cp2 := (kdj kd 0 rfl :)
                            have t158 : ρ (.tmp 158) = .slice (some ⟨bx, ox, none⟩) sl2.length cp2 := (ks 0 158 (by decide) rfl).trans d0
                            have d1 : v 1 = .int .i64 (j : Int) := (kdj kd 1 rfl :)
                            have t159 : ρ (.tmp 159) = .int .i64 (j : Int) := (ks 1 159 (by decide) rfl).trans d1
                            simp [execOp, go_sem, kc, t158, t159, hjI]
                            exact ⟨hC, Below.refl _ _, rfl⟩
                          · refine stepW_of_u ⟨rfl, fun v W ρ hC kc kf ks ki kd => ?_⟩
                            have d2 : v 2 = .pointer (some ⟨bx, ox + j, none⟩) := (kdj kd 2 rfl :)
                            have t160 : ρ (.tmp 160) = .pointer (some ⟨bx, ox + j, none⟩) := (ks 2 160 (by decide) rfl).trans d2
                            have e0 := (hC.cell (p := ⟨bx, ox + j, none⟩) lx).trans cx
                            simp [execOp, go_sem, kc, t160, e0]
                            exact ⟨hC, Below.refl _ _, rfl⟩
                          · refine stepW_of_u ⟨rfl, fun v W ρ hC kc kf ks ki kd => ?_⟩
                            have t8 : ρ (.tmp 8) = .pointer (some ⟨ka, 0, none⟩) := ki 8 (by decide)
                            simp [execOp, go_sem, kc, t8]
                            exact ⟨hC, Below.refl _ _, rfl⟩
                          · refine stepW_of_u ⟨rfl, fun v W ρ hC kc kf ks ki kd => ?_⟩
                            have d4 : v 4 = .pointer (some ⟨ka, 4, none⟩) := (kdj kd 4 rfl :)
                            have t162 : ρ (.tmp 162) = .pointer (some ⟨ka, 4, none⟩) := (ks 4 162 (by decide) rfl).trans d4
                            have hg := blk_later KK.out hC
                            have c4 := blk_cell hg 4
                            simp at c4
                            simp [execOp, go_sem, kc, t162, c4]
                            exact ⟨hC, Below.refl _ _, rfl⟩
                          · refine stepW_of_u ⟨rfl, fun v W ρ hC kc kf ks ki kd => ?_⟩
                            have d3 : v 3 = .int .i64 sx1 := (kdj kd 3 rfl :)
                            have t161 : ρ (.tmp 161) = .int .i64 sx1 := (ks 3 161 (by decide) rfl).trans d3
                            have d5 : v 5 = .int .i64 k2.slot := (kdj kd 5 rfl :)
                            have t163 : ρ (.tmp 163) = .int .i64 k2.slot := (ks 5 163 (by decide) rfl).trans d5
                            simp [execOp, go_sem, kc, t161, t163, q1]
                            exact ⟨hC, Below.refl _ _, rfl⟩
                          · refine stepW_of_u ⟨rfl, fun v W ρ hC kc kf ks ki kd => ?_⟩
                            have d6 : v 6 = .bool true := (kdj kd 6 rfl :)
                            have t164 : ρ (.tmp 164) = .bool true := (ks 6 164 (by decide) rfl).trans d6
                            simp [execOp, go_sem, kc, t164]
                            exact ⟨hC, Below.refl _ _, rfl⟩
                          · intro v W ρ y hC kc kf ks ki ky ku kd
                            have dg : v 7 = .bool true := (kdj kd 7 rfl :)
                            have hy := ky 7 165 true (by decide) rfl dg
                            rw [if_pos (by simp [Region.wanted, hy])]
                            have t11 : ρ (.tmp 11) = .slice (some ⟨by', oy, none⟩) gs2.length cp3 := ki 11 (by decide)
                            simp [execOp, go_sem, kc, t11]
                            exact ⟨hC, Below.refl _ _, rfl⟩
                          · intro v W ρ y hC kc kf ks ki ky ku kd
                            have dg : v 7 = .bool true := (kdj kd 7 rfl :)
                            have hy := ky 7 165 true (by decide) rfl dg
                            rw [if_pos (by simp [Region.wanted, hy])]
                            have t17 : ρ (.tmp 17) = .int .i64 (j : Int) := ki 17 (by decide)
                            simp [execOp, go_sem, kc, t17]
                            exact ⟨hC, Below.refl _ _, rfl⟩
                          · intro v W ρ y hC kc kf ks ki ky ku kd
                            have dg : v 7 = .bool true := (kdj kd 7 rfl :)
                            have hy := ky 7 165 true (by decide) rfl dg
                            rw [if_pos (by simp [Region.wanted, hy])]
                            have d8 : v 8 = .slice (some ⟨by', oy, none⟩) gs2.length cp3 := (kdj kd 8 rfl :)
                            have t166 : ρ (.tmp 166) = .slice (some ⟨by', oy, none⟩) gs2.length cp3 := (ks 8 166 (by decide) rfl).trans d8
                            have d9 : v 9 = .int .i64 (j : Int) := (kdj kd 9 rfl :)
                            have t167 : ρ (.tmp 167) = .int .i64 (j : Int) := (ks 9 167 (by decide) rfl).trans d9
                            simp [execOp, go_sem, kc, t166, t167, hjG]
                            exact ⟨hC, Below.refl _ _, rfl⟩
                          · intro v W ρ y hC kc kf ks ki ky ku kd
                            have dg : v 7 = .bool true := (kdj kd 7 rfl :)
                            have hy := ky 7 165 true (by decide) rfl dg
                            rw [if_pos (by simp [Region.wanted, hy])]
                            have d10 : v 10 = .pointer (some ⟨by', oy + j, none⟩) := (kdj kd 10 rfl :)
                            have t168 : ρ (.tmp 168) = .pointer (some ⟨by', oy + j, none⟩) := (ks 10 168 (by decide) rfl).trans d10
                            have e0 := (hC.cell (p := ⟨by', oy + j, none⟩) ly).trans cy
                            simp [execOp, go_sem, kc, t168, e0]
                            exact ⟨hC, Below.refl _ _, rfl⟩
                          · intro v W ρ y hC kc kf ks ki ky ku kd
                            have dg : v 7 = .bool true := (kdj kd 7 rfl :)
                            have hy := ky 7 165 true (by decide) rfl dg
                            rw [if_pos (by simp [Region.wanted, hy])]
                            have t8 : ρ (.tmp 8) = .pointer (some ⟨ka, 0, none⟩) := ki 8 (by decide)
                            simp [execOp, go_sem, kc, t8]
                            exact ⟨hC, Below.refl _ _, rfl⟩
                          · intro v W ρ y hC kc kf ks ki ky ku kd
                            have dg : v 7 = .bool true := (kdj kd 7 rfl :)
                            have hy := ky 7 165 true (by decide) rfl dg
                            rw [if_pos (by simp [Region.wanted, hy])]
                            have d12 : v 12 = .pointer (some ⟨ka, 5, none⟩) := (kdj kd 12 rfl :)
                            have t170 : ρ (.tmp 170) = .pointer (some ⟨ka, 5, none⟩) := (ks 12 170 (by decide) rfl).trans d12
                            have hg := blk_later KK.out hC
                            have c5 := blk_cell hg 5
                            simp at c5
                            simp [execOp, go_sem, kc, t170, c5]
                            exact ⟨hC, Below.refl _ _, rfl⟩
                          · intro v W ρ y hC kc kf ks ki ky ku kd
                            have dg : v 7 = .bool true := (kdj kd 7 rfl :)
                            have hy := ky 7 165 true (by decide) rfl dg
                            rw [if_pos (by simp [Region.wanted, hy])]
                            have d11 : v 11 = .int .i64 gx1 := (kdj kd 11 rfl :)
                            have t169 : ρ (.tmp 169) = .int .i64 gx1 := (ks 11 169 (by decide) rfl).trans d11
                            have d13 : v 13 = .int .i64 k2.gen := (kdj kd 13 rfl :)
                            have t171 : ρ (.tmp 171) = .int .i64 k2.gen := (ks 13 171 (by decide) rfl).trans d13
                            simp [execOp, go_sem, kc, t169, t171, q2]
                            exact ⟨hC, Below.refl _ _, rfl⟩
                          · refine stepW_of_u ⟨rfl, fun v W ρ hC kc kf ks ki kd => ?_⟩
                            have d7 : v 7 = .bool true := (kdj kd 7 rfl :)
                            have t165 : ρ (.tmp 165) = .bool true := (ks 7 165 (by decide) rfl).trans d7
                            have d14 : v 14 = .bool false := (kdj kd 14 rfl :)
                            have t172 : ρ (.tmp 172) = .bool false := (ks 14 172 (by decide) rfl).trans d14
                            simp [execOp, go_sem, kc, t165, t172]
                            exact ⟨hC, Below.refl _ _, rfl⟩
                        intro vG w10 hb hall
                        have hvG : vG 15 = .bool false := hall 15 (by decide)
                        simp [upto, Act.put]
                        rw [hvG]
                        clear hall hvG
                        have HK1 := hidS (HK.out.later hb)
                        have N1 := hidS (NX.out (by intro h; rw [h.2] at q2; simp at q2))
                        clear hb HK KK NX cx cy
                        go_wp2_with fail
                        go_roundw
                        case rel => exact ⟨j + 1, by simp, by omega, N1, HK1⟩
                        case measure => simp [intOf]; omega
                      refine grow_guarded 16 [.is (.slice (some ⟨bx, ox, none⟩) sl2.length cp2), .is (.int .i64 (j : Int)), .is (.pointer (some ⟨bx, ox + j, none⟩)), .is (.int .i64 sx1), .is (.pointer (some ⟨ka, 4, none⟩)), .is (.int .i64 k2.slot), .is (.bool true), .is (.bool true), .is (.slice (some ⟨by', oy, none⟩) gs2.length cp3), .is (.int .i64 (j : Int)), .is (.pointer (some ⟨by', oy + j, none⟩)), .is (.int .i64 gx1), .is (.pointer (some ⟨ka, 5, none⟩)), .is (.int .i64 k2.gen), .is (.bool true), .is (.bool true)] rfl (by kernel_rfl) (by kernel_rfl) ?stepsH ?finH
                      case stepsH =>
                        refine ⟨?_, ?_, ?_, ?_, ?_, ?_, ?_, ?_, ?_, ?_, ?_, ?_, ?_, ?_, ?_, ?_, trivial⟩
                        · refine stepW_of_u ⟨rfl, fun v W ρ hC kc kf ks ki kd => ?_⟩
                          have t10 : ρ (.tmp 10) = .slice (some ⟨bx, ox, none⟩) sl2.length cp2 := ki 10 (by decide)
                          simp [execOp, go_sem, kc, t10]
                          exact ⟨hC, Below.refl _ _, rfl⟩
                        · refine stepW_of_u ⟨rfl, fun v W ρ hC kc kf ks ki kd => ?_⟩
                          have t17 : ρ (.tmp 17) = .int .i64 (j : Int) := ki 17 (by decide)
                          simp [execOp, go_sem, kc, t17]
                          exact ⟨hC, Below.refl _ _, rfl⟩
                        · refine stepW_of_u ⟨rfl, fun v W ρ hC kc kf ks ki kd => ?_⟩
                          have d0 : v 0 = .slice (some ⟨bx, ox, none⟩) sl2.length cp2 := (kdj kd 0 rfl :)
                          have t158 : ρ (.tmp 158) = .slice (some ⟨bx, ox, none⟩) sl2.length cp2 := (ks 0 158 (by decide) rfl).trans d0
                          have d1 : v 1 = .int .i64 (j : Int) := (kdj kd 1 rfl :)
                          have t159 : ρ (.tmp 159) = .int .i64 (j : Int) := (ks 1 159 (by decide) rfl).trans d1
                          simp [execOp, go_sem, kc, t158, t159, hjI]
                          exact ⟨hC, Below.refl _ _, rfl⟩
                        · refine stepW_of_u ⟨rfl, fun v W ρ hC kc kf ks ki kd => ?_⟩
                          have d2 : v 2 = .pointer (some ⟨bx, ox + j, none⟩) := (kdj kd 2 rfl :)
                          have t160 : ρ (.tmp 160) = .pointer (some ⟨bx, ox + j, none⟩) := (ks 2 160 (by decide) rfl).trans d2
                          have e0 := (hC.cell (p := ⟨bx, ox + j, none⟩) lx).trans cx
                          simp [execOp, go_sem, kc, t160, e0]
                          exact ⟨hC, Below.refl _ _, rfl⟩
                        · refine stepW_of_u ⟨rfl, fun v W ρ hC kc kf ks ki kd => ?_⟩
                          have t8 : ρ (.tmp 8) = .pointer (some ⟨ka, 0, none⟩) := ki 8 (by decide)
                          simp [execOp, go_sem, kc, t8]
                          exact ⟨hC, Below.refl _ _, rfl⟩
                        · refine stepW_of_u ⟨rfl, fun v W ρ hC kc kf ks ki kd => ?_⟩
                          have d4 : v 4 = .pointer (some ⟨ka, 4, none⟩) := (kdj kd 4 rfl :)
                          have t162 : ρ (.tmp 162) = .pointer (some ⟨ka, 4, none⟩) := (ks 4 162 (by decide) rfl).trans d4
                          have hg := blk_later KK.out hC
                          have c4 := blk_cell hg 4
                          simp at c4
                          simp [execOp, go_sem, kc, t162, c4]
                          exact ⟨hC, Below.refl _ _, rfl⟩
                        · refine stepW_of_u ⟨rfl, fun v W ρ hC kc kf ks ki kd => ?_⟩
                          have d3 : v 3 = .int .i64 sx1 := (kdj kd 3 rfl :)
                          have t161 : ρ (.tmp 161) = .int .i64 sx1 := (ks 3 161 (by decide) rfl).trans d3
                          have d5 : v 5 = .int .i64 k2.slot := (kdj kd 5 rfl :)
                          have t163 : ρ (.tmp 163) = .int .i64 k2.slot := (ks 5 163 (by decide) rfl).trans d5
                          simp [execOp, go_sem, kc, t161, t163, q1]
                          exact ⟨hC, Below.refl _ _, rfl⟩
                        · refine stepW_of_u ⟨rfl, fun v W ρ hC kc kf ks ki kd => ?_⟩
                          have d6 : v 6 = .bool true := (kdj kd 6 rfl :)
                          have t164 : ρ (.tmp 164) = .bool true := (ks 6 164 (by decide) rfl).trans d6
                          simp [execOp, go_sem, kc, t164]
                          exact ⟨hC, Below.refl _ _, rfl⟩
                        · intro v W ρ y hC kc kf ks ki ky ku kd
                          have dg : v 7 = .bool true := (kdj kd 7 rfl :)
                          have hy := ky 7 165 true (by decide) rfl dg
                          rw [if_pos (by simp [Region.wanted, hy])]
                          have t11 : ρ (.tmp 11) = .slice (some ⟨by', oy, none⟩) gs2.length cp3 := ki 11 (by decide)
                          simp [execOp, go_sem, kc, t11]
                          exact ⟨hC, Below.refl _ _, rfl⟩
                        · intro v W ρ y hC kc kf ks ki ky ku kd
                          have dg : v 7 = .bool true := (kdj kd 7 rfl :)
                          have hy := ky 7 165 true (by decide) rfl dg
                          rw [if_pos (by simp [Region.wanted, hy])]
                          have t17 : ρ (.tmp 17) = .int .i64 (j : Int) := ki 17 (by decide)
                          simp [execOp, go_sem, kc, t17]
                          exact ⟨hC, Below.refl _ _, rfl⟩
                        · intro v W ρ y hC kc kf ks ki ky ku kd
                          have dg : v 7 = .bool true := (kdj kd 7 rfl :)
                          have hy := ky 7 165 true (by decide) rfl dg
                          rw [if_pos (by simp [Region.wanted, hy])]
                          have d8 : v 8 = .slice (some ⟨by', oy, none⟩) gs2.length cp3 := (kdj kd 8 rfl :)
                          have t166 : ρ (.tmp 166) = .slice (some ⟨by', oy, none⟩) gs2.length cp3 := (ks 8 166 (by decide) rfl).trans d8
                          have d9 : v 9 = .int .i64 (j : Int) := (kdj kd 9 rfl :)
                          have t167 : ρ (.tmp 167) = .int .i64 (j : Int) := (ks 9 167 (by decide) rfl).trans d9
                          simp [execOp, go_sem, kc, t166, t167, hjG]
                          exact ⟨hC, Below.refl _ _, rfl⟩
                        · intro v W ρ y hC kc kf ks ki ky ku kd
                          have dg : v 7 = .bool true := (kdj kd 7 rfl :)
                          have hy := ky 7 165 true (by decide) rfl dg
                          rw [if_pos (by simp [Region.wanted, hy])]
                          have d10 : v 10 = .pointer (some ⟨by', oy + j, none⟩) := (kdj kd 10 rfl :)
                          have t168 : ρ (.tmp 168) = .pointer (some ⟨by', oy + j, none⟩) := (ks 10 168 (by decide) rfl).trans d10
                          have e0 := (hC.cell (p := ⟨by', oy + j, none⟩) ly).trans cy
                          simp [execOp, go_sem, kc, t168, e0]
                          exact ⟨hC, Below.refl _ _, rfl⟩
                        · intro v W ρ y hC kc kf ks ki ky ku kd
                          have dg : v 7 = .bool true := (kdj kd 7 rfl :)
                          have hy := ky 7 165 true (by decide) rfl dg
                          rw [if_pos (by simp [Region.wanted, hy])]
                          have t8 : ρ (.tmp 8) = .pointer (some ⟨ka, 0, none⟩) := ki 8 (by decide)
                          simp [execOp, go_sem, kc, t8]
                          exact ⟨hC, Below.refl _ _, rfl⟩
                        · intro v W ρ y hC kc kf ks ki ky ku kd
                          have dg : v 7 = .bool true := (kdj kd 7 rfl :)
                          have hy := ky 7 165 true (by decide) rfl dg
                          rw [if_pos (by simp [Region.wanted, hy])]
                          have d12 : v 12 = .pointer (some ⟨ka, 5, none⟩) := (kdj kd 12 rfl :)
                          have t170 : ρ (.tmp 170) = .pointer (some ⟨ka, 5, none⟩) := (ks 12 170 (by decide) rfl).trans d12
                          have hg := blk_later KK.out hC
                          have c5 := blk_cell hg 5
                          simp at c5
                          simp [execOp, go_sem, kc, t170, c5]
                          exact ⟨hC, Below.refl _ _, rfl⟩
                        · intro v W ρ y hC kc kf ks ki ky ku kd
                          have dg : v 7 = .bool true := (kdj kd 7 rfl :)
                          have hy := ky 7 165 true (by decide) rfl dg
                          rw [if_pos (by simp [Region.wanted, hy])]
                          have d11 : v 11 = .int .i64 gx1 := (kdj kd 11 rfl :)
                          have t169 : ρ (.tmp 169) = .int .i64 gx1 := (ks 11 169 (by decide) rfl).trans d11
                          have d13 : v 13 = .int .i64 k2.gen := (kdj kd 13 rfl :)
                          have t171 : ρ (.tmp 171) = .int .i64 k2.gen := (ks 13 171 (by decide) rfl).trans d13
                          simp [execOp, go_sem, kc, t169, t171, q2]
                          exact ⟨hC, Below.refl _ _, rfl⟩
                        · refine stepW_of_u ⟨rfl, fun v W ρ hC kc kf ks ki kd => ?_⟩
                          have d7 : v 7 = .bool true := (kdj kd 7 rfl :)
                          have t165 : ρ (.tmp 165) = .bool true := (ks 7 165 (by decide) rfl).trans d7
                          have d14 : v 14 = .bool true := (kdj kd 14 rfl :)
                          have t172 : ρ (.tmp 172) = .bool true := (ks 14 172 (by decide) rfl).trans d14
                          simp [execOp, go_sem, kc, t165, t172]
                          exact ⟨hC, Below.refl _ _, rfl⟩
                      intro vH w10 hb hall
                      have hvH : vH 15 = .bool true := hall 15 (by decide)
                      simp [upto, Act.put]
                      rw [hvH]
                      clear hall hvH
                      have HK1 := hidS (HK.out.later hb)
                      clear hb HK KK NX cx cy q1 q2 lx ly hjI hjG
                      obtain ⟨m, hm⟩ : ∃ m : Nat, k2.slot = (m : Int) := ⟨k2.slot.toNat, by omega⟩
                      have hmt : m < t.slots.length := by omega
                      have hmI : (0 : Int) ≤ (m : Int) ∧ (m : Int) < (t.slots.length : Int) := by omega
                      have KY := M4.out
                      rw [hm] at KY m5
                      have KY2 : (t.slots.getD m zeroSlt).key = 3 := KY
                      have m6 : 1 ≤ (t.slots.getD m zeroSlt).refs := m5
                      obtain ⟨bS, oS2, eS, lS, c0, c1, c2, c3⟩ := HK1.out.M.P.read.slot hmt
                      injection eS with eS
                      injection eS with e1 e2
                      subst e1 e2
                      rw [KY2] at c0
                      generalize (t.slots.getD m zeroSlt).refs = rf at c2 m6
                      clear c1 c3 KY KY2 m5 M4 M1
                      have d0 := blk_cell HK1.out.M.S 0
                      have d1 := blk_cell HK1.out.M.S 1
                      simp at d0 d1
                      have kc0 := blk_cell HK1.out.K 0
                      have kc1 := blk_cell HK1.out.K 1
                      have kc2 := blk_cell HK1.out.K 2
                      have kc3 := blk_cell HK1.out.K 3
                      have kc4 := blk_cell HK1.out.K 4
                      have kc5 := blk_cell HK1.out.K 5
                      have kc6 := blk_cell HK1.out.K 6
                      simp at kc0 kc1 kc2 kc3 kc4 kc5 kc6
                      rw [hm] at kc4
                      have r1' : rf ≥ 1 := m6
                      clear hm
                      go_wp2_with fail
                      go_ret
                      exact ⟨rfl, HK1.out.M.L⟩
                    · exact (notYet_end HG2.out.symm M1.out (by rw [show sl2.length = j by omega]; exact hN.out)).elim
                have b1' : (k2.state == 1) = false := beq_eq_false_iff_ne.2 h1
                have HI2 := hidS (IS.out.2.2 h2 h1)
                clear h1 h2 IS
                go_wp2
                go_roundw
                case measure => simp [intOf]; omega
                case rel => exact ⟨n + 1, t, k2, ab2, sl2, gs2, g2, p2, oc, g3, p3, od, rfl, by simp, by omega, by omega, hl2, HG2.out, HK.out, HI2⟩
      have hge : ¬ (n : Int) < 60 := by omega
      clear hlt
      go_wp2_with fail
      go_ret
      exact ⟨rfl, L0.out⟩
end Go.Proofs.Ytfjgofmjhccdkaa
