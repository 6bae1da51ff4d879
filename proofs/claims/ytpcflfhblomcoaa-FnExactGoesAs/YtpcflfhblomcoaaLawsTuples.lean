/- Proved here: the laws' own helpers on rows of tuples: toTupleS, eqTupleS of two that are the same, szTupleS; all old memory stays (conditions: the rows can be read; at most 2^20 of them). -/
import Derived.Test.YtpcflfhblomcoaaRowTuple
import Derived.Test.YtpcflfhblomcoaaAll13
import Derived.Test.YtpcflfhblomcoaaAll11
namespace Go.Proofs.Ytpcflfhblomcoaa
open Go.ChangeShapes Go.WideShapes Go.ChangeAt Go.RowKit
set_option linter.unusedVariables false
set_option linter.unusedSimpArgs false
set_option maxRecDepth 100000

theorem make_tuples (n : Nat) (hn : n ≤ 1048576) (W : World) : (Instr.makeSlice 53 (.int .i64 (n : Int)) (.int .i64 (n : Int))).run Try.prog W = .ok (.slice (some ⟨W.heap.size, 0, none⟩) n n) (W.alloc (.cells (intCells (List.replicate (6 * n) 0)) 52)) := by
  obtain ⟨i, hi, hz⟩ := Option.map_eq_some_iff.1 (show (Try.prog.info? 52).map (fun i => (i.zero, i.size, i.bytes)) = some (some (.agg #[.int .i64 0, .int .i64 0, .int .i64 0, .int .i64 0, .int .i64 0, .int .i64 0]), 6, 48) by kernel_rfl)
  simp only [Prod.mk.injEq] at hz
  obtain ⟨h1, h2, h3⟩ := hz
  have h := run_makeSlice (P := Try.prog) W 53 52 i _ Try.underlying53 hi h1 .i64 .i64 (n : Int) (n : Int) (by omega) (by omega) (by rw [h2]; omega) (by rw [h3]; omega) (by omega)
  rw [h2] at h
  have e : (Value.agg #[.int .i64 0, .int .i64 0, .int .i64 0, .int .i64 0, .int .i64 0, .int .i64 0]).cells = #[.int .i64 0, .int .i64 0, .int .i64 0, .int .i64 0, .int .i64 0, .int .i64 0] := rfl
  rw [e, made_tuples, Int.toNat_natCast, Nat.mul_comm n 6] at h
  exact h
set_option maxHeartbeats 4000000 in
theorem toTuples_any (a : Option Addr) (cap : Nat) (ss : List Tp) (w : World) (hR : RowZ a (flatTuple ss) w) (hz : ss.length ≤ 1048576) :
    Calls Try.prog 41 #[.slice a ss.length cap] w fun e w' => ∃ b, e = .returned (.slice (some ⟨b, 0, none⟩) ss.length ss.length) ∧ w.heap.size ≤ b ∧ w'.heap[b]? = some (.cells (intCells (flatTuple ss)) 52) ∧ Below w.heap.size w w' := by
  have hmk := make_tuples ss.length hz w
  have HR := hidS hR
  clear hR
  have HA := hidS (heap_newG w (.cells (intCells (List.replicate (6 * ss.length) 0)) 52))
  have HB := hidS ((Below.refl w.heap.size w).alloc (Nat.le_refl _) (.cells (intCells (List.replicate (6 * ss.length) 0)) 52))
  go_enter Try.func41, Try.ntmps41
  go_wp2
  go_loopw [4] (fun i wr => ∃ k : Nat, i = .int .i64 (k : Int) ∧ k ≤ ss.length ∧ wr.heap[w.heap.size]? = some (.cells (intCells (partZ (flatTuple ss) (6 * k))) 52) ∧ Below w.heap.size w wr) (fun i _ => (ss.length - (intOf i).toNat))
  case atStart => exact ⟨0, rfl, Nat.zero_le _, by rw [Nat.mul_zero, partZ_none, flatTuple_len]; exact HA.out, HB.out⟩
  case round =>
    obtain ⟨k, rfl, hk, hg, hb⟩ := hrel
    clear HA HB hmk
    by_cases hlt : k < ss.length
    · have hlt' : (k : Int) < (ss.length : Int) := by omega
      obtain ⟨b, o, rfl, hbl, c0, c1, c2, c3, c4, c5⟩ := (HR.out.later hb).tuple hlt
      have HT := hidS (fun W => toTuple_any (ss.getD k zeroTp) W)
      obtain ⟨s, hsk⟩ : ∃ s, ss.getD k zeroTp = s := ⟨_, rfl⟩
      rw [hsk] at c0 c1 c2 c3 c4 c5 HT
      have HSk := hidS hsk
      clear hsk
      have HG := hidS hg
      have HB := hidS hb
      clear hb hg
      go_wp2_with fail
      refine (HT.out _).mono ?_
      rintro _ w1 ⟨rfl, hb1⟩
      have hG1 := blk_later HG.out hb1
      have hB1 := hidS (HB.out.trans (hb1.mono HB.out.size))
      have hP : (partZ (flatTuple ss) (6 * k)).length = 6 * ss.length := by rw [partZ_len _ _ (by rw [flatTuple_len]; omega), flatTuple_len]
      have i0 := (blk_cell hG1 (k * 6)).trans (intCells_get _ _ (by omega))
      have i1 := (blk_cell hG1 (k * 6 + 1)).trans (intCells_get _ _ (by omega))
      have i2 := (blk_cell hG1 (k * 6 + 2)).trans (intCells_get _ _ (by omega))
      have i3 := (blk_cell hG1 (k * 6 + 3)).trans (intCells_get _ _ (by omega))
      have i4 := (blk_cell hG1 (k * 6 + 4)).trans (intCells_get _ _ (by omega))
      have i5 := (blk_cell hG1 (k * 6 + 5)).trans (intCells_get _ _ (by omega))
      have fG := blk_free hG1
      have hs : Hid (((((((w1.setCell ⟨w.heap.size, k * 6, none⟩ (.int .i64 s.proto)).setCell ⟨w.heap.size, k * 6 + 1, none⟩ (.int .i64 s.src)).setCell ⟨w.heap.size, k * 6 + 2, none⟩ (.int .i64 s.sport)).setCell ⟨w.heap.size, k * 6 + 3, none⟩ (.int .i64 s.dst)).setCell ⟨w.heap.size, k * 6 + 4, none⟩ (.int .i64 s.dport)).setCell ⟨w.heap.size, k * 6 + 5, none⟩ (.int .i64 s.kind)).heap[w.heap.size]? = some (.cells (intCells (partZ (flatTuple ss) (6 * (k + 1)))) 52)) := by
        show _ = _
        have := (blk_set (blk_set (blk_set (blk_set (blk_set (blk_set hG1 (k * 6) (.int .i64 s.proto)) (k * 6 + 1) (.int .i64 s.src)) (k * 6 + 2) (.int .i64 s.sport)) (k * 6 + 3) (.int .i64 s.dst)) (k * 6 + 4) (.int .i64 s.dport)) (k * 6 + 5) (.int .i64 s.kind))
        rw [intCells_set, intCells_set, intCells_set, intCells_set, intCells_set, intCells_set, Nat.mul_comm k 6, ← HSk.out, flatTuple_part ss k hlt] at this
        rw [Nat.mul_comm k 6, ← HSk.out]
        exact this
      have hb2 : Hid (Below w.heap.size w ((((((w1.setCell ⟨w.heap.size, k * 6, none⟩ (.int .i64 s.proto)).setCell ⟨w.heap.size, k * 6 + 1, none⟩ (.int .i64 s.src)).setCell ⟨w.heap.size, k * 6 + 2, none⟩ (.int .i64 s.sport)).setCell ⟨w.heap.size, k * 6 + 3, none⟩ (.int .i64 s.dst)).setCell ⟨w.heap.size, k * 6 + 4, none⟩ (.int .i64 s.dport)).setCell ⟨w.heap.size, k * 6 + 5, none⟩ (.int .i64 s.kind))) := by
        show Below _ _ _
        iterate 6 (refine below_at ?_ (Nat.le_refl _))
        exact hB1.out
      clear hG1 hb1 HG HB hP
      go_wp2
      go_roundw
      case rel => exact ⟨k + 1, by simp, by omega, hs.out, hb2.out⟩
      case measure => simp [intOf]; omega
    · have e : 6 * k = (flatTuple ss).length := by rw [flatTuple_len]; omega
      have hge : ¬ (k : Int) < (ss.length : Int) := by omega
      rw [e, partZ_all] at hg
      have HG := hidS hg
      have HB := hidS hb
      clear hg hb e hlt
      go_wp2
      go_ret
      exact ⟨_, rfl, Nat.le_refl _, HG.out, HB.out⟩
set_option maxHeartbeats 4000000 in
theorem eqTuples_any (a a' : Option Addr) (cap cap' : Nat) (ss : List Tp) (w : World) (hR : RowZ a (flatTuple ss) w) (hR' : RowZ a' (flatTuple ss) w) (hz : ss.length ≤ 1048576) :
    Calls Try.prog 44 #[.slice a ss.length cap, .slice a' ss.length cap'] w fun e w' => e = .returned (.bool true) ∧ Below w.heap.size w w' := by
  have HR := hidS hR
  have HR' := hidS hR'
  clear hR hR'
  go_enter Try.func44, Try.ntmps44
  go_wp2
  go_loopw [5] (fun i wr => ∃ k : Nat, i = .int .i64 (k : Int) ∧ k ≤ ss.length ∧ Below w.heap.size w wr) (fun i _ => (ss.length - (intOf i).toNat))
  case atStart => exact ⟨0, rfl, Nat.zero_le _, Below.refl _ _⟩
  case round =>
    obtain ⟨k, rfl, hk, hb⟩ := hrel
    by_cases hlt : k < ss.length
    · have hlt' : (k : Int) < (ss.length : Int) := by omega
      obtain ⟨b, o, rfl, hbl, c0, c1, c2, c3, c4, c5⟩ := (HR.out.later hb).tuple hlt
      obtain ⟨b', o', rfl, hbl', c0', c1', c2', c3', c4', c5'⟩ := (HR'.out.later hb).tuple hlt
      have HT := hidS (fun W => eqTuple_same (ss.getD k zeroTp) W)
      have hb2 := hidS hb
      generalize ss.getD k zeroTp = s at *
      clear hb
      have hj : (0 : Int) ≤ (k : Int) ∧ (k : Int) < (ss.length : Int) := by omega
      go_wp2
      refine grow_guarded 10 [.is (.slice (some ⟨b, o, none⟩) ss.length cap), .is (.int .i64 (k : Int)), .is (.pointer (some ⟨b, o + k * 6, none⟩)), .is (.agg #[.int .i64 s.proto, .int .i64 s.src, .int .i64 s.sport, .int .i64 s.dst, .int .i64 s.dport, .int .i64 s.kind]), .is (.slice (some ⟨b', o', none⟩) ss.length cap'), .is (.int .i64 (k : Int)), .is (.pointer (some ⟨b', o' + k * 6, none⟩)), .is (.agg #[.int .i64 s.proto, .int .i64 s.src, .int .i64 s.sport, .int .i64 s.dst, .int .i64 s.dport, .int .i64 s.kind]), .is (.bool true), .is (.bool false)] rfl (by kernel_rfl) (by kernel_rfl) ?steps6 ?fin6
      case steps6 =>
        refine ⟨?_, ?_, ?_, ?_, ?_, ?_, ?_, ?_, ?_, ?_, trivial⟩
        · refine stepW_of_u ⟨rfl, fun v W ρ hC kc kf ks ki kd => ?_⟩
          have t0 : ρ (.tmp 0) = .slice (some ⟨b, o, none⟩) ss.length cap := ki 0 (by decide)
          simp [execOp, go_sem, kc, t0]
          exact ⟨hC, Below.refl _ _, rfl⟩
        · refine stepW_of_u ⟨rfl, fun v W ρ hC kc kf ks ki kd => ?_⟩
          have t5 : ρ (.tmp 5) = .int .i64 (k : Int) := ki 5 (by decide)
          simp [execOp, go_sem, kc, t5]
          exact ⟨hC, Below.refl _ _, rfl⟩
        · refine stepW_of_u ⟨rfl, fun v W ρ hC kc kf ks ki kd => ?_⟩
          have d0 : v 0 = .slice (some ⟨b, o, none⟩) ss.length cap := by first | exact kd _ (mem0 rfl) rfl | exact kd _ (mem1 rfl) rfl | exact kd _ (mem2 rfl) rfl | exact kd _ (mem3 rfl) rfl | exact kd _ (mem4 rfl) rfl | exact kd _ (mem5 rfl) rfl
          have t17 : ρ (.tmp 17) = .slice (some ⟨b, o, none⟩) ss.length cap := (ks 0 17 (by decide) rfl).trans d0
          have d1 : v 1 = .int .i64 (k : Int) := by first | exact kd _ (mem0 rfl) rfl | exact kd _ (mem1 rfl) rfl | exact kd _ (mem2 rfl) rfl | exact kd _ (mem3 rfl) rfl | exact kd _ (mem4 rfl) rfl | exact kd _ (mem5 rfl) rfl
          have t18 : ρ (.tmp 18) = .int .i64 (k : Int) := (ks 1 18 (by decide) rfl).trans d1
          simp [execOp, go_sem, kc, t17, t18, hj]
          exact ⟨hC, Below.refl _ _, rfl⟩
        · refine stepW_of_u ⟨rfl, fun v W ρ hC kc kf ks ki kd => ?_⟩
          have d2 : v 2 = .pointer (some ⟨b, o + k * 6, none⟩) := by first | exact kd _ (mem0 rfl) rfl | exact kd _ (mem1 rfl) rfl | exact kd _ (mem2 rfl) rfl | exact kd _ (mem3 rfl) rfl | exact kd _ (mem4 rfl) rfl | exact kd _ (mem5 rfl) rfl
          have t19 : ρ (.tmp 19) = .pointer (some ⟨b, o + k * 6, none⟩) := (ks 2 19 (by decide) rfl).trans d2
          have e0 := (hC.cell (p := ⟨b, o + k * 6, none⟩) hbl).trans c0
          have e1 := (hC.cell (p := ⟨b, o + k * 6 + 1, none⟩) hbl).trans c1
          have e2 := (hC.cell (p := ⟨b, o + k * 6 + 2, none⟩) hbl).trans c2
          have e3 := (hC.cell (p := ⟨b, o + k * 6 + 3, none⟩) hbl).trans c3
          have e4 := (hC.cell (p := ⟨b, o + k * 6 + 4, none⟩) hbl).trans c4
          have e5 := (hC.cell (p := ⟨b, o + k * 6 + 5, none⟩) hbl).trans c5
          simp [execOp, go_sem, kc, t19, e0, e1, e2, e3, e4, e5]
          exact ⟨hC, Below.refl _ _, rfl⟩
        · refine stepW_of_u ⟨rfl, fun v W ρ hC kc kf ks ki kd => ?_⟩
          have t1 : ρ (.tmp 1) = .slice (some ⟨b', o', none⟩) ss.length cap' := ki 1 (by decide)
          simp [execOp, go_sem, kc, t1]
          exact ⟨hC, Below.refl _ _, rfl⟩
        · refine stepW_of_u ⟨rfl, fun v W ρ hC kc kf ks ki kd => ?_⟩
          have t5 : ρ (.tmp 5) = .int .i64 (k : Int) := ki 5 (by decide)
          simp [execOp, go_sem, kc, t5]
          exact ⟨hC, Below.refl _ _, rfl⟩
        · refine stepW_of_u ⟨rfl, fun v W ρ hC kc kf ks ki kd => ?_⟩
          have d4 : v 4 = .slice (some ⟨b', o', none⟩) ss.length cap' := by first | exact kd _ (mem0 rfl) rfl | exact kd _ (mem1 rfl) rfl | exact kd _ (mem2 rfl) rfl | exact kd _ (mem3 rfl) rfl | exact kd _ (mem4 rfl) rfl | exact kd _ (mem5 rfl) rfl
          have t21 : ρ (.tmp 21) = .slice (some ⟨b', o', none⟩) ss.length cap' := (ks 4 21 (by decide) rfl).trans d4
          have d5 : v 5 = .int .i64 (k : Int) := by first | exact kd _ (mem0 rfl) rfl | exact kd _ (mem1 rfl) rfl | exact kd _ (mem2 rfl) rfl | exact kd _ (mem3 rfl) rfl | exact kd _ (mem4 rfl) rfl | exact kd _ (mem5 rfl) rfl
          have t22 : ρ (.tmp 22) = .int .i64 (k : Int) := (ks 5 22 (by decide) rfl).trans d5
          simp [execOp, go_sem, kc, t21, t22, hj]
          exact ⟨hC, Below.refl _ _, rfl⟩
        · refine stepW_of_u ⟨rfl, fun v W ρ hC kc kf ks ki kd => ?_⟩
          have d6 : v 6 = .pointer (some ⟨b', o' + k * 6, none⟩) := by first | exact kd _ (mem0 rfl) rfl | exact kd _ (mem1 rfl) rfl | exact kd _ (mem2 rfl) rfl | exact kd _ (mem3 rfl) rfl | exact kd _ (mem4 rfl) rfl | exact kd _ (mem5 rfl) rfl
          have t23 : ρ (.tmp 23) = .pointer (some ⟨b', o' + k * 6, none⟩) := (ks 6 23 (by decide) rfl).trans d6
          have e0 := (hC.cell (p := ⟨b', o' + k * 6, none⟩) hbl').trans c0'
          have e1 := (hC.cell (p := ⟨b', o' + k * 6 + 1, none⟩) hbl').trans c1'
          have e2 := (hC.cell (p := ⟨b', o' + k * 6 + 2, none⟩) hbl').trans c2'
          have e3 := (hC.cell (p := ⟨b', o' + k * 6 + 3, none⟩) hbl').trans c3'
          have e4 := (hC.cell (p := ⟨b', o' + k * 6 + 4, none⟩) hbl').trans c4'
          have e5 := (hC.cell (p := ⟨b', o' + k * 6 + 5, none⟩) hbl').trans c5'
          simp [execOp, go_sem, kc, t23, e0, e1, e2, e3, e4, e5]
          exact ⟨hC, Below.refl _ _, rfl⟩
        · refine stepW_of_u ⟨rfl, fun v W ρ hC kc kf ks ki kd => ?_⟩
          have d3 : v 3 = .agg #[.int .i64 s.proto, .int .i64 s.src, .int .i64 s.sport, .int .i64 s.dst, .int .i64 s.dport, .int .i64 s.kind] := by first | exact kd _ (mem0 rfl) rfl | exact kd _ (mem1 rfl) rfl | exact kd _ (mem2 rfl) rfl | exact kd _ (mem3 rfl) rfl | exact kd _ (mem4 rfl) rfl | exact kd _ (mem5 rfl) rfl
          have t20 : ρ (.tmp 20) = .agg #[.int .i64 s.proto, .int .i64 s.src, .int .i64 s.sport, .int .i64 s.dst, .int .i64 s.dport, .int .i64 s.kind] := (ks 3 20 (by decide) rfl).trans d3
          have d7 : v 7 = .agg #[.int .i64 s.proto, .int .i64 s.src, .int .i64 s.sport, .int .i64 s.dst, .int .i64 s.dport, .int .i64 s.kind] := by first | exact kd _ (mem0 rfl) rfl | exact kd _ (mem1 rfl) rfl | exact kd _ (mem2 rfl) rfl | exact kd _ (mem3 rfl) rfl | exact kd _ (mem4 rfl) rfl | exact kd _ (mem5 rfl) rfl
          have t24 : ρ (.tmp 24) = .agg #[.int .i64 s.proto, .int .i64 s.src, .int .i64 s.sport, .int .i64 s.dst, .int .i64 s.dport, .int .i64 s.kind] := (ks 7 24 (by decide) rfl).trans d7
          simp [execOp, go_sem, t20, t24, kf]
          exact Calls.mono (HT.out W) (fun e x h => ⟨_, h.1, hC.trans (h.2.mono hC.size), h.2, rfl⟩)
        · refine stepW_of_u ⟨rfl, fun v W ρ hC kc kf ks ki kd => ?_⟩
          have d8 : v 8 = .bool true := by first | exact kd _ (mem0 rfl) rfl | exact kd _ (mem1 rfl) rfl | exact kd _ (mem2 rfl) rfl | exact kd _ (mem3 rfl) rfl | exact kd _ (mem4 rfl) rfl | exact kd _ (mem5 rfl) rfl
          have t25 : ρ (.tmp 25) = .bool true := (ks 8 25 (by decide) rfl).trans d8
          simp [execOp, go_sem, kc, t25]
          exact ⟨hC, Below.refl _ _, rfl⟩
      intro v6 W6 hb6 hall
      have hv6 : v6 9 = .bool false := hall 9 (by decide)
      simp [upto, Act.put]
      rw [hv6]
      clear hall hv6
      have hb3 := hidS (hb2.out.trans (hb6.mono hb2.out.size))
      clear hb6 hb2
      go_wp2
      go_roundw
      case rel => exact ⟨k + 1, by simp, by omega, hb3.out⟩
      case measure => simp [intOf]; omega
    · have hge : ¬ (k : Int) < (ss.length : Int) := by omega
      have HB := hidS hb
      clear hb hlt
      go_wp2
      go_ret
      exact ⟨rfl, HB.out⟩
theorem szTuples_any (a : Option Addr) (n cap : Nat) (k : Int) (w : World) (h : n ≤ 9223372036854775807) (h0 : 0 ≤ k) (h1 : k ≤ 1048576) :
    Calls Try.prog 38 #[.slice a n cap, .int .i64 k] w fun e w' => e = .returned (.int .i64 (if k < (n : Int) then -1 else k - n)) ∧ w' = w := by
  by_cases hk : k < (n : Int)
  · rw [if_pos hk]
    go_enter Try.func38, Try.ntmps38
    go_wp2
    go_ret
    exact ⟨rfl, rfl⟩
  · rw [if_neg hk]
    go_enter Try.func38, Try.ntmps38
    go_wp2
    go_ret
    exact ⟨rfl, rfl⟩
end Go.Proofs.Ytpcflfhblomcoaa
