/- Proved here: the laws' own helpers over rows of slots: a copy is new, two rows alike are alike, what is marked is held (conditions: the rows can be read, or written; at most 2^20 slots). -/
import Derived.Test.YtjhkaideckgffaaSlabMath
import Derived.Test.YtjhkaideckgffaaAll6
import Derived.Test.YtjhkaideckgffaaGrowCases
namespace Go.Proofs.Ytjhkaideckgffaa
open Go.ChangeShapes Go.WideShapes Go.ChangeAt Go.RowKit
set_option linter.unusedVariables false
set_option linter.unusedSimpArgs false
set_option maxRecDepth 100000

theorem toSlot_any (s : Slt) (w : World) :
    Calls Try.prog 55 #[.agg #[.int .i64 s.key, .int .i64 s.gen, .int .i64 s.refs, .int .i64 s.next]] w fun e w' => e = .returned (.agg #[.int .i64 s.key, .int .i64 s.gen, .int .i64 s.refs, .int .i64 s.next]) ∧ Below w.heap.size w w' := by
  go_enter Try.func55, Try.ntmps55
  go_wp2
  exact bodyPost_ret (v := .agg #[.int .i64 s.key, .int .i64 s.gen, .int .i64 s.refs, .int .i64 s.next]) (by simp [results, Try.results55, go_sem]) rfl ⟨rfl, by go_grown⟩
set_option maxHeartbeats 2000000 in
theorem toSlots_any (a : Option Addr) (cap : Nat) (ss : List Slt) (w : World) (hR : RowZ a (flat ss) w) (hz : ss.length ≤ 1048576) :
    Calls Try.prog 27 #[.slice a ss.length cap] w fun e w' => ∃ b, e = .returned (.slice (some ⟨b, 0, none⟩) ss.length ss.length) ∧ w.heap.size ≤ b ∧ w'.heap[b]? = some (.cells (intCells (flat ss)) 71) ∧ Below w.heap.size w w' := by
  have hmk := make_slots ss.length hz w
  have HR := hidS hR
  clear hR
  have HA := hidS (heap_newG w (.cells (intCells (List.replicate (4 * ss.length) 0)) 71))
  have HB := hidS ((Below.refl w.heap.size w).alloc (Nat.le_refl _) (.cells (intCells (List.replicate (4 * ss.length) 0)) 71))
  go_enter Try.func27, Try.ntmps27
  go_wp2
  go_loopw [4] (fun i wr => ∃ k : Nat, i = .int .i64 (k : Int) ∧ k ≤ ss.length ∧ wr.heap[w.heap.size]? = some (.cells (intCells (partZ (flat ss) (4 * k))) 71) ∧ Below w.heap.size w wr) (fun i _ => (ss.length - (intOf i).toNat))
  case atStart => exact ⟨0, rfl, Nat.zero_le _, by rw [Nat.mul_zero, partZ_none, flat_len]; exact HA.out, HB.out⟩
  case round =>
    obtain ⟨k, rfl, hk, hg, hb⟩ := hrel
    clear HA HB hmk
    by_cases hlt : k < ss.length
    · have hlt' : (k : Int) < (ss.length : Int) := by omega
      obtain ⟨b, o, rfl, hbl, c0, c1, c2, c3⟩ := (HR.out.later hb).slot hlt
      have HT := hidS (fun W => toSlot_any (ss.getD k zeroSlt) W)
      obtain ⟨s, hsk⟩ : ∃ s, ss.getD k zeroSlt = s := ⟨_, rfl⟩
      rw [hsk] at c0 c1 c2 c3 HT
      have HSk := hidS hsk
      clear hsk
      have HG := hidS hg
      have HB := hidS hb
      clear hb hg
      go_wp2_with fail
      refine (HT.out _).mono ?_
      rintro _ w1 ⟨rfl, hb1⟩
      have hG1 := blk_later HG.out hb1
      have hB1 := hidS (HB.out.trans (hb1.mono HB.out.size))
      have hP : (partZ (flat ss) (4 * k)).length = 4 * ss.length := by rw [partZ_len _ _ (by rw [flat_len]; omega), flat_len]
      have i0 := (blk_cell hG1 (k * 4)).trans (intCells_get _ _ (by omega))
      have i1 := (blk_cell hG1 (k * 4 + 1)).trans (intCells_get _ _ (by omega))
      have i2 := (blk_cell hG1 (k * 4 + 2)).trans (intCells_get _ _ (by omega))
      have i3 := (blk_cell hG1 (k * 4 + 3)).trans (intCells_get _ _ (by omega))
      have fG := blk_free hG1
      have hs : Hid (((((w1.setCell ⟨w.heap.size, k * 4, none⟩ (.int .i64 s.key)).setCell ⟨w.heap.size, k * 4 + 1, none⟩ (.int .i64 s.gen)).setCell ⟨w.heap.size, k * 4 + 2, none⟩ (.int .i64 s.refs)).setCell ⟨w.heap.size, k * 4 + 3, none⟩ (.int .i64 s.next)).heap[w.heap.size]? = some (.cells (intCells (partZ (flat ss) (4 * (k + 1)))) 71)) := by
        show _ = _
        have := blk_set (blk_set (blk_set (blk_set hG1 (k * 4) (.int .i64 s.key)) (k * 4 + 1) (.int .i64 s.gen)) (k * 4 + 2) (.int .i64 s.refs)) (k * 4 + 3) (.int .i64 s.next)
        rw [intCells_set, intCells_set, intCells_set, intCells_set, Nat.mul_comm k 4, ← HSk.out, flat_part ss k hlt] at this
        rw [Nat.mul_comm k 4, ← HSk.out]
        exact this
      have hb2 : Hid (Below w.heap.size w ((((w1.setCell ⟨w.heap.size, k * 4, none⟩ (.int .i64 s.key)).setCell ⟨w.heap.size, k * 4 + 1, none⟩ (.int .i64 s.gen)).setCell ⟨w.heap.size, k * 4 + 2, none⟩ (.int .i64 s.refs)).setCell ⟨w.heap.size, k * 4 + 3, none⟩ (.int .i64 s.next))) := by
        show Below _ _ _
        iterate 4 (refine below_at ?_ (Nat.le_refl _))
        exact hB1.out
      clear hG1 hb1 HG HB hP
      go_wp2
      go_roundw
      case rel => exact ⟨k + 1, by simp, by omega, hs.out, hb2.out⟩
      case measure => simp [intOf]; omega
    · have e : 4 * k = (flat ss).length := by rw [flat_len]; omega
      have hge : ¬ (k : Int) < (ss.length : Int) := by omega
      rw [e, partZ_all] at hg
      have HG := hidS hg
      have HB := hidS hb
      clear hg hb e hlt
      go_wp2
      go_ret
      exact ⟨_, rfl, Nat.le_refl _, HG.out, HB.out⟩
theorem eqSlot_any (s : Slt) (w : World) :
    Calls Try.prog 61 #[.agg #[.int .i64 s.key, .int .i64 s.gen, .int .i64 s.refs, .int .i64 s.next], .agg #[.int .i64 s.key, .int .i64 s.gen, .int .i64 s.refs, .int .i64 s.next]] w fun e w' => e = .returned (.bool true) ∧ Below w.heap.size w w' := by
  go_enter Try.func61, Try.ntmps61
  go_wp2
  go_ret
  exact ⟨rfl, by go_grown⟩
set_option maxHeartbeats 2000000 in
theorem eqSlots_any (a a' : Option Addr) (cap cap' : Nat) (ss : List Slt) (w : World) (hR : RowZ a (flat ss) w) (hR' : RowZ a' (flat ss) w) (hz : ss.length ≤ 1048576) :
    Calls Try.prog 34 #[.slice a ss.length cap, .slice a' ss.length cap'] w fun e w' => e = .returned (.bool true) ∧ Below w.heap.size w w' := by
  have HR := hidS hR
  have HR' := hidS hR'
  clear hR hR'
  go_enter Try.func34, Try.ntmps34
  go_wp2
  go_loopw [5] (fun i wr => ∃ k : Nat, i = .int .i64 (k : Int) ∧ k ≤ ss.length ∧ Below w.heap.size w wr) (fun i _ => (ss.length - (intOf i).toNat))
  case atStart => exact ⟨0, rfl, Nat.zero_le _, Below.refl _ _⟩
  case round =>
    obtain ⟨k, rfl, hk, hb⟩ := hrel
    by_cases hlt : k < ss.length
    · have hlt' : (k : Int) < (ss.length : Int) := by omega
      obtain ⟨b, o, rfl, hbl, c0, c1, c2, c3⟩ := (HR.out.later hb).slot hlt
      obtain ⟨b', o', rfl, hbl', c0', c1', c2', c3'⟩ := (HR'.out.later hb).slot hlt
      have HT := hidS (fun W => eqSlot_any (ss.getD k zeroSlt) W)
      have hb2 := hidS hb
      generalize ss.getD k zeroSlt = s at *
      clear hb
      have hj : (0 : Int) ≤ (k : Int) ∧ (k : Int) < (ss.length : Int) := by omega
      go_wp2
      refine grow_guarded 10 [.is (.slice (some ⟨b, o, none⟩) ss.length cap), .is (.int .i64 (k : Int)), .is (.pointer (some ⟨b, o + k * 4, none⟩)), .is (.agg #[.int .i64 s.key, .int .i64 s.gen, .int .i64 s.refs, .int .i64 s.next]), .is (.slice (some ⟨b', o', none⟩) ss.length cap'), .is (.int .i64 (k : Int)), .is (.pointer (some ⟨b', o' + k * 4, none⟩)), .is (.agg #[.int .i64 s.key, .int .i64 s.gen, .int .i64 s.refs, .int .i64 s.next]), .is (.bool true), .is (.bool false)] rfl (by kernel_rfl) (by kernel_rfl) ?steps6 ?fin6
      case steps6 =>
        refine ⟨?_, ?_, ?_, ?_, ?_, ?_, ?_, ?_, ?_, ?_, trivial⟩
        · refine stepW_of_u ⟨rfl, fun v W ρ hC kc kf ks ki kd => ?_⟩
          have t0 : ρ (.tmp 0) = .slice (some ⟨b, o, none⟩) ss.length cap := ki 0 (by decide)
          simp [execOp, go_sem, kc, t0]
          exact ⟨hC, Below.refl _ _, rfl⟩
        · refine stepW_of_u ⟨rfl, fun v W ρ hC kc kf ks ki kd => ?_⟩
          have t5 : ρ (.tmp 5) = .int .i64 (k : Int) := ki 5 (by decide)
          simp [execOp, go_sem, kc, t5]
          exact ⟨hC, Below.refl _ _, rfl⟩
        · refine stepW_of_u ⟨rfl, fun v W ρ hC kc kf ks ki kd => ?_⟩
          have d0 : v 0 = .slice (some ⟨b, o, none⟩) ss.length cap := by first | exact kd _ (mem0 rfl) rfl | exact kd _ (mem1 rfl) rfl | exact kd _ (mem2 rfl) rfl | exact kd _ (mem3 rfl) rfl | exact kd _ (mem4 rfl) rfl | exact kd _ (mem5 rfl) rfl
          have t17 : ρ (.tmp 17) = .slice (some ⟨b, o, none⟩) ss.length cap := (ks 0 17 (by decide) rfl).trans d0
          have d1 : v 1 = .int .i64 (k : Int) := by first | exact kd _ (mem0 rfl) rfl | exact kd _ (mem1 rfl) rfl | exact kd _ (mem2 rfl) rfl | exact kd _ (mem3 rfl) rfl | exact kd _ (mem4 rfl) rfl | exact kd _ (mem5 rfl) rfl
          have t18 : ρ (.tmp 18) = .int .i64 (k : Int) := (ks 1 18 (by decide) rfl).trans d1
          simp [execOp, go_sem, kc, t17, t18, hj]
          exact ⟨hC, Below.refl _ _, rfl⟩
        · refine stepW_of_u ⟨rfl, fun v W ρ hC kc kf ks ki kd => ?_⟩
          have d2 : v 2 = .pointer (some ⟨b, o + k * 4, none⟩) := by first | exact kd _ (mem0 rfl) rfl | exact kd _ (mem1 rfl) rfl | exact kd _ (mem2 rfl) rfl | exact kd _ (mem3 rfl) rfl | exact kd _ (mem4 rfl) rfl | exact kd _ (mem5 rfl) rfl
          have t19 : ρ (.tmp 19) = .pointer (some ⟨b, o + k * 4, none⟩) := (ks 2 19 (by decide) rfl).trans d2
          have e0 := (hC.cell (p := ⟨b, o + k * 4, none⟩) hbl).trans c0
          have e1 := (hC.cell (p := ⟨b, o + k * 4 + 1, none⟩) hbl).trans c1
          have e2 := (hC.cell (p := ⟨b, o + k * 4 + 2, none⟩) hbl).trans c2
          have e3 := (hC.cell (p := ⟨b, o + k * 4 + 3, none⟩) hbl).trans c3
          simp [execOp, go_sem, kc, t19, e0, e1, e2, e3]
          exact ⟨hC, Below.refl _ _, rfl⟩
        · refine stepW_of_u ⟨rfl, fun v W ρ hC kc kf ks ki kd => ?_⟩
          have t1 : ρ (.tmp 1) = .slice (some ⟨b', o', none⟩) ss.length cap' := ki 1 (by decide)
          simp [execOp, go_sem, kc, t1]
          exact ⟨hC, Below.refl _ _, rfl⟩
        · refine stepW_of_u ⟨rfl, fun v W ρ hC kc kf ks ki kd => ?_⟩
          have t5 : ρ (.tmp 5) = .int .i64 (k : Int) := ki 5 (by decide)
          simp [execOp, go_sem, kc, t5]
          exact ⟨hC, Below.refl _ _, rfl⟩
        · refine stepW_of_u ⟨rfl, fun v W ρ hC kc kf ks ki kd => ?_⟩
          have d4 : v 4 = .slice (some ⟨b', o', none⟩) ss.length cap' := by first | exact kd _ (mem0 rfl) rfl | exact kd _ (mem1 rfl) rfl | exact kd _ (mem2 rfl) rfl | exact kd _ (mem3 rfl) rfl | exact kd _ (mem4 rfl) rfl | exact kd _ (mem5 rfl) rfl
          have t21 : ρ (.tmp 21) = .slice (some ⟨b', o', none⟩) ss.length cap' := (ks 4 21 (by decide) rfl).trans d4
          have d5 : v 5 = .int .i64 (k : Int) := by first | exact kd _ (mem0 rfl) rfl | exact kd _ (mem1 rfl) rfl | exact kd _ (mem2 rfl) rfl | exact kd _ (mem3 rfl) rfl | exact kd _ (mem4 rfl) rfl | exact kd _ (mem5 rfl) rfl
          have t22 : ρ (.tmp 22) = .int .i64 (k : Int) := (ks 5 22 (by decide) rfl).trans d5
          simp [execOp, go_sem, kc, t21, t22, hj]
          exact ⟨hC, Below.refl _ _, rfl⟩
        · refine stepW_of_u ⟨rfl, fun v W ρ hC kc kf ks ki kd => ?_⟩
          have d6 : v 6 = .pointer (some ⟨b', o' + k * 4, none⟩) := by first | exact kd _ (mem0 rfl) rfl | exact kd _ (mem1 rfl) rfl | exact kd _ (mem2 rfl) rfl | exact kd _ (mem3 rfl) rfl | exact kd _ (mem4 rfl) rfl | exact kd _ (mem5 rfl) rfl
          have t23 : ρ (.tmp 23) = .pointer (some ⟨b', o' + k * 4, none⟩) := (ks 6 23 (by decide) rfl).trans d6
          have e0 := (hC.cell (p := ⟨b', o' + k * 4, none⟩) hbl').trans c0'
          have e1 := (hC.cell (p := ⟨b', o' + k * 4 + 1, none⟩) hbl').trans c1'
          have e2 := (hC.cell (p := ⟨b', o' + k * 4 + 2, none⟩) hbl').trans c2'
          have e3 := (hC.cell (p := ⟨b', o' + k * 4 + 3, none⟩) hbl').trans c3'
          simp [execOp, go_sem, kc, t23, e0, e1, e2, e3]
          exact ⟨hC, Below.refl _ _, rfl⟩
        · refine stepW_of_u ⟨rfl, fun v W ρ hC kc kf ks ki kd => ?_⟩
          have d3 : v 3 = .agg #[.int .i64 s.key, .int .i64 s.gen, .int .i64 s.refs, .int .i64 s.next] := by first | exact kd _ (mem0 rfl) rfl | exact kd _ (mem1 rfl) rfl | exact kd _ (mem2 rfl) rfl | exact kd _ (mem3 rfl) rfl | exact kd _ (mem4 rfl) rfl | exact kd _ (mem5 rfl) rfl
          have t20 : ρ (.tmp 20) = .agg #[.int .i64 s.key, .int .i64 s.gen, .int .i64 s.refs, .int .i64 s.next] := (ks 3 20 (by decide) rfl).trans d3
          have d7 : v 7 = .agg #[.int .i64 s.key, .int .i64 s.gen, .int .i64 s.refs, .int .i64 s.next] := by first | exact kd _ (mem0 rfl) rfl | exact kd _ (mem1 rfl) rfl | exact kd _ (mem2 rfl) rfl | exact kd _ (mem3 rfl) rfl | exact kd _ (mem4 rfl) rfl | exact kd _ (mem5 rfl) rfl
          have t24 : ρ (.tmp 24) = .agg #[.int .i64 s.key, .int .i64 s.gen, .int .i64 s.refs, .int .i64 s.next] := (ks 7 24 (by decide) rfl).trans d7
          simp [execOp, go_sem, t20, t24, kf]
          exact Calls.mono (HT.out W) (fun e x h => ⟨_, h.1, hC.trans (h.2.mono hC.size), h.2, rfl⟩)
        · refine stepW_of_u ⟨rfl, fun v W ρ hC kc kf ks ki kd => ?_⟩
          have d8 : v 8 = .bool true := by first | exact kd _ (mem0 rfl) rfl | exact kd _ (mem1 rfl) rfl | exact kd _ (mem2 rfl) rfl | exact kd _ (mem3 rfl) rfl | exact kd _ (mem4 rfl) rfl | exact kd _ (mem5 rfl) rfl
          have t25 : ρ (.tmp 25) = .bool true := (ks 8 25 (by decide) rfl).trans d8
          simp [execOp, go_sem, kc, t25]
          exact ⟨hC, Below.refl _ _, rfl⟩
      intro v6 W6 hb6 hall
      have hv6 : v6 9 = .bool false := hall 9 (by decide)
      simp [upto, Act.put]
      rw [hv6]
      clear hall hv6
      have hb3 := hidS (hb2.out.trans (hb6.mono hb2.out.size))
      clear hb6 hb2
      go_wp2
      go_roundw
      case rel => exact ⟨k + 1, by simp, by omega, hb3.out⟩
      case measure => simp [intOf]; omega
    · have hge : ¬ (k : Int) < (ss.length : Int) := by omega
      have HB := hidS hb
      clear hb hlt
      go_wp2
      go_ret
      exact ⟨rfl, HB.out⟩
set_option maxHeartbeats 4000000 in
theorem markSlots_row (b o cap n : Nat) (zs : List Int) (k0 : Int) (w : World) (hR : RowB b o zs w) (hn : zs.length = 4 * n) (hz : n ≤ 1048576) (hk0 : 0 ≤ k0) (hk1 : k0 ≤ 1099511627776) :
    Calls Try.prog 43 #[.slice (some ⟨b, o, none⟩) n cap, .int .i64 k0] w fun e w' => e = .returned (.int .i64 (k0 + 4 * n)) ∧ RowB b o (marks k0 (4 * n)) w' ∧ Tch b w w' := by
  have HR := hidS hR
  have HN := hidS hn
  clear hR hn
  go_enter Try.func43, Try.ntmps43
  go_wp2
  go_loopw [1, 5] (fun k i wr => ∃ j : Nat, i = .int .i64 (j : Int) ∧ k = .int .i64 (k0 + 4 * j) ∧ j ≤ n ∧ RowB b o (markd zs k0 (4 * j)) wr ∧ Tch b w wr) (fun _ i _ => (n - (intOf i).toNat))
  case atStart => exact ⟨0, rfl, by simp, Nat.zero_le _, by rw [Nat.mul_zero, markd_none]; exact HR.out, Tch.refl _ _⟩
  case round =>
    obtain ⟨j, rfl, rfl, hj, hr, ht⟩ := hrel
    clear HR
    by_cases hlt : j < n
    · have hlt' : (j : Int) < (n : Int) := by omega
      have hle := HN.out
      have hml : (markd zs k0 (4 * j)).length = 4 * n := by rw [markd_len]; exact hle
      have hs : Hid (RowB b o (markd zs k0 (4 * (j + 1))) ((((wr.setCell ⟨b, o + j * 4, none⟩ (.int .i64 (k0 + 4 * j))).setCell ⟨b, o + j * 4 + 1, none⟩ (.int .i64 (k0 + 4 * j + 1))).setCell ⟨b, o + j * 4 + 2, none⟩ (.int .i64 (k0 + 4 * j + 2))).setCell ⟨b, o + j * 4 + 3, none⟩ (.int .i64 (k0 + 4 * j + 3)))) := by
        show RowB _ _ _ _
        have := (((hr.set (4 * j) (k0 + 4 * j) (by omega)).set (4 * j + 1) (k0 + 4 * j + 1) (by simp; omega)).set (4 * j + 2) (k0 + 4 * j + 2) (by simp; omega)).set (4 * j + 3) (k0 + 4 * j + 3) (by simp; omega)
        rw [flat_markd zs k0 j (by omega)] at this
        rw [Nat.mul_comm j 4]
        exact this
      have ht2 : Hid (Tch b w ((((wr.setCell ⟨b, o + j * 4, none⟩ (.int .i64 (k0 + 4 * j))).setCell ⟨b, o + j * 4 + 1, none⟩ (.int .i64 (k0 + 4 * j + 1))).setCell ⟨b, o + j * 4 + 2, none⟩ (.int .i64 (k0 + 4 * j + 2))).setCell ⟨b, o + j * 4 + 3, none⟩ (.int .i64 (k0 + 4 * j + 3)))) := hidS ((((ht.set _ _).set _ _).set _ _).set _ _)
      have hW : Hid (RowB b o (markd zs k0 (4 * j)) wr) := hidS hr
      obtain ⟨⟨z0, d0⟩, f0⟩ := rowB_cells hr (j * 4) (by omega)
      obtain ⟨⟨z1, d1⟩, f1⟩ := rowB_cells hr (j * 4 + 1) (by omega)
      obtain ⟨⟨z2, d2⟩, f2⟩ := rowB_cells hr (j * 4 + 2) (by omega)
      obtain ⟨⟨z3, d3⟩, f3⟩ := rowB_cells hr (j * 4 + 3) (by omega)
      rw [← Nat.add_assoc] at d1 d2 d3 f1 f2 f3
      have q2 : k0 + 4 * (j : Int) + 2 = k0 + 4 * (j : Int) + 1 + 1 := by omega
      have q3 : k0 + 4 * (j : Int) + 3 = k0 + 4 * (j : Int) + 1 + 1 + 1 := by omega
      rw [q2, q3] at hs ht2
      clear hr ht hle hml hW q2 q3
      go_wp2
      go_roundw
      case rel => exact ⟨j + 1, by simp, by simp; omega, by omega, hs.out, ht2.out⟩
      case measure => simp [intOf]; omega
    · have e : j = n := by omega
      have hge : ¬ (j : Int) < (n : Int) := by omega
      subst e
      rw [← HN.out, markd_all, HN.out] at hr
      have HG := hidS hr
      have HT := hidS ht
      clear hr ht hlt hj
      go_wp2
      go_ret
      exact ⟨rfl, HG.out, HT.out⟩
theorem markSlots_nil (a : Option Addr) (cap : Nat) (k0 : Int) (w : World) :
    Calls Try.prog 43 #[.slice a 0 cap, .int .i64 k0] w fun e w' => e = .returned (.int .i64 k0) ∧ w' = w := by
  go_enter Try.func43, Try.ntmps43
  go_wp2
  go_loopw [1, 5] (fun k i wr => k = .int .i64 k0 ∧ i = .int .i64 0 ∧ wr = w) (fun _ _ _ => 0)
  case atStart => exact ⟨rfl, rfl, rfl⟩
  case round =>
    obtain ⟨rfl, rfl, rfl⟩ := hrel
    go_wp2
    go_ret
    exact ⟨rfl, rfl⟩
theorem RowZ.four {a : Option Addr} {zs : List Int} {W : World} (h : RowZ a zs W) {i : Nat} (hi : 4 * i + 3 < zs.length) : ∃ b o, a = some ⟨b, o, none⟩ ∧ b < W.heap.size ∧
    W.cell? ⟨b, o + i * 4, none⟩ = some (.int .i64 (zs.getD (4 * i) 0)) ∧ W.cell? ⟨b, o + i * 4 + 1, none⟩ = some (.int .i64 (zs.getD (4 * i + 1) 0)) ∧ W.cell? ⟨b, o + i * 4 + 2, none⟩ = some (.int .i64 (zs.getD (4 * i + 2) 0)) ∧ W.cell? ⟨b, o + i * 4 + 3, none⟩ = some (.int .i64 (zs.getD (4 * i + 3) 0)) := by
  obtain ⟨b, o, e, hb, c0⟩ := h (4 * i) (by omega)
  obtain ⟨b1, o1, e1, _, c1⟩ := h (4 * i + 1) (by omega)
  obtain ⟨b2, o2, e2, _, c2⟩ := h (4 * i + 2) (by omega)
  obtain ⟨b3, o3, e3, _, c3⟩ := h (4 * i + 3) (by omega)
  rw [e] at e1 e2 e3
  injection e1 with e1; injection e1 with q1 r1
  injection e2 with e2; injection e2 with q2 r2
  injection e3 with e3; injection e3 with q3 r3
  subst q1 r1 q2 r2 q3 r3
  refine ⟨b, o, e, hb, ?_⟩
  rw [Nat.mul_comm i 4]
  exact ⟨c0, c1, c2, c3⟩
set_option maxHeartbeats 4000000 in
theorem heldSlots_any (a : Option Addr) (cap n : Nat) (k0 : Int) (w : World) (hR : RowZ a (marks k0 (4 * n)) w) (hz : n ≤ 1048576) (hk0 : 0 ≤ k0) (hk1 : k0 ≤ 1099511627776) :
    Calls Try.prog 62 #[.slice a n cap, .int .i64 k0] w fun e w' => e = .returned (.int .i64 (k0 + 4 * n)) ∧ w' = w := by
  have HR := hidS hR
  clear hR
  go_enter Try.func62, Try.ntmps62
  go_wp2
  go_loopw [1, 5] (fun k i wr => ∃ j : Nat, i = .int .i64 (j : Int) ∧ k = .int .i64 (k0 + 4 * j) ∧ j ≤ n ∧ wr = w) (fun _ i _ => (n - (intOf i).toNat))
  case atStart => exact ⟨0, rfl, by simp, Nat.zero_le _, rfl⟩
  case round =>
    obtain ⟨j, rfl, rfl, hj, rfl⟩ := hrel
    by_cases hlt : j < n
    · have hlt' : (j : Int) < (n : Int) := by omega
      obtain ⟨b, o, rfl, hbl, c0, c1, c2, c3⟩ := HR.out.four (i := j) (by rw [marks_len]; omega)
      rw [marks_get _ _ _ (by omega)] at c0 c1 c2 c3
      have e0 : k0 + ((4 * j : Nat) : Int) = k0 + 4 * (j : Int) := by omega
      have e1 : k0 + ((4 * j + 1 : Nat) : Int) = k0 + 4 * (j : Int) + 1 := by omega
      have e2 : k0 + ((4 * j + 2 : Nat) : Int) = k0 + 4 * (j : Int) + 1 + 1 := by omega
      have e3 : k0 + ((4 * j + 3 : Nat) : Int) = k0 + 4 * (j : Int) + 1 + 1 + 1 := by omega
      rw [e0] at c0
      rw [e1] at c1
      rw [e2] at c2
      rw [e3] at c3
      clear e0 e1 e2 e3
      go_wp2
      go_roundw
      case rel => exact ⟨j + 1, by simp, by simp; omega, by omega, by first | rfl | trivial⟩
      case measure => simp [intOf]; omega
    · have e : j = n := by omega
      have hge : ¬ (j : Int) < (n : Int) := by omega
      subst e
      go_wp2
      go_ret
      exact ⟨rfl, rfl⟩
theorem szSlots_any (a : Option Addr) (n cap : Nat) (k : Int) (w : World) (h : n ≤ 9223372036854775807) (h0 : 0 ≤ k) (h1 : k ≤ 1048576) :
    Calls Try.prog 23 #[.slice a n cap, .int .i64 k] w fun e w' => e = .returned (.int .i64 (if k < (n : Int) then -1 else k - n)) ∧ w' = w := by
  by_cases hk : k < (n : Int)
  · rw [if_pos hk]
    go_enter Try.func23, Try.ntmps23
    go_wp2
    go_ret
    exact ⟨rfl, rfl⟩
  · rw [if_neg hk]
    go_enter Try.func23, Try.ntmps23
    go_wp2
    go_ret
    exact ⟨rfl, rfl⟩
end Go.Proofs.Ytjhkaideckgffaa
