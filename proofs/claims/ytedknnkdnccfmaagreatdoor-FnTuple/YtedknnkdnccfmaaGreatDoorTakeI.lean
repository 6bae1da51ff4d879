/- Proved here: impl.takeBehind takes the tuple that is behind out of a map; nothing else of old memory turns (conditions: two right tuples that are not the same; the map holds keys alone). -/
import Derived.Test.YtedknnkdnccfmaaGreatDoorTupKey
import Derived.Test.YtedknnkdnccfmaaGreatDoorAll4
import Derived.Deep.Cut
import Derived.Maps.AppendAt
namespace Go.Proofs.YtedknnkdnccfmaaGreatDoor
open Go.ChangeShapes Go.WideShapes Go.ChangeAt Go.RowKit
open Go.Maps (Keyed)
set_option linter.unusedVariables false
set_option maxRecDepth 100000

theorem numbersOf_any (t : Tp) (w : World) :
    Calls Tryz.prog 114 #[.agg #[.int .i64 t.proto, .int .i64 t.src, .int .i64 t.sport, .int .i64 t.dst, .int .i64 t.dport, .int .i64 t.kind]] w fun e w' => e = .returned (.agg #[.int .i64 t.proto, .int .i64 t.src, .int .i64 t.sport, .int .i64 t.dst, .int .i64 t.dport, .int .i64 t.kind]) ∧ Below w.heap.size w w' := by
  go_enter Tryz.func114, Tryz.ntmps114
  go_wp2
  go_returns
  exact ⟨rfl, by go_grown⟩
theorem grown_belowT {w w' : World} {r : Option Nat} (h : Below w.heap.size w w') : w.grownBy w' r := ⟨h.os, h.tape, h.output, h.size, fun i hi _ => h.block i hi⟩
theorem owns_below {w w' : World} {B n : Nat} {D : DataW Unit} (h : w.ownsMap Tryz.prog 40 (unitElem (H := Unit)) B n D) (hb : Below w.heap.size w w') : w'.ownsMap Tryz.prog 40 (unitElem (H := Unit)) B n D := by
  obtain ⟨es, clock, h1, h2⟩ := h
  exact ⟨es, clock, (hb.block B (blk_lt h1)).trans h1, h2⟩
theorem idx_0 (t : Tp) (W : World) : (Instr.index 135 (.agg #[.int .i64 t.proto, .int .i64 t.src, .int .i64 t.sport, .int .i64 t.dst, .int .i64 t.dport, .int .i64 t.kind]) (.int .i64 0)).run Tryz.prog W = .ok (.int .i64 t.proto) W := by kernel_rfl
theorem idx_1 (t : Tp) (W : World) : (Instr.index 135 (.agg #[.int .i64 t.proto, .int .i64 t.src, .int .i64 t.sport, .int .i64 t.dst, .int .i64 t.dport, .int .i64 t.kind]) (.int .i64 1)).run Tryz.prog W = .ok (.int .i64 t.src) W := by kernel_rfl
theorem idx_2 (t : Tp) (W : World) : (Instr.index 135 (.agg #[.int .i64 t.proto, .int .i64 t.src, .int .i64 t.sport, .int .i64 t.dst, .int .i64 t.dport, .int .i64 t.kind]) (.int .i64 2)).run Tryz.prog W = .ok (.int .i64 t.sport) W := by kernel_rfl
theorem idx_3 (t : Tp) (W : World) : (Instr.index 135 (.agg #[.int .i64 t.proto, .int .i64 t.src, .int .i64 t.sport, .int .i64 t.dst, .int .i64 t.dport, .int .i64 t.kind]) (.int .i64 3)).run Tryz.prog W = .ok (.int .i64 t.dst) W := by kernel_rfl
theorem idx_4 (t : Tp) (W : World) : (Instr.index 135 (.agg #[.int .i64 t.proto, .int .i64 t.src, .int .i64 t.sport, .int .i64 t.dst, .int .i64 t.dport, .int .i64 t.kind]) (.int .i64 4)).run Tryz.prog W = .ok (.int .i64 t.dport) W := by kernel_rfl
theorem idx_5 (t : Tp) (W : World) : (Instr.index 135 (.agg #[.int .i64 t.proto, .int .i64 t.src, .int .i64 t.sport, .int .i64 t.dst, .int .i64 t.dport, .int .i64 t.kind]) (.int .i64 5)).run Tryz.prog W = .ok (.int .i64 t.kind) W := by kernel_rfl

set_option maxHeartbeats 2000000 in
theorem take_0_lt (a b : Tp) (M n : Nat) (D : DataW Unit) (w : World) (h : a.proto < b.proto) (hown : w.ownsMap Tryz.prog 40 (unitElem (H := Unit)) M n D) (hkey : keyOf Tryz.prog 40 (.agg #[.int .i64 b.proto, .int .i64 b.src, .int .i64 b.sport, .int .i64 b.dst, .int .i64 b.dport, .int .i64 b.kind]) = some (klT b)) :
    Calls Tryz.prog 77 #[.map (some M), .agg #[.int .i64 a.proto, .int .i64 a.src, .int .i64 a.sport, .int .i64 a.dst, .int .i64 a.dport, .int .i64 a.kind], .agg #[.int .i64 b.proto, .int .i64 b.src, .int .i64 b.sport, .int .i64 b.dst, .int .i64 b.dport, .int .i64 b.kind]] w fun e w' => e = .returned (.tuple #[]) ∧ w.grownBy w' (some M) ∧ w'.ownsMap Tryz.prog 40 (unitElem (H := Unit)) M n (D.del (klT b)) := by
  have HA := hidS (fun W => numbersOf_any a W)
  have HB := hidS (fun W => numbersOf_any b W)
  have HO := hidS (fun W (h : Below w.heap.size w W) => owns_below hown h)
  have HK := hidS hkey
  clear hkey hown
  have hGA0 : Hid (((w.alloc (.cells #[.int .i64 a.proto, .int .i64 a.src, .int .i64 a.sport, .int .i64 a.dst, .int .i64 a.dport, .int .i64 a.kind] 40)).alloc (.cells #[.int .i64 b.proto, .int .i64 b.src, .int .i64 b.sport, .int .i64 b.dst, .int .i64 b.dport, .int .i64 b.kind] 40)).heap[w.heap.size]? = some (.cells #[.int .i64 a.proto, .int .i64 a.src, .int .i64 a.sport, .int .i64 a.dst, .int .i64 a.dport, .int .i64 a.kind] 40)) := by
    show _ = _
    have := blk_alloc (heap_newG w (.cells #[.int .i64 a.proto, .int .i64 a.src, .int .i64 a.sport, .int .i64 a.dst, .int .i64 a.dport, .int .i64 a.kind] 40)) (.cells #[.int .i64 b.proto, .int .i64 b.src, .int .i64 b.sport, .int .i64 b.dst, .int .i64 b.dport, .int .i64 b.kind] 40)
    simpa using this
  have hGB0 : Hid (((w.alloc (.cells #[.int .i64 a.proto, .int .i64 a.src, .int .i64 a.sport, .int .i64 a.dst, .int .i64 a.dport, .int .i64 a.kind] 40)).alloc (.cells #[.int .i64 b.proto, .int .i64 b.src, .int .i64 b.sport, .int .i64 b.dst, .int .i64 b.dport, .int .i64 b.kind] 40)).heap[w.heap.size + 1]? = some (.cells #[.int .i64 b.proto, .int .i64 b.src, .int .i64 b.sport, .int .i64 b.dst, .int .i64 b.dport, .int .i64 b.kind] 40)) := by
    show _ = _
    have := heap_newG (w.alloc (.cells #[.int .i64 a.proto, .int .i64 a.src, .int .i64 a.sport, .int .i64 a.dst, .int .i64 a.dport, .int .i64 a.kind] 40)) (.cells #[.int .i64 b.proto, .int .i64 b.src, .int .i64 b.sport, .int .i64 b.dst, .int .i64 b.dport, .int .i64 b.kind] 40)
    simpa using this
  have hL0 := hidS (((Below.refl w.heap.size w).alloc (Nat.le_refl _) (.cells #[.int .i64 a.proto, .int .i64 a.src, .int .i64 a.sport, .int .i64 a.dst, .int .i64 a.dport, .int .i64 a.kind] 40)).alloc (by simp) (.cells #[.int .i64 b.proto, .int .i64 b.src, .int .i64 b.sport, .int .i64 b.dst, .int .i64 b.dport, .int .i64 b.kind] 40))
  go_enter Tryz.func77, Tryz.ntmps77
  go_wp2_with fail
  refine (HB.out _).mono ?_
  rintro _ w1 ⟨rfl, hb1⟩
  have hGA1 := hidS (blk_later hGA0.out hb1)
  have hGB1 := hidS (blk_later hGB0.out hb1)
  have hL1 := hidS (hL0.out.trans (hb1.mono hL0.out.size))
  clear hb1 hL0 hGA0 hGB0
  go_upto_region 2 with fail
  have hGO2 := hidS (heap_newG w1 (.cells #[.int .i64 b.proto, .int .i64 b.src, .int .i64 b.sport, .int .i64 b.dst, .int .i64 b.dport, .int .i64 b.kind] 135))
  have hGA2 := hidS (blk_alloc hGA1.out (.cells #[.int .i64 b.proto, .int .i64 b.src, .int .i64 b.sport, .int .i64 b.dst, .int .i64 b.dport, .int .i64 b.kind] 135))
  have hGB2 := hidS (blk_alloc hGB1.out (.cells #[.int .i64 b.proto, .int .i64 b.src, .int .i64 b.sport, .int .i64 b.dst, .int .i64 b.dport, .int .i64 b.kind] 135))
  have hL2 := hidS (hL1.out.alloc hL1.out.size (.cells #[.int .i64 b.proto, .int .i64 b.src, .int .i64 b.sport, .int .i64 b.dst, .int .i64 b.dport, .int .i64 b.kind] 135))
  clear hL1 hGA1 hGB1
  generalize w1.alloc (.cells #[.int .i64 b.proto, .int .i64 b.src, .int .i64 b.sport, .int .i64 b.dst, .int .i64 b.dport, .int .i64 b.kind] 135) = w2 at hGA2 hGB2 hGO2 hL2 ⊢
  have cA0 := blk_cell hGA2.out 0
  have cA1 := blk_cell hGA2.out 1
  have cA2 := blk_cell hGA2.out 2
  have cA3 := blk_cell hGA2.out 3
  have cA4 := blk_cell hGA2.out 4
  have cA5 := blk_cell hGA2.out 5
  simp at cA0 cA1 cA2 cA3 cA4 cA5
  go_wp2_with fail
  refine (HA.out _).mono ?_
  rintro _ w3 ⟨rfl, hb3⟩
  clear cA0 cA1 cA2 cA3 cA4 cA5
  have hGA3 := hidS (blk_later hGA2.out hb3)
  have hGB3 := hidS (blk_later hGB2.out hb3)
  have hGO3 := hidS (blk_later hGO2.out hb3)
  have hL3 := hidS (hL2.out.trans (hb3.mono hL2.out.size))
  clear hb3 hL2 hGA2 hGB2 hGO2
  have cO0 := blk_cell hGO3.out 0
  have cO1 := blk_cell hGO3.out 1
  have cO2 := blk_cell hGO3.out 2
  have cO3 := blk_cell hGO3.out 3
  have cO4 := blk_cell hGO3.out 4
  have cO5 := blk_cell hGO3.out 5
  simp at cO0 cO1 cO2 cO3 cO4 cO5
  have cB0 := blk_cell hGB3.out 0
  have cB1 := blk_cell hGB3.out 1
  have cB2 := blk_cell hGB3.out 2
  have cB3 := blk_cell hGB3.out 3
  have cB4 := blk_cell hGB3.out 4
  have cB5 := blk_cell hGB3.out 5
  simp at cB0 cB1 cB2 cB3 cB4 cB5
  have hw := HO.out _ hL3.out
  have i0 := idx_0 a
  go_wp2_with fail
  refine wp_loop_rounds 1 ?_
  rw [rounds_succ]
  go_wp2_with (at_delete; refine wpList_delete_own _ rfl _ _ 100 40 rfl 99 tup_keyed Tryz.underlying100 _ M n D rfl hw _ _ rfl HK.out ?_; intro v1 hown1 hturn1)
  first | go_end0 | refine bodyPost_ret (results_none rfl _ _ _) rfl ?_
  exact ⟨rfl, (grown_belowT hL3.out).trans hturn1.grown, hown1⟩

set_option maxHeartbeats 2000000 in
theorem take_0_gt (a b : Tp) (M n : Nat) (D : DataW Unit) (w : World) (h' : ¬ a.proto < b.proto) (h : b.proto < a.proto) (hown : w.ownsMap Tryz.prog 40 (unitElem (H := Unit)) M n D) (hkey : keyOf Tryz.prog 40 (.agg #[.int .i64 a.proto, .int .i64 a.src, .int .i64 a.sport, .int .i64 a.dst, .int .i64 a.dport, .int .i64 a.kind]) = some (klT a)) :
    Calls Tryz.prog 77 #[.map (some M), .agg #[.int .i64 a.proto, .int .i64 a.src, .int .i64 a.sport, .int .i64 a.dst, .int .i64 a.dport, .int .i64 a.kind], .agg #[.int .i64 b.proto, .int .i64 b.src, .int .i64 b.sport, .int .i64 b.dst, .int .i64 b.dport, .int .i64 b.kind]] w fun e w' => e = .returned (.tuple #[]) ∧ w.grownBy w' (some M) ∧ w'.ownsMap Tryz.prog 40 (unitElem (H := Unit)) M n (D.del (klT a)) := by
  have HA := hidS (fun W => numbersOf_any a W)
  have HB := hidS (fun W => numbersOf_any b W)
  have HO := hidS (fun W (h : Below w.heap.size w W) => owns_below hown h)
  have HK := hidS hkey
  clear hkey hown
  have hGA0 : Hid (((w.alloc (.cells #[.int .i64 a.proto, .int .i64 a.src, .int .i64 a.sport, .int .i64 a.dst, .int .i64 a.dport, .int .i64 a.kind] 40)).alloc (.cells #[.int .i64 b.proto, .int .i64 b.src, .int .i64 b.sport, .int .i64 b.dst, .int .i64 b.dport, .int .i64 b.kind] 40)).heap[w.heap.size]? = some (.cells #[.int .i64 a.proto, .int .i64 a.src, .int .i64 a.sport, .int .i64 a.dst, .int .i64 a.dport, .int .i64 a.kind] 40)) := by
    show _ = _
    have := blk_alloc (heap_newG w (.cells #[.int .i64 a.proto, .int .i64 a.src, .int .i64 a.sport, .int .i64 a.dst, .int .i64 a.dport, .int .i64 a.kind] 40)) (.cells #[.int .i64 b.proto, .int .i64 b.src, .int .i64 b.sport, .int .i64 b.dst, .int .i64 b.dport, .int .i64 b.kind] 40)
    simpa using this
  have hGB0 : Hid (((w.alloc (.cells #[.int .i64 a.proto, .int .i64 a.src, .int .i64 a.sport, .int .i64 a.dst, .int .i64 a.dport, .int .i64 a.kind] 40)).alloc (.cells #[.int .i64 b.proto, .int .i64 b.src, .int .i64 b.sport, .int .i64 b.dst, .int .i64 b.dport, .int .i64 b.kind] 40)).heap[w.heap.size + 1]? = some (.cells #[.int .i64 b.proto, .int .i64 b.src, .int .i64 b.sport, .int .i64 b.dst, .int .i64 b.dport, .int .i64 b.kind] 40)) := by
    show _ = _
    have := heap_newG (w.alloc (.cells #[.int .i64 a.proto, .int .i64 a.src, .int .i64 a.sport, .int .i64 a.dst, .int .i64 a.dport, .int .i64 a.kind] 40)) (.cells #[.int .i64 b.proto, .int .i64 b.src, .int .i64 b.sport, .int .i64 b.dst, .int .i64 b.dport, .int .i64 b.kind] 40)
    simpa using this
  have hL0 := hidS (((Below.refl w.heap.size w).alloc (Nat.le_refl _) (.cells #[.int .i64 a.proto, .int .i64 a.src, .int .i64 a.sport, .int .i64 a.dst, .int .i64 a.dport, .int .i64 a.kind] 40)).alloc (by simp) (.cells #[.int .i64 b.proto, .int .i64 b.src, .int .i64 b.sport, .int .i64 b.dst, .int .i64 b.dport, .int .i64 b.kind] 40))
  go_enter Tryz.func77, Tryz.ntmps77
  go_wp2_with fail
  refine (HB.out _).mono ?_
  rintro _ w1 ⟨rfl, hb1⟩
  have hGA1 := hidS (blk_later hGA0.out hb1)
  have hGB1 := hidS (blk_later hGB0.out hb1)
  have hL1 := hidS (hL0.out.trans (hb1.mono hL0.out.size))
  clear hb1 hL0 hGA0 hGB0
  go_upto_region 2 with fail
  have hGO2 := hidS (heap_newG w1 (.cells #[.int .i64 b.proto, .int .i64 b.src, .int .i64 b.sport, .int .i64 b.dst, .int .i64 b.dport, .int .i64 b.kind] 135))
  have hGA2 := hidS (blk_alloc hGA1.out (.cells #[.int .i64 b.proto, .int .i64 b.src, .int .i64 b.sport, .int .i64 b.dst, .int .i64 b.dport, .int .i64 b.kind] 135))
  have hGB2 := hidS (blk_alloc hGB1.out (.cells #[.int .i64 b.proto, .int .i64 b.src, .int .i64 b.sport, .int .i64 b.dst, .int .i64 b.dport, .int .i64 b.kind] 135))
  have hL2 := hidS (hL1.out.alloc hL1.out.size (.cells #[.int .i64 b.proto, .int .i64 b.src, .int .i64 b.sport, .int .i64 b.dst, .int .i64 b.dport, .int .i64 b.kind] 135))
  clear hL1 hGA1 hGB1
  generalize w1.alloc (.cells #[.int .i64 b.proto, .int .i64 b.src, .int .i64 b.sport, .int .i64 b.dst, .int .i64 b.dport, .int .i64 b.kind] 135) = w2 at hGA2 hGB2 hGO2 hL2 ⊢
  have cA0 := blk_cell hGA2.out 0
  have cA1 := blk_cell hGA2.out 1
  have cA2 := blk_cell hGA2.out 2
  have cA3 := blk_cell hGA2.out 3
  have cA4 := blk_cell hGA2.out 4
  have cA5 := blk_cell hGA2.out 5
  simp at cA0 cA1 cA2 cA3 cA4 cA5
  go_wp2_with fail
  refine (HA.out _).mono ?_
  rintro _ w3 ⟨rfl, hb3⟩
  clear cA0 cA1 cA2 cA3 cA4 cA5
  have hGA3 := hidS (blk_later hGA2.out hb3)
  have hGB3 := hidS (blk_later hGB2.out hb3)
  have hGO3 := hidS (blk_later hGO2.out hb3)
  have hL3 := hidS (hL2.out.trans (hb3.mono hL2.out.size))
  clear hb3 hL2 hGA2 hGB2 hGO2
  have cO0 := blk_cell hGO3.out 0
  have cO1 := blk_cell hGO3.out 1
  have cO2 := blk_cell hGO3.out 2
  have cO3 := blk_cell hGO3.out 3
  have cO4 := blk_cell hGO3.out 4
  have cO5 := blk_cell hGO3.out 5
  simp at cO0 cO1 cO2 cO3 cO4 cO5
  have cA0 := blk_cell hGA3.out 0
  have cA1 := blk_cell hGA3.out 1
  have cA2 := blk_cell hGA3.out 2
  have cA3 := blk_cell hGA3.out 3
  have cA4 := blk_cell hGA3.out 4
  have cA5 := blk_cell hGA3.out 5
  simp at cA0 cA1 cA2 cA3 cA4 cA5
  have hw := HO.out _ hL3.out
  have i0 := idx_0 a
  go_wp2_with fail
  refine wp_loop_rounds 1 ?_
  rw [rounds_succ]
  go_wp2_with (at_delete; refine wpList_delete_own _ rfl _ _ 100 40 rfl 99 tup_keyed Tryz.underlying100 _ M n D rfl hw _ _ rfl HK.out ?_; intro v1 hown1 hturn1)
  first | go_end0 | refine bodyPost_ret (results_none rfl _ _ _) rfl ?_
  exact ⟨rfl, (grown_belowT hL3.out).trans hturn1.grown, hown1⟩

set_option maxHeartbeats 2000000 in
theorem take_1_lt (a b : Tp) (M n : Nat) (D : DataW Unit) (w : World) (p0 : ¬ a.proto < b.proto) (q0 : ¬ b.proto < a.proto) (h : a.src < b.src) (hown : w.ownsMap Tryz.prog 40 (unitElem (H := Unit)) M n D) (hkey : keyOf Tryz.prog 40 (.agg #[.int .i64 b.proto, .int .i64 b.src, .int .i64 b.sport, .int .i64 b.dst, .int .i64 b.dport, .int .i64 b.kind]) = some (klT b)) :
    Calls Tryz.prog 77 #[.map (some M), .agg #[.int .i64 a.proto, .int .i64 a.src, .int .i64 a.sport, .int .i64 a.dst, .int .i64 a.dport, .int .i64 a.kind], .agg #[.int .i64 b.proto, .int .i64 b.src, .int .i64 b.sport, .int .i64 b.dst, .int .i64 b.dport, .int .i64 b.kind]] w fun e w' => e = .returned (.tuple #[]) ∧ w.grownBy w' (some M) ∧ w'.ownsMap Tryz.prog 40 (unitElem (H := Unit)) M n (D.del (klT b)) := by
  have HA := hidS (fun W => numbersOf_any a W)
  have HB := hidS (fun W => numbersOf_any b W)
  have HO := hidS (fun W (h : Below w.heap.size w W) => owns_below hown h)
  have HK := hidS hkey
  clear hkey hown
  have hGA0 : Hid (((w.alloc (.cells #[.int .i64 a.proto, .int .i64 a.src, .int .i64 a.sport, .int .i64 a.dst, .int .i64 a.dport, .int .i64 a.kind] 40)).alloc (.cells #[.int .i64 b.proto, .int .i64 b.src, .int .i64 b.sport, .int .i64 b.dst, .int .i64 b.dport, .int .i64 b.kind] 40)).heap[w.heap.size]? = some (.cells #[.int .i64 a.proto, .int .i64 a.src, .int .i64 a.sport, .int .i64 a.dst, .int .i64 a.dport, .int .i64 a.kind] 40)) := by
    show _ = _
    have := blk_alloc (heap_newG w (.cells #[.int .i64 a.proto, .int .i64 a.src, .int .i64 a.sport, .int .i64 a.dst, .int .i64 a.dport, .int .i64 a.kind] 40)) (.cells #[.int .i64 b.proto, .int .i64 b.src, .int .i64 b.sport, .int .i64 b.dst, .int .i64 b.dport, .int .i64 b.kind] 40)
    simpa using this
  have hGB0 : Hid (((w.alloc (.cells #[.int .i64 a.proto, .int .i64 a.src, .int .i64 a.sport, .int .i64 a.dst, .int .i64 a.dport, .int .i64 a.kind] 40)).alloc (.cells #[.int .i64 b.proto, .int .i64 b.src, .int .i64 b.sport, .int .i64 b.dst, .int .i64 b.dport, .int .i64 b.kind] 40)).heap[w.heap.size + 1]? = some (.cells #[.int .i64 b.proto, .int .i64 b.src, .int .i64 b.sport, .int .i64 b.dst, .int .i64 b.dport, .int .i64 b.kind] 40)) := by
    show _ = _
    have := heap_newG (w.alloc (.cells #[.int .i64 a.proto, .int .i64 a.src, .int .i64 a.sport, .int .i64 a.dst, .int .i64 a.dport, .int .i64 a.kind] 40)) (.cells #[.int .i64 b.proto, .int .i64 b.src, .int .i64 b.sport, .int .i64 b.dst, .int .i64 b.dport, .int .i64 b.kind] 40)
    simpa using this
  have hL0 := hidS (((Below.refl w.heap.size w).alloc (Nat.le_refl _) (.cells #[.int .i64 a.proto, .int .i64 a.src, .int .i64 a.sport, .int .i64 a.dst, .int .i64 a.dport, .int .i64 a.kind] 40)).alloc (by simp) (.cells #[.int .i64 b.proto, .int .i64 b.src, .int .i64 b.sport, .int .i64 b.dst, .int .i64 b.dport, .int .i64 b.kind] 40))
  go_enter Tryz.func77, Tryz.ntmps77
  go_wp2_with fail
  refine (HB.out _).mono ?_
  rintro _ w1 ⟨rfl, hb1⟩
  have hGA1 := hidS (blk_later hGA0.out hb1)
  have hGB1 := hidS (blk_later hGB0.out hb1)
  have hL1 := hidS (hL0.out.trans (hb1.mono hL0.out.size))
  clear hb1 hL0 hGA0 hGB0
  go_upto_region 2 with fail
  have hGO2 := hidS (heap_newG w1 (.cells #[.int .i64 b.proto, .int .i64 b.src, .int .i64 b.sport, .int .i64 b.dst, .int .i64 b.dport, .int .i64 b.kind] 135))
  have hGA2 := hidS (blk_alloc hGA1.out (.cells #[.int .i64 b.proto, .int .i64 b.src, .int .i64 b.sport, .int .i64 b.dst, .int .i64 b.dport, .int .i64 b.kind] 135))
  have hGB2 := hidS (blk_alloc hGB1.out (.cells #[.int .i64 b.proto, .int .i64 b.src, .int .i64 b.sport, .int .i64 b.dst, .int .i64 b.dport, .int .i64 b.kind] 135))
  have hL2 := hidS (hL1.out.alloc hL1.out.size (.cells #[.int .i64 b.proto, .int .i64 b.src, .int .i64 b.sport, .int .i64 b.dst, .int .i64 b.dport, .int .i64 b.kind] 135))
  clear hL1 hGA1 hGB1
  generalize w1.alloc (.cells #[.int .i64 b.proto, .int .i64 b.src, .int .i64 b.sport, .int .i64 b.dst, .int .i64 b.dport, .int .i64 b.kind] 135) = w2 at hGA2 hGB2 hGO2 hL2 ⊢
  have cA0 := blk_cell hGA2.out 0
  have cA1 := blk_cell hGA2.out 1
  have cA2 := blk_cell hGA2.out 2
  have cA3 := blk_cell hGA2.out 3
  have cA4 := blk_cell hGA2.out 4
  have cA5 := blk_cell hGA2.out 5
  simp at cA0 cA1 cA2 cA3 cA4 cA5
  go_wp2_with fail
  refine (HA.out _).mono ?_
  rintro _ w3 ⟨rfl, hb3⟩
  clear cA0 cA1 cA2 cA3 cA4 cA5
  have hGA3 := hidS (blk_later hGA2.out hb3)
  have hGB3 := hidS (blk_later hGB2.out hb3)
  have hGO3 := hidS (blk_later hGO2.out hb3)
  have hL3 := hidS (hL2.out.trans (hb3.mono hL2.out.size))
  clear hb3 hL2 hGA2 hGB2 hGO2
  have cO0 := blk_cell hGO3.out 0
  have cO1 := blk_cell hGO3.out 1
  have cO2 := blk_cell hGO3.out 2
  have cO3 := blk_cell hGO3.out 3
  have cO4 := blk_cell hGO3.out 4
  have cO5 := blk_cell hGO3.out 5
  simp at cO0 cO1 cO2 cO3 cO4 cO5
  have cB0 := blk_cell hGB3.out 0
  have cB1 := blk_cell hGB3.out 1
  have cB2 := blk_cell hGB3.out 2
  have cB3 := blk_cell hGB3.out 3
  have cB4 := blk_cell hGB3.out 4
  have cB5 := blk_cell hGB3.out 5
  simp at cB0 cB1 cB2 cB3 cB4 cB5
  have hw := HO.out _ hL3.out
  have i0 := idx_0 a
  have i1 := idx_1 a
  go_wp2_with fail
  refine wp_loop_rounds 2 ?_
  rw [rounds_succ]
  go_wp2_with fail
  rw [rounds_succ]
  go_wp2_with (at_delete; refine wpList_delete_own _ rfl _ _ 100 40 rfl 99 tup_keyed Tryz.underlying100 _ M n D rfl hw _ _ rfl HK.out ?_; intro v1 hown1 hturn1)
  first | go_end0 | refine bodyPost_ret (results_none rfl _ _ _) rfl ?_
  exact ⟨rfl, (grown_belowT hL3.out).trans hturn1.grown, hown1⟩

set_option maxHeartbeats 2000000 in
theorem take_1_gt (a b : Tp) (M n : Nat) (D : DataW Unit) (w : World) (p0 : ¬ a.proto < b.proto) (q0 : ¬ b.proto < a.proto) (h' : ¬ a.src < b.src) (h : b.src < a.src) (hown : w.ownsMap Tryz.prog 40 (unitElem (H := Unit)) M n D) (hkey : keyOf Tryz.prog 40 (.agg #[.int .i64 a.proto, .int .i64 a.src, .int .i64 a.sport, .int .i64 a.dst, .int .i64 a.dport, .int .i64 a.kind]) = some (klT a)) :
    Calls Tryz.prog 77 #[.map (some M), .agg #[.int .i64 a.proto, .int .i64 a.src, .int .i64 a.sport, .int .i64 a.dst, .int .i64 a.dport, .int .i64 a.kind], .agg #[.int .i64 b.proto, .int .i64 b.src, .int .i64 b.sport, .int .i64 b.dst, .int .i64 b.dport, .int .i64 b.kind]] w fun e w' => e = .returned (.tuple #[]) ∧ w.grownBy w' (some M) ∧ w'.ownsMap Tryz.prog 40 (unitElem (H := Unit)) M n (D.del (klT a)) := by
  have HA := hidS (fun W => numbersOf_any a W)
  have HB := hidS (fun W => numbersOf_any b W)
  have HO := hidS (fun W (h : Below w.heap.size w W) => owns_below hown h)
  have HK := hidS hkey
  clear hkey hown
  have hGA0 : Hid (((w.alloc (.cells #[.int .i64 a.proto, .int .i64 a.src, .int .i64 a.sport, .int .i64 a.dst, .int .i64 a.dport, .int .i64 a.kind] 40)).alloc (.cells #[.int .i64 b.proto, .int .i64 b.src, .int .i64 b.sport, .int .i64 b.dst, .int .i64 b.dport, .int .i64 b.kind] 40)).heap[w.heap.size]? = some (.cells #[.int .i64 a.proto, .int .i64 a.src, .int .i64 a.sport, .int .i64 a.dst, .int .i64 a.dport, .int .i64 a.kind] 40)) := by
    show _ = _
    have := blk_alloc (heap_newG w (.cells #[.int .i64 a.proto, .int .i64 a.src, .int .i64 a.sport, .int .i64 a.dst, .int .i64 a.dport, .int .i64 a.kind] 40)) (.cells #[.int .i64 b.proto, .int .i64 b.src, .int .i64 b.sport, .int .i64 b.dst, .int .i64 b.dport, .int .i64 b.kind] 40)
    simpa using this
  have hGB0 : Hid (((w.alloc (.cells #[.int .i64 a.proto, .int .i64 a.src, .int .i64 a.sport, .int .i64 a.dst, .int .i64 a.dport, .int .i64 a.kind] 40)).alloc (.cells #[.int .i64 b.proto, .int .i64 b.src, .int .i64 b.sport, .int .i64 b.dst, .int .i64 b.dport, .int .i64 b.kind] 40)).heap[w.heap.size + 1]? = some (.cells #[.int .i64 b.proto, .int .i64 b.src, .int .i64 b.sport, .int .i64 b.dst, .int .i64 b.dport, .int .i64 b.kind] 40)) := by
    show _ = _
    have := heap_newG (w.alloc (.cells #[.int .i64 a.proto, .int .i64 a.src, .int .i64 a.sport, .int .i64 a.dst, .int .i64 a.dport, .int .i64 a.kind] 40)) (.cells #[.int .i64 b.proto, .int .i64 b.src, .int .i64 b.sport, .int .i64 b.dst, .int .i64 b.dport, .int .i64 b.kind] 40)
    simpa using this
  have hL0 := hidS (((Below.refl w.heap.size w).alloc (Nat.le_refl _) (.cells #[.int .i64 a.proto, .int .i64 a.src, .int .i64 a.sport, .int .i64 a.dst, .int .i64 a.dport, .int .i64 a.kind] 40)).alloc (by simp) (.cells #[.int .i64 b.proto, .int .i64 b.src, .int .i64 b.sport, .int .i64 b.dst, .int .i64 b.dport, .int .i64 b.kind] 40))
  go_enter Tryz.func77, Tryz.ntmps77
  go_wp2_with fail
  refine (HB.out _).mono ?_
  rintro _ w1 ⟨rfl, hb1⟩
  have hGA1 := hidS (blk_later hGA0.out hb1)
  have hGB1 := hidS (blk_later hGB0.out hb1)
  have hL1 := hidS (hL0.out.trans (hb1.mono hL0.out.size))
  clear hb1 hL0 hGA0 hGB0
  go_upto_region 2 with fail
  have hGO2 := hidS (heap_newG w1 (.cells #[.int .i64 b.proto, .int .i64 b.src, .int .i64 b.sport, .int .i64 b.dst, .int .i64 b.dport, .int .i64 b.kind] 135))
  have hGA2 := hidS (blk_alloc hGA1.out (.cells #[.int .i64 b.proto, .int .i64 b.src, .int .i64 b.sport, .int .i64 b.dst, .int .i64 b.dport, .int .i64 b.kind] 135))
  have hGB2 := hidS (blk_alloc hGB1.out (.cells #[.int .i64 b.proto, .int .i64 b.src, .int .i64 b.sport, .int .i64 b.dst, .int .i64 b.dport, .int .i64 b.kind] 135))
  have hL2 := hidS (hL1.out.alloc hL1.out.size (.cells #[.int .i64 b.proto, .int .i64 b.src, .int .i64 b.sport, .int .i64 b.dst, .int .i64 b.dport, .int .i64 b.kind] 135))
  clear hL1 hGA1 hGB1
  generalize w1.alloc (.cells #[.int .i64 b.proto, .int .i64 b.src, .int .i64 b.sport, .int .i64 b.dst, .int .i64 b.dport, .int .i64 b.kind] 135) = w2 at hGA2 hGB2 hGO2 hL2 ⊢
  have cA0 := blk_cell hGA2.out 0
  have cA1 := blk_cell hGA2.out 1
  have cA2 := blk_cell hGA2.out 2
  have cA3 := blk_cell hGA2.out 3
  have cA4 := blk_cell hGA2.out 4
  have cA5 := blk_cell hGA2.out 5
  simp at cA0 cA1 cA2 cA3 cA4 cA5
  go_wp2_with fail
  refine (HA.out _).mono ?_
  rintro _ w3 ⟨rfl, hb3⟩
  clear cA0 cA1 cA2 cA3 cA4 cA5
  have hGA3 := hidS (blk_later hGA2.out hb3)
  have hGB3 := hidS (blk_later hGB2.out hb3)
  have hGO3 := hidS (blk_later hGO2.out hb3)
  have hL3 := hidS (hL2.out.trans (hb3.mono hL2.out.size))
  clear hb3 hL2 hGA2 hGB2 hGO2
  have cO0 := blk_cell hGO3.out 0
  have cO1 := blk_cell hGO3.out 1
  have cO2 := blk_cell hGO3.out 2
  have cO3 := blk_cell hGO3.out 3
  have cO4 := blk_cell hGO3.out 4
  have cO5 := blk_cell hGO3.out 5
  simp at cO0 cO1 cO2 cO3 cO4 cO5
  have cA0 := blk_cell hGA3.out 0
  have cA1 := blk_cell hGA3.out 1
  have cA2 := blk_cell hGA3.out 2
  have cA3 := blk_cell hGA3.out 3
  have cA4 := blk_cell hGA3.out 4
  have cA5 := blk_cell hGA3.out 5
  simp at cA0 cA1 cA2 cA3 cA4 cA5
  have hw := HO.out _ hL3.out
  have i0 := idx_0 a
  have i1 := idx_1 a
  go_wp2_with fail
  refine wp_loop_rounds 2 ?_
  rw [rounds_succ]
  go_wp2_with fail
  rw [rounds_succ]
  go_wp2_with (at_delete; refine wpList_delete_own _ rfl _ _ 100 40 rfl 99 tup_keyed Tryz.underlying100 _ M n D rfl hw _ _ rfl HK.out ?_; intro v1 hown1 hturn1)
  first | go_end0 | refine bodyPost_ret (results_none rfl _ _ _) rfl ?_
  exact ⟨rfl, (grown_belowT hL3.out).trans hturn1.grown, hown1⟩

set_option maxHeartbeats 2000000 in
theorem take_2_lt (a b : Tp) (M n : Nat) (D : DataW Unit) (w : World) (p0 : ¬ a.proto < b.proto) (q0 : ¬ b.proto < a.proto) (p1 : ¬ a.src < b.src) (q1 : ¬ b.src < a.src) (h : a.sport < b.sport) (hown : w.ownsMap Tryz.prog 40 (unitElem (H := Unit)) M n D) (hkey : keyOf Tryz.prog 40 (.agg #[.int .i64 b.proto, .int .i64 b.src, .int .i64 b.sport, .int .i64 b.dst, .int .i64 b.dport, .int .i64 b.kind]) = some (klT b)) :
    Calls Tryz.prog 77 #[.map (some M), .agg #[.int .i64 a.proto, .int .i64 a.src, .int .i64 a.sport, .int .i64 a.dst, .int .i64 a.dport, .int .i64 a.kind], .agg #[.int .i64 b.proto, .int .i64 b.src, .int .i64 b.sport, .int .i64 b.dst, .int .i64 b.dport, .int .i64 b.kind]] w fun e w' => e = .returned (.tuple #[]) ∧ w.grownBy w' (some M) ∧ w'.ownsMap Tryz.prog 40 (unitElem (H := Unit)) M n (D.del (klT b)) := by
  have HA := hidS (fun W => numbersOf_any a W)
  have HB := hidS (fun W => numbersOf_any b W)
  have HO := hidS (fun W (h : Below w.heap.size w W) => owns_below hown h)
  have HK := hidS hkey
  clear hkey hown
  have hGA0 : Hid (((w.alloc (.cells #[.int .i64 a.proto, .int .i64 a.src, .int .i64 a.sport, .int .i64 a.dst, .int .i64 a.dport, .int .i64 a.kind] 40)).alloc (.cells #[.int .i64 b.proto, .int .i64 b.src, .int .i64 b.sport, .int .i64 b.dst, .int .i64 b.dport, .int .i64 b.kind] 40)).heap[w.heap.size]? = some (.cells #[.int .i64 a.proto, .int .i64 a.src, .int .i64 a.sport, .int .i64 a.dst, .int .i64 a.dport, .int .i64 a.kind] 40)) := by
    show _ = _
    have := blk_alloc (heap_newG w (.cells #[.int .i64 a.proto, .int .i64 a.src, .int .i64 a.sport, .int .i64 a.dst, .int .i64 a.dport, .int .i64 a.kind] 40)) (.cells #[.int .i64 b.proto, .int .i64 b.src, .int .i64 b.sport, .int .i64 b.dst, .int .i64 b.dport, .int .i64 b.kind] 40)
    simpa using this
  have hGB0 : Hid (((w.alloc (.cells #[.int .i64 a.proto, .int .i64 a.src, .int .i64 a.sport, .int .i64 a.dst, .int .i64 a.dport, .int .i64 a.kind] 40)).alloc (.cells #[.int .i64 b.proto, .int .i64 b.src, .int .i64 b.sport, .int .i64 b.dst, .int .i64 b.dport, .int .i64 b.kind] 40)).heap[w.heap.size + 1]? = some (.cells #[.int .i64 b.proto, .int .i64 b.src, .int .i64 b.sport, .int .i64 b.dst, .int .i64 b.dport, .int .i64 b.kind] 40)) := by
    show _ = _
    have := heap_newG (w.alloc (.cells #[.int .i64 a.proto, .int .i64 a.src, .int .i64 a.sport, .int .i64 a.dst, .int .i64 a.dport, .int .i64 a.kind] 40)) (.cells #[.int .i64 b.proto, .int .i64 b.src, .int .i64 b.sport, .int .i64 b.dst, .int .i64 b.dport, .int .i64 b.kind] 40)
    simpa using this
  have hL0 := hidS (((Below.refl w.heap.size w).alloc (Nat.le_refl _) (.cells #[.int .i64 a.proto, .int .i64 a.src, .int .i64 a.sport, .int .i64 a.dst, .int .i64 a.dport, .int .i64 a.kind] 40)).alloc (by simp) (.cells #[.int .i64 b.proto, .int .i64 b.src, .int .i64 b.sport, .int .i64 b.dst, .int .i64 b.dport, .int .i64 b.kind] 40))
  go_enter Tryz.func77, Tryz.ntmps77
  go_wp2_with fail
  refine (HB.out _).mono ?_
  rintro _ w1 ⟨rfl, hb1⟩
  have hGA1 := hidS (blk_later hGA0.out hb1)
  have hGB1 := hidS (blk_later hGB0.out hb1)
  have hL1 := hidS (hL0.out.trans (hb1.mono hL0.out.size))
  clear hb1 hL0 hGA0 hGB0
  go_upto_region 2 with fail
  have hGO2 := hidS (heap_newG w1 (.cells #[.int .i64 b.proto, .int .i64 b.src, .int .i64 b.sport, .int .i64 b.dst, .int .i64 b.dport, .int .i64 b.kind] 135))
  have hGA2 := hidS (blk_alloc hGA1.out (.cells #[.int .i64 b.proto, .int .i64 b.src, .int .i64 b.sport, .int .i64 b.dst, .int .i64 b.dport, .int .i64 b.kind] 135))
  have hGB2 := hidS (blk_alloc hGB1.out (.cells #[.int .i64 b.proto, .int .i64 b.src, .int .i64 b.sport, .int .i64 b.dst, .int .i64 b.dport, .int .i64 b.kind] 135))
  have hL2 := hidS (hL1.out.alloc hL1.out.size (.cells #[.int .i64 b.proto, .int .i64 b.src, .int .i64 b.sport, .int .i64 b.dst, .int .i64 b.dport, .int .i64 b.kind] 135))
  clear hL1 hGA1 hGB1
  generalize w1.alloc (.cells #[.int .i64 b.proto, .int .i64 b.src, .int .i64 b.sport, .int .i64 b.dst, .int .i64 b.dport, .int .i64 b.kind] 135) = w2 at hGA2 hGB2 hGO2 hL2 ⊢
  have cA0 := blk_cell hGA2.out 0
  have cA1 := blk_cell hGA2.out 1
  have cA2 := blk_cell hGA2.out 2
  have cA3 := blk_cell hGA2.out 3
  have cA4 := blk_cell hGA2.out 4
  have cA5 := blk_cell hGA2.out 5
  simp at cA0 cA1 cA2 cA3 cA4 cA5
  go_wp2_with fail
  refine (HA.out _).mono ?_
  rintro _ w3 ⟨rfl, hb3⟩
  clear cA0 cA1 cA2 cA3 cA4 cA5
  have hGA3 := hidS (blk_later hGA2.out hb3)
  have hGB3 := hidS (blk_later hGB2.out hb3)
  have hGO3 := hidS (blk_later hGO2.out hb3)
  have hL3 := hidS (hL2.out.trans (hb3.mono hL2.out.size))
  clear hb3 hL2 hGA2 hGB2 hGO2
  have cO0 := blk_cell hGO3.out 0
  have cO1 := blk_cell hGO3.out 1
  have cO2 := blk_cell hGO3.out 2
  have cO3 := blk_cell hGO3.out 3
  have cO4 := blk_cell hGO3.out 4
  have cO5 := blk_cell hGO3.out 5
  simp at cO0 cO1 cO2 cO3 cO4 cO5
  have cB0 := blk_cell hGB3.out 0
  have cB1 := blk_cell hGB3.out 1
  have cB2 := blk_cell hGB3.out 2
  have cB3 := blk_cell hGB3.out 3
  have cB4 := blk_cell hGB3.out 4
  have cB5 := blk_cell hGB3.out 5
  simp at cB0 cB1 cB2 cB3 cB4 cB5
  have hw := HO.out _ hL3.out
  have i0 := idx_0 a
  have i1 := idx_1 a
  have i2 := idx_2 a
  go_wp2_with fail
  refine wp_loop_rounds 3 ?_
  rw [rounds_succ]
  go_wp2_with fail
  rw [rounds_succ]
  go_wp2_with fail
  rw [rounds_succ]
  go_wp2_with (at_delete; refine wpList_delete_own _ rfl _ _ 100 40 rfl 99 tup_keyed Tryz.underlying100 _ M n D rfl hw _ _ rfl HK.out ?_; intro v1 hown1 hturn1)
  first | go_end0 | refine bodyPost_ret (results_none rfl _ _ _) rfl ?_
  exact ⟨rfl, (grown_belowT hL3.out).trans hturn1.grown, hown1⟩

set_option maxHeartbeats 2000000 in
theorem take_2_gt (a b : Tp) (M n : Nat) (D : DataW Unit) (w : World) (p0 : ¬ a.proto < b.proto) (q0 : ¬ b.proto < a.proto) (p1 : ¬ a.src < b.src) (q1 : ¬ b.src < a.src) (h' : ¬ a.sport < b.sport) (h : b.sport < a.sport) (hown : w.ownsMap Tryz.prog 40 (unitElem (H := Unit)) M n D) (hkey : keyOf Tryz.prog 40 (.agg #[.int .i64 a.proto, .int .i64 a.src, .int .i64 a.sport, .int .i64 a.dst, .int .i64 a.dport, .int .i64 a.kind]) = some (klT a)) :
    Calls Tryz.prog 77 #[.map (some M), .agg #[.int .i64 a.proto, .int .i64 a.src, .int .i64 a.sport, .int .i64 a.dst, .int .i64 a.dport, .int .i64 a.kind], .agg #[.int .i64 b.proto, .int .i64 b.src, .int .i64 b.sport, .int .i64 b.dst, .int .i64 b.dport, .int .i64 b.kind]] w fun e w' => e = .returned (.tuple #[]) ∧ w.grownBy w' (some M) ∧ w'.ownsMap Tryz.prog 40 (unitElem (H := Unit)) M n (D.del (klT a)) := by
  have HA := hidS (fun W => numbersOf_any a W)
  have HB := hidS (fun W => numbersOf_any b W)
  have HO := hidS (fun W (h : Below w.heap.size w W) => owns_below hown h)
  have HK := hidS hkey
  clear hkey hown
  have hGA0 : Hid (((w.alloc (.cells #[.int .i64 a.proto, .int .i64 a.src, .int .i64 a.sport, .int .i64 a.dst, .int .i64 a.dport, .int .i64 a.kind] 40)).alloc (.cells #[.int .i64 b.proto, .int .i64 b.src, .int .i64 b.sport, .int .i64 b.dst, .int .i64 b.dport, .int .i64 b.kind] 40)).heap[w.heap.size]? = some (.cells #[.int .i64 a.proto, .int .i64 a.src, .int .i64 a.sport, .int .i64 a.dst, .int .i64 a.dport, .int .i64 a.kind] 40)) := by
    show _ = _
    have := blk_alloc (heap_newG w (.cells #[.int .i64 a.proto, .int .i64 a.src, .int .i64 a.sport, .int .i64 a.dst, .int .i64 a.dport, .int .i64 a.kind] 40)) (.cells #[.int .i64 b.proto, .int .i64 b.src, .int .i64 b.sport, .int .i64 b.dst, .int .i64 b.dport, .int .i64 b.kind] 40)
    simpa using this
  have hGB0 : Hid (((w.alloc (.cells #[.int .i64 a.proto, .int .i64 a.src, .int .i64 a.sport, .int .i64 a.dst, .int .i64 a.dport, .int .i64 a.kind] 40)).alloc (.cells #[.int .i64 b.proto, .int .i64 b.src, .int .i64 b.sport, .int .i64 b.dst, .int .i64 b.dport, .int .i64 b.kind] 40)).heap[w.heap.size + 1]? = some (.cells #[.int .i64 b.proto, .int .i64 b.src, .int .i64 b.sport, .int .i64 b.dst, .int .i64 b.dport, .int .i64 b.kind] 40)) := by
    show _ = _
    have := heap_newG (w.alloc (.cells #[.int .i64 a.proto, .int .i64 a.src, .int .i64 a.sport, .int .i64 a.dst, .int .i64 a.dport, .int .i64 a.kind] 40)) (.cells #[.int .i64 b.proto, .int .i64 b.src, .int .i64 b.sport, .int .i64 b.dst, .int .i64 b.dport, .int .i64 b.kind] 40)
    simpa using this
  have hL0 := hidS (((Below.refl w.heap.size w).alloc (Nat.le_refl _) (.cells #[.int .i64 a.proto, .int .i64 a.src, .int .i64 a.sport, .int .i64 a.dst, .int .i64 a.dport, .int .i64 a.kind] 40)).alloc (by simp) (.cells #[.int .i64 b.proto, .int .i64 b.src, .int .i64 b.sport, .int .i64 b.dst, .int .i64 b.dport, .int .i64 b.kind] 40))
  go_enter Tryz.func77, Tryz.ntmps77
  go_wp2_with fail
  refine (HB.out _).mono ?_
  rintro _ w1 ⟨rfl, hb1⟩
  have hGA1 := hidS (blk_later hGA0.out hb1)
  have hGB1 := hidS (blk_later hGB0.out hb1)
  have hL1 := hidS (hL0.out.trans (hb1.mono hL0.out.size))
  clear hb1 hL0 hGA0 hGB0
  go_upto_region 2 with fail
  have hGO2 := hidS (heap_newG w1 (.cells #[.int .i64 b.proto, .int .i64 b.src, .int .i64 b.sport, .int .i64 b.dst, .int .i64 b.dport, .int .i64 b.kind] 135))
  have hGA2 := hidS (blk_alloc hGA1.out (.cells #[.int .i64 b.proto, .int .i64 b.src, .int .i64 b.sport, .int .i64 b.dst, .int .i64 b.dport, .int .i64 b.kind] 135))
  have hGB2 := hidS (blk_alloc hGB1.out (.cells #[.int .i64 b.proto, .int .i64 b.src, .int .i64 b.sport, .int .i64 b.dst, .int .i64 b.dport, .int .i64 b.kind] 135))
  have hL2 := hidS (hL1.out.alloc hL1.out.size (.cells #[.int .i64 b.proto, .int .i64 b.src, .int .i64 b.sport, .int .i64 b.dst, .int .i64 b.dport, .int .i64 b.kind] 135))
  clear hL1 hGA1 hGB1
  generalize w1.alloc (.cells #[.int .i64 b.proto, .int .i64 b.src, .int .i64 b.sport, .int .i64 b.dst, .int .i64 b.dport, .int .i64 b.kind] 135) = w2 at hGA2 hGB2 hGO2 hL2 ⊢
  have cA0 := blk_cell hGA2.out 0
  have cA1 := blk_cell hGA2.out 1
  have cA2 := blk_cell hGA2.out 2
  have cA3 := blk_cell hGA2.out 3
  have cA4 := blk_cell hGA2.out 4
  have cA5 := blk_cell hGA2.out 5
  simp at cA0 cA1 cA2 cA3 cA4 cA5
  go_wp2_with fail
  refine (HA.out _).mono ?_
  rintro _ w3 ⟨rfl, hb3⟩
  clear cA0 cA1 cA2 cA3 cA4 cA5
  have hGA3 := hidS (blk_later hGA2.out hb3)
  have hGB3 := hidS (blk_later hGB2.out hb3)
  have hGO3 := hidS (blk_later hGO2.out hb3)
  have hL3 := hidS (hL2.out.trans (hb3.mono hL2.out.size))
  clear hb3 hL2 hGA2 hGB2 hGO2
  have cO0 := blk_cell hGO3.out 0
  have cO1 := blk_cell hGO3.out 1
  have cO2 := blk_cell hGO3.out 2
  have cO3 := blk_cell hGO3.out 3
  have cO4 := blk_cell hGO3.out 4
  have cO5 := blk_cell hGO3.out 5
  simp at cO0 cO1 cO2 cO3 cO4 cO5
  have cA0 := blk_cell hGA3.out 0
  have cA1 := blk_cell hGA3.out 1
  have cA2 := blk_cell hGA3.out 2
  have cA3 := blk_cell hGA3.out 3
  have cA4 := blk_cell hGA3.out 4
  have cA5 := blk_cell hGA3.out 5
  simp at cA0 cA1 cA2 cA3 cA4 cA5
  have hw := HO.out _ hL3.out
  have i0 := idx_0 a
  have i1 := idx_1 a
  have i2 := idx_2 a
  go_wp2_with fail
  refine wp_loop_rounds 3 ?_
  rw [rounds_succ]
  go_wp2_with fail
  rw [rounds_succ]
  go_wp2_with fail
  rw [rounds_succ]
  go_wp2_with (at_delete; refine wpList_delete_own _ rfl _ _ 100 40 rfl 99 tup_keyed Tryz.underlying100 _ M n D rfl hw _ _ rfl HK.out ?_; intro v1 hown1 hturn1)
  first | go_end0 | refine bodyPost_ret (results_none rfl _ _ _) rfl ?_
  exact ⟨rfl, (grown_belowT hL3.out).trans hturn1.grown, hown1⟩

set_option maxHeartbeats 2000000 in
theorem take_3_lt (a b : Tp) (M n : Nat) (D : DataW Unit) (w : World) (p0 : ¬ a.proto < b.proto) (q0 : ¬ b.proto < a.proto) (p1 : ¬ a.src < b.src) (q1 : ¬ b.src < a.src) (p2 : ¬ a.sport < b.sport) (q2 : ¬ b.sport < a.sport) (h : a.dst < b.dst) (hown : w.ownsMap Tryz.prog 40 (unitElem (H := Unit)) M n D) (hkey : keyOf Tryz.prog 40 (.agg #[.int .i64 b.proto, .int .i64 b.src, .int .i64 b.sport, .int .i64 b.dst, .int .i64 b.dport, .int .i64 b.kind]) = some (klT b)) :
    Calls Tryz.prog 77 #[.map (some M), .agg #[.int .i64 a.proto, .int .i64 a.src, .int .i64 a.sport, .int .i64 a.dst, .int .i64 a.dport, .int .i64 a.kind], .agg #[.int .i64 b.proto, .int .i64 b.src, .int .i64 b.sport, .int .i64 b.dst, .int .i64 b.dport, .int .i64 b.kind]] w fun e w' => e = .returned (.tuple #[]) ∧ w.grownBy w' (some M) ∧ w'.ownsMap Tryz.prog 40 (unitElem (H := Unit)) M n (D.del (klT b)) := by
  have HA := hidS (fun W => numbersOf_any a W)
  have HB := hidS (fun W => numbersOf_any b W)
  have HO := hidS (fun W (h : Below w.heap.size w W) => owns_below hown h)
  have HK := hidS hkey
  clear hkey hown
  have hGA0 : Hid (((w.alloc (.cells #[.int .i64 a.proto, .int .i64 a.src, .int .i64 a.sport, .int .i64 a.dst, .int .i64 a.dport, .int .i64 a.kind] 40)).alloc (.cells #[.int .i64 b.proto, .int .i64 b.src, .int .i64 b.sport, .int .i64 b.dst, .int .i64 b.dport, .int .i64 b.kind] 40)).heap[w.heap.size]? = some (.cells #[.int .i64 a.proto, .int .i64 a.src, .int .i64 a.sport, .int .i64 a.dst, .int .i64 a.dport, .int .i64 a.kind] 40)) := by
    show _ = _
    have := blk_alloc (heap_newG w (.cells #[.int .i64 a.proto, .int .i64 a.src, .int .i64 a.sport, .int .i64 a.dst, .int .i64 a.dport, .int .i64 a.kind] 40)) (.cells #[.int .i64 b.proto, .int .i64 b.src, .int .i64 b.sport, .int .i64 b.dst, .int .i64 b.dport, .int .i64 b.kind] 40)
    simpa using this
  have hGB0 : Hid (((w.alloc (.cells #[.int .i64 a.proto, .int .i64 a.src, .int .i64 a.sport, .int .i64 a.dst, .int .i64 a.dport, .int .i64 a.kind] 40)).alloc (.cells #[.int .i64 b.proto, .int .i64 b.src, .int .i64 b.sport, .int .i64 b.dst, .int .i64 b.dport, .int .i64 b.kind] 40)).heap[w.heap.size + 1]? = some (.cells #[.int .i64 b.proto, .int .i64 b.src, .int .i64 b.sport, .int .i64 b.dst, .int .i64 b.dport, .int .i64 b.kind] 40)) := by
    show _ = _
    have := heap_newG (w.alloc (.cells #[.int .i64 a.proto, .int .i64 a.src, .int .i64 a.sport, .int .i64 a.dst, .int .i64 a.dport, .int .i64 a.kind] 40)) (.cells #[.int .i64 b.proto, .int .i64 b.src, .int .i64 b.sport, .int .i64 b.dst, .int .i64 b.dport, .int .i64 b.kind] 40)
    simpa using this
  have hL0 := hidS (((Below.refl w.heap.size w).alloc (Nat.le_refl _) (.cells #[.int .i64 a.proto, .int .i64 a.src, .int .i64 a.sport, .int .i64 a.dst, .int .i64 a.dport, .int .i64 a.kind] 40)).alloc (by simp) (.cells #[.int .i64 b.proto, .int .i64 b.src, .int .i64 b.sport, .int .i64 b.dst, .int .i64 b.dport, .int .i64 b.kind] 40))
  go_enter Tryz.func77, Tryz.ntmps77
  go_wp2_with fail
  refine (HB.out _).mono ?_
  rintro _ w1 ⟨rfl, hb1⟩
  have hGA1 := hidS (blk_later hGA0.out hb1)
  have hGB1 := hidS (blk_later hGB0.out hb1)
  have hL1 := hidS (hL0.out.trans (hb1.mono hL0.out.size))
  clear hb1 hL0 hGA0 hGB0
  go_upto_region 2 with fail
  have hGO2 := hidS (heap_newG w1 (.cells #[.int .i64 b.proto, .int .i64 b.src, .int .i64 b.sport, .int .i64 b.dst, .int .i64 b.dport, .int .i64 b.kind] 135))
  have hGA2 := hidS (blk_alloc hGA1.out (.cells #[.int .i64 b.proto, .int .i64 b.src, .int .i64 b.sport, .int .i64 b.dst, .int .i64 b.dport, .int .i64 b.kind] 135))
  have hGB2 := hidS (blk_alloc hGB1.out (.cells #[.int .i64 b.proto, .int .i64 b.src, .int .i64 b.sport, .int .i64 b.dst, .int .i64 b.dport, .int .i64 b.kind] 135))
  have hL2 := hidS (hL1.out.alloc hL1.out.size (.cells #[.int .i64 b.proto, .int .i64 b.src, .int .i64 b.sport, .int .i64 b.dst, .int .i64 b.dport, .int .i64 b.kind] 135))
  clear hL1 hGA1 hGB1
  generalize w1.alloc (.cells #[.int .i64 b.proto, .int .i64 b.src, .int .i64 b.sport, .int .i64 b.dst, .int .i64 b.dport, .int .i64 b.kind] 135) = w2 at hGA2 hGB2 hGO2 hL2 ⊢
  have cA0 := blk_cell hGA2.out 0
  have cA1 := blk_cell hGA2.out 1
  have cA2 := blk_cell hGA2.out 2
  have cA3 := blk_cell hGA2.out 3
  have cA4 := blk_cell hGA2.out 4
  have cA5 := blk_cell hGA2.out 5
  simp at cA0 cA1 cA2 cA3 cA4 cA5
  go_wp2_with fail
  refine (HA.out _).mono ?_
  rintro _ w3 ⟨rfl, hb3⟩
  clear cA0 cA1 cA2 cA3 cA4 cA5
  have hGA3 := hidS (blk_later hGA2.out hb3)
  have hGB3 := hidS (blk_later hGB2.out hb3)
  have hGO3 := hidS (blk_later hGO2.out hb3)
  have hL3 := hidS (hL2.out.trans (hb3.mono hL2.out.size))
  clear hb3 hL2 hGA2 hGB2 hGO2
  have cO0 := blk_cell hGO3.out 0
  have cO1 := blk_cell hGO3.out 1
  have cO2 := blk_cell hGO3.out 2
  have cO3 := blk_cell hGO3.out 3
  have cO4 := blk_cell hGO3.out 4
  have cO5 := blk_cell hGO3.out 5
  simp at cO0 cO1 cO2 cO3 cO4 cO5
  have cB0 := blk_cell hGB3.out 0
  have cB1 := blk_cell hGB3.out 1
  have cB2 := blk_cell hGB3.out 2
  have cB3 := blk_cell hGB3.out 3
  have cB4 := blk_cell hGB3.out 4
  have cB5 := blk_cell hGB3.out 5
  simp at cB0 cB1 cB2 cB3 cB4 cB5
  have hw := HO.out _ hL3.out
  have i0 := idx_0 a
  have i1 := idx_1 a
  have i2 := idx_2 a
  have i3 := idx_3 a
  go_wp2_with fail
  refine wp_loop_rounds 4 ?_
  rw [rounds_succ]
  go_wp2_with fail
  rw [rounds_succ]
  go_wp2_with fail
  rw [rounds_succ]
  go_wp2_with fail
  rw [rounds_succ]
  go_wp2_with (at_delete; refine wpList_delete_own _ rfl _ _ 100 40 rfl 99 tup_keyed Tryz.underlying100 _ M n D rfl hw _ _ rfl HK.out ?_; intro v1 hown1 hturn1)
  first | go_end0 | refine bodyPost_ret (results_none rfl _ _ _) rfl ?_
  exact ⟨rfl, (grown_belowT hL3.out).trans hturn1.grown, hown1⟩

set_option maxHeartbeats 2000000 in
theorem take_3_gt (a b : Tp) (M n : Nat) (D : DataW Unit) (w : World) (p0 : ¬ a.proto < b.proto) (q0 : ¬ b.proto < a.proto) (p1 : ¬ a.src < b.src) (q1 : ¬ b.src < a.src) (p2 : ¬ a.sport < b.sport) (q2 : ¬ b.sport < a.sport) (h' : ¬ a.dst < b.dst) (h : b.dst < a.dst) (hown : w.ownsMap Tryz.prog 40 (unitElem (H := Unit)) M n D) (hkey : keyOf Tryz.prog 40 (.agg #[.int .i64 a.proto, .int .i64 a.src, .int .i64 a.sport, .int .i64 a.dst, .int .i64 a.dport, .int .i64 a.kind]) = some (klT a)) :
    Calls Tryz.prog 77 #[.map (some M), .agg #[.int .i64 a.proto, .int .i64 a.src, .int .i64 a.sport, .int .i64 a.dst, .int .i64 a.dport, .int .i64 a.kind], .agg #[.int .i64 b.proto, .int .i64 b.src, .int .i64 b.sport, .int .i64 b.dst, .int .i64 b.dport, .int .i64 b.kind]] w fun e w' => e = .returned (.tuple #[]) ∧ w.grownBy w' (some M) ∧ w'.ownsMap Tryz.prog 40 (unitElem (H := Unit)) M n (D.del (klT a)) := by
  have HA := hidS (fun W => numbersOf_any a W)
  have HB := hidS (fun W => numbersOf_any b W)
  have HO := hidS (fun W (h : Below w.heap.size w W) => owns_below hown h)
  have HK := hidS hkey
  clear hkey hown
  have hGA0 : Hid (((w.alloc (.cells #[.int .i64 a.proto, .int .i64 a.src, .int .i64 a.sport, .int .i64 a.dst, .int .i64 a.dport, .int .i64 a.kind] 40)).alloc (.cells #[.int .i64 b.proto, .int .i64 b.src, .int .i64 b.sport, .int .i64 b.dst, .int .i64 b.dport, .int .i64 b.kind] 40)).heap[w.heap.size]? = some (.cells #[.int .i64 a.proto, .int .i64 a.src, .int .i64 a.sport, .int .i64 a.dst, .int .i64 a.dport, .int .i64 a.kind] 40)) := by
    show _ = _
    have := blk_alloc (heap_newG w (.cells #[.int .i64 a.proto, .int .i64 a.src, .int .i64 a.sport, .int .i64 a.dst, .int .i64 a.dport, .int .i64 a.kind] 40)) (.cells #[.int .i64 b.proto, .int .i64 b.src, .int .i64 b.sport, .int .i64 b.dst, .int .i64 b.dport, .int .i64 b.kind] 40)
    simpa using this
  have hGB0 : Hid (((w.alloc (.cells #[.int .i64 a.proto, .int .i64 a.src, .int .i64 a.sport, .int .i64 a.dst, .int .i64 a.dport, .int .i64 a.kind] 40)).alloc (.cells #[.int .i64 b.proto, .int .i64 b.src, .int .i64 b.sport, .int .i64 b.dst, .int .i64 b.dport, .int .i64 b.kind] 40)).heap[w.heap.size + 1]? = some (.cells #[.int .i64 b.proto, .int .i64 b.src, .int .i64 b.sport, .int .i64 b.dst, .int .i64 b.dport, .int .i64 b.kind] 40)) := by
    show _ = _
    have := heap_newG (w.alloc (.cells #[.int .i64 a.proto, .int .i64 a.src, .int .i64 a.sport, .int .i64 a.dst, .int .i64 a.dport, .int .i64 a.kind] 40)) (.cells #[.int .i64 b.proto, .int .i64 b.src, .int .i64 b.sport, .int .i64 b.dst, .int .i64 b.dport, .int .i64 b.kind] 40)
    simpa using this
  have hL0 := hidS (((Below.refl w.heap.size w).alloc (Nat.le_refl _) (.cells #[.int .i64 a.proto, .int .i64 a.src, .int .i64 a.sport, .int .i64 a.dst, .int .i64 a.dport, .int .i64 a.kind] 40)).alloc (by simp) (.cells #[.int .i64 b.proto, .int .i64 b.src, .int .i64 b.sport, .int .i64 b.dst, .int .i64 b.dport, .int .i64 b.kind] 40))
  go_enter Tryz.func77, Tryz.ntmps77
  go_wp2_with fail
  refine (HB.out _).mono ?_
  rintro _ w1 ⟨rfl, hb1⟩
  have hGA1 := hidS (blk_later hGA0.out hb1)
  have hGB1 := hidS (blk_later hGB0.out hb1)
  have hL1 := hidS (hL0.out.trans (hb1.mono hL0.out.size))
  clear hb1 hL0 hGA0 hGB0
  go_upto_region 2 with fail
  have hGO2 := hidS (heap_newG w1 (.cells #[.int .i64 b.proto, .int .i64 b.src, .int .i64 b.sport, .int .i64 b.dst, .int .i64 b.dport, .int .i64 b.kind] 135))
  have hGA2 := hidS (blk_alloc hGA1.out (.cells #[.int .i64 b.proto, .int .i64 b.src, .int .i64 b.sport, .int .i64 b.dst, .int .i64 b.dport, .int .i64 b.kind] 135))
  have hGB2 := hidS (blk_alloc hGB1.out (.cells #[.int .i64 b.proto, .int .i64 b.src, .int .i64 b.sport, .int .i64 b.dst, .int .i64 b.dport, .int .i64 b.kind] 135))
  have hL2 := hidS (hL1.out.alloc hL1.out.size (.cells #[.int .i64 b.proto, .int .i64 b.src, .int .i64 b.sport, .int .i64 b.dst, .int .i64 b.dport, .int .i64 b.kind] 135))
  clear hL1 hGA1 hGB1
  generalize w1.alloc (.cells #[.int .i64 b.proto, .int .i64 b.src, .int .i64 b.sport, .int .i64 b.dst, .int .i64 b.dport, .int .i64 b.kind] 135) = w2 at hGA2 hGB2 hGO2 hL2 ⊢
  have cA0 := blk_cell hGA2.out 0
  have cA1 := blk_cell hGA2.out 1
  have cA2 := blk_cell hGA2.out 2
  have cA3 := blk_cell hGA2.out 3
  have cA4 := blk_cell hGA2.out 4
  have cA5 := blk_cell hGA2.out 5
  simp at cA0 cA1 cA2 cA3 cA4 cA5
  go_wp2_with fail
  refine (HA.out _).mono ?_
  rintro _ w3 ⟨rfl, hb3⟩
  clear cA0 cA1 cA2 cA3 cA4 cA5
  have hGA3 := hidS (blk_later hGA2.out hb3)
  have hGB3 := hidS (blk_later hGB2.out hb3)
  have hGO3 := hidS (blk_later hGO2.out hb3)
  have hL3 := hidS (hL2.out.trans (hb3.mono hL2.out.size))
  clear hb3 hL2 hGA2 hGB2 hGO2
  have cO0 := blk_cell hGO3.out 0
  have cO1 := blk_cell hGO3.out 1
  have cO2 := blk_cell hGO3.out 2
  have cO3 := blk_cell hGO3.out 3
  have cO4 := blk_cell hGO3.out 4
  have cO5 := blk_cell hGO3.out 5
  simp at cO0 cO1 cO2 cO3 cO4 cO5
  have cA0 := blk_cell hGA3.out 0
  have cA1 := blk_cell hGA3.out 1
  have cA2 := blk_cell hGA3.out 2
  have cA3 := blk_cell hGA3.out 3
  have cA4 := blk_cell hGA3.out 4
  have cA5 := blk_cell hGA3.out 5
  simp at cA0 cA1 cA2 cA3 cA4 cA5
  have hw := HO.out _ hL3.out
  have i0 := idx_0 a
  have i1 := idx_1 a
  have i2 := idx_2 a
  have i3 := idx_3 a
  go_wp2_with fail
  refine wp_loop_rounds 4 ?_
  rw [rounds_succ]
  go_wp2_with fail
  rw [rounds_succ]
  go_wp2_with fail
  rw [rounds_succ]
  go_wp2_with fail
  rw [rounds_succ]
  go_wp2_with (at_delete; refine wpList_delete_own _ rfl _ _ 100 40 rfl 99 tup_keyed Tryz.underlying100 _ M n D rfl hw _ _ rfl HK.out ?_; intro v1 hown1 hturn1)
  first | go_end0 | refine bodyPost_ret (results_none rfl _ _ _) rfl ?_
  exact ⟨rfl, (grown_belowT hL3.out).trans hturn1.grown, hown1⟩

set_option maxHeartbeats 2000000 in
theorem take_4_lt (a b : Tp) (M n : Nat) (D : DataW Unit) (w : World) (p0 : ¬ a.proto < b.proto) (q0 : ¬ b.proto < a.proto) (p1 : ¬ a.src < b.src) (q1 : ¬ b.src < a.src) (p2 : ¬ a.sport < b.sport) (q2 : ¬ b.sport < a.sport) (p3 : ¬ a.dst < b.dst) (q3 : ¬ b.dst < a.dst) (h : a.dport < b.dport) (hown : w.ownsMap Tryz.prog 40 (unitElem (H := Unit)) M n D) (hkey : keyOf Tryz.prog 40 (.agg #[.int .i64 b.proto, .int .i64 b.src, .int .i64 b.sport, .int .i64 b.dst, .int .i64 b.dport, .int .i64 b.kind]) = some (klT b)) :
    Calls Tryz.prog 77 #[.map (some M), .agg #[.int .i64 a.proto, .int .i64 a.src, .int .i64 a.sport, .int .i64 a.dst, .int .i64 a.dport, .int .i64 a.kind], .agg #[.int .i64 b.proto, .int .i64 b.src, .int .i64 b.sport, .int .i64 b.dst, .int .i64 b.dport, .int .i64 b.kind]] w fun e w' => e = .returned (.tuple #[]) ∧ w.grownBy w' (some M) ∧ w'.ownsMap Tryz.prog 40 (unitElem (H := Unit)) M n (D.del (klT b)) := by
  have HA := hidS (fun W => numbersOf_any a W)
  have HB := hidS (fun W => numbersOf_any b W)
  have HO := hidS (fun W (h : Below w.heap.size w W) => owns_below hown h)
  have HK := hidS hkey
  clear hkey hown
  have hGA0 : Hid (((w.alloc (.cells #[.int .i64 a.proto, .int .i64 a.src, .int .i64 a.sport, .int .i64 a.dst, .int .i64 a.dport, .int .i64 a.kind] 40)).alloc (.cells #[.int .i64 b.proto, .int .i64 b.src, .int .i64 b.sport, .int .i64 b.dst, .int .i64 b.dport, .int .i64 b.kind] 40)).heap[w.heap.size]? = some (.cells #[.int .i64 a.proto, .int .i64 a.src, .int .i64 a.sport, .int .i64 a.dst, .int .i64 a.dport, .int .i64 a.kind] 40)) := by
    show _ = _
    have := blk_alloc (heap_newG w (.cells #[.int .i64 a.proto, .int .i64 a.src, .int .i64 a.sport, .int .i64 a.dst, .int .i64 a.dport, .int .i64 a.kind] 40)) (.cells #[.int .i64 b.proto, .int .i64 b.src, .int .i64 b.sport, .int .i64 b.dst, .int .i64 b.dport, .int .i64 b.kind] 40)
    simpa using this
  have hGB0 : Hid (((w.alloc (.cells #[.int .i64 a.proto, .int .i64 a.src, .int .i64 a.sport, .int .i64 a.dst, .int .i64 a.dport, .int .i64 a.kind] 40)).alloc (.cells #[.int .i64 b.proto, .int .i64 b.src, .int .i64 b.sport, .int .i64 b.dst, .int .i64 b.dport, .int .i64 b.kind] 40)).heap[w.heap.size + 1]? = some (.cells #[.int .i64 b.proto, .int .i64 b.src, .int .i64 b.sport, .int .i64 b.dst, .int .i64 b.dport, .int .i64 b.kind] 40)) := by
    show _ = _
    have := heap_newG (w.alloc (.cells #[.int .i64 a.proto, .int .i64 a.src, .int .i64 a.sport, .int .i64 a.dst, .int .i64 a.dport, .int .i64 a.kind] 40)) (.cells #[.int .i64 b.proto, .int .i64 b.src, .int .i64 b.sport, .int .i64 b.dst, .int .i64 b.dport, .int .i64 b.kind] 40)
    simpa using this
  have hL0 := hidS (((Below.refl w.heap.size w).alloc (Nat.le_refl _) (.cells #[.int .i64 a.proto, .int .i64 a.src, .int .i64 a.sport, .int .i64 a.dst, .int .i64 a.dport, .int .i64 a.kind] 40)).alloc (by simp) (.cells #[.int .i64 b.proto, .int .i64 b.src, .int .i64 b.sport, .int .i64 b.dst, .int .i64 b.dport, .int .i64 b.kind] 40))
  go_enter Tryz.func77, Tryz.ntmps77
  go_wp2_with fail
  refine (HB.out _).mono ?_
  rintro _ w1 ⟨rfl, hb1⟩
  have hGA1 := hidS (blk_later hGA0.out hb1)
  have hGB1 := hidS (blk_later hGB0.out hb1)
  have hL1 := hidS (hL0.out.trans (hb1.mono hL0.out.size))
  clear hb1 hL0 hGA0 hGB0
  go_upto_region 2 with fail
  have hGO2 := hidS (heap_newG w1 (.cells #[.int .i64 b.proto, .int .i64 b.src, .int .i64 b.sport, .int .i64 b.dst, .int .i64 b.dport, .int .i64 b.kind] 135))
  have hGA2 := hidS (blk_alloc hGA1.out (.cells #[.int .i64 b.proto, .int .i64 b.src, .int .i64 b.sport, .int .i64 b.dst, .int .i64 b.dport, .int .i64 b.kind] 135))
  have hGB2 := hidS (blk_alloc hGB1.out (.cells #[.int .i64 b.proto, .int .i64 b.src, .int .i64 b.sport, .int .i64 b.dst, .int .i64 b.dport, .int .i64 b.kind] 135))
  have hL2 := hidS (hL1.out.alloc hL1.out.size (.cells #[.int .i64 b.proto, .int .i64 b.src, .int .i64 b.sport, .int .i64 b.dst, .int .i64 b.dport, .int .i64 b.kind] 135))
  clear hL1 hGA1 hGB1
  generalize w1.alloc (.cells #[.int .i64 b.proto, .int .i64 b.src, .int .i64 b.sport, .int .i64 b.dst, .int .i64 b.dport, .int .i64 b.kind] 135) = w2 at hGA2 hGB2 hGO2 hL2 ⊢
  have cA0 := blk_cell hGA2.out 0
  have cA1 := blk_cell hGA2.out 1
  have cA2 := blk_cell hGA2.out 2
  have cA3 := blk_cell hGA2.out 3
  have cA4 := blk_cell hGA2.out 4
  have cA5 := blk_cell hGA2.out 5
  simp at cA0 cA1 cA2 cA3 cA4 cA5
  go_wp2_with fail
  refine (HA.out _).mono ?_
  rintro _ w3 ⟨rfl, hb3⟩
  clear cA0 cA1 cA2 cA3 cA4 cA5
  have hGA3 := hidS (blk_later hGA2.out hb3)
  have hGB3 := hidS (blk_later hGB2.out hb3)
  have hGO3 := hidS (blk_later hGO2.out hb3)
  have hL3 := hidS (hL2.out.trans (hb3.mono hL2.out.size))
  clear hb3 hL2 hGA2 hGB2 hGO2
  have cO0 := blk_cell hGO3.out 0
  have cO1 := blk_cell hGO3.out 1
  have cO2 := blk_cell hGO3.out 2
  have cO3 := blk_cell hGO3.out 3
  have cO4 := blk_cell hGO3.out 4
  have cO5 := blk_cell hGO3.out 5
  simp at cO0 cO1 cO2 cO3 cO4 cO5
  have cB0 := blk_cell hGB3.out 0
  have cB1 := blk_cell hGB3.out 1
  have cB2 := blk_cell hGB3.out 2
  have cB3 := blk_cell hGB3.out 3
  have cB4 := blk_cell hGB3.out 4
  have cB5 := blk_cell hGB3.out 5
  simp at cB0 cB1 cB2 cB3 cB4 cB5
  have hw := HO.out _ hL3.out
  have i0 := idx_0 a
  have i1 := idx_1 a
  have i2 := idx_2 a
  have i3 := idx_3 a
  have i4 := idx_4 a
  go_wp2_with fail
  refine wp_loop_rounds 5 ?_
  rw [rounds_succ]
  go_wp2_with fail
  rw [rounds_succ]
  go_wp2_with fail
  rw [rounds_succ]
  go_wp2_with fail
  rw [rounds_succ]
  go_wp2_with fail
  rw [rounds_succ]
  go_wp2_with (at_delete; refine wpList_delete_own _ rfl _ _ 100 40 rfl 99 tup_keyed Tryz.underlying100 _ M n D rfl hw _ _ rfl HK.out ?_; intro v1 hown1 hturn1)
  first | go_end0 | refine bodyPost_ret (results_none rfl _ _ _) rfl ?_
  exact ⟨rfl, (grown_belowT hL3.out).trans hturn1.grown, hown1⟩

set_option maxHeartbeats 2000000 in
theorem take_4_gt (a b : Tp) (M n : Nat) (D : DataW Unit) (w : World) (p0 : ¬ a.proto < b.proto) (q0 : ¬ b.proto < a.proto) (p1 : ¬ a.src < b.src) (q1 : ¬ b.src < a.src) (p2 : ¬ a.sport < b.sport) (q2 : ¬ b.sport < a.sport) (p3 : ¬ a.dst < b.dst) (q3 : ¬ b.dst < a.dst) (h' : ¬ a.dport < b.dport) (h : b.dport < a.dport) (hown : w.ownsMap Tryz.prog 40 (unitElem (H := Unit)) M n D) (hkey : keyOf Tryz.prog 40 (.agg #[.int .i64 a.proto, .int .i64 a.src, .int .i64 a.sport, .int .i64 a.dst, .int .i64 a.dport, .int .i64 a.kind]) = some (klT a)) :
    Calls Tryz.prog 77 #[.map (some M), .agg #[.int .i64 a.proto, .int .i64 a.src, .int .i64 a.sport, .int .i64 a.dst, .int .i64 a.dport, .int .i64 a.kind], .agg #[.int .i64 b.proto, .int .i64 b.src, .int .i64 b.sport, .int .i64 b.dst, .int .i64 b.dport, .int .i64 b.kind]] w fun e w' => e = .returned (.tuple #[]) ∧ w.grownBy w' (some M) ∧ w'.ownsMap Tryz.prog 40 (unitElem (H := Unit)) M n (D.del (klT a)) := by
  have HA := hidS (fun W => numbersOf_any a W)
  have HB := hidS (fun W => numbersOf_any b W)
  have HO := hidS (fun W (h : Below w.heap.size w W) => owns_below hown h)
  have HK := hidS hkey
  clear hkey hown
  have hGA0 : Hid (((w.alloc (.cells #[.int .i64 a.proto, .int .i64 a.src, .int .i64 a.sport, .int .i64 a.dst, .int .i64 a.dport, .int .i64 a.kind] 40)).alloc (.cells #[.int .i64 b.proto, .int .i64 b.src, .int .i64 b.sport, .int .i64 b.dst, .int .i64 b.dport, .int .i64 b.kind] 40)).heap[w.heap.size]? = some (.cells #[.int .i64 a.proto, .int .i64 a.src, .int .i64 a.sport, .int .i64 a.dst, .int .i64 a.dport, .int .i64 a.kind] 40)) := by
    show _ = _
    have := blk_alloc (heap_newG w (.cells #[.int .i64 a.proto, .int .i64 a.src, .int .i64 a.sport, .int .i64 a.dst, .int .i64 a.dport, .int .i64 a.kind] 40)) (.cells #[.int .i64 b.proto, .int .i64 b.src, .int .i64 b.sport, .int .i64 b.dst, .int .i64 b.dport, .int .i64 b.kind] 40)
    simpa using this
  have hGB0 : Hid (((w.alloc (.cells #[.int .i64 a.proto, .int .i64 a.src, .int .i64 a.sport, .int .i64 a.dst, .int .i64 a.dport, .int .i64 a.kind] 40)).alloc (.cells #[.int .i64 b.proto, .int .i64 b.src, .int .i64 b.sport, .int .i64 b.dst, .int .i64 b.dport, .int .i64 b.kind] 40)).heap[w.heap.size + 1]? = some (.cells #[.int .i64 b.proto, .int .i64 b.src, .int .i64 b.sport, .int .i64 b.dst, .int .i64 b.dport, .int .i64 b.kind] 40)) := by
    show _ = _
    have := heap_newG (w.alloc (.cells #[.int .i64 a.proto, .int .i64 a.src, .int .i64 a.sport, .int .i64 a.dst, .int .i64 a.dport, .int .i64 a.kind] 40)) (.cells #[.int .i64 b.proto, .int .i64 b.src, .int .i64 b.sport, .int .i64 b.dst, .int .i64 b.dport, .int .i64 b.kind] 40)
    simpa using this
  have hL0 := hidS (((Below.refl w.heap.size w).alloc (Nat.le_refl _) (.cells #[.int .i64 a.proto, .int .i64 a.src, .int .i64 a.sport, .int .i64 a.dst, .int .i64 a.dport, .int .i64 a.kind] 40)).alloc (by simp) (.cells #[.int .i64 b.proto, .int .i64 b.src, .int .i64 b.sport, .int .i64 b.dst, .int .i64 b.dport, .int .i64 b.kind] 40))
  go_enter Tryz.func77, Tryz.ntmps77
  go_wp2_with fail
  refine (HB.out _).mono ?_
  rintro _ w1 ⟨rfl, hb1⟩
  have hGA1 := hidS (blk_later hGA0.out hb1)
  have hGB1 := hidS (blk_later hGB0.out hb1)
  have hL1 := hidS (hL0.out.trans (hb1.mono hL0.out.size))
  clear hb1 hL0 hGA0 hGB0
  go_upto_region 2 with fail
  have hGO2 := hidS (heap_newG w1 (.cells #[.int .i64 b.proto, .int .i64 b.src, .int .i64 b.sport, .int .i64 b.dst, .int .i64 b.dport, .int .i64 b.kind] 135))
  have hGA2 := hidS (blk_alloc hGA1.out (.cells #[.int .i64 b.proto, .int .i64 b.src, .int .i64 b.sport, .int .i64 b.dst, .int .i64 b.dport, .int .i64 b.kind] 135))
  have hGB2 := hidS (blk_alloc hGB1.out (.cells #[.int .i64 b.proto, .int .i64 b.src, .int .i64 b.sport, .int .i64 b.dst, .int .i64 b.dport, .int .i64 b.kind] 135))
  have hL2 := hidS (hL1.out.alloc hL1.out.size (.cells #[.int .i64 b.proto, .int .i64 b.src, .int .i64 b.sport, .int .i64 b.dst, .int .i64 b.dport, .int .i64 b.kind] 135))
  clear hL1 hGA1 hGB1
  generalize w1.alloc (.cells #[.int .i64 b.proto, .int .i64 b.src, .int .i64 b.sport, .int .i64 b.dst, .int .i64 b.dport, .int .i64 b.kind] 135) = w2 at hGA2 hGB2 hGO2 hL2 ⊢
  have cA0 := blk_cell hGA2.out 0
  have cA1 := blk_cell hGA2.out 1
  have cA2 := blk_cell hGA2.out 2
  have cA3 := blk_cell hGA2.out 3
  have cA4 := blk_cell hGA2.out 4
  have cA5 := blk_cell hGA2.out 5
  simp at cA0 cA1 cA2 cA3 cA4 cA5
  go_wp2_with fail
  refine (HA.out _).mono ?_
  rintro _ w3 ⟨rfl, hb3⟩
  clear cA0 cA1 cA2 cA3 cA4 cA5
  have hGA3 := hidS (blk_later hGA2.out hb3)
  have hGB3 := hidS (blk_later hGB2.out hb3)
  have hGO3 := hidS (blk_later hGO2.out hb3)
  have hL3 := hidS (hL2.out.trans (hb3.mono hL2.out.size))
  clear hb3 hL2 hGA2 hGB2 hGO2
  have cO0 := blk_cell hGO3.out 0
  have cO1 := blk_cell hGO3.out 1
  have cO2 := blk_cell hGO3.out 2
  have cO3 := blk_cell hGO3.out 3
  have cO4 := blk_cell hGO3.out 4
  have cO5 := blk_cell hGO3.out 5
  simp at cO0 cO1 cO2 cO3 cO4 cO5
  have cA0 := blk_cell hGA3.out 0
  have cA1 := blk_cell hGA3.out 1
  have cA2 := blk_cell hGA3.out 2
  have cA3 := blk_cell hGA3.out 3
  have cA4 := blk_cell hGA3.out 4
  have cA5 := blk_cell hGA3.out 5
  simp at cA0 cA1 cA2 cA3 cA4 cA5
  have hw := HO.out _ hL3.out
  have i0 := idx_0 a
  have i1 := idx_1 a
  have i2 := idx_2 a
  have i3 := idx_3 a
  have i4 := idx_4 a
  go_wp2_with fail
  refine wp_loop_rounds 5 ?_
  rw [rounds_succ]
  go_wp2_with fail
  rw [rounds_succ]
  go_wp2_with fail
  rw [rounds_succ]
  go_wp2_with fail
  rw [rounds_succ]
  go_wp2_with fail
  rw [rounds_succ]
  go_wp2_with (at_delete; refine wpList_delete_own _ rfl _ _ 100 40 rfl 99 tup_keyed Tryz.underlying100 _ M n D rfl hw _ _ rfl HK.out ?_; intro v1 hown1 hturn1)
  first | go_end0 | refine bodyPost_ret (results_none rfl _ _ _) rfl ?_
  exact ⟨rfl, (grown_belowT hL3.out).trans hturn1.grown, hown1⟩

set_option maxHeartbeats 2000000 in
theorem take_5_lt (a b : Tp) (M n : Nat) (D : DataW Unit) (w : World) (p0 : ¬ a.proto < b.proto) (q0 : ¬ b.proto < a.proto) (p1 : ¬ a.src < b.src) (q1 : ¬ b.src < a.src) (p2 : ¬ a.sport < b.sport) (q2 : ¬ b.sport < a.sport) (p3 : ¬ a.dst < b.dst) (q3 : ¬ b.dst < a.dst) (p4 : ¬ a.dport < b.dport) (q4 : ¬ b.dport < a.dport) (h : a.kind < b.kind) (hown : w.ownsMap Tryz.prog 40 (unitElem (H := Unit)) M n D) (hkey : keyOf Tryz.prog 40 (.agg #[.int .i64 b.proto, .int .i64 b.src, .int .i64 b.sport, .int .i64 b.dst, .int .i64 b.dport, .int .i64 b.kind]) = some (klT b)) :
    Calls Tryz.prog 77 #[.map (some M), .agg #[.int .i64 a.proto, .int .i64 a.src, .int .i64 a.sport, .int .i64 a.dst, .int .i64 a.dport, .int .i64 a.kind], .agg #[.int .i64 b.proto, .int .i64 b.src, .int .i64 b.sport, .int .i64 b.dst, .int .i64 b.dport, .int .i64 b.kind]] w fun e w' => e = .returned (.tuple #[]) ∧ w.grownBy w' (some M) ∧ w'.ownsMap Tryz.prog 40 (unitElem (H := Unit)) M n (D.del (klT b)) := by
  have HA := hidS (fun W => numbersOf_any a W)
  have HB := hidS (fun W => numbersOf_any b W)
  have HO := hidS (fun W (h : Below w.heap.size w W) => owns_below hown h)
  have HK := hidS hkey
  clear hkey hown
  have hGA0 : Hid (((w.alloc (.cells #[.int .i64 a.proto, .int .i64 a.src, .int .i64 a.sport, .int .i64 a.dst, .int .i64 a.dport, .int .i64 a.kind] 40)).alloc (.cells #[.int .i64 b.proto, .int .i64 b.src, .int .i64 b.sport, .int .i64 b.dst, .int .i64 b.dport, .int .i64 b.kind] 40)).heap[w.heap.size]? = some (.cells #[.int .i64 a.proto, .int .i64 a.src, .int .i64 a.sport, .int .i64 a.dst, .int .i64 a.dport, .int .i64 a.kind] 40)) := by
    show _ = _
    have := blk_alloc (heap_newG w (.cells #[.int .i64 a.proto, .int .i64 a.src, .int .i64 a.sport, .int .i64 a.dst, .int .i64 a.dport, .int .i64 a.kind] 40)) (.cells #[.int .i64 b.proto, .int .i64 b.src, .int .i64 b.sport, .int .i64 b.dst, .int .i64 b.dport, .int .i64 b.kind] 40)
    simpa using this
  have hGB0 : Hid (((w.alloc (.cells #[.int .i64 a.proto, .int .i64 a.src, .int .i64 a.sport, .int .i64 a.dst, .int .i64 a.dport, .int .i64 a.kind] 40)).alloc (.cells #[.int .i64 b.proto, .int .i64 b.src, .int .i64 b.sport, .int .i64 b.dst, .int .i64 b.dport, .int .i64 b.kind] 40)).heap[w.heap.size + 1]? = some (.cells #[.int .i64 b.proto, .int .i64 b.src, .int .i64 b.sport, .int .i64 b.dst, .int .i64 b.dport, .int .i64 b.kind] 40)) := by
    show _ = _
    have := heap_newG (w.alloc (.cells #[.int .i64 a.proto, .int .i64 a.src, .int .i64 a.sport, .int .i64 a.dst, .int .i64 a.dport, .int .i64 a.kind] 40)) (.cells #[.int .i64 b.proto, .int .i64 b.src, .int .i64 b.sport, .int .i64 b.dst, .int .i64 b.dport, .int .i64 b.kind] 40)
    simpa using this
  have hL0 := hidS (((Below.refl w.heap.size w).alloc (Nat.le_refl _) (.cells #[.int .i64 a.proto, .int .i64 a.src, .int .i64 a.sport, .int .i64 a.dst, .int .i64 a.dport, .int .i64 a.kind] 40)).alloc (by simp) (.cells #[.int .i64 b.proto, .int .i64 b.src, .int .i64 b.sport, .int .i64 b.dst, .int .i64 b.dport, .int .i64 b.kind] 40))
  go_enter Tryz.func77, Tryz.ntmps77
  go_wp2_with fail
  refine (HB.out _).mono ?_
  rintro _ w1 ⟨rfl, hb1⟩
  have hGA1 := hidS (blk_later hGA0.out hb1)
  have hGB1 := hidS (blk_later hGB0.out hb1)
  have hL1 := hidS (hL0.out.trans (hb1.mono hL0.out.size))
  clear hb1 hL0 hGA0 hGB0
  go_upto_region 2 with fail
  have hGO2 := hidS (heap_newG w1 (.cells #[.int .i64 b.proto, .int .i64 b.src, .int .i64 b.sport, .int .i64 b.dst, .int .i64 b.dport, .int .i64 b.kind] 135))
  have hGA2 := hidS (blk_alloc hGA1.out (.cells #[.int .i64 b.proto, .int .i64 b.src, .int .i64 b.sport, .int .i64 b.dst, .int .i64 b.dport, .int .i64 b.kind] 135))
  have hGB2 := hidS (blk_alloc hGB1.out (.cells #[.int .i64 b.proto, .int .i64 b.src, .int .i64 b.sport, .int .i64 b.dst, .int .i64 b.dport, .int .i64 b.kind] 135))
  have hL2 := hidS (hL1.out.alloc hL1.out.size (.cells #[.int .i64 b.proto, .int .i64 b.src, .int .i64 b.sport, .int .i64 b.dst, .int .i64 b.dport, .int .i64 b.kind] 135))
  clear hL1 hGA1 hGB1
  generalize w1.alloc (.cells #[.int .i64 b.proto, .int .i64 b.src, .int .i64 b.sport, .int .i64 b.dst, .int .i64 b.dport, .int .i64 b.kind] 135) = w2 at hGA2 hGB2 hGO2 hL2 ⊢
  have cA0 := blk_cell hGA2.out 0
  have cA1 := blk_cell hGA2.out 1
  have cA2 := blk_cell hGA2.out 2
  have cA3 := blk_cell hGA2.out 3
  have cA4 := blk_cell hGA2.out 4
  have cA5 := blk_cell hGA2.out 5
  simp at cA0 cA1 cA2 cA3 cA4 cA5
  go_wp2_with fail
  refine (HA.out _).mono ?_
  rintro _ w3 ⟨rfl, hb3⟩
  clear cA0 cA1 cA2 cA3 cA4 cA5
  have hGA3 := hidS (blk_later hGA2.out hb3)
  have hGB3 := hidS (blk_later hGB2.out hb3)
  have hGO3 := hidS (blk_later hGO2.out hb3)
  have hL3 := hidS (hL2.out.trans (hb3.mono hL2.out.size))
  clear hb3 hL2 hGA2 hGB2 hGO2
  have cO0 := blk_cell hGO3.out 0
  have cO1 := blk_cell hGO3.out 1
  have cO2 := blk_cell hGO3.out 2
  have cO3 := blk_cell hGO3.out 3
  have cO4 := blk_cell hGO3.out 4
  have cO5 := blk_cell hGO3.out 5
  simp at cO0 cO1 cO2 cO3 cO4 cO5
  have cB0 := blk_cell hGB3.out 0
  have cB1 := blk_cell hGB3.out 1
  have cB2 := blk_cell hGB3.out 2
  have cB3 := blk_cell hGB3.out 3
  have cB4 := blk_cell hGB3.out 4
  have cB5 := blk_cell hGB3.out 5
  simp at cB0 cB1 cB2 cB3 cB4 cB5
  have hw := HO.out _ hL3.out
  have i0 := idx_0 a
  have i1 := idx_1 a
  have i2 := idx_2 a
  have i3 := idx_3 a
  have i4 := idx_4 a
  have i5 := idx_5 a
  go_wp2_with fail
  refine wp_loop_rounds 6 ?_
  rw [rounds_succ]
  go_wp2_with fail
  rw [rounds_succ]
  go_wp2_with fail
  rw [rounds_succ]
  go_wp2_with fail
  rw [rounds_succ]
  go_wp2_with fail
  rw [rounds_succ]
  go_wp2_with fail
  rw [rounds_succ]
  go_wp2_with (at_delete; refine wpList_delete_own _ rfl _ _ 100 40 rfl 99 tup_keyed Tryz.underlying100 _ M n D rfl hw _ _ rfl HK.out ?_; intro v1 hown1 hturn1)
  first | go_end0 | refine bodyPost_ret (results_none rfl _ _ _) rfl ?_
  exact ⟨rfl, (grown_belowT hL3.out).trans hturn1.grown, hown1⟩

set_option maxHeartbeats 2000000 in
theorem take_5_gt (a b : Tp) (M n : Nat) (D : DataW Unit) (w : World) (p0 : ¬ a.proto < b.proto) (q0 : ¬ b.proto < a.proto) (p1 : ¬ a.src < b.src) (q1 : ¬ b.src < a.src) (p2 : ¬ a.sport < b.sport) (q2 : ¬ b.sport < a.sport) (p3 : ¬ a.dst < b.dst) (q3 : ¬ b.dst < a.dst) (p4 : ¬ a.dport < b.dport) (q4 : ¬ b.dport < a.dport) (h' : ¬ a.kind < b.kind) (h : b.kind < a.kind) (hown : w.ownsMap Tryz.prog 40 (unitElem (H := Unit)) M n D) (hkey : keyOf Tryz.prog 40 (.agg #[.int .i64 a.proto, .int .i64 a.src, .int .i64 a.sport, .int .i64 a.dst, .int .i64 a.dport, .int .i64 a.kind]) = some (klT a)) :
    Calls Tryz.prog 77 #[.map (some M), .agg #[.int .i64 a.proto, .int .i64 a.src, .int .i64 a.sport, .int .i64 a.dst, .int .i64 a.dport, .int .i64 a.kind], .agg #[.int .i64 b.proto, .int .i64 b.src, .int .i64 b.sport, .int .i64 b.dst, .int .i64 b.dport, .int .i64 b.kind]] w fun e w' => e = .returned (.tuple #[]) ∧ w.grownBy w' (some M) ∧ w'.ownsMap Tryz.prog 40 (unitElem (H := Unit)) M n (D.del (klT a)) := by
  have HA := hidS (fun W => numbersOf_any a W)
  have HB := hidS (fun W => numbersOf_any b W)
  have HO := hidS (fun W (h : Below w.heap.size w W) => owns_below hown h)
  have HK := hidS hkey
  clear hkey hown
  have hGA0 : Hid (((w.alloc (.cells #[.int .i64 a.proto, .int .i64 a.src, .int .i64 a.sport, .int .i64 a.dst, .int .i64 a.dport, .int .i64 a.kind] 40)).alloc (.cells #[.int .i64 b.proto, .int .i64 b.src, .int .i64 b.sport, .int .i64 b.dst, .int .i64 b.dport, .int .i64 b.kind] 40)).heap[w.heap.size]? = some (.cells #[.int .i64 a.proto, .int .i64 a.src, .int .i64 a.sport, .int .i64 a.dst, .int .i64 a.dport, .int .i64 a.kind] 40)) := by
    show _ = _
    have := blk_alloc (heap_newG w (.cells #[.int .i64 a.proto, .int .i64 a.src, .int .i64 a.sport, .int .i64 a.dst, .int .i64 a.dport, .int .i64 a.kind] 40)) (.cells #[.int .i64 b.proto, .int .i64 b.src, .int .i64 b.sport, .int .i64 b.dst, .int .i64 b.dport, .int .i64 b.kind] 40)
    simpa using this
  have hGB0 : Hid (((w.alloc (.cells #[.int .i64 a.proto, .int .i64 a.src, .int .i64 a.sport, .int .i64 a.dst, .int .i64 a.dport, .int .i64 a.kind] 40)).alloc (.cells #[.int .i64 b.proto, .int .i64 b.src, .int .i64 b.sport, .int .i64 b.dst, .int .i64 b.dport, .int .i64 b.kind] 40)).heap[w.heap.size + 1]? = some (.cells #[.int .i64 b.proto, .int .i64 b.src, .int .i64 b.sport, .int .i64 b.dst, .int .i64 b.dport, .int .i64 b.kind] 40)) := by
    show _ = _
    have := heap_newG (w.alloc (.cells #[.int .i64 a.proto, .int .i64 a.src, .int .i64 a.sport, .int .i64 a.dst, .int .i64 a.dport, .int .i64 a.kind] 40)) (.cells #[.int .i64 b.proto, .int .i64 b.src, .int .i64 b.sport, .int .i64 b.dst, .int .i64 b.dport, .int .i64 b.kind] 40)
    simpa using this
  have hL0 := hidS (((Below.refl w.heap.size w).alloc (Nat.le_refl _) (.cells #[.int .i64 a.proto, .int .i64 a.src, .int .i64 a.sport, .int .i64 a.dst, .int .i64 a.dport, .int .i64 a.kind] 40)).alloc (by simp) (.cells #[.int .i64 b.proto, .int .i64 b.src, .int .i64 b.sport, .int .i64 b.dst, .int .i64 b.dport, .int .i64 b.kind] 40))
  go_enter Tryz.func77, Tryz.ntmps77
  go_wp2_with fail
  refine (HB.out _).mono ?_
  rintro _ w1 ⟨rfl, hb1⟩
  have hGA1 := hidS (blk_later hGA0.out hb1)
  have hGB1 := hidS (blk_later hGB0.out hb1)
  have hL1 := hidS (hL0.out.trans (hb1.mono hL0.out.size))
  clear hb1 hL0 hGA0 hGB0
  go_upto_region 2 with fail
  have hGO2 := hidS (heap_newG w1 (.cells #[.int .i64 b.proto, .int .i64 b.src, .int .i64 b.sport, .int .i64 b.dst, .int .i64 b.dport, .int .i64 b.kind] 135))
  have hGA2 := hidS (blk_alloc hGA1.out (.cells #[.int .i64 b.proto, .int .i64 b.src, .int .i64 b.sport, .int .i64 b.dst, .int .i64 b.dport, .int .i64 b.kind] 135))
  have hGB2 := hidS (blk_alloc hGB1.out (.cells #[.int .i64 b.proto, .int .i64 b.src, .int .i64 b.sport, .int .i64 b.dst, .int .i64 b.dport, .int .i64 b.kind] 135))
  have hL2 := hidS (hL1.out.alloc hL1.out.size (.cells #[.int .i64 b.proto, .int .i64 b.src, .int .i64 b.sport, .int .i64 b.dst, .int .i64 b.dport, .int .i64 b.kind] 135))
  clear hL1 hGA1 hGB1
  generalize w1.alloc (.cells #[.int .i64 b.proto, .int .i64 b.src, .int .i64 b.sport, .int .i64 b.dst, .int .i64 b.dport, .int .i64 b.kind] 135) = w2 at hGA2 hGB2 hGO2 hL2 ⊢
  have cA0 := blk_cell hGA2.out 0
  have cA1 := blk_cell hGA2.out 1
  have cA2 := blk_cell hGA2.out 2
  have cA3 := blk_cell hGA2.out 3
  have cA4 := blk_cell hGA2.out 4
  have cA5 := blk_cell hGA2.out 5
  simp at cA0 cA1 cA2 cA3 cA4 cA5
  go_wp2_with fail
  refine (HA.out _).mono ?_
  rintro _ w3 ⟨rfl, hb3⟩
  clear cA0 cA1 cA2 cA3 cA4 cA5
  have hGA3 := hidS (blk_later hGA2.out hb3)
  have hGB3 := hidS (blk_later hGB2.out hb3)
  have hGO3 := hidS (blk_later hGO2.out hb3)
  have hL3 := hidS (hL2.out.trans (hb3.mono hL2.out.size))
  clear hb3 hL2 hGA2 hGB2 hGO2
  have cO0 := blk_cell hGO3.out 0
  have cO1 := blk_cell hGO3.out 1
  have cO2 := blk_cell hGO3.out 2
  have cO3 := blk_cell hGO3.out 3
  have cO4 := blk_cell hGO3.out 4
  have cO5 := blk_cell hGO3.out 5
  simp at cO0 cO1 cO2 cO3 cO4 cO5
  have cA0 := blk_cell hGA3.out 0
  have cA1 := blk_cell hGA3.out 1
  have cA2 := blk_cell hGA3.out 2
  have cA3 := blk_cell hGA3.out 3
  have cA4 := blk_cell hGA3.out 4
  have cA5 := blk_cell hGA3.out 5
  simp at cA0 cA1 cA2 cA3 cA4 cA5
  have hw := HO.out _ hL3.out
  have i0 := idx_0 a
  have i1 := idx_1 a
  have i2 := idx_2 a
  have i3 := idx_3 a
  have i4 := idx_4 a
  have i5 := idx_5 a
  go_wp2_with fail
  refine wp_loop_rounds 6 ?_
  rw [rounds_succ]
  go_wp2_with fail
  rw [rounds_succ]
  go_wp2_with fail
  rw [rounds_succ]
  go_wp2_with fail
  rw [rounds_succ]
  go_wp2_with fail
  rw [rounds_succ]
  go_wp2_with fail
  rw [rounds_succ]
  go_wp2_with (at_delete; refine wpList_delete_own _ rfl _ _ 100 40 rfl 99 tup_keyed Tryz.underlying100 _ M n D rfl hw _ _ rfl HK.out ?_; intro v1 hown1 hturn1)
  first | go_end0 | refine bodyPost_ret (results_none rfl _ _ _) rfl ?_
  exact ⟨rfl, (grown_belowT hL3.out).trans hturn1.grown, hown1⟩

theorem takeBehind_any (a b : Tp) (M n : Nat) (D : DataW Unit) (w : World) (hne : a ≠ b) (hown : w.ownsMap Tryz.prog 40 (unitElem (H := Unit)) M n D) (ka : keyOf Tryz.prog 40 (.agg #[.int .i64 a.proto, .int .i64 a.src, .int .i64 a.sport, .int .i64 a.dst, .int .i64 a.dport, .int .i64 a.kind]) = some (klT a)) (kb : keyOf Tryz.prog 40 (.agg #[.int .i64 b.proto, .int .i64 b.src, .int .i64 b.sport, .int .i64 b.dst, .int .i64 b.dport, .int .i64 b.kind]) = some (klT b)) :
    Calls Tryz.prog 77 #[.map (some M), .agg #[.int .i64 a.proto, .int .i64 a.src, .int .i64 a.sport, .int .i64 a.dst, .int .i64 a.dport, .int .i64 a.kind], .agg #[.int .i64 b.proto, .int .i64 b.src, .int .i64 b.sport, .int .i64 b.dst, .int .i64 b.dport, .int .i64 b.kind]] w fun e w' => e = .returned (.tuple #[]) ∧ w.grownBy w' (some M) ∧ w'.ownsMap Tryz.prog 40 (unitElem (H := Unit)) M n (D.del (if lessT a b = true then klT b else klT a)) := by
  by_cases h : a.proto < b.proto
  · have l : lessT a b = true := by unfold lessT; rw [if_neg (by omega)]; exact decide_eq_true h
    rw [if_pos l]
    exact take_0_lt a b M n D w  h hown kb
  by_cases h' : b.proto < a.proto
  · have l : ¬ lessT a b = true := by unfold lessT; rw [if_neg (by omega)]; rw [decide_eq_false h]; decide
    rw [if_neg l]
    exact take_0_gt a b M n D w  h h' hown ka
  have p0 := h
  have q0 := h'
  have e0 : a.proto = b.proto := by omega
  clear h h'
  by_cases h : a.src < b.src
  · have l : lessT a b = true := by unfold lessT; rw [if_pos e0, if_neg (by omega)]; exact decide_eq_true h
    rw [if_pos l]
    exact take_1_lt a b M n D w p0 q0 h hown kb
  by_cases h' : b.src < a.src
  · have l : ¬ lessT a b = true := by unfold lessT; rw [if_pos e0, if_neg (by omega)]; rw [decide_eq_false h]; decide
    rw [if_neg l]
    exact take_1_gt a b M n D w p0 q0 h h' hown ka
  have p1 := h
  have q1 := h'
  have e1 : a.src = b.src := by omega
  clear h h'
  by_cases h : a.sport < b.sport
  · have l : lessT a b = true := by unfold lessT; rw [if_pos e0, if_pos e1, if_neg (by omega)]; exact decide_eq_true h
    rw [if_pos l]
    exact take_2_lt a b M n D w p0 q0 p1 q1 h hown kb
  by_cases h' : b.sport < a.sport
  · have l : ¬ lessT a b = true := by unfold lessT; rw [if_pos e0, if_pos e1, if_neg (by omega)]; rw [decide_eq_false h]; decide
    rw [if_neg l]
    exact take_2_gt a b M n D w p0 q0 p1 q1 h h' hown ka
  have p2 := h
  have q2 := h'
  have e2 : a.sport = b.sport := by omega
  clear h h'
  by_cases h : a.dst < b.dst
  · have l : lessT a b = true := by unfold lessT; rw [if_pos e0, if_pos e1, if_pos e2, if_neg (by omega)]; exact decide_eq_true h
    rw [if_pos l]
    exact take_3_lt a b M n D w p0 q0 p1 q1 p2 q2 h hown kb
  by_cases h' : b.dst < a.dst
  · have l : ¬ lessT a b = true := by unfold lessT; rw [if_pos e0, if_pos e1, if_pos e2, if_neg (by omega)]; rw [decide_eq_false h]; decide
    rw [if_neg l]
    exact take_3_gt a b M n D w p0 q0 p1 q1 p2 q2 h h' hown ka
  have p3 := h
  have q3 := h'
  have e3 : a.dst = b.dst := by omega
  clear h h'
  by_cases h : a.dport < b.dport
  · have l : lessT a b = true := by unfold lessT; rw [if_pos e0, if_pos e1, if_pos e2, if_pos e3, if_neg (by omega)]; exact decide_eq_true h
    rw [if_pos l]
    exact take_4_lt a b M n D w p0 q0 p1 q1 p2 q2 p3 q3 h hown kb
  by_cases h' : b.dport < a.dport
  · have l : ¬ lessT a b = true := by unfold lessT; rw [if_pos e0, if_pos e1, if_pos e2, if_pos e3, if_neg (by omega)]; rw [decide_eq_false h]; decide
    rw [if_neg l]
    exact take_4_gt a b M n D w p0 q0 p1 q1 p2 q2 p3 q3 h h' hown ka
  have p4 := h
  have q4 := h'
  have e4 : a.dport = b.dport := by omega
  clear h h'
  by_cases h : a.kind < b.kind
  · have l : lessT a b = true := by unfold lessT; rw [if_pos e0, if_pos e1, if_pos e2, if_pos e3, if_pos e4]; exact decide_eq_true h
    rw [if_pos l]
    exact take_5_lt a b M n D w p0 q0 p1 q1 p2 q2 p3 q3 p4 q4 h hown kb
  by_cases h' : b.kind < a.kind
  · have l : ¬ lessT a b = true := by unfold lessT; rw [if_pos e0, if_pos e1, if_pos e2, if_pos e3, if_pos e4]; rw [decide_eq_false h]; decide
    rw [if_neg l]
    exact take_5_gt a b M n D w p0 q0 p1 q1 p2 q2 p3 q3 p4 q4 h h' hown ka
  have p5 := h
  have q5 := h'
  have e5 : a.kind = b.kind := by omega
  clear h h'
  exfalso
  apply hne
  obtain ⟨a1, a2, a3, a4, a5, a6⟩ := a
  obtain ⟨b1, b2, b3, b4, b5, b6⟩ := b
  simp only at e0 e1 e2 e3 e4 e5
  subst e0 e1 e2 e3 e4 e5
  rfl
end Go.Proofs.YtedknnkdnccfmaaGreatDoor
