/- Proved here: impl.portsOf answers an iterator that has captured its rule, its start and how many ports there are; and that iterator's contract (conditions: a right rule, a time). · Proved here: impl.areWords answers whether all of a row are words, and leaves memory alone (condition: at most 1000 of them). · Proved here: impl.areAddrs answers whether all of a row are addresses, and leaves memory alone (condition: at most 1000 of them). · Proved here: impl's small answers on nets and kinds: netOf, areBits, isRuleKind, isRuleProto, isNet (conditions: netOf of an address and 0 to 32 bits). · Proved here: two cells of a new block (no program of its own). · Proved here: impl.InNet answers whether the first bits of two addresses are the same; all old memory stays (no conditions). -/
import Derived.Test.YtilajoafppplcaaAll26
import Derived.RangeFuncNested
import Derived.RangeFuncBound
import Derived.RangeFuncCalls
import Derived.Deep.Cut
import Derived.Test.YtilajoafppplcaaAll11
import Derived.Test.YtilajoafppplcaaAll5
import Derived.Test.YtilajoafppplcaaAll1
section
namespace Go.Proofs.Ytilajoafppplcaa
open Go.RowKit Go.Shelf
set_option linter.unusedVariables false
set_option linter.unusedSimpArgs false
set_option maxRecDepth 100000

set_option maxHeartbeats 2000000 in
theorem portsOf_any (s : Rl) (start : Int) (w : World) (hsr : rightR s = true) :
    Calls Try.prog 111 #[.agg #[.int .i64 s.kind, .int .i64 s.proto, .int .i64 s.net, .int .i64 s.bits, .int .i64 s.goal, .int .i64 s.low, .int .i64 s.high], .int .i64 start] w fun e w' => ∃ Bm Bs Bq : Nat, e = .returned (.func (.func 132) #[] #[.pointer (some ⟨Bm, 0, none⟩), .pointer (some ⟨Bs, 0, none⟩), .pointer (some ⟨Bq, 0, none⟩)]) ∧
      w'.heap[Bm]? = some (.cells #[.int .i64 (manyR s)] 2) ∧ w'.heap[Bs]? = some (.cells #[.int .i64 s.kind, .int .i64 s.proto, .int .i64 s.net, .int .i64 s.bits, .int .i64 s.goal, .int .i64 s.low, .int .i64 s.high] 64) ∧ w'.heap[Bq]? = some (.cells #[.int .i64 start] 2) ∧ Below w.heap.size w w' := by
  have hmb := many_bd hsr
  obtain ⟨_, _, _, _, w1', w2', w3', _⟩ := right_parts hsr
  have w4 := word_iff.1 w1'
  have w5 := word_iff.1 w2'
  clear w1' w2'
  have hM : Hid (manyR s = s.high - s.low + 1) := rfl
  have hGR0 : Hid (((w.alloc (.cells #[.int .i64 s.kind, .int .i64 s.proto, .int .i64 s.net, .int .i64 s.bits, .int .i64 s.goal, .int .i64 s.low, .int .i64 s.high] 64)).alloc (.cells #[.int .i64 start] 2)).heap[w.heap.size]? = some (.cells #[.int .i64 s.kind, .int .i64 s.proto, .int .i64 s.net, .int .i64 s.bits, .int .i64 s.goal, .int .i64 s.low, .int .i64 s.high] 64)) := by
    show _ = _
    have := blk_alloc (heap_newG w (.cells #[.int .i64 s.kind, .int .i64 s.proto, .int .i64 s.net, .int .i64 s.bits, .int .i64 s.goal, .int .i64 s.low, .int .i64 s.high] 64)) (.cells #[.int .i64 start] 2)
    simpa using this
  have hGQ0 : Hid (((w.alloc (.cells #[.int .i64 s.kind, .int .i64 s.proto, .int .i64 s.net, .int .i64 s.bits, .int .i64 s.goal, .int .i64 s.low, .int .i64 s.high] 64)).alloc (.cells #[.int .i64 start] 2)).heap[w.heap.size + 1]? = some (.cells #[.int .i64 start] 2)) := by
    show _ = _
    have := heap_newG (w.alloc (.cells #[.int .i64 s.kind, .int .i64 s.proto, .int .i64 s.net, .int .i64 s.bits, .int .i64 s.goal, .int .i64 s.low, .int .i64 s.high] 64)) (.cells #[.int .i64 start] 2)
    simpa using this
  have hL0 := hidS (((Below.refl w.heap.size w).alloc (Nat.le_refl _) (.cells #[.int .i64 s.kind, .int .i64 s.proto, .int .i64 s.net, .int .i64 s.bits, .int .i64 s.goal, .int .i64 s.low, .int .i64 s.high] 64)).alloc (by simp) (.cells #[.int .i64 start] 2))
  go_enter Try.func111, Try.ntmps111
  go_upto_region 1 with fail
  generalize ((w.alloc (.cells #[.int .i64 s.kind, .int .i64 s.proto, .int .i64 s.net, .int .i64 s.bits, .int .i64 s.goal, .int .i64 s.low, .int .i64 s.high] 64)).alloc (.cells #[.int .i64 start] 2)) = w0 at hGR0 hGQ0 hL0 ⊢
  have hx1 : IntKind.i64.wrap (s.high - s.low) = s.high - s.low := IntWalk.i64_in _ (by omega)
  have hx2 : IntKind.i64.wrap (s.high - s.low + 1) = s.high - s.low + 1 := IntWalk.i64_in _ (by omega)
  have cR0 := blk_cell hGR0.out 0
  have cR1 := blk_cell hGR0.out 1
  have cR2 := blk_cell hGR0.out 2
  have cR3 := blk_cell hGR0.out 3
  have cR4 := blk_cell hGR0.out 4
  have cR5 := blk_cell hGR0.out 5
  have cR6 := blk_cell hGR0.out 6
  simp at cR0 cR1 cR2 cR3 cR4 cR5 cR6
  have cQ0 := blk_cell hGQ0.out 0
  simp at cQ0
  go_wp2_with fail
  go_ret
  exact ⟨_, _, _, rfl, heap_newG _ _, blk_alloc hGR0.out _, blk_alloc hGQ0.out _, hL0.out.alloc hL0.out.size _⟩
/-- the iterator's contract -/
theorem ports_stops (F : Fence) (n : Nat) (hfa : ∀ f, F.fn f) (hf : F.fn 132) (hro : F.round = none) (hn : 1 ≤ n) (Bm Bs Bq n₀ N : Nat) (s : Rl) (start : Int) (hsr : rightR s = true) (hs0 : 0 ≤ start) (hs1 : start ≤ 1000000) (hN : (N : Int) = manyR s) (w : World) (b1 : Bm < n₀) (b2 : Bs < n₀) (b3 : Bq < n₀) (hle : n₀ ≤ w.heap.size)
    (hm : w.heap[Bm]? = some (.cells #[.int .i64 (N : Int)] 2)) (hs : w.heap[Bs]? = some (.cells #[.int .i64 s.kind, .int .i64 s.proto, .int .i64 s.net, .int .i64 s.bits, .int .i64 s.goal, .int .i64 s.low, .int .i64 s.high] 64)) (hq : w.heap[Bq]? = some (.cells #[.int .i64 start] 2)) :
    SeqStopsK F n Try.prog 132 #[.pointer (some ⟨Bm, 0, none⟩), .pointer (some ⟨Bs, 0, none⟩), .pointer (some ⟨Bq, 0, none⟩)] (fun x : Int => #[Value.int .i64 x]) (Below n₀)
      (fun ys => ys = upF (fun k : Nat => portN s start k) N) (fun pre => ∃ k, k ≤ N ∧ pre = upF (fun k : Nat => portN s start k) k) N w := fun l J Jx W hW hJ _ hY h0 =>
  (ports1_in F n hfa hf hro hn l Bm Bs Bq n₀ N s start hsr hs0 hs1 hN b1 b2 b3 J Jx (fun pre V h => hJ pre V V.drew none h ⟨rfl, rfl, rfl, Nat.le_refl _, fun _ _ _ => rfl⟩ (fun r e => by cases e)) hY W ((hW.block _ (by omega)).trans hm) ((hW.block _ (by omega)).trans hs) ((hW.block _ (by omega)).trans hq) h0)
end Go.Proofs.Ytilajoafppplcaa
end

section
namespace Go.Proofs.Ytilajoafppplcaa
open Go.ChangeShapes Go.WideShapes Go.ChangeAt Go.RowKit
open Go.ChangeMaps (open_string shut_string)
set_option linter.unusedVariables false

/-- all of them are words -/
def allW (zs : List Int) : Bool := zs.all wordB
theorem all_take_succ (zs : List Int) (k : Nat) (h : k < zs.length) : allW (zs.take (k + 1)) = (allW (zs.take k) && wordB zs[k]) := by
  unfold allW; rw [List.take_succ_eq_append_getElem h, List.all_append]; simp
theorem all_bad (zs : List Int) (k : Nat) (h : k < zs.length) (hb : wordB zs[k] = false) : allW zs = false := by
  cases e : allW zs
  · rfl
  · have := List.all_eq_true.1 e zs[k] (List.getElem_mem h); rw [hb] at this; cases this
set_option maxHeartbeats 400000 in
theorem areWords_any (g : Nat) (zs : List Int) (w : World) (hc : ∀ j, (h : j < zs.length) → w.cell? ⟨g, j, none⟩ = some (.int .i64 zs[j])) (hl : zs.length ≤ 1000) :
    Calls Try.prog 87 #[.slice (some ⟨g, 0, none⟩) zs.length zs.length] w fun e w' => e = .returned (.bool (allW zs)) ∧ w' = w := by
  have HC := hidS hc
  clear hc
  go_enter Try.func87, Try.ntmps87
  go_wp2
  go_loop [7] (fun i => ∃ k : Nat, k ≤ zs.length ∧ i = .int .i64 k ∧ Hid (allW (zs.take k) = true)) (fun i => zs.length - (intOf i).toNat)
  case atStart => exact ⟨0, by omega, rfl, rfl⟩
  case round =>
    obtain ⟨k, hk, rfl, hX⟩ := hrel
    by_cases h : k < zs.length
    · have h' : (k : Int) < (zs.length : Int) := by omega
      have hck := HC.out k h
      have hA := hidS (all_bad zs k h)
      have hB : Hid (wordB zs[k] = true → allW (zs.take (k + 1)) = true) := by intro q; rw [all_take_succ zs k h, hX.out, q]; rfl
      generalize zs[k] = z at *
      clear hX
      by_cases h1 : z < 0
      · have hE : Hid (allW zs = false) := hA.out (by simp [wordB]; omega)
        clear hA hB
        go_wp2
        go_ret
        exact ⟨by rw [hE.out]; rfl, rfl⟩
      · by_cases h2 : 65535 < z
        · have hE : Hid (allW zs = false) := hA.out (by simp [wordB]; omega)
          clear hA hB
          go_wp2
          go_ret
          exact ⟨by rw [hE.out]; rfl, rfl⟩
        · have hE := hidS (hB.out (by simp [wordB]; omega))
          clear hA hB
          go_wp2
          go_round
          case rel => exact ⟨k + 1, by omega, by go_num, hE⟩
          case measure => simp [intOf]; omega
    · have hE : Hid (allW zs = true) := by have := hX.out; rw [List.take_of_length_le (by omega)] at this; exact this
      clear hX
      go_wp2
      go_ret
      exact ⟨by rw [hE.out]; rfl, rfl⟩
theorem two_cells (W : World) (a b : Int) (t : TypeId) : ∀ j, (h : j < [a, b].length) → (W.alloc (.cells #[.int .i64 a, .int .i64 b] t)).cell? ⟨W.heap.size, j, none⟩ = some (.int .i64 [a, b][j]) := by
  intro j hj
  rcases (by simp at hj; omega : j = 0 ∨ j = 1) with rfl | rfl <;> simp
theorem three_cells (W : World) (a b c : Int) (t : TypeId) : ∀ j, (h : j < [a, b, c].length) → (W.alloc (.cells #[.int .i64 a, .int .i64 b, .int .i64 c] t)).cell? ⟨W.heap.size, j, none⟩ = some (.int .i64 [a, b, c][j]) := by
  intro j hj
  rcases (by simp at hj; omega : j = 0 ∨ j = 1 ∨ j = 2) with rfl | rfl | rfl <;> simp
theorem one_cell (W : World) (a : Int) (t : TypeId) : ∀ j, (h : j < [a].length) → (W.alloc (.cells #[.int .i64 a] t)).cell? ⟨W.heap.size, j, none⟩ = some (.int .i64 [a][j]) := by
  intro j hj
  obtain rfl : j = 0 := by simp at hj; omega
  simp
end Go.Proofs.Ytilajoafppplcaa
end

section
namespace Go.Proofs.Ytilajoafppplcaa
open Go.ChangeShapes Go.WideShapes Go.ChangeAt Go.RowKit
open Go.ChangeMaps (open_string shut_string)
set_option linter.unusedVariables false

/-- all of them are addresses -/
def allA (zs : List Int) : Bool := zs.all addrB
theorem allA_take_succ (zs : List Int) (k : Nat) (h : k < zs.length) : allA (zs.take (k + 1)) = (allA (zs.take k) && addrB zs[k]) := by
  unfold allA; rw [List.take_succ_eq_append_getElem h, List.all_append]; simp
theorem allA_bad (zs : List Int) (k : Nat) (h : k < zs.length) (hb : addrB zs[k] = false) : allA zs = false := by
  cases e : allA zs
  · rfl
  · have := List.all_eq_true.1 e zs[k] (List.getElem_mem h); rw [hb] at this; cases this
set_option maxHeartbeats 400000 in
theorem areAddrs_any (g : Nat) (zs : List Int) (w : World) (hc : ∀ j, (h : j < zs.length) → w.cell? ⟨g, j, none⟩ = some (.int .i64 zs[j])) (hl : zs.length ≤ 1000) :
    Calls Try.prog 75 #[.slice (some ⟨g, 0, none⟩) zs.length zs.length] w fun e w' => e = .returned (.bool (allA zs)) ∧ w' = w := by
  have HC := hidS hc
  clear hc
  go_enter Try.func75, Try.ntmps75
  go_wp2
  go_loop [7] (fun i => ∃ k : Nat, k ≤ zs.length ∧ i = .int .i64 k ∧ Hid (allA (zs.take k) = true)) (fun i => zs.length - (intOf i).toNat)
  case atStart => exact ⟨0, by omega, rfl, rfl⟩
  case round =>
    obtain ⟨k, hk, rfl, hX⟩ := hrel
    by_cases h : k < zs.length
    · have h' : (k : Int) < (zs.length : Int) := by omega
      have hck := HC.out k h
      have hA := hidS (allA_bad zs k h)
      have hB : Hid (addrB zs[k] = true → allA (zs.take (k + 1)) = true) := by intro q; rw [allA_take_succ zs k h, hX.out, q]; rfl
      generalize zs[k] = z at *
      clear hX
      by_cases h1 : z < 0
      · have hE : Hid (allA zs = false) := hA.out (by simp [addrB]; omega)
        clear hA hB
        go_wp2
        go_ret
        exact ⟨by rw [hE.out]; rfl, rfl⟩
      · by_cases h2 : 4294967295 < z
        · have hE : Hid (allA zs = false) := hA.out (by simp [addrB]; omega)
          clear hA hB
          go_wp2
          go_ret
          exact ⟨by rw [hE.out]; rfl, rfl⟩
        · have hE := hidS (hB.out (by simp [addrB]; omega))
          clear hA hB
          go_wp2
          go_round
          case rel => exact ⟨k + 1, by omega, by go_num, hE⟩
          case measure => simp [intOf]; omega
    · have hE : Hid (allA zs = true) := by have := hX.out; rw [List.take_of_length_le (by omega)] at this; exact this
      clear hX
      go_wp2
      go_ret
      exact ⟨by rw [hE.out]; rfl, rfl⟩
end Go.Proofs.Ytilajoafppplcaa
end

section
namespace Go.Proofs.Ytilajoafppplcaa
open Go.ChangeShapes Go.WideShapes Go.ChangeAt Go.RowKit
set_option linter.unusedVariables false
set_option linter.unusedSimpArgs false

set_option maxHeartbeats 1000000 in
theorem netOf_any (a b : Int) (ha : 0 ≤ a) (ha2 : a ≤ 4294967295) (h0 : 0 ≤ b) (h1 : b ≤ 32) (w : World) :
    Calls Try.prog 77 #[.int .i64 a, .int .i64 b] w fun e w' => e = .returned (.int .i64 (headN a b)) ∧ w' = w := by
  have hh := head_bd (b := b) ha
  have hH : Hid (headN a b = a / 2 ^ (32 - b).toNat * 2 ^ (32 - b).toNat) := rfl
  have hW : IntKind.i64.wrap (headN a b) = headN a b := IntWalk.i64_in _ (by omega)
  rw [hH.out] at hW
  go_enter Try.func77, Try.ntmps77
  go_wp2
  go_ret
  exact ⟨by rw [hH.out]; first | rfl | (rw [← hW]; rfl), rfl⟩
theorem areBits_any (b : Int) (w : World) :
    Calls Try.prog 76 #[.int .i64 b] w fun e w' => e = .returned (.bool (bitsB b)) ∧ w' = w := by
  by_cases h1 : 0 ≤ b
  · by_cases h2 : b ≤ 32
    · have e : Hid (bitsB b = true) := bits_iff.2 ⟨h1, h2⟩
      go_enter Try.func76, Try.ntmps76
      go_wp2
      go_ret
      exact ⟨by rw [e.out]; rfl, rfl⟩
    · have e : Hid (bitsB b = false) := by unfold Hid bitsB; simp; omega
      go_enter Try.func76, Try.ntmps76
      go_wp2
      go_ret
      exact ⟨by rw [e.out]; rfl, rfl⟩
  · have e : Hid (bitsB b = false) := by unfold Hid bitsB; simp; omega
    go_enter Try.func76, Try.ntmps76
    go_wp2
    go_ret
    exact ⟨by rw [e.out]; rfl, rfl⟩
theorem isRuleKind_any (k : Int) (w : World) :
    Calls Try.prog 80 #[.int .i64 k] w fun e w' => e = .returned (.bool (kindB k)) ∧ w' = w := by
  cases h1 : (k == 1)
  · cases h2 : (k == 2)
    · have e : Hid (kindB k = false) := by unfold Hid kindB; rw [h1, h2]; rfl
      go_enter Try.func80, Try.ntmps80
      go_wp2
      go_ret
      exact ⟨by rw [e.out]; rfl, rfl⟩
    · have e : Hid (kindB k = true) := by unfold Hid kindB; rw [h1, h2]; rfl
      go_enter Try.func80, Try.ntmps80
      go_wp2
      go_ret
      exact ⟨by rw [e.out]; rfl, rfl⟩
  · have e : Hid (kindB k = true) := by unfold Hid kindB; rw [h1]; rfl
    go_enter Try.func80, Try.ntmps80
    go_wp2
    go_ret
    exact ⟨by rw [e.out]; rfl, rfl⟩
set_option maxHeartbeats 1000000 in
theorem isRuleProto_any (p : Int) (w : World) :
    Calls Try.prog 85 #[.int .i64 p] w fun e w' => e = .returned (.bool (protoB p)) ∧ w' = w := by
  have e : Hid (protoB p = (p == 0 || p == 6 || p == 17 || p == 1)) := rfl
  cases h1 : (p == 0)
  · cases h2 : (p == 6)
    · cases h3 : (p == 17)
      · cases h4 : (p == 1)
        all_goals
          have e2 := hidS (e.out.trans (by rw [h1, h2, h3, h4]))
          clear e
          go_enter Try.func85, Try.ntmps85
          go_wp2
          go_ret
          exact ⟨by rw [e2.out]; rfl, rfl⟩
      · have e2 := hidS (e.out.trans (by rw [h1, h2, h3]))
        clear e
        go_enter Try.func85, Try.ntmps85
        go_wp2
        go_ret
        exact ⟨by rw [e2.out]; rfl, rfl⟩
    · have e2 := hidS (e.out.trans (by rw [h1, h2]))
      clear e
      go_enter Try.func85, Try.ntmps85
      go_wp2
      go_ret
      exact ⟨by rw [e2.out]; rfl, rfl⟩
  · have e2 := hidS (e.out.trans (by rw [h1]))
    clear e
    go_enter Try.func85, Try.ntmps85
    go_wp2
    go_ret
    exact ⟨by rw [e2.out]; rfl, rfl⟩
theorem areAddrs_one (g : Nat) (a : Int) (w : World) (hc : w.cell? ⟨g, 0, none⟩ = some (.int .i64 a)) :
    Calls Try.prog 75 #[.slice (some ⟨g, 0, none⟩) 1 1] w fun e w' => e = .returned (.bool (addrB a)) ∧ w' = w := by
  have := areAddrs_any g [a] w (fun j h => by obtain rfl : j = 0 := by simp at h; omega
                                              exact hc) (by simp)
  have e : allA [a] = addrB a := by simp [allA]
  rw [e] at this
  exact this
set_option maxHeartbeats 1000000 in
theorem isNet_any (n b : Int) (w : World) :
    Calls Try.prog 86 #[.int .i64 n, .int .i64 b] w fun e w' => e = .returned (.bool (netB n b)) ∧ Below w.heap.size w w' := by
  have HB := hidS ((Below.refl w.heap.size w).alloc (Nat.le_refl _) (.cells #[.int .i64 n] 2))
  have HC := blk_cell (heap_newG w (.cells #[.int .i64 n] 2)) 0
  have HA := hidS (areAddrs_one w.heap.size n _ HC)
  clear HC
  have hN : Hid (netB n b = (addrB n && bitsB b && headN n b == n)) := rfl
  cases h1 : addrB n
  · have e := hidS (hN.out.trans (by rw [h1]))
    rw [h1] at HA
    clear hN
    go_enter Try.func86, Try.ntmps86
    go_wp2_with fail
    refine HA.out.mono ?_
    rintro _ w1 ⟨rfl, rfl⟩
    go_wp2_with fail
    go_ret
    exact ⟨by rw [e.out]; rfl, HB.out⟩
  rw [h1] at HA
  cases h2 : bitsB b
  · have e := hidS (hN.out.trans (by rw [h1, h2]))
    have H2 := hidS (fun w => areBits_any b w)
    rw [h2] at H2
    clear hN h1 h2
    go_enter Try.func86, Try.ntmps86
    go_wp2_with fail
    refine HA.out.mono ?_
    rintro _ w1 ⟨rfl, rfl⟩
    go_wp2_with fail
    refine (H2.out _).mono ?_
    rintro _ w1 ⟨rfl, rfl⟩
    go_wp2_with fail
    go_ret
    exact ⟨by rw [e.out]; rfl, HB.out⟩
  · have e := hidS (hN.out.trans (by rw [h1, h2, Bool.true_and, Bool.true_and]))
    have H2 := hidS (fun w => areBits_any b w)
    rw [h2] at H2
    have H3 := hidS (fun w => netOf_any n b (addr_iff.1 h1).1 (addr_iff.1 h1).2 (bits_iff.1 h2).1 (bits_iff.1 h2).2 w)
    clear hN h1 h2
    go_enter Try.func86, Try.ntmps86
    go_wp2_with fail
    refine HA.out.mono ?_
    rintro _ w1 ⟨rfl, rfl⟩
    go_wp2_with fail
    refine (H2.out _).mono ?_
    rintro _ w1 ⟨rfl, rfl⟩
    go_wp2_with fail
    refine (H3.out _).mono ?_
    rintro _ w1 ⟨rfl, rfl⟩
    go_wp2_with fail
    go_ret
    exact ⟨by rw [e.out]; rfl, HB.out⟩
end Go.Proofs.Ytilajoafppplcaa
end

section
namespace Go.Proofs.Ytilajoafppplcaa
open Go.ChangeShapes Go.WideShapes Go.ChangeAt Go.RowKit
set_option linter.unusedVariables false

theorem two_cells1 (W : World) (o : Obj) (a b : Int) (t : TypeId) : ∀ j, (h : j < [a, b].length) → ((W.alloc o).alloc (.cells #[.int .i64 a, .int .i64 b] t)).cell? ⟨W.heap.size + 1, j, none⟩ = some (.int .i64 [a, b][j]) := by
  have := two_cells (W.alloc o) a b t
  simpa using this
theorem two_cells2 (W : World) (o o2 : Obj) (a b : Int) (t : TypeId) : ∀ j, (h : j < [a, b].length) → (((W.alloc o).alloc o2).alloc (.cells #[.int .i64 a, .int .i64 b] t)).cell? ⟨W.heap.size + 2, j, none⟩ = some (.int .i64 [a, b][j]) := by
  have := two_cells ((W.alloc o).alloc o2) a b t
  simpa using this
end Go.Proofs.Ytilajoafppplcaa
end

section
namespace Go.Proofs.Ytilajoafppplcaa
open Go.ChangeShapes Go.WideShapes Go.ChangeAt Go.RowKit
set_option linter.unusedVariables false
set_option linter.unusedSimpArgs false

set_option maxHeartbeats 2000000 in
theorem implInNet_any (a n b : Int) (w : World) :
    Calls Try.prog 25 #[.int .i64 a, .int .i64 n, .int .i64 b] w fun e w' => e = .returned (.bool (inNetB a n b)) ∧ Below w.heap.size w w' := by
  have hE : Hid (inNetB a n b = (addrB a && addrB n && bitsB b && headN a b == headN n b)) := rfl
  have HL := hidS ((Below.refl w.heap.size w).alloc (Nat.le_refl _) (.cells #[.int .i64 a, .int .i64 n] 2))
  have HA := hidS (areAddrs_any w.heap.size [a, n] (w.alloc (.cells #[.int .i64 a, .int .i64 n] 2)) (two_cells w a n 2) (by simp))
  have hA2 : allA [a, n] = (addrB a && addrB n) := by simp [allA]
  rw [hA2] at HA
  clear hA2
  have HB := hidS (fun W => areBits_any b W)
  cases h0 : addrB a && addrB n
  · rw [h0] at HA
    have E : Hid (inNetB a n b = false) := hE.out.trans (by rw [h0] <;> simp)
    clear hE
    go_enter Try.func25, Try.ntmps25
    go_wp2_with fail
    refine HA.out.mono ?_
    rintro _ v9 ⟨rfl, rfl⟩
    go_wp2_with fail
    go_ret
    exact ⟨by rw [E.out]; rfl, HL.out⟩
  rw [h0] at HA
  cases h2 : bitsB b
  · rw [h2] at HB
    have E : Hid (inNetB a n b = false) := hE.out.trans (by rw [h2] <;> simp)
    clear hE
    go_enter Try.func25, Try.ntmps25
    go_wp2_with fail
    refine HA.out.mono ?_
    rintro _ v9 ⟨rfl, rfl⟩
    go_wp2_with fail
    refine (HB.out _).mono ?_
    rintro _ v9 ⟨rfl, rfl⟩
    go_wp2_with fail
    go_ret
    exact ⟨by rw [E.out]; rfl, HL.out⟩
  rw [h2] at HB
  have E : Hid (inNetB a n b = (headN a b == headN n b)) := hE.out.trans (by rw [h0, h2] <;> simp only [Bool.true_and])
  obtain ⟨ha, hn⟩ : addrB a = true ∧ addrB n = true := by simpa using h0
  have H1 := hidS (fun W => netOf_any a b (addr_iff.1 ha).1 (addr_iff.1 ha).2 (bits_iff.1 h2).1 (bits_iff.1 h2).2 W)
  have H2 := hidS (fun W => netOf_any n b (addr_iff.1 hn).1 (addr_iff.1 hn).2 (bits_iff.1 h2).1 (bits_iff.1 h2).2 W)
  clear hE h0 ha hn h2
  go_enter Try.func25, Try.ntmps25
  go_wp2_with fail
  refine HA.out.mono ?_
  rintro _ v9 ⟨rfl, rfl⟩
  go_wp2_with fail
  refine (HB.out _).mono ?_
  rintro _ v9 ⟨rfl, rfl⟩
  go_wp2_with fail
  refine (H1.out _).mono ?_
  rintro _ v9 ⟨rfl, rfl⟩
  go_wp2_with fail
  refine (H2.out _).mono ?_
  rintro _ v9 ⟨rfl, rfl⟩
  go_wp2_with fail
  go_ret
  exact ⟨by rw [E.out]; rfl, HL.out⟩
end Go.Proofs.Ytilajoafppplcaa
end
