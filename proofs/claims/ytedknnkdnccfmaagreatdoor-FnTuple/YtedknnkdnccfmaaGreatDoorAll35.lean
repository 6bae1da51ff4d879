/- Proved here: spec.TupleHash answers a tuple's place by a key (else -1); all old memory stays (condition: the key is a string). · Proved here: spec.Invert answers a tuple turned round; all old memory stays (no conditions). -/
import Derived.Test.YtedknnkdnccfmaaGreatDoorAll28
import Derived.Test.YtedknnkdnccfmaaGreatDoorTextSpec
import Derived.Test.YtedknnkdnccfmaaGreatDoorAll33
import Derived.Test.YtedknnkdnccfmaaGreatDoorAll4
import Derived.Deep.Cut
section
namespace Go.Proofs.YtedknnkdnccfmaaGreatDoor
open Go.ChangeShapes Go.WideShapes Go.ChangeAt Go.RowKit
set_option linter.unusedVariables false
set_option maxRecDepth 100000
set_option linter.unusedSimpArgs false

theorem specCrcH_any (s : ByteArray) (w : World) (hs : s.size ≤ maxLen) :
    Calls Tryz.prog 81 #[.string s] w fun e w' => e = .returned (.int .i64 (crcAns 0 s)) ∧ w' = w := by
  have hs' : s.size ≤ 2 ^ 63 - 1 := hs
  by_cases h1 : 8000 < s.size
  · have e : crcAns 0 s = 0 := if_pos (Or.inl h1)
    rw [e]
    go_enter Tryz.func81, Tryz.ntmps81
    go_wp2
    go_ret
    exact ⟨rfl, rfl⟩
  · have e : crcAns 0 s = (crcOf 0 s.data.toList : Nat) := if_neg (by omega)
    rw [e]
    clear e
    go_enter Tryz.func81, Tryz.ntmps81
    go_wp2_with (go_at_call 115; refine (l01Crc_any 0 _ _ (by omega) hs).mono ?_; rintro e w' ⟨rfl, rfl⟩)
    go_ret
    exact ⟨rfl, rfl⟩


set_option maxHeartbeats 2000000 in
theorem specHash_any (t : Tp) (k : ByteArray) (n : Int) (w : World) (hs : k.size ≤ maxLen) :
    Calls Tryz.prog 34 #[.agg #[.int .i64 t.proto, .int .i64 t.src, .int .i64 t.sport, .int .i64 t.dst, .int .i64 t.dport, .int .i64 t.kind], .string k, .int .i64 n] w fun e w' => e = .returned (.int .i64 (hashAns t k n)) ∧ Below w.heap.size w w' := by
  have hs' : k.size ≤ 2 ^ 63 - 1 := hs
  have HR := hidS (fun W => specTRight_any t W)
  cases hr : rightT t
  · rw [hash_no (by unfold hashB; rw [hr]; rfl)]
    have hGP0 : Hid ((w.alloc (.cells #[.int .i64 t.proto, .int .i64 t.src, .int .i64 t.sport, .int .i64 t.dst, .int .i64 t.dport, .int .i64 t.kind] 40)).heap[w.heap.size]? = some (.cells #[.int .i64 t.proto, .int .i64 t.src, .int .i64 t.sport, .int .i64 t.dst, .int .i64 t.dport, .int .i64 t.kind] 40)) := by
      show _ = _
      have := heap_newG w (.cells #[.int .i64 t.proto, .int .i64 t.src, .int .i64 t.sport, .int .i64 t.dst, .int .i64 t.dport, .int .i64 t.kind] 40)
      simpa using this
    have hL0 := hidS ((Below.refl w.heap.size w).alloc (Nat.le_refl _) (.cells #[.int .i64 t.proto, .int .i64 t.src, .int .i64 t.sport, .int .i64 t.dst, .int .i64 t.dport, .int .i64 t.kind] 40))
    go_enter Tryz.func34, Tryz.ntmps34
    go_wp2_with fail
    refine (HR.out _).mono ?_
    rintro _ w1 ⟨rfl, hb1⟩
    have hGP1 := hidS (blk_later hGP0.out hb1)
    have hL1 := hidS (hL0.out.trans (hb1.mono hL0.out.size))
    clear hb1 hL0 hGP0
    rw [hr]
    go_wp2_with fail
    go_ret
    exact ⟨rfl, hL1.out⟩
  by_cases hk : 20 < k.size
  · rw [hash_no (by unfold hashB; rw [decide_eq_false (by omega : ¬ k.size ≤ 20)]; simp)]
    have hk' : (20 : Int) < (k.size : Int) := by omega
    have hGP0 : Hid ((w.alloc (.cells #[.int .i64 t.proto, .int .i64 t.src, .int .i64 t.sport, .int .i64 t.dst, .int .i64 t.dport, .int .i64 t.kind] 40)).heap[w.heap.size]? = some (.cells #[.int .i64 t.proto, .int .i64 t.src, .int .i64 t.sport, .int .i64 t.dst, .int .i64 t.dport, .int .i64 t.kind] 40)) := by
      show _ = _
      have := heap_newG w (.cells #[.int .i64 t.proto, .int .i64 t.src, .int .i64 t.sport, .int .i64 t.dst, .int .i64 t.dport, .int .i64 t.kind] 40)
      simpa using this
    have hL0 := hidS ((Below.refl w.heap.size w).alloc (Nat.le_refl _) (.cells #[.int .i64 t.proto, .int .i64 t.src, .int .i64 t.sport, .int .i64 t.dst, .int .i64 t.dport, .int .i64 t.kind] 40))
    go_enter Tryz.func34, Tryz.ntmps34
    go_wp2_with fail
    refine (HR.out _).mono ?_
    rintro _ w1 ⟨rfl, hb1⟩
    have hGP1 := hidS (blk_later hGP0.out hb1)
    have hL1 := hidS (hL0.out.trans (hb1.mono hL0.out.size))
    clear hb1 hL0 hGP0
    rw [hr]
    go_wp2_with fail
    go_ret
    exact ⟨rfl, hL1.out⟩
  have hk' : ¬ (20 : Int) < (k.size : Int) := by omega
  have HI := hidS (fun W => l02Is_any n 1 64 W)
  cases hi : (decide ((1 : Int) ≤ n) && decide (n ≤ 64))
  · rw [hash_no (by unfold hashB; rw [hi]; simp)]
    have hGP0 : Hid ((w.alloc (.cells #[.int .i64 t.proto, .int .i64 t.src, .int .i64 t.sport, .int .i64 t.dst, .int .i64 t.dport, .int .i64 t.kind] 40)).heap[w.heap.size]? = some (.cells #[.int .i64 t.proto, .int .i64 t.src, .int .i64 t.sport, .int .i64 t.dst, .int .i64 t.dport, .int .i64 t.kind] 40)) := by
      show _ = _
      have := heap_newG w (.cells #[.int .i64 t.proto, .int .i64 t.src, .int .i64 t.sport, .int .i64 t.dst, .int .i64 t.dport, .int .i64 t.kind] 40)
      simpa using this
    have hL0 := hidS ((Below.refl w.heap.size w).alloc (Nat.le_refl _) (.cells #[.int .i64 t.proto, .int .i64 t.src, .int .i64 t.sport, .int .i64 t.dst, .int .i64 t.dport, .int .i64 t.kind] 40))
    go_enter Tryz.func34, Tryz.ntmps34
    go_wp2_with fail
    refine (HR.out _).mono ?_
    rintro _ w1 ⟨rfl, hb1⟩
    have hGP1 := hidS (blk_later hGP0.out hb1)
    have hL1 := hidS (hL0.out.trans (hb1.mono hL0.out.size))
    clear hb1 hL0 hGP0
    rw [hr]
    go_wp2_with fail
    refine (HI.out _).mono ?_
    rintro _ v ⟨rfl, hv⟩
    rw [hv]
    clear hv v
    rw [hi]
    go_wp2_with fail
    go_ret
    exact ⟨rfl, hL1.out⟩
  · rw [hash_yes (by unfold hashB; rw [hr, hi, decide_eq_true (by omega : k.size ≤ 20)]; rfl)]
    have hn : 1 ≤ n ∧ n ≤ 64 := by simpa using hi
    have hn0 : ¬ n = 0 := by omega
    have HX := hidS (fun W => l04Text_any t W hr)
    have hz := tupT_size t
    have HC := hidS (fun W => specCrcH_any (k ++ tupT t) W (by rw [ByteArray.size_append]; unfold maxLen; omega))
    generalize tupT t = q at *
    generalize crcAns 0 (k ++ q) = C at *
    have hGP0 : Hid ((w.alloc (.cells #[.int .i64 t.proto, .int .i64 t.src, .int .i64 t.sport, .int .i64 t.dst, .int .i64 t.dport, .int .i64 t.kind] 40)).heap[w.heap.size]? = some (.cells #[.int .i64 t.proto, .int .i64 t.src, .int .i64 t.sport, .int .i64 t.dst, .int .i64 t.dport, .int .i64 t.kind] 40)) := by
      show _ = _
      have := heap_newG w (.cells #[.int .i64 t.proto, .int .i64 t.src, .int .i64 t.sport, .int .i64 t.dst, .int .i64 t.dport, .int .i64 t.kind] 40)
      simpa using this
    have hL0 := hidS ((Below.refl w.heap.size w).alloc (Nat.le_refl _) (.cells #[.int .i64 t.proto, .int .i64 t.src, .int .i64 t.sport, .int .i64 t.dst, .int .i64 t.dport, .int .i64 t.kind] 40))
    go_enter Tryz.func34, Tryz.ntmps34
    go_wp2_with fail
    refine (HR.out _).mono ?_
    rintro _ w1 ⟨rfl, hb1⟩
    have hGP1 := hidS (blk_later hGP0.out hb1)
    have hL1 := hidS (hL0.out.trans (hb1.mono hL0.out.size))
    clear hb1 hL0 hGP0
    rw [hr]
    go_wp2_with fail
    refine (HI.out _).mono ?_
    rintro _ v ⟨rfl, hv⟩
    rw [hv]
    clear hv v
    rw [hi]
    have cP0 := blk_cell hGP1.out 0
    have cP1 := blk_cell hGP1.out 1
    have cP2 := blk_cell hGP1.out 2
    have cP3 := blk_cell hGP1.out 3
    have cP4 := blk_cell hGP1.out 4
    have cP5 := blk_cell hGP1.out 5
    simp at cP0 cP1 cP2 cP3 cP4 cP5
    go_wp2_with fail
    refine (HX.out _).mono ?_
    rintro _ w2 ⟨rfl, hb2⟩
    clear cP0 cP1 cP2 cP3 cP4 cP5
    have hGP2 := hidS (blk_later hGP1.out hb2)
    have hL2 := hidS (hL1.out.trans (hb2.mono hL1.out.size))
    clear hb2 hL1 hGP1
    go_wp2_with fail
    refine (HC.out _).mono ?_
    rintro _ v ⟨rfl, hv⟩
    rw [hv]
    clear hv v
    go_wp2_with fail
    go_ret
    exact ⟨rfl, hL2.out⟩
end Go.Proofs.YtedknnkdnccfmaaGreatDoor
end

section
namespace Go.Proofs.YtedknnkdnccfmaaGreatDoor
open Go.ChangeShapes Go.WideShapes Go.ChangeAt Go.RowKit
set_option linter.unusedVariables false

theorem right_kind {t : Tp} (h : rightT t = true) (h1 : t.proto = 1) : t.kind = 8 ∨ t.kind = 0 := by
  unfold rightT echoB at h
  rw [if_pos h1] at h
  simp at h
  omega
theorem inv_ask {t : Tp} (h1 : t.proto = 1) (h8 : t.kind = 8) : invT t = ⟨t.proto, t.dst, t.dport, t.src, t.sport, 0⟩ := by unfold invT; rw [if_pos h1, h8]; rfl
theorem inv_reply {t : Tp} (h1 : t.proto = 1) (h0 : t.kind = 0) : invT t = ⟨t.proto, t.dst, t.dport, t.src, t.sport, 8⟩ := by unfold invT; rw [if_pos h1, h0]; rfl
theorem inv_other {t : Tp} (h1 : t.proto ≠ 1) : invT t = ⟨t.proto, t.dst, t.dport, t.src, t.sport, 0⟩ := by unfold invT; rw [if_neg h1]

set_option maxHeartbeats 1000000 in
theorem l04Invert_any (t : Tp) (w : World) (h : rightT t = true) :
    Calls Tryz.prog 74 #[.agg #[.int .i64 t.proto, .int .i64 t.src, .int .i64 t.sport, .int .i64 t.dst, .int .i64 t.dport, .int .i64 t.kind]] w fun e w' => e = .returned (.agg #[.int .i64 (invT t).proto, .int .i64 (invT t).src, .int .i64 (invT t).sport, .int .i64 (invT t).dst, .int .i64 (invT t).dport, .int .i64 (invT t).kind]) ∧ Below w.heap.size w w' := by
  by_cases h1 : t.proto = 1
  · have h1' : (t.proto == 1) = true := beq_iff_eq.2 h1
    rcases right_kind h h1 with h8 | h0
    · rw [inv_ask h1 h8]
      clear h h1
      obtain ⟨pr, s, sp, d, dp, k⟩ := t
      simp only at h8 h1' ⊢
      subst h8
      go_enter Tryz.func74, Tryz.ntmps74
      go_wp2
      go_returns
      exact ⟨rfl, by go_grown⟩
    · rw [inv_reply h1 h0]
      clear h h1
      obtain ⟨pr, s, sp, d, dp, k⟩ := t
      simp only at h0 h1' ⊢
      subst h0
      go_enter Tryz.func74, Tryz.ntmps74
      go_wp2
      go_returns
      exact ⟨rfl, by go_grown⟩
  · have h1' : (t.proto == 1) = false := beq_eq_false_iff_ne.2 h1
    rw [inv_other h1]
    clear h h1
    go_enter Tryz.func74, Tryz.ntmps74
    go_wp2
    go_returns
    exact ⟨rfl, by go_grown⟩

set_option maxHeartbeats 1000000 in
theorem specInv_any (t : Tp) (w : World) :
    Calls Tryz.prog 28 #[.agg #[.int .i64 t.proto, .int .i64 t.src, .int .i64 t.sport, .int .i64 t.dst, .int .i64 t.dport, .int .i64 t.kind]] w fun e w' => e = .returned (.agg #[.int .i64 (invAns t).proto, .int .i64 (invAns t).src, .int .i64 (invAns t).sport, .int .i64 (invAns t).dst, .int .i64 (invAns t).dport, .int .i64 (invAns t).kind]) ∧ Below w.heap.size w w' := by
  have HR := hidS (fun W => specTRight_any t W)
  cases hr : rightT t
  · have e : invAns t = zeroTp := if_neg (by rw [hr]; simp)
    rw [e]
    clear e
    have hGP0 : Hid (((w.alloc (.cells #[.int .i64 t.proto, .int .i64 t.src, .int .i64 t.sport, .int .i64 t.dst, .int .i64 t.dport, .int .i64 t.kind] 40)).alloc (.cells #[.int .i64 0, .int .i64 0, .int .i64 0, .int .i64 0, .int .i64 0, .int .i64 0] 40)).heap[w.heap.size]? = some (.cells #[.int .i64 t.proto, .int .i64 t.src, .int .i64 t.sport, .int .i64 t.dst, .int .i64 t.dport, .int .i64 t.kind] 40)) := by
      show _ = _
      have := blk_alloc (heap_newG w (.cells #[.int .i64 t.proto, .int .i64 t.src, .int .i64 t.sport, .int .i64 t.dst, .int .i64 t.dport, .int .i64 t.kind] 40)) (.cells #[.int .i64 0, .int .i64 0, .int .i64 0, .int .i64 0, .int .i64 0, .int .i64 0] 40)
      simpa using this
    have hGR0 : Hid (((w.alloc (.cells #[.int .i64 t.proto, .int .i64 t.src, .int .i64 t.sport, .int .i64 t.dst, .int .i64 t.dport, .int .i64 t.kind] 40)).alloc (.cells #[.int .i64 0, .int .i64 0, .int .i64 0, .int .i64 0, .int .i64 0, .int .i64 0] 40)).heap[w.heap.size + 1]? = some (.cells #[.int .i64 0, .int .i64 0, .int .i64 0, .int .i64 0, .int .i64 0, .int .i64 0] 40)) := by
      show _ = _
      have := heap_newG (w.alloc (.cells #[.int .i64 t.proto, .int .i64 t.src, .int .i64 t.sport, .int .i64 t.dst, .int .i64 t.dport, .int .i64 t.kind] 40)) (.cells #[.int .i64 0, .int .i64 0, .int .i64 0, .int .i64 0, .int .i64 0, .int .i64 0] 40)
      simpa using this
    have hL0 := hidS (((Below.refl w.heap.size w).alloc (Nat.le_refl _) (.cells #[.int .i64 t.proto, .int .i64 t.src, .int .i64 t.sport, .int .i64 t.dst, .int .i64 t.dport, .int .i64 t.kind] 40)).alloc (by simp) (.cells #[.int .i64 0, .int .i64 0, .int .i64 0, .int .i64 0, .int .i64 0, .int .i64 0] 40))
    go_enter Tryz.func28, Tryz.ntmps28
    go_wp2_with fail
    refine (HR.out _).mono ?_
    rintro _ w1 ⟨rfl, hb1⟩
    have hGP1 := hidS (blk_later hGP0.out hb1)
    have hGR1 := hidS (blk_later hGR0.out hb1)
    have hL1 := hidS (hL0.out.trans (hb1.mono hL0.out.size))
    clear hb1 hL0 hGP0 hGR0
    rw [hr]
    have kR := blk_cell hGR1.out
    have fR := blk_free hGR1.out
    go_wp2_with fail
    refine bodyPost_ret (v := .agg #[.int .i64 zeroTp.proto, .int .i64 zeroTp.src, .int .i64 zeroTp.sport, .int .i64 zeroTp.dst, .int .i64 zeroTp.dport, .int .i64 zeroTp.kind]) (by simp [results, Tryz.results28, go_sem, zeroTp, *]) rfl ⟨rfl, ?_⟩
    repeat (refine below_at ?_ (by omega))
    exact hL1.out
  · have e : invAns t = invT t := if_pos hr
    rw [e]
    clear e
    have HI := hidS (fun W => l04Invert_any t W hr)
    generalize invT t = q at *
    have hGP0 : Hid (((w.alloc (.cells #[.int .i64 t.proto, .int .i64 t.src, .int .i64 t.sport, .int .i64 t.dst, .int .i64 t.dport, .int .i64 t.kind] 40)).alloc (.cells #[.int .i64 0, .int .i64 0, .int .i64 0, .int .i64 0, .int .i64 0, .int .i64 0] 40)).heap[w.heap.size]? = some (.cells #[.int .i64 t.proto, .int .i64 t.src, .int .i64 t.sport, .int .i64 t.dst, .int .i64 t.dport, .int .i64 t.kind] 40)) := by
      show _ = _
      have := blk_alloc (heap_newG w (.cells #[.int .i64 t.proto, .int .i64 t.src, .int .i64 t.sport, .int .i64 t.dst, .int .i64 t.dport, .int .i64 t.kind] 40)) (.cells #[.int .i64 0, .int .i64 0, .int .i64 0, .int .i64 0, .int .i64 0, .int .i64 0] 40)
      simpa using this
    have hGR0 : Hid (((w.alloc (.cells #[.int .i64 t.proto, .int .i64 t.src, .int .i64 t.sport, .int .i64 t.dst, .int .i64 t.dport, .int .i64 t.kind] 40)).alloc (.cells #[.int .i64 0, .int .i64 0, .int .i64 0, .int .i64 0, .int .i64 0, .int .i64 0] 40)).heap[w.heap.size + 1]? = some (.cells #[.int .i64 0, .int .i64 0, .int .i64 0, .int .i64 0, .int .i64 0, .int .i64 0] 40)) := by
      show _ = _
      have := heap_newG (w.alloc (.cells #[.int .i64 t.proto, .int .i64 t.src, .int .i64 t.sport, .int .i64 t.dst, .int .i64 t.dport, .int .i64 t.kind] 40)) (.cells #[.int .i64 0, .int .i64 0, .int .i64 0, .int .i64 0, .int .i64 0, .int .i64 0] 40)
      simpa using this
    have hL0 := hidS (((Below.refl w.heap.size w).alloc (Nat.le_refl _) (.cells #[.int .i64 t.proto, .int .i64 t.src, .int .i64 t.sport, .int .i64 t.dst, .int .i64 t.dport, .int .i64 t.kind] 40)).alloc (by simp) (.cells #[.int .i64 0, .int .i64 0, .int .i64 0, .int .i64 0, .int .i64 0, .int .i64 0] 40))
    go_enter Tryz.func28, Tryz.ntmps28
    go_wp2_with fail
    refine (HR.out _).mono ?_
    rintro _ w1 ⟨rfl, hb1⟩
    have hGP1 := hidS (blk_later hGP0.out hb1)
    have hGR1 := hidS (blk_later hGR0.out hb1)
    have hL1 := hidS (hL0.out.trans (hb1.mono hL0.out.size))
    clear hb1 hL0 hGP0 hGR0
    rw [hr]
    have cP0 := blk_cell hGP1.out 0
    have cP1 := blk_cell hGP1.out 1
    have cP2 := blk_cell hGP1.out 2
    have cP3 := blk_cell hGP1.out 3
    have cP4 := blk_cell hGP1.out 4
    have cP5 := blk_cell hGP1.out 5
    simp at cP0 cP1 cP2 cP3 cP4 cP5
    go_wp2_with fail
    refine (HI.out _).mono ?_
    rintro _ w2 ⟨rfl, hb2⟩
    clear cP0 cP1 cP2 cP3 cP4 cP5
    have hGP2 := hidS (blk_later hGP1.out hb2)
    have hGR2 := hidS (blk_later hGR1.out hb2)
    have hL2 := hidS (hL1.out.trans (hb2.mono hL1.out.size))
    clear hb2 hL1 hGP1 hGR1
    have kR := blk_cell hGR2.out
    have fR := blk_free hGR2.out
    go_wp2_with fail
    refine bodyPost_ret (v := .agg #[.int .i64 q.proto, .int .i64 q.src, .int .i64 q.sport, .int .i64 q.dst, .int .i64 q.dport, .int .i64 q.kind]) (by simp [results, Tryz.results28, go_sem, *]) rfl ⟨rfl, ?_⟩
    repeat (refine below_at ?_ (by omega))
    exact hL2.out
end Go.Proofs.YtedknnkdnccfmaaGreatDoor
end
