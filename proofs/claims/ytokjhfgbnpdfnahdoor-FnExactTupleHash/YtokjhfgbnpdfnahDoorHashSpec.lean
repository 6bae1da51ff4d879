/- Proved here: spec.TupleHash answers a tuple's place by a key (else -1); all old memory stays (condition: the key is a string). -/
import Derived.Test.YtokjhfgbnpdfnahDoorHashMath
import Derived.Test.YtokjhfgbnpdfnahDoorTextSpec
namespace Go.Proofs.YtokjhfgbnpdfnahDoor
open Go.ChangeShapes Go.WideShapes Go.ChangeAt Go.RowKit
set_option linter.unusedVariables false
set_option maxRecDepth 100000
set_option linter.unusedSimpArgs false

theorem specCrcH_any (s : ByteArray) (w : World) (hs : s.size ≤ maxLen) :
    Calls Tryd.prog 24 #[.string s] w fun e w' => e = .returned (.int .i64 (crcAns 0 s)) ∧ w' = w := by
  have hs' : s.size ≤ 2 ^ 63 - 1 := hs
  by_cases h1 : 8000 < s.size
  · have e : crcAns 0 s = 0 := if_pos (Or.inl h1)
    rw [e]
    go_enter Tryd.func24, Tryd.ntmps24
    go_wp2
    go_ret
    exact ⟨rfl, rfl⟩
  · have e : crcAns 0 s = (crcOf 0 s.data.toList : Nat) := if_neg (by omega)
    rw [e]
    clear e
    go_enter Tryd.func24, Tryd.ntmps24
    go_wp2_with (go_at_call 42; refine (l01Crc_any 0 _ _ (by omega) hs).mono ?_; rintro e w' ⟨rfl, rfl⟩)
    go_ret
    exact ⟨rfl, rfl⟩


set_option maxHeartbeats 2000000 in
theorem specHash_any (t : Tp) (k : ByteArray) (n : Int) (w : World) (hs : k.size ≤ maxLen) :
    Calls Tryd.prog 9 #[.agg #[.int .i64 t.proto, .int .i64 t.src, .int .i64 t.sport, .int .i64 t.dst, .int .i64 t.dport, .int .i64 t.kind], .string k, .int .i64 n] w fun e w' => e = .returned (.int .i64 (hashAns t k n)) ∧ Below w.heap.size w w' := by
  have hs' : k.size ≤ 2 ^ 63 - 1 := hs
  have HR := hidS (fun W => specTRight_any t W)
  cases hr : rightT t
  · rw [hash_no (by unfold hashB; rw [hr]; rfl)]
    have hGP0 : Hid ((w.alloc (.cells #[.int .i64 t.proto, .int .i64 t.src, .int .i64 t.sport, .int .i64 t.dst, .int .i64 t.dport, .int .i64 t.kind] 25)).heap[w.heap.size]? = some (.cells #[.int .i64 t.proto, .int .i64 t.src, .int .i64 t.sport, .int .i64 t.dst, .int .i64 t.dport, .int .i64 t.kind] 25)) := by
      show _ = _
      have := heap_newG w (.cells #[.int .i64 t.proto, .int .i64 t.src, .int .i64 t.sport, .int .i64 t.dst, .int .i64 t.dport, .int .i64 t.kind] 25)
      simpa using this
    have hL0 := hidS ((Below.refl w.heap.size w).alloc (Nat.le_refl _) (.cells #[.int .i64 t.proto, .int .i64 t.src, .int .i64 t.sport, .int .i64 t.dst, .int .i64 t.dport, .int .i64 t.kind] 25))
    go_enter Tryd.func9, Tryd.ntmps9
    go_wp2_with fail
    refine (HR.out _).mono ?_
    rintro _ w1 ⟨rfl, hb1⟩
    have hGP1 := hidS (blk_later hGP0.out hb1)
    have hL1 := hidS (hL0.out.trans (hb1.mono hL0.out.size))
    clear hb1 hL0 hGP0
    rw [hr]
    go_wp2_with fail
    go_ret
    exact ⟨rfl, hL1.out⟩
  by_cases hk : 20 < k.size
  · rw [hash_no (by unfold hashB; rw [decide_eq_false (by omega : ¬ k.size ≤ 20)]; simp)]
    have hk' : (20 : Int) < (k.size : Int) := by omega
    have hGP0 : Hid ((w.alloc (.cells #[.int .i64 t.proto, .int .i64 t.src, .int .i64 t.sport, .int .i64 t.dst, .int .i64 t.dport, .int .i64 t.kind] 25)).heap[w.heap.size]? = some (.cells #[.int .i64 t.proto, .int .i64 t.src, .int .i64 t.sport, .int .i64 t.dst, .int .i64 t.dport, .int .i64 t.kind] 25)) := by
      show _ = _
      have := heap_newG w (.cells #[.int .i64 t.proto, .int .i64 t.src, .int .i64 t.sport, .int .i64 t.dst, .int .i64 t.dport, .int .i64 t.kind] 25)
      simpa using this
    have hL0 := hidS ((Below.refl w.heap.size w).alloc (Nat.le_refl _) (.cells #[.int .i64 t.proto, .int .i64 t.src, .int .i64 t.sport, .int .i64 t.dst, .int .i64 t.dport, .int .i64 t.kind] 25))
    go_enter Tryd.func9, Tryd.ntmps9
    go_wp2_with fail
    refine (HR.out _).mono ?_
    rintro _ w1 ⟨rfl, hb1⟩
    have hGP1 := hidS (blk_later hGP0.out hb1)
    have hL1 := hidS (hL0.out.trans (hb1.mono hL0.out.size))
    clear hb1 hL0 hGP0
    rw [hr]
    go_wp2_with fail
    go_ret
    exact ⟨rfl, hL1.out⟩
  have hk' : ¬ (20 : Int) < (k.size : Int) := by omega
  have HI := hidS (fun W => l02Is_any n 1 64 W)
  cases hi : (decide ((1 : Int) ≤ n) && decide (n ≤ 64))
  · rw [hash_no (by unfold hashB; rw [hi]; simp)]
    have hGP0 : Hid ((w.alloc (.cells #[.int .i64 t.proto, .int .i64 t.src, .int .i64 t.sport, .int .i64 t.dst, .int .i64 t.dport, .int .i64 t.kind] 25)).heap[w.heap.size]? = some (.cells #[.int .i64 t.proto, .int .i64 t.src, .int .i64 t.sport, .int .i64 t.dst, .int .i64 t.dport, .int .i64 t.kind] 25)) := by
      show _ = _
      have := heap_newG w (.cells #[.int .i64 t.proto, .int .i64 t.src, .int .i64 t.sport, .int .i64 t.dst, .int .i64 t.dport, .int .i64 t.kind] 25)
      simpa using this
    have hL0 := hidS ((Below.refl w.heap.size w).alloc (Nat.le_refl _) (.cells #[.int .i64 t.proto, .int .i64 t.src, .int .i64 t.sport, .int .i64 t.dst, .int .i64 t.dport, .int .i64 t.kind] 25))
    go_enter Tryd.func9, Tryd.ntmps9
    go_wp2_with fail
    refine (HR.out _).mono ?_
    rintro _ w1 ⟨rfl, hb1⟩
    have hGP1 := hidS (blk_later hGP0.out hb1)
    have hL1 := hidS (hL0.out.trans (hb1.mono hL0.out.size))
    clear hb1 hL0 hGP0
    rw [hr]
    go_wp2_with fail
    refine (HI.out _).mono ?_
    rintro _ v ⟨rfl, hv⟩
    rw [hv]
    clear hv v
    rw [hi]
    go_wp2_with fail
    go_ret
    exact ⟨rfl, hL1.out⟩
  · rw [hash_yes (by unfold hashB; rw [hr, hi, decide_eq_true (by omega : k.size ≤ 20)]; rfl)]
    have hn : 1 ≤ n ∧ n ≤ 64 := by simpa using hi
    have hn0 : ¬ n = 0 := by omega
    have HX := hidS (fun W => l04Text_any t W hr)
    have hz := tupT_size t
    have HC := hidS (fun W => specCrcH_any (k ++ tupT t) W (by rw [ByteArray.size_append]; unfold maxLen; omega))
    generalize tupT t = q at *
    generalize crcAns 0 (k ++ q) = C at *
    have hGP0 : Hid ((w.alloc (.cells #[.int .i64 t.proto, .int .i64 t.src, .int .i64 t.sport, .int .i64 t.dst, .int .i64 t.dport, .int .i64 t.kind] 25)).heap[w.heap.size]? = some (.cells #[.int .i64 t.proto, .int .i64 t.src, .int .i64 t.sport, .int .i64 t.dst, .int .i64 t.dport, .int .i64 t.kind] 25)) := by
      show _ = _
      have := heap_newG w (.cells #[.int .i64 t.proto, .int .i64 t.src, .int .i64 t.sport, .int .i64 t.dst, .int .i64 t.dport, .int .i64 t.kind] 25)
      simpa using this
    have hL0 := hidS ((Below.refl w.heap.size w).alloc (Nat.le_refl _) (.cells #[.int .i64 t.proto, .int .i64 t.src, .int .i64 t.sport, .int .i64 t.dst, .int .i64 t.dport, .int .i64 t.kind] 25))
    go_enter Tryd.func9, Tryd.ntmps9
    go_wp2_with fail
    refine (HR.out _).mono ?_
    rintro _ w1 ⟨rfl, hb1⟩
    have hGP1 := hidS (blk_later hGP0.out hb1)
    have hL1 := hidS (hL0.out.trans (hb1.mono hL0.out.size))
    clear hb1 hL0 hGP0
    rw [hr]
    go_wp2_with fail
    refine (HI.out _).mono ?_
    rintro _ v ⟨rfl, hv⟩
    rw [hv]
    clear hv v
    rw [hi]
    have cP0 := blk_cell hGP1.out 0
    have cP1 := blk_cell hGP1.out 1
    have cP2 := blk_cell hGP1.out 2
    have cP3 := blk_cell hGP1.out 3
    have cP4 := blk_cell hGP1.out 4
    have cP5 := blk_cell hGP1.out 5
    simp at cP0 cP1 cP2 cP3 cP4 cP5
    go_wp2_with fail
    refine (HX.out _).mono ?_
    rintro _ w2 ⟨rfl, hb2⟩
    clear cP0 cP1 cP2 cP3 cP4 cP5
    have hGP2 := hidS (blk_later hGP1.out hb2)
    have hL2 := hidS (hL1.out.trans (hb2.mono hL1.out.size))
    clear hb2 hL1 hGP1
    go_wp2_with fail
    refine (HC.out _).mono ?_
    rintro _ v ⟨rfl, hv⟩
    rw [hv]
    clear hv v
    go_wp2_with fail
    go_ret
    exact ⟨rfl, hL2.out⟩
end Go.Proofs.YtokjhfgbnpdfnahDoor
