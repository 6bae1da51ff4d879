/- Proved here: the card of laws.FnExactWithTuple: it returns true at every argument, and each argument reads afterwards as before, where the package variables that the row lists start as the program's text lays them, which the given tie pays (the pruned copy of the project alone is looked at). -/
import Derived.Test.YtokjhfgbnpdfnahDoorCards
import Derived.Test.YtokjhfgbnpdfnahDoorTie
import Derived.Test.YtokjhfgbnpdfnahDoorOpenPacket
import Derived.Test.YtokjhfgbnpdfnahDoorOpenTuple
import Derived.Test.YtokjhfgbnpdfnahDoorLawsPk
import Derived.Test.YtokjhfgbnpdfnahDoorLawsPkEq
import Derived.Test.YtokjhfgbnpdfnahDoorLawsTp
import Derived.Test.YtokjhfgbnpdfnahDoorTWithSpec
import Derived.Test.YtokjhfgbnpdfnahDoorTWithI2
import Derived.Test.YtokjhfgbnpdfnahDoorSents2
import Derived.Deep.Cut
import Derived.WalkKit
import Derived.WalkSpells
import Derived.ProofKit
import Derived.OpenShut
import Derived.ShutString
import Derived.Handy
import Derived.Below
import Derived.ChangeOld
import Derived.ChangeSame
import Derived.ChangeVars
import Derived.JoinedOf
import Derived.RowKit
import Derived.RowKitTokens
import Derived.LaidLaws
import Derived.Lay
import Derived.MakeChecks
import Derived.OpenVars
import Derived.SevenTiedAt
namespace Go.Proofs.YtokjhfgbnpdfnahDoor
open Go.ChangeShapes Go.WideShapes Go.ChangeAt Go.RowKit
open Go.ChangeMaps (open_string shut_string)
set_option linter.unusedVariables false
set_option maxRecDepth 100000

set_option maxHeartbeats 2000000 in
theorem withTupleLaw_all (p : Pk) (hs : p.body.size ≤ maxLen) (t : Tp) (w : World) (hX : ∃ aF aS aY aM, Sent aF aS aY aM w) :
    Calls Tryd.prog 5 #[.agg #[.int .i64 p.src, .int .i64 p.dst, .int .i64 p.proto, .int .i64 p.a, .int .i64 p.b, .int .i64 p.kind, .int .i64 p.flags, .int .i64 p.seq, .int .i64 p.ack, .string p.body], .agg #[.int .i64 t.proto, .int .i64 t.src, .int .i64 t.sport, .int .i64 t.dst, .int .i64 t.dport, .int .i64 t.kind]] w fun e w' => e = .returned (.bool true) ∧ Below w.heap.size w w' := by
  by_cases hbig : 1048576 < p.body.size
  · have hSZ := hidS (fun W => szPacket_big p W hs hbig)
    have hGP0 : Hid (((w.alloc (.cells #[.int .i64 p.src, .int .i64 p.dst, .int .i64 p.proto, .int .i64 p.a, .int .i64 p.b, .int .i64 p.kind, .int .i64 p.flags, .int .i64 p.seq, .int .i64 p.ack, .string p.body] 31)).alloc (.cells #[.int .i64 t.proto, .int .i64 t.src, .int .i64 t.sport, .int .i64 t.dst, .int .i64 t.dport, .int .i64 t.kind] 23)).heap[w.heap.size]? = some (.cells #[.int .i64 p.src, .int .i64 p.dst, .int .i64 p.proto, .int .i64 p.a, .int .i64 p.b, .int .i64 p.kind, .int .i64 p.flags, .int .i64 p.seq, .int .i64 p.ack, .string p.body] 31)) := by
      show _ = _
      have := blk_alloc (heap_newG w (.cells #[.int .i64 p.src, .int .i64 p.dst, .int .i64 p.proto, .int .i64 p.a, .int .i64 p.b, .int .i64 p.kind, .int .i64 p.flags, .int .i64 p.seq, .int .i64 p.ack, .string p.body] 31)) (.cells #[.int .i64 t.proto, .int .i64 t.src, .int .i64 t.sport, .int .i64 t.dst, .int .i64 t.dport, .int .i64 t.kind] 23)
      simpa using this
    have hGT0 : Hid (((w.alloc (.cells #[.int .i64 p.src, .int .i64 p.dst, .int .i64 p.proto, .int .i64 p.a, .int .i64 p.b, .int .i64 p.kind, .int .i64 p.flags, .int .i64 p.seq, .int .i64 p.ack, .string p.body] 31)).alloc (.cells #[.int .i64 t.proto, .int .i64 t.src, .int .i64 t.sport, .int .i64 t.dst, .int .i64 t.dport, .int .i64 t.kind] 23)).heap[w.heap.size + 1]? = some (.cells #[.int .i64 t.proto, .int .i64 t.src, .int .i64 t.sport, .int .i64 t.dst, .int .i64 t.dport, .int .i64 t.kind] 23)) := by
      show _ = _
      have := heap_newG (w.alloc (.cells #[.int .i64 p.src, .int .i64 p.dst, .int .i64 p.proto, .int .i64 p.a, .int .i64 p.b, .int .i64 p.kind, .int .i64 p.flags, .int .i64 p.seq, .int .i64 p.ack, .string p.body] 31)) (.cells #[.int .i64 t.proto, .int .i64 t.src, .int .i64 t.sport, .int .i64 t.dst, .int .i64 t.dport, .int .i64 t.kind] 23)
      simpa using this
    have hL0 := hidS (((Below.refl w.heap.size w).alloc (Nat.le_refl _) (.cells #[.int .i64 p.src, .int .i64 p.dst, .int .i64 p.proto, .int .i64 p.a, .int .i64 p.b, .int .i64 p.kind, .int .i64 p.flags, .int .i64 p.seq, .int .i64 p.ack, .string p.body] 31)).alloc (by simp) (.cells #[.int .i64 t.proto, .int .i64 t.src, .int .i64 t.sport, .int .i64 t.dst, .int .i64 t.dport, .int .i64 t.kind] 23))
    go_enter Tryd.func5, Tryd.ntmps5
    go_wp2_with fail
    refine (hSZ.out _).mono ?_
    rintro _ w1 ⟨rfl, hb1⟩
    have hGP1 := hidS (blk_later hGP0.out hb1)
    have hGT1 := hidS (blk_later hGT0.out hb1)
    have hL1 := hidS (hL0.out.trans (hb1.mono hL0.out.size))
    clear hb1 hL0 hGP0 hGT0
    go_wp2_with fail
    go_ret
    exact ⟨rfl, hL1.out⟩
  have hSZ := hidS (fun W => szPacket_ok p W hs hbig)
  have hnn : ¬ (1048576 - (p.body.size : Int)) < 0 := by omega
  have hTP := hidS (fun W => toPacket_any p W)
  have hTT := hidS (fun W => toTuple_any t W)
  obtain ⟨aF, aS, aY, aM, hS⟩ := hX
  have hSR := hidS (fun W => specWith_any p t W hs)
  have hIR := hidS (fun (W : World) (hW : Below w.heap.size w W) => implWith_any p t W hs (hS.later hW))
  clear hS
  generalize withP p t = q at *
  generalize withC p t = c at *
  have hEQ := hidS (fun W => eqPacketOut_same q c W)
  have hGP0 : Hid (((w.alloc (.cells #[.int .i64 p.src, .int .i64 p.dst, .int .i64 p.proto, .int .i64 p.a, .int .i64 p.b, .int .i64 p.kind, .int .i64 p.flags, .int .i64 p.seq, .int .i64 p.ack, .string p.body] 31)).alloc (.cells #[.int .i64 t.proto, .int .i64 t.src, .int .i64 t.sport, .int .i64 t.dst, .int .i64 t.dport, .int .i64 t.kind] 23)).heap[w.heap.size]? = some (.cells #[.int .i64 p.src, .int .i64 p.dst, .int .i64 p.proto, .int .i64 p.a, .int .i64 p.b, .int .i64 p.kind, .int .i64 p.flags, .int .i64 p.seq, .int .i64 p.ack, .string p.body] 31)) := by
    show _ = _
    have := blk_alloc (heap_newG w (.cells #[.int .i64 p.src, .int .i64 p.dst, .int .i64 p.proto, .int .i64 p.a, .int .i64 p.b, .int .i64 p.kind, .int .i64 p.flags, .int .i64 p.seq, .int .i64 p.ack, .string p.body] 31)) (.cells #[.int .i64 t.proto, .int .i64 t.src, .int .i64 t.sport, .int .i64 t.dst, .int .i64 t.dport, .int .i64 t.kind] 23)
    simpa using this
  have hGT0 : Hid (((w.alloc (.cells #[.int .i64 p.src, .int .i64 p.dst, .int .i64 p.proto, .int .i64 p.a, .int .i64 p.b, .int .i64 p.kind, .int .i64 p.flags, .int .i64 p.seq, .int .i64 p.ack, .string p.body] 31)).alloc (.cells #[.int .i64 t.proto, .int .i64 t.src, .int .i64 t.sport, .int .i64 t.dst, .int .i64 t.dport, .int .i64 t.kind] 23)).heap[w.heap.size + 1]? = some (.cells #[.int .i64 t.proto, .int .i64 t.src, .int .i64 t.sport, .int .i64 t.dst, .int .i64 t.dport, .int .i64 t.kind] 23)) := by
    show _ = _
    have := heap_newG (w.alloc (.cells #[.int .i64 p.src, .int .i64 p.dst, .int .i64 p.proto, .int .i64 p.a, .int .i64 p.b, .int .i64 p.kind, .int .i64 p.flags, .int .i64 p.seq, .int .i64 p.ack, .string p.body] 31)) (.cells #[.int .i64 t.proto, .int .i64 t.src, .int .i64 t.sport, .int .i64 t.dst, .int .i64 t.dport, .int .i64 t.kind] 23)
    simpa using this
  have hL0 := hidS (((Below.refl w.heap.size w).alloc (Nat.le_refl _) (.cells #[.int .i64 p.src, .int .i64 p.dst, .int .i64 p.proto, .int .i64 p.a, .int .i64 p.b, .int .i64 p.kind, .int .i64 p.flags, .int .i64 p.seq, .int .i64 p.ack, .string p.body] 31)).alloc (by simp) (.cells #[.int .i64 t.proto, .int .i64 t.src, .int .i64 t.sport, .int .i64 t.dst, .int .i64 t.dport, .int .i64 t.kind] 23))
  go_enter Tryd.func5, Tryd.ntmps5
  go_wp2_with fail
  refine (hSZ.out _).mono ?_
  rintro _ w1 ⟨rfl, hb1⟩
  have hGP1 := hidS (blk_later hGP0.out hb1)
  have hGT1 := hidS (blk_later hGT0.out hb1)
  have hL1 := hidS (hL0.out.trans (hb1.mono hL0.out.size))
  clear hb1 hL0 hGP0 hGT0
  have cP0 := blk_cell hGP1.out 0
  have cP1 := blk_cell hGP1.out 1
  have cP2 := blk_cell hGP1.out 2
  have cP3 := blk_cell hGP1.out 3
  have cP4 := blk_cell hGP1.out 4
  have cP5 := blk_cell hGP1.out 5
  have cP6 := blk_cell hGP1.out 6
  have cP7 := blk_cell hGP1.out 7
  have cP8 := blk_cell hGP1.out 8
  have cP9 := blk_cell hGP1.out 9
  simp at cP0 cP1 cP2 cP3 cP4 cP5 cP6 cP7 cP8 cP9
  have cT0 := blk_cell hGT1.out 0
  have cT1 := blk_cell hGT1.out 1
  have cT2 := blk_cell hGT1.out 2
  have cT3 := blk_cell hGT1.out 3
  have cT4 := blk_cell hGT1.out 4
  have cT5 := blk_cell hGT1.out 5
  simp at cT0 cT1 cT2 cT3 cT4 cT5
  go_wp2_with fail
  refine grow_struct 6 _ [.is (.agg #[.int .i64 p.src, .int .i64 p.dst, .int .i64 p.proto, .int .i64 p.a, .int .i64 p.b, .int .i64 p.kind, .int .i64 p.flags, .int .i64 p.seq, .int .i64 p.ack, .string p.body]), .is (.agg #[.int .i64 p.src, .int .i64 p.dst, .int .i64 p.proto, .int .i64 p.a, .int .i64 p.b, .int .i64 p.kind, .int .i64 p.flags, .int .i64 p.seq, .int .i64 p.ack, .string p.body]), .is (.agg #[.int .i64 t.proto, .int .i64 t.src, .int .i64 t.sport, .int .i64 t.dst, .int .i64 t.dport, .int .i64 t.kind]), .is (.agg #[.int .i64 t.proto, .int .i64 t.src, .int .i64 t.sport, .int .i64 t.dst, .int .i64 t.dport, .int .i64 t.kind]), .is (.agg #[.int .i64 q.src, .int .i64 q.dst, .int .i64 q.proto, .int .i64 q.a, .int .i64 q.b, .int .i64 q.kind, .int .i64 q.flags, .int .i64 q.seq, .int .i64 q.ack, .string q.body, .int .i64 c]), .blk w1.heap.size #[.int .i64 0, .int .i64 0, .int .i64 0, .int .i64 0, .int .i64 0, .int .i64 0, .int .i64 0, .int .i64 0, .int .i64 0, .string ⟨#[]⟩, .int .i64 0] 35] 5 4 6 17 35 35 #[.int .i64 0, .int .i64 0, .int .i64 0, .int .i64 0, .int .i64 0, .int .i64 0, .int .i64 0, .int .i64 0, .int .i64 0, .string ⟨#[]⟩, .int .i64 0] #[.int .i64 q.src, .int .i64 q.dst, .int .i64 q.proto, .int .i64 q.a, .int .i64 q.b, .int .i64 q.kind, .int .i64 q.flags, .int .i64 q.seq, .int .i64 q.ack, .string q.body, .int .i64 c] rfl rfl rfl (by kernel_rfl) (by kernel_rfl) (by kernel_rfl) rfl rfl rfl rfl (by decide) (by decide) rfl rfl rfl (by first | kernel_rfl | simp [Value.oneCell']) (by kernel_rfl) ?stepsW ?finW
  case stepsW =>
    refine ⟨?_, ?_, ?_, ?_, ?_, ?_, trivial⟩
    · refine ⟨rfl, fun v W ρ hC kc kf ks ki kd => ?_⟩
      have t2 : ρ (.tmp 2) = .pointer (some ⟨w.heap.size, 0, none⟩) := ki 2 (by decide)
      have hg := blk_later hGP1.out hC
      have c0 := blk_cell hg 0
      have c1 := blk_cell hg 1
      have c2 := blk_cell hg 2
      have c3 := blk_cell hg 3
      have c4 := blk_cell hg 4
      have c5 := blk_cell hg 5
      have c6 := blk_cell hg 6
      have c7 := blk_cell hg 7
      have c8 := blk_cell hg 8
      have c9 := blk_cell hg 9
      simp at c0 c1 c2 c3 c4 c5 c6 c7 c8 c9
      simp [execOp, go_sem, t2, c0, c1, c2, c3, c4, c5, c6, c7, c8, c9]
      exact ⟨hC, Below.refl _ _, rfl⟩
    · refine ⟨rfl, fun v W ρ hC kc kf ks ki kd => ?_⟩
      have d0 : v 0 = .agg #[.int .i64 p.src, .int .i64 p.dst, .int .i64 p.proto, .int .i64 p.a, .int .i64 p.b, .int .i64 p.kind, .int .i64 p.flags, .int .i64 p.seq, .int .i64 p.ack, .string p.body] := kd _ (Array.mem_of_getElem? (i := 0) rfl) rfl
      have t13 : ρ (.tmp 13) = v 0 := ks 0 13 (by decide) rfl
      rw [d0] at t13
      simp [execOp, go_sem, t13, kf]
      exact Calls.mono (hTP.out _) (fun e x h => ⟨_, h.1, hC.trans (h.2.mono hC.size), h.2, rfl⟩)
    · refine ⟨rfl, fun v W ρ hC kc kf ks ki kd => ?_⟩
      have t3 : ρ (.tmp 3) = .pointer (some ⟨w.heap.size + 1, 0, none⟩) := ki 3 (by decide)
      have hg := blk_later hGT1.out hC
      have c0 := blk_cell hg 0
      have c1 := blk_cell hg 1
      have c2 := blk_cell hg 2
      have c3 := blk_cell hg 3
      have c4 := blk_cell hg 4
      have c5 := blk_cell hg 5
      simp at c0 c1 c2 c3 c4 c5
      simp [execOp, go_sem, t3, c0, c1, c2, c3, c4, c5]
      exact ⟨hC, Below.refl _ _, rfl⟩
    · refine ⟨rfl, fun v W ρ hC kc kf ks ki kd => ?_⟩
      have d2 : v 2 = .agg #[.int .i64 t.proto, .int .i64 t.src, .int .i64 t.sport, .int .i64 t.dst, .int .i64 t.dport, .int .i64 t.kind] := kd _ (Array.mem_of_getElem? (i := 0) rfl) rfl
      have t15 : ρ (.tmp 15) = v 2 := ks 2 15 (by decide) rfl
      rw [d2] at t15
      simp [execOp, go_sem, t15, kf]
      exact Calls.mono (hTT.out _) (fun e x h => ⟨_, h.1, hC.trans (h.2.mono hC.size), h.2, rfl⟩)
    · refine ⟨rfl, fun v W ρ hC kc kf ks ki kd => ?_⟩
      have d1 : v 1 = .agg #[.int .i64 p.src, .int .i64 p.dst, .int .i64 p.proto, .int .i64 p.a, .int .i64 p.b, .int .i64 p.kind, .int .i64 p.flags, .int .i64 p.seq, .int .i64 p.ack, .string p.body] := kd _ (Array.mem_of_getElem? (i := 0) rfl) rfl
      have t14 : ρ (.tmp 14) = v 1 := ks 1 14 (by decide) rfl
      rw [d1] at t14
      have d3 : v 3 = .agg #[.int .i64 t.proto, .int .i64 t.src, .int .i64 t.sport, .int .i64 t.dst, .int .i64 t.dport, .int .i64 t.kind] := kd _ (Array.mem_of_getElem? (i := 1) rfl) rfl
      have t16 : ρ (.tmp 16) = v 3 := ks 3 16 (by decide) rfl
      rw [d3] at t16
      simp [execOp, go_sem, t14, t16, kf]
      exact Calls.mono (hSR.out _) (fun e x h => ⟨_, h.1, hC.trans (h.2.mono hC.size), h.2, rfl⟩)
    · refine ⟨rfl, fun v W ρ hC kc kf ks ki kd => ?_⟩
      simp [execOp, go_sem]
      exact ⟨hC.alloc hC.size _, (Below.refl _ _).alloc (Nat.le_refl _) _, W.heap.size, rfl, hC.size, heap_newG _ _⟩
  intro vW w2 BW hb2 hvBW hnW hBkW hall
  simp [upto, Act.put]
  rw [hvBW]
  clear hall hvBW
  have hGP2 := hidS (blk_later hGP1.out hb2)
  have hGT2 := hidS (blk_later hGT1.out hb2)
  have hL2 := hidS (hL1.out.trans (hb2.mono hL1.out.size))
  have hGW2 := hidS hBkW
  clear hBkW
  clear hb2 hL1 hGP1 hGT1
  go_wp2_with fail
  refine grow_struct 6 _ [.is (.agg #[.int .i64 p.src, .int .i64 p.dst, .int .i64 p.proto, .int .i64 p.a, .int .i64 p.b, .int .i64 p.kind, .int .i64 p.flags, .int .i64 p.seq, .int .i64 p.ack, .string p.body]), .is (.agg #[.int .i64 p.src, .int .i64 p.dst, .int .i64 p.proto, .int .i64 p.a, .int .i64 p.b, .int .i64 p.kind, .int .i64 p.flags, .int .i64 p.seq, .int .i64 p.ack, .string p.body]), .is (.agg #[.int .i64 t.proto, .int .i64 t.src, .int .i64 t.sport, .int .i64 t.dst, .int .i64 t.dport, .int .i64 t.kind]), .is (.agg #[.int .i64 t.proto, .int .i64 t.src, .int .i64 t.sport, .int .i64 t.dst, .int .i64 t.dport, .int .i64 t.kind]), .is (.agg #[.int .i64 q.src, .int .i64 q.dst, .int .i64 q.proto, .int .i64 q.a, .int .i64 q.b, .int .i64 q.kind, .int .i64 q.flags, .int .i64 q.seq, .int .i64 q.ack, .string q.body, .int .i64 c]), .blk w2.heap.size #[.int .i64 0, .int .i64 0, .int .i64 0, .int .i64 0, .int .i64 0, .int .i64 0, .int .i64 0, .int .i64 0, .int .i64 0, .string ⟨#[]⟩, .int .i64 0] 35] 5 4 7 22 35 35 #[.int .i64 0, .int .i64 0, .int .i64 0, .int .i64 0, .int .i64 0, .int .i64 0, .int .i64 0, .int .i64 0, .int .i64 0, .string ⟨#[]⟩, .int .i64 0] #[.int .i64 q.src, .int .i64 q.dst, .int .i64 q.proto, .int .i64 q.a, .int .i64 q.b, .int .i64 q.kind, .int .i64 q.flags, .int .i64 q.seq, .int .i64 q.ack, .string q.body, .int .i64 c] rfl rfl rfl (by kernel_rfl) (by kernel_rfl) (by kernel_rfl) rfl rfl rfl rfl (by decide) (by decide) rfl rfl rfl (by first | kernel_rfl | simp [Value.oneCell']) (by kernel_rfl) ?stepsG ?finG
  case stepsG =>
    refine ⟨?_, ?_, ?_, ?_, ?_, ?_, trivial⟩
    · refine ⟨rfl, fun v W ρ hC kc kf ks ki kd => ?_⟩
      have t2 : ρ (.tmp 2) = .pointer (some ⟨w.heap.size, 0, none⟩) := ki 2 (by decide)
      have hg := blk_later hGP2.out hC
      have c0 := blk_cell hg 0
      have c1 := blk_cell hg 1
      have c2 := blk_cell hg 2
      have c3 := blk_cell hg 3
      have c4 := blk_cell hg 4
      have c5 := blk_cell hg 5
      have c6 := blk_cell hg 6
      have c7 := blk_cell hg 7
      have c8 := blk_cell hg 8
      have c9 := blk_cell hg 9
      simp at c0 c1 c2 c3 c4 c5 c6 c7 c8 c9
      simp [execOp, go_sem, t2, c0, c1, c2, c3, c4, c5, c6, c7, c8, c9]
      exact ⟨hC, Below.refl _ _, rfl⟩
    · refine ⟨rfl, fun v W ρ hC kc kf ks ki kd => ?_⟩
      have d0 : v 0 = .agg #[.int .i64 p.src, .int .i64 p.dst, .int .i64 p.proto, .int .i64 p.a, .int .i64 p.b, .int .i64 p.kind, .int .i64 p.flags, .int .i64 p.seq, .int .i64 p.ack, .string p.body] := kd _ (Array.mem_of_getElem? (i := 0) rfl) rfl
      have t18 : ρ (.tmp 18) = v 0 := ks 0 18 (by decide) rfl
      rw [d0] at t18
      simp [execOp, go_sem, t18, kf]
      exact Calls.mono (hTP.out _) (fun e x h => ⟨_, h.1, hC.trans (h.2.mono hC.size), h.2, rfl⟩)
    · refine ⟨rfl, fun v W ρ hC kc kf ks ki kd => ?_⟩
      have t3 : ρ (.tmp 3) = .pointer (some ⟨w.heap.size + 1, 0, none⟩) := ki 3 (by decide)
      have hg := blk_later hGT2.out hC
      have c0 := blk_cell hg 0
      have c1 := blk_cell hg 1
      have c2 := blk_cell hg 2
      have c3 := blk_cell hg 3
      have c4 := blk_cell hg 4
      have c5 := blk_cell hg 5
      simp at c0 c1 c2 c3 c4 c5
      simp [execOp, go_sem, t3, c0, c1, c2, c3, c4, c5]
      exact ⟨hC, Below.refl _ _, rfl⟩
    · refine ⟨rfl, fun v W ρ hC kc kf ks ki kd => ?_⟩
      have d2 : v 2 = .agg #[.int .i64 t.proto, .int .i64 t.src, .int .i64 t.sport, .int .i64 t.dst, .int .i64 t.dport, .int .i64 t.kind] := kd _ (Array.mem_of_getElem? (i := 0) rfl) rfl
      have t20 : ρ (.tmp 20) = v 2 := ks 2 20 (by decide) rfl
      rw [d2] at t20
      simp [execOp, go_sem, t20, kf]
      exact Calls.mono (hTT.out _) (fun e x h => ⟨_, h.1, hC.trans (h.2.mono hC.size), h.2, rfl⟩)
    · refine ⟨rfl, fun v W ρ hC kc kf ks ki kd => ?_⟩
      have d1 : v 1 = .agg #[.int .i64 p.src, .int .i64 p.dst, .int .i64 p.proto, .int .i64 p.a, .int .i64 p.b, .int .i64 p.kind, .int .i64 p.flags, .int .i64 p.seq, .int .i64 p.ack, .string p.body] := kd _ (Array.mem_of_getElem? (i := 0) rfl) rfl
      have t19 : ρ (.tmp 19) = v 1 := ks 1 19 (by decide) rfl
      rw [d1] at t19
      have d3 : v 3 = .agg #[.int .i64 t.proto, .int .i64 t.src, .int .i64 t.sport, .int .i64 t.dst, .int .i64 t.dport, .int .i64 t.kind] := kd _ (Array.mem_of_getElem? (i := 1) rfl) rfl
      have t21 : ρ (.tmp 21) = v 3 := ks 3 21 (by decide) rfl
      rw [d3] at t21
      simp [execOp, go_sem, t19, t21, kf]
      exact Calls.mono (hIR.out _ (hL2.out.trans (hC.mono hL2.out.size))) (fun e x h => ⟨_, h.1, hC.trans (h.2.mono hC.size), h.2, rfl⟩)
    · refine ⟨rfl, fun v W ρ hC kc kf ks ki kd => ?_⟩
      simp [execOp, go_sem]
      exact ⟨hC.alloc hC.size _, (Below.refl _ _).alloc (Nat.le_refl _) _, W.heap.size, rfl, hC.size, heap_newG _ _⟩
  intro vG w3 BG hb3 hvBG hnG hBkG hall
  simp [upto, Act.put]
  rw [hvBG]
  clear hall hvBG
  have hGP3 := hidS (blk_later hGP2.out hb3)
  have hGT3 := hidS (blk_later hGT2.out hb3)
  have hGW3 := hidS (blk_later hGW2.out hb3)
  have hL3 := hidS (hL2.out.trans (hb3.mono hL2.out.size))
  have hGG3 := hidS hBkG
  clear hBkG
  clear hb3 hL2 hGP2 hGT2 hGW2
  have cW0 := blk_cell hGW3.out 0
  have cW1 := blk_cell hGW3.out 1
  have cW2 := blk_cell hGW3.out 2
  have cW3 := blk_cell hGW3.out 3
  have cW4 := blk_cell hGW3.out 4
  have cW5 := blk_cell hGW3.out 5
  have cW6 := blk_cell hGW3.out 6
  have cW7 := blk_cell hGW3.out 7
  have cW8 := blk_cell hGW3.out 8
  have cW9 := blk_cell hGW3.out 9
  have cW10 := blk_cell hGW3.out 10
  simp at cW0 cW1 cW2 cW3 cW4 cW5 cW6 cW7 cW8 cW9 cW10
  have cG0 := blk_cell hGG3.out 0
  have cG1 := blk_cell hGG3.out 1
  have cG2 := blk_cell hGG3.out 2
  have cG3 := blk_cell hGG3.out 3
  have cG4 := blk_cell hGG3.out 4
  have cG5 := blk_cell hGG3.out 5
  have cG6 := blk_cell hGG3.out 6
  have cG7 := blk_cell hGG3.out 7
  have cG8 := blk_cell hGG3.out 8
  have cG9 := blk_cell hGG3.out 9
  have cG10 := blk_cell hGG3.out 10
  simp at cG0 cG1 cG2 cG3 cG4 cG5 cG6 cG7 cG8 cG9 cG10
  go_wp2_with fail
  refine (hEQ.out _).mono ?_
  rintro _ w4 ⟨rfl, hb4⟩
  clear cW0 cW1 cW2 cW3 cW4 cW5 cW6 cW7 cW8 cW9 cW10 cG0 cG1 cG2 cG3 cG4 cG5 cG6 cG7 cG8 cG9 cG10
  have hGP4 := hidS (blk_later hGP3.out hb4)
  have hGT4 := hidS (blk_later hGT3.out hb4)
  have hGW4 := hidS (blk_later hGW3.out hb4)
  have hGG4 := hidS (blk_later hGG3.out hb4)
  have hL4 := hidS (hL3.out.trans (hb4.mono hL3.out.size))
  clear hb4 hL3 hGP3 hGT3 hGW3 hGG3
  go_wp2_with fail
  go_ret
  exact ⟨rfl, hL4.out⟩

theorem withTupleLaw_walk (f0_0 f0_1 f0_2 f0_3 f0_4 f0_5 f0_6 f0_7 f0_8 : Int) (f0_9 : ByteArray) (f1_0 f1_1 f1_2 f1_3 f1_4 f1_5 : Int) (g0_0 : (Lit.int .i64 f0_0).wf = true) (g0_1 : (Lit.int .i64 f0_1).wf = true) (g0_2 : (Lit.int .i64 f0_2).wf = true) (g0_3 : (Lit.int .i64 f0_3).wf = true) (g0_4 : (Lit.int .i64 f0_4).wf = true) (g0_5 : (Lit.int .i64 f0_5).wf = true) (g0_6 : (Lit.int .i64 f0_6).wf = true) (g0_7 : (Lit.int .i64 f0_7).wf = true) (g0_8 : (Lit.int .i64 f0_8).wf = true) (g0_9 : f0_9.size ≤ maxLen) (g1_0 : (Lit.int .i64 f1_0).wf = true) (g1_1 : (Lit.int .i64 f1_1).wf = true) (g1_2 : (Lit.int .i64 f1_2).wf = true) (g1_3 : (Lit.int .i64 f1_3).wf = true) (g1_4 : (Lit.int .i64 f1_4).wf = true) (g1_5 : (Lit.int .i64 f1_5).wf = true) (w : World) (hX : ∃ aF aS aY aM, Sent aF aS aY aM w) :
    Calls Tryd.prog 5 #[.agg #[.int .i64 f0_0, .int .i64 f0_1, .int .i64 f0_2, .int .i64 f0_3, .int .i64 f0_4, .int .i64 f0_5, .int .i64 f0_6, .int .i64 f0_7, .int .i64 f0_8, .string f0_9], .agg #[.int .i64 f1_0, .int .i64 f1_1, .int .i64 f1_2, .int .i64 f1_3, .int .i64 f1_4, .int .i64 f1_5]] w fun e w' => e = .returned (.bool true) ∧ Below w.heap.size w w' :=
  withTupleLaw_all ⟨f0_0, f0_1, f0_2, f0_3, f0_4, f0_5, f0_6, f0_7, f0_8, f0_9⟩ g0_9 ⟨f1_0, f1_1, f1_2, f1_3, f1_4, f1_5⟩ w hX

theorem trodVars_len {H : Type} {enc : TypeId × Value → H} {P : Program} {w : World} {sp : Nat → Bool} : ∀ {ns : List String} {gs : List (DataW H)} {ps : List MemPlace}, DataW.TrodVars enc P w sp ns gs ps → gs.length = ns.length
  | [], [], _, _ => rfl
  | [], _ :: _, _, h => h.elim
  | _ :: _, [], _, h => h.elim
  | n :: ns, d :: ds, _, h => by
    obtain ⟨g, t, cs, fuel, p, q, _, _, _, _, hs, _⟩ := h
    simp [trodVars_len hs]
theorem list_4 {α : Type} {l : List α} (h : l.length = 4) : ∃ x0 x1 x2 x3, l = [x0, x1, x2, x3] := by
  match l, h with
  | [x0, x1, x2, x3], _ => exact ⟨x0, x1, x2, x3, rfl⟩
theorem laidOut_fnExactWithTuple : laidOutB Tryd.prog = true := by kernel_rfl
theorem own_fnExactWithTuple : ownKnob Tryd.prog.godebug = none := by kernel_rfl

set_option maxRecDepth 100000 in
theorem lifted_fnExactWithTuple (os : Os) (started : os.Started) (H : Type) (enc : TypeId × Value → H) :
    ReturnsInHanded {} Tryd.checked os 5 .any (fun w args => (Rows.fnExactWithTupleSpec.pre enc Tryd.prog Tryd.f5 [] false w args ∧ laidMetH Tryd.prog Rows.fnExactWithTupleRow.laid w) ∧ sizedMet enc Tryd.prog Tryd.f5 (OpenSpec.ofChange Rows.fnExactWithTupleSpec) false w args)
      (Rows.fnExactWithTupleSpec.post enc Tryd.prog Tryd.f5 false true false false) := by
  refine returnsInHanded_of_change_and (C := Tryd.checked) (X := fun w _ => laidMetH Tryd.prog Rows.fnExactWithTupleRow.laid w) (fun _ _ _ hh h => h.of_heap hh) own_fnExactWithTuple started (by kernel_rfl) Tryd.func5
    (ChangeSpec.witness_shaped (enc := enc) (C := Tryd.checked) (os := os) (X := fun w _ => laidMetH Tryd.prog Rows.fnExactWithTupleRow.laid w) false (World.laidAll Tryd.prog os Rows.fnExactWithTupleRow.laid) #[.agg #[.int .i64 0, .int .i64 0, .int .i64 0, .int .i64 0, .int .i64 0, .int .i64 0, .int .i64 0, .int .i64 0, .int .i64 0, .string ByteArray.empty], .agg #[.int .i64 0, .int .i64 0, .int .i64 0, .int .i64 0, .int .i64 0, .int .i64 0]] 8 (World.laidAll_os _ _ _)
      (World.shaped_of_ZipB (by kernel_rfl) (by kernel_rfl)) (by kernel_rfl) (by kernel_rfl) (by kernel_rfl)
      (by rw [MakeChecks.laidMetH_plain _ _ _ (by kernel_rfl)]; exact laidMet_laidAll _ (by kernel_rfl) (by kernel_rfl))) ?_
  intro W base args ds gs before hval0 hW _ _ hL0 _
  have hL : laidMet Tryd.prog Rows.fnExactWithTupleRow.laid W := by
    have h := hL0
    rwa [MakeChecks.laidMetH_plain _ _ _ (by kernel_rfl)] at h
  have hval : ∀ (j : Nat) t v, Tryd.f5.params[j]? = some t → args[j]? = some v → Value.okWide Tryd.prog W .any base t v := hval0
  have hW' := hW
  obtain ⟨p, q, hA0, hV, rfl, hfz, hnd⟩ := hW
  have hA : DataW.TrodAll enc Tryd.prog W 0 (fun _ => true) true Tryd.f5.params.toList args.toList ds p := hA0
  rw [Tryd.params5] at hA hval
  obtain ⟨v0, vs0, d0, ds0, p0, q0, hargs, rfl, rfl, h0, r0⟩ := trodAll_cons hA
  obtain ⟨v1, vs1, d1, ds1, p1, q1, rfl, rfl, rfl, h1, r1⟩ := trodAll_cons r0
  obtain ⟨rfl, rfl, rfl⟩ := trodAll_nil r1
  obtain rfl : args = #[v0, v1] := by cases args; simp_all
  obtain ⟨gv0, gv1, gv2, gv3, rfl⟩ := list_4 (trodVars_len hV)
  have k0 := h0
  have lt0 : ∀ x ∈ p0, x.block < W.heap.size := by obtain ⟨m, hm⟩ := k0; exact DataW.trod_lt m _ _ _ hm
  obtain ⟨f0_0, f0_1, f0_2, f0_3, f0_4, f0_5, f0_6, f0_7, f0_8, f0_9, rfl, g0_0, g0_1, g0_2, g0_3, g0_4, g0_5, g0_6, g0_7, g0_8, g0_9⟩ := open_packet (hval 0 31 v0 rfl rfl) h0
  have k1 := h1
  have lt1 : ∀ x ∈ p1, x.block < W.heap.size := by obtain ⟨m, hm⟩ := k1; exact DataW.trod_lt m _ _ _ hm
  obtain ⟨f1_0, f1_1, f1_2, f1_3, f1_4, f1_5, rfl, g1_0, g1_1, g1_2, g1_3, g1_4, g1_5⟩ := open_tuple (hval 1 23 v1 rfl rfl) h1
  clear hA0 hval0
  refine (withTupleLaw_walk f0_0 f0_1 f0_2 f0_3 f0_4 f0_5 f0_6 f0_7 f0_8 f0_9 f1_0 f1_1 f1_2 f1_3 f1_4 f1_5 g0_0 g0_1 g0_2 g0_3 g0_4 g0_5 g0_6 g0_7 g0_8 g0_9 g1_0 g1_1 g1_2 g1_3 g1_4 g1_5 W (sents_of hL)).mono fun e W' ⟨he, bel⟩ => ?_
  subst he
  exact ⟨_, rfl, _, _, _, [], _, q, hW', trodAll_mk1 (shut_bool Tryd.underlying4 _), (trodAll_cons_mk (Below.trod laidOut_fnExactWithTuple (by kernel_rfl) (of_decide_eq_true (by kernel_rfl)) k0 bel lt0) (trodAll_cons_mk (Below.trod laidOut_fnExactWithTuple (by kernel_rfl) (of_decide_eq_true (by kernel_rfl)) k1 bel lt1) trodAll_mk0)), bel.trodVars laidOut_fnExactWithTuple (by kernel_rfl) hV, bel.frame _, fun h => by cases h⟩

theorem said_fnExactWithTuple : Rows.FnExactWithTupleSaid :=
  OpenClaim.holds_of_wide 5 Tryd.f5 rfl rfl rfl rfl rfl rfl rfl ⟨rfl, rfl, rfl, rfl, rfl⟩ rfl rfl rfl rfl rfl (by kernel_rfl) Tryd.func5 (by kernel_rfl)
    (of_decide_eq_true (by kernel_rfl)) (by unfold Func.isWrapper; first | (rw [if_pos (by decide +kernel)]; kernel_rfl) | (rw [if_neg (by decide +kernel)]; exact ⟨rfl, rfl⟩))
    (fun os started H enc _ => lifted_fnExactWithTuple os started H enc)

theorem plain_fnExactWithTuple (f : FuncId) (fn : Func) (hf : Tryd.pinned.checked.prog.funcNamed "loop.example/g00542/laws.FnExactWithTuple" = some f) (hfn : Tryd.pinned.checked.prog.funcs[f]? = some fn) :
    true = Tryd.pinned.checked.prog.looks [] ∧ ∀ (j : Nat) t, fn.params[j]? = some t → Tryd.pinned.checked.prog.wantsStandIn t = false := by
  obtain rfl : f = 5 := Option.some.inj ((show Tryd.prog.funcNamed "loop.example/g00542/laws.FnExactWithTuple" = some 5 by kernel_rfl).symm.trans hf) |>.symm
  obtain rfl : fn = Tryd.f5 := (Option.some.inj (Tryd.func5.symm.trans hfn)).symm
  refine ⟨by kernel_rfl, fun j t ht => ?_⟩
  rw [Tryd.params5] at ht
  have hm := Array.mem_of_getElem? ht
  simp at hm
  rcases hm with rfl | rfl
  · exact (show Tryd.prog.wantsStandIn 31 = false by kernel_rfl)
  · exact (show Tryd.prog.wantsStandIn 23 = false by kernel_rfl)

theorem withTuple_holds : Rows.FnExactWithTupleCardSaid :=
  Claim7.holds_tied_plain_at .later [] _ _ _ _ said_fnExactWithTuple (fun _ h => by cases h) (by kernel_rfl) (fun _ h => by cases h) fnExactWithTuple_row_tie rfl ⟨rfl, rfl⟩ (by kernel_rfl) rfl plain_fnExactWithTuple (by kernel_rfl)
#print axioms withTuple_holds
end Go.Proofs.YtokjhfgbnpdfnahDoor
