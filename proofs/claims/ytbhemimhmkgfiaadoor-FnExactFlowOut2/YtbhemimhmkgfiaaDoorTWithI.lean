/- Proved here: impl.giveEnds and impl.WithTuple answer the packet with a tuple's ends, or ErrForm; all old memory stays (conditions: the body is a string; the four package variables hold four errors). -/
import Derived.Test.YtbhemimhmkgfiaaDoorAll22
import Derived.Test.YtbhemimhmkgfiaaDoorTRightI
import Derived.Test.YtbhemimhmkgfiaaDoorTupOfI
import Derived.Test.YtbhemimhmkgfiaaDoorTupEq
import Derived.Test.YtbhemimhmkgfiaaDoorPackAns
import Derived.Test.YtbhemimhmkgfiaaDoorClone
import Derived.Test.YtbhemimhmkgfiaaDoorGrowSet
import Derived.Deep.Cut
namespace Go.Proofs.YtbhemimhmkgfiaaDoor
open Go.ChangeShapes Go.WideShapes Go.ChangeAt Go.RowKit
set_option linter.unusedVariables false
set_option maxRecDepth 100000
set_option linter.unusedSimpArgs false

theorem sent_allocT {aF aS aY aM : Addr} {w : World} (h : Sent aF aS aY aM w) (o : Obj) : Sent aF aS aY aM (w.alloc o) := h.later ((Below.refl _ _).alloc (Nat.le_refl _) o)

set_option maxHeartbeats 4000000 in
theorem give_1 {aF aS aY aM : Addr} (p : Pk) (t : Tp) (w : World) (hs : p.body.size ≤ maxLen) (hS : Sent aF aS aY aM w) (hr : rightB p = false) :
    Calls Tryd.prog 43 #[.agg #[.int .i64 p.src, .int .i64 p.dst, .int .i64 p.proto, .int .i64 p.a, .int .i64 p.b, .int .i64 p.kind, .int .i64 p.flags, .int .i64 p.seq, .int .i64 p.ack, .string p.body], .agg #[.int .i64 t.proto, .int .i64 t.src, .int .i64 t.sport, .int .i64 t.dst, .int .i64 t.dport, .int .i64 t.kind]] w fun e w' => e = .returned (.tuple #[.agg #[.int .i64 zeroPk.src, .int .i64 zeroPk.dst, .int .i64 zeroPk.proto, .int .i64 zeroPk.a, .int .i64 zeroPk.b, .int .i64 zeroPk.kind, .int .i64 zeroPk.flags, .int .i64 zeroPk.seq, .int .i64 zeroPk.ack, .string zeroPk.body], .iface 139 (.pointer (some aF))]) ∧ Below w.heap.size w w' := by
  have HR := hidS (fun W => implRight_any p W hs)
  have HE := hidS (fun W => isErrB_any p W)
  have HT := hidS (fun W => implTRight_any t W)
  have HS := hidS (fun W (h : Below w.heap.size w W) => hS.later h)
  have hlt0 : 0 < w.heap.size := World.block_lt_of_cell? w _ hS.cF
  clear hS
  have hGP0 : Hid ((((w.alloc (.cells #[.int .i64 p.src, .int .i64 p.dst, .int .i64 p.proto, .int .i64 p.a, .int .i64 p.b, .int .i64 p.kind, .int .i64 p.flags, .int .i64 p.seq, .int .i64 p.ack, .string p.body] 29)).alloc (.cells #[.int .i64 t.proto, .int .i64 t.src, .int .i64 t.sport, .int .i64 t.dst, .int .i64 t.dport, .int .i64 t.kind] 33)).alloc (.cells #[.int .i64 0, .int .i64 0, .int .i64 0, .int .i64 0, .int .i64 0, .int .i64 0, .int .i64 0, .int .i64 0, .int .i64 0, .string ⟨#[]⟩] 29)).heap[w.heap.size]? = some (.cells #[.int .i64 p.src, .int .i64 p.dst, .int .i64 p.proto, .int .i64 p.a, .int .i64 p.b, .int .i64 p.kind, .int .i64 p.flags, .int .i64 p.seq, .int .i64 p.ack, .string p.body] 29)) := by
    show _ = _
    have := blk_alloc (blk_alloc (heap_newG w (.cells #[.int .i64 p.src, .int .i64 p.dst, .int .i64 p.proto, .int .i64 p.a, .int .i64 p.b, .int .i64 p.kind, .int .i64 p.flags, .int .i64 p.seq, .int .i64 p.ack, .string p.body] 29)) (.cells #[.int .i64 t.proto, .int .i64 t.src, .int .i64 t.sport, .int .i64 t.dst, .int .i64 t.dport, .int .i64 t.kind] 33)) (.cells #[.int .i64 0, .int .i64 0, .int .i64 0, .int .i64 0, .int .i64 0, .int .i64 0, .int .i64 0, .int .i64 0, .int .i64 0, .string ⟨#[]⟩] 29)
    simpa using this
  have hGT0 : Hid ((((w.alloc (.cells #[.int .i64 p.src, .int .i64 p.dst, .int .i64 p.proto, .int .i64 p.a, .int .i64 p.b, .int .i64 p.kind, .int .i64 p.flags, .int .i64 p.seq, .int .i64 p.ack, .string p.body] 29)).alloc (.cells #[.int .i64 t.proto, .int .i64 t.src, .int .i64 t.sport, .int .i64 t.dst, .int .i64 t.dport, .int .i64 t.kind] 33)).alloc (.cells #[.int .i64 0, .int .i64 0, .int .i64 0, .int .i64 0, .int .i64 0, .int .i64 0, .int .i64 0, .int .i64 0, .int .i64 0, .string ⟨#[]⟩] 29)).heap[w.heap.size + 1]? = some (.cells #[.int .i64 t.proto, .int .i64 t.src, .int .i64 t.sport, .int .i64 t.dst, .int .i64 t.dport, .int .i64 t.kind] 33)) := by
    show _ = _
    have := blk_alloc (heap_newG (w.alloc (.cells #[.int .i64 p.src, .int .i64 p.dst, .int .i64 p.proto, .int .i64 p.a, .int .i64 p.b, .int .i64 p.kind, .int .i64 p.flags, .int .i64 p.seq, .int .i64 p.ack, .string p.body] 29)) (.cells #[.int .i64 t.proto, .int .i64 t.src, .int .i64 t.sport, .int .i64 t.dst, .int .i64 t.dport, .int .i64 t.kind] 33)) (.cells #[.int .i64 0, .int .i64 0, .int .i64 0, .int .i64 0, .int .i64 0, .int .i64 0, .int .i64 0, .int .i64 0, .int .i64 0, .string ⟨#[]⟩] 29)
    simpa using this
  have hGR0 : Hid ((((w.alloc (.cells #[.int .i64 p.src, .int .i64 p.dst, .int .i64 p.proto, .int .i64 p.a, .int .i64 p.b, .int .i64 p.kind, .int .i64 p.flags, .int .i64 p.seq, .int .i64 p.ack, .string p.body] 29)).alloc (.cells #[.int .i64 t.proto, .int .i64 t.src, .int .i64 t.sport, .int .i64 t.dst, .int .i64 t.dport, .int .i64 t.kind] 33)).alloc (.cells #[.int .i64 0, .int .i64 0, .int .i64 0, .int .i64 0, .int .i64 0, .int .i64 0, .int .i64 0, .int .i64 0, .int .i64 0, .string ⟨#[]⟩] 29)).heap[w.heap.size + 2]? = some (.cells #[.int .i64 0, .int .i64 0, .int .i64 0, .int .i64 0, .int .i64 0, .int .i64 0, .int .i64 0, .int .i64 0, .int .i64 0, .string ⟨#[]⟩] 29)) := by
    show _ = _
    have := heap_newG ((w.alloc (.cells #[.int .i64 p.src, .int .i64 p.dst, .int .i64 p.proto, .int .i64 p.a, .int .i64 p.b, .int .i64 p.kind, .int .i64 p.flags, .int .i64 p.seq, .int .i64 p.ack, .string p.body] 29)).alloc (.cells #[.int .i64 t.proto, .int .i64 t.src, .int .i64 t.sport, .int .i64 t.dst, .int .i64 t.dport, .int .i64 t.kind] 33)) (.cells #[.int .i64 0, .int .i64 0, .int .i64 0, .int .i64 0, .int .i64 0, .int .i64 0, .int .i64 0, .int .i64 0, .int .i64 0, .string ⟨#[]⟩] 29)
    simpa using this
  have hL0 := hidS ((((Below.refl w.heap.size w).alloc (Nat.le_refl _) (.cells #[.int .i64 p.src, .int .i64 p.dst, .int .i64 p.proto, .int .i64 p.a, .int .i64 p.b, .int .i64 p.kind, .int .i64 p.flags, .int .i64 p.seq, .int .i64 p.ack, .string p.body] 29)).alloc (by simp) (.cells #[.int .i64 t.proto, .int .i64 t.src, .int .i64 t.sport, .int .i64 t.dst, .int .i64 t.dport, .int .i64 t.kind] 33)).alloc (by simp; omega) (.cells #[.int .i64 0, .int .i64 0, .int .i64 0, .int .i64 0, .int .i64 0, .int .i64 0, .int .i64 0, .int .i64 0, .int .i64 0, .string ⟨#[]⟩] 29))
  go_enter Tryd.func43, Tryd.ntmps43
  go_wp2_with fail
  refine (HR.out _).mono ?_
  rintro _ w1 ⟨rfl, hb1⟩
  have hGP1 := hidS (blk_later hGP0.out hb1)
  have hGT1 := hidS (blk_later hGT0.out hb1)
  have hGR1 := hidS (blk_later hGR0.out hb1)
  have hL1 := hidS (hL0.out.trans (hb1.mono hL0.out.size))
  clear hb1 hL0 hGP0 hGT0 hGR0
  rw [hr]
  have hg := (HS.out _ hL1.out).cF
  have hne : w.heap.size + 2 ≠ 0 := by omega
  have kR := blk_cell hGR1.out
  have fR := blk_free hGR1.out
  go_wp2_with fail
  go_region
  go_wp2_with fail
  refine bodyPost_ret (v := .tuple #[.agg #[.int .i64 zeroPk.src, .int .i64 zeroPk.dst, .int .i64 zeroPk.proto, .int .i64 zeroPk.a, .int .i64 zeroPk.b, .int .i64 zeroPk.kind, .int .i64 zeroPk.flags, .int .i64 zeroPk.seq, .int .i64 zeroPk.ack, .string zeroPk.body], .iface 139 (.pointer (some aF))]) (by simp [results, Tryd.results43, go_sem, zeroPk, *]) rfl ⟨rfl, ?_⟩
  refine Below.drew ?_
  repeat (refine below_at ?_ (by omega))
  exact hL1.out

set_option maxHeartbeats 4000000 in
theorem give_2 {aF aS aY aM : Addr} (p : Pk) (t : Tp) (w : World) (hs : p.body.size ≤ maxLen) (hS : Sent aF aS aY aM w) (hr : rightB p = true) (he : errorB p = true) :
    Calls Tryd.prog 43 #[.agg #[.int .i64 p.src, .int .i64 p.dst, .int .i64 p.proto, .int .i64 p.a, .int .i64 p.b, .int .i64 p.kind, .int .i64 p.flags, .int .i64 p.seq, .int .i64 p.ack, .string p.body], .agg #[.int .i64 t.proto, .int .i64 t.src, .int .i64 t.sport, .int .i64 t.dst, .int .i64 t.dport, .int .i64 t.kind]] w fun e w' => e = .returned (.tuple #[.agg #[.int .i64 zeroPk.src, .int .i64 zeroPk.dst, .int .i64 zeroPk.proto, .int .i64 zeroPk.a, .int .i64 zeroPk.b, .int .i64 zeroPk.kind, .int .i64 zeroPk.flags, .int .i64 zeroPk.seq, .int .i64 zeroPk.ack, .string zeroPk.body], .iface 139 (.pointer (some aF))]) ∧ Below w.heap.size w w' := by
  have HR := hidS (fun W => implRight_any p W hs)
  have HE := hidS (fun W => isErrB_any p W)
  have HT := hidS (fun W => implTRight_any t W)
  have HS := hidS (fun W (h : Below w.heap.size w W) => hS.later h)
  have hlt0 : 0 < w.heap.size := World.block_lt_of_cell? w _ hS.cF
  clear hS
  have hGP0 : Hid ((((w.alloc (.cells #[.int .i64 p.src, .int .i64 p.dst, .int .i64 p.proto, .int .i64 p.a, .int .i64 p.b, .int .i64 p.kind, .int .i64 p.flags, .int .i64 p.seq, .int .i64 p.ack, .string p.body] 29)).alloc (.cells #[.int .i64 t.proto, .int .i64 t.src, .int .i64 t.sport, .int .i64 t.dst, .int .i64 t.dport, .int .i64 t.kind] 33)).alloc (.cells #[.int .i64 0, .int .i64 0, .int .i64 0, .int .i64 0, .int .i64 0, .int .i64 0, .int .i64 0, .int .i64 0, .int .i64 0, .string ⟨#[]⟩] 29)).heap[w.heap.size]? = some (.cells #[.int .i64 p.src, .int .i64 p.dst, .int .i64 p.proto, .int .i64 p.a, .int .i64 p.b, .int .i64 p.kind, .int .i64 p.flags, .int .i64 p.seq, .int .i64 p.ack, .string p.body] 29)) := by
    show _ = _
    have := blk_alloc (blk_alloc (heap_newG w (.cells #[.int .i64 p.src, .int .i64 p.dst, .int .i64 p.proto, .int .i64 p.a, .int .i64 p.b, .int .i64 p.kind, .int .i64 p.flags, .int .i64 p.seq, .int .i64 p.ack, .string p.body] 29)) (.cells #[.int .i64 t.proto, .int .i64 t.src, .int .i64 t.sport, .int .i64 t.dst, .int .i64 t.dport, .int .i64 t.kind] 33)) (.cells #[.int .i64 0, .int .i64 0, .int .i64 0, .int .i64 0, .int .i64 0, .int .i64 0, .int .i64 0, .int .i64 0, .int .i64 0, .string ⟨#[]⟩] 29)
    simpa using this
  have hGT0 : Hid ((((w.alloc (.cells #[.int .i64 p.src, .int .i64 p.dst, .int .i64 p.proto, .int .i64 p.a, .int .i64 p.b, .int .i64 p.kind, .int .i64 p.flags, .int .i64 p.seq, .int .i64 p.ack, .string p.body] 29)).alloc (.cells #[.int .i64 t.proto, .int .i64 t.src, .int .i64 t.sport, .int .i64 t.dst, .int .i64 t.dport, .int .i64 t.kind] 33)).alloc (.cells #[.int .i64 0, .int .i64 0, .int .i64 0, .int .i64 0, .int .i64 0, .int .i64 0, .int .i64 0, .int .i64 0, .int .i64 0, .string ⟨#[]⟩] 29)).heap[w.heap.size + 1]? = some (.cells #[.int .i64 t.proto, .int .i64 t.src, .int .i64 t.sport, .int .i64 t.dst, .int .i64 t.dport, .int .i64 t.kind] 33)) := by
    show _ = _
    have := blk_alloc (heap_newG (w.alloc (.cells #[.int .i64 p.src, .int .i64 p.dst, .int .i64 p.proto, .int .i64 p.a, .int .i64 p.b, .int .i64 p.kind, .int .i64 p.flags, .int .i64 p.seq, .int .i64 p.ack, .string p.body] 29)) (.cells #[.int .i64 t.proto, .int .i64 t.src, .int .i64 t.sport, .int .i64 t.dst, .int .i64 t.dport, .int .i64 t.kind] 33)) (.cells #[.int .i64 0, .int .i64 0, .int .i64 0, .int .i64 0, .int .i64 0, .int .i64 0, .int .i64 0, .int .i64 0, .int .i64 0, .string ⟨#[]⟩] 29)
    simpa using this
  have hGR0 : Hid ((((w.alloc (.cells #[.int .i64 p.src, .int .i64 p.dst, .int .i64 p.proto, .int .i64 p.a, .int .i64 p.b, .int .i64 p.kind, .int .i64 p.flags, .int .i64 p.seq, .int .i64 p.ack, .string p.body] 29)).alloc (.cells #[.int .i64 t.proto, .int .i64 t.src, .int .i64 t.sport, .int .i64 t.dst, .int .i64 t.dport, .int .i64 t.kind] 33)).alloc (.cells #[.int .i64 0, .int .i64 0, .int .i64 0, .int .i64 0, .int .i64 0, .int .i64 0, .int .i64 0, .int .i64 0, .int .i64 0, .string ⟨#[]⟩] 29)).heap[w.heap.size + 2]? = some (.cells #[.int .i64 0, .int .i64 0, .int .i64 0, .int .i64 0, .int .i64 0, .int .i64 0, .int .i64 0, .int .i64 0, .int .i64 0, .string ⟨#[]⟩] 29)) := by
    show _ = _
    have := heap_newG ((w.alloc (.cells #[.int .i64 p.src, .int .i64 p.dst, .int .i64 p.proto, .int .i64 p.a, .int .i64 p.b, .int .i64 p.kind, .int .i64 p.flags, .int .i64 p.seq, .int .i64 p.ack, .string p.body] 29)).alloc (.cells #[.int .i64 t.proto, .int .i64 t.src, .int .i64 t.sport, .int .i64 t.dst, .int .i64 t.dport, .int .i64 t.kind] 33)) (.cells #[.int .i64 0, .int .i64 0, .int .i64 0, .int .i64 0, .int .i64 0, .int .i64 0, .int .i64 0, .int .i64 0, .int .i64 0, .string ⟨#[]⟩] 29)
    simpa using this
  have hL0 := hidS ((((Below.refl w.heap.size w).alloc (Nat.le_refl _) (.cells #[.int .i64 p.src, .int .i64 p.dst, .int .i64 p.proto, .int .i64 p.a, .int .i64 p.b, .int .i64 p.kind, .int .i64 p.flags, .int .i64 p.seq, .int .i64 p.ack, .string p.body] 29)).alloc (by simp) (.cells #[.int .i64 t.proto, .int .i64 t.src, .int .i64 t.sport, .int .i64 t.dst, .int .i64 t.dport, .int .i64 t.kind] 33)).alloc (by simp; omega) (.cells #[.int .i64 0, .int .i64 0, .int .i64 0, .int .i64 0, .int .i64 0, .int .i64 0, .int .i64 0, .int .i64 0, .int .i64 0, .string ⟨#[]⟩] 29))
  go_enter Tryd.func43, Tryd.ntmps43
  go_wp2_with fail
  refine (HR.out _).mono ?_
  rintro _ w1 ⟨rfl, hb1⟩
  have hGP1 := hidS (blk_later hGP0.out hb1)
  have hGT1 := hidS (blk_later hGT0.out hb1)
  have hGR1 := hidS (blk_later hGR0.out hb1)
  have hL1 := hidS (hL0.out.trans (hb1.mono hL0.out.size))
  clear hb1 hL0 hGP0 hGT0 hGR0
  rw [hr]
  have cP0 := blk_cell hGP1.out 0
  have cP1 := blk_cell hGP1.out 1
  have cP2 := blk_cell hGP1.out 2
  have cP3 := blk_cell hGP1.out 3
  have cP4 := blk_cell hGP1.out 4
  have cP5 := blk_cell hGP1.out 5
  have cP6 := blk_cell hGP1.out 6
  have cP7 := blk_cell hGP1.out 7
  have cP8 := blk_cell hGP1.out 8
  have cP9 := blk_cell hGP1.out 9
  simp at cP0 cP1 cP2 cP3 cP4 cP5 cP6 cP7 cP8 cP9
  go_wp2_with fail
  refine (HE.out _).mono ?_
  rintro _ w2 ⟨rfl, hb2⟩
  clear cP0 cP1 cP2 cP3 cP4 cP5 cP6 cP7 cP8 cP9
  have hGP2 := hidS (blk_later hGP1.out hb2)
  have hGT2 := hidS (blk_later hGT1.out hb2)
  have hGR2 := hidS (blk_later hGR1.out hb2)
  have hL2 := hidS (hL1.out.trans (hb2.mono hL1.out.size))
  clear hb2 hL1 hGP1 hGT1 hGR1
  rw [he]
  have hg := (HS.out _ hL2.out).cF
  have hne : w.heap.size + 2 ≠ 0 := by omega
  have kR := blk_cell hGR2.out
  have fR := blk_free hGR2.out
  go_wp2_with fail
  go_region
  go_wp2_with fail
  refine bodyPost_ret (v := .tuple #[.agg #[.int .i64 zeroPk.src, .int .i64 zeroPk.dst, .int .i64 zeroPk.proto, .int .i64 zeroPk.a, .int .i64 zeroPk.b, .int .i64 zeroPk.kind, .int .i64 zeroPk.flags, .int .i64 zeroPk.seq, .int .i64 zeroPk.ack, .string zeroPk.body], .iface 139 (.pointer (some aF))]) (by simp [results, Tryd.results43, go_sem, zeroPk, *]) rfl ⟨rfl, ?_⟩
  refine Below.drew ?_
  repeat (refine below_at ?_ (by omega))
  exact hL2.out

set_option maxHeartbeats 4000000 in
theorem give_3 {aF aS aY aM : Addr} (p : Pk) (t : Tp) (w : World) (hs : p.body.size ≤ maxLen) (hS : Sent aF aS aY aM w) (hr : rightB p = true) (he : errorB p = false) (ht : rightT t = false) :
    Calls Tryd.prog 43 #[.agg #[.int .i64 p.src, .int .i64 p.dst, .int .i64 p.proto, .int .i64 p.a, .int .i64 p.b, .int .i64 p.kind, .int .i64 p.flags, .int .i64 p.seq, .int .i64 p.ack, .string p.body], .agg #[.int .i64 t.proto, .int .i64 t.src, .int .i64 t.sport, .int .i64 t.dst, .int .i64 t.dport, .int .i64 t.kind]] w fun e w' => e = .returned (.tuple #[.agg #[.int .i64 zeroPk.src, .int .i64 zeroPk.dst, .int .i64 zeroPk.proto, .int .i64 zeroPk.a, .int .i64 zeroPk.b, .int .i64 zeroPk.kind, .int .i64 zeroPk.flags, .int .i64 zeroPk.seq, .int .i64 zeroPk.ack, .string zeroPk.body], .iface 139 (.pointer (some aF))]) ∧ Below w.heap.size w w' := by
  have HR := hidS (fun W => implRight_any p W hs)
  have HE := hidS (fun W => isErrB_any p W)
  have HT := hidS (fun W => implTRight_any t W)
  have HS := hidS (fun W (h : Below w.heap.size w W) => hS.later h)
  have hlt0 : 0 < w.heap.size := World.block_lt_of_cell? w _ hS.cF
  clear hS
  have hGP0 : Hid ((((w.alloc (.cells #[.int .i64 p.src, .int .i64 p.dst, .int .i64 p.proto, .int .i64 p.a, .int .i64 p.b, .int .i64 p.kind, .int .i64 p.flags, .int .i64 p.seq, .int .i64 p.ack, .string p.body] 29)).alloc (.cells #[.int .i64 t.proto, .int .i64 t.src, .int .i64 t.sport, .int .i64 t.dst, .int .i64 t.dport, .int .i64 t.kind] 33)).alloc (.cells #[.int .i64 0, .int .i64 0, .int .i64 0, .int .i64 0, .int .i64 0, .int .i64 0, .int .i64 0, .int .i64 0, .int .i64 0, .string ⟨#[]⟩] 29)).heap[w.heap.size]? = some (.cells #[.int .i64 p.src, .int .i64 p.dst, .int .i64 p.proto, .int .i64 p.a, .int .i64 p.b, .int .i64 p.kind, .int .i64 p.flags, .int .i64 p.seq, .int .i64 p.ack, .string p.body] 29)) := by
    show _ = _
    have := blk_alloc (blk_alloc (heap_newG w (.cells #[.int .i64 p.src, .int .i64 p.dst, .int .i64 p.proto, .int .i64 p.a, .int .i64 p.b, .int .i64 p.kind, .int .i64 p.flags, .int .i64 p.seq, .int .i64 p.ack, .string p.body] 29)) (.cells #[.int .i64 t.proto, .int .i64 t.src, .int .i64 t.sport, .int .i64 t.dst, .int .i64 t.dport, .int .i64 t.kind] 33)) (.cells #[.int .i64 0, .int .i64 0, .int .i64 0, .int .i64 0, .int .i64 0, .int .i64 0, .int .i64 0, .int .i64 0, .int .i64 0, .string ⟨#[]⟩] 29)
    simpa using this
  have hGT0 : Hid ((((w.alloc (.cells #[.int .i64 p.src, .int .i64 p.dst, .int .i64 p.proto, .int .i64 p.a, .int .i64 p.b, .int .i64 p.kind, .int .i64 p.flags, .int .i64 p.seq, .int .i64 p.ack, .string p.body] 29)).alloc (.cells #[.int .i64 t.proto, .int .i64 t.src, .int .i64 t.sport, .int .i64 t.dst, .int .i64 t.dport, .int .i64 t.kind] 33)).alloc (.cells #[.int .i64 0, .int .i64 0, .int .i64 0, .int .i64 0, .int .i64 0, .int .i64 0, .int .i64 0, .int .i64 0, .int .i64 0, .string ⟨#[]⟩] 29)).heap[w.heap.size + 1]? = some (.cells #[.int .i64 t.proto, .int .i64 t.src, .int .i64 t.sport, .int .i64 t.dst, .int .i64 t.dport, .int .i64 t.kind] 33)) := by
    show _ = _
    have := blk_alloc (heap_newG (w.alloc (.cells #[.int .i64 p.src, .int .i64 p.dst, .int .i64 p.proto, .int .i64 p.a, .int .i64 p.b, .int .i64 p.kind, .int .i64 p.flags, .int .i64 p.seq, .int .i64 p.ack, .string p.body] 29)) (.cells #[.int .i64 t.proto, .int .i64 t.src, .int .i64 t.sport, .int .i64 t.dst, .int .i64 t.dport, .int .i64 t.kind] 33)) (.cells #[.int .i64 0, .int .i64 0, .int .i64 0, .int .i64 0, .int .i64 0, .int .i64 0, .int .i64 0, .int .i64 0, .int .i64 0, .string ⟨#[]⟩] 29)
    simpa using this
  have hGR0 : Hid ((((w.alloc (.cells #[.int .i64 p.src, .int .i64 p.dst, .int .i64 p.proto, .int .i64 p.a, .int .i64 p.b, .int .i64 p.kind, .int .i64 p.flags, .int .i64 p.seq, .int .i64 p.ack, .string p.body] 29)).alloc (.cells #[.int .i64 t.proto, .int .i64 t.src, .int .i64 t.sport, .int .i64 t.dst, .int .i64 t.dport, .int .i64 t.kind] 33)).alloc (.cells #[.int .i64 0, .int .i64 0, .int .i64 0, .int .i64 0, .int .i64 0, .int .i64 0, .int .i64 0, .int .i64 0, .int .i64 0, .string ⟨#[]⟩] 29)).heap[w.heap.size + 2]? = some (.cells #[.int .i64 0, .int .i64 0, .int .i64 0, .int .i64 0, .int .i64 0, .int .i64 0, .int .i64 0, .int .i64 0, .int .i64 0, .string ⟨#[]⟩] 29)) := by
    show _ = _
    have := heap_newG ((w.alloc (.cells #[.int .i64 p.src, .int .i64 p.dst, .int .i64 p.proto, .int .i64 p.a, .int .i64 p.b, .int .i64 p.kind, .int .i64 p.flags, .int .i64 p.seq, .int .i64 p.ack, .string p.body] 29)).alloc (.cells #[.int .i64 t.proto, .int .i64 t.src, .int .i64 t.sport, .int .i64 t.dst, .int .i64 t.dport, .int .i64 t.kind] 33)) (.cells #[.int .i64 0, .int .i64 0, .int .i64 0, .int .i64 0, .int .i64 0, .int .i64 0, .int .i64 0, .int .i64 0, .int .i64 0, .string ⟨#[]⟩] 29)
    simpa using this
  have hL0 := hidS ((((Below.refl w.heap.size w).alloc (Nat.le_refl _) (.cells #[.int .i64 p.src, .int .i64 p.dst, .int .i64 p.proto, .int .i64 p.a, .int .i64 p.b, .int .i64 p.kind, .int .i64 p.flags, .int .i64 p.seq, .int .i64 p.ack, .string p.body] 29)).alloc (by simp) (.cells #[.int .i64 t.proto, .int .i64 t.src, .int .i64 t.sport, .int .i64 t.dst, .int .i64 t.dport, .int .i64 t.kind] 33)).alloc (by simp; omega) (.cells #[.int .i64 0, .int .i64 0, .int .i64 0, .int .i64 0, .int .i64 0, .int .i64 0, .int .i64 0, .int .i64 0, .int .i64 0, .string ⟨#[]⟩] 29))
  go_enter Tryd.func43, Tryd.ntmps43
  go_wp2_with fail
  refine (HR.out _).mono ?_
  rintro _ w1 ⟨rfl, hb1⟩
  have hGP1 := hidS (blk_later hGP0.out hb1)
  have hGT1 := hidS (blk_later hGT0.out hb1)
  have hGR1 := hidS (blk_later hGR0.out hb1)
  have hL1 := hidS (hL0.out.trans (hb1.mono hL0.out.size))
  clear hb1 hL0 hGP0 hGT0 hGR0
  rw [hr]
  have cP0 := blk_cell hGP1.out 0
  have cP1 := blk_cell hGP1.out 1
  have cP2 := blk_cell hGP1.out 2
  have cP3 := blk_cell hGP1.out 3
  have cP4 := blk_cell hGP1.out 4
  have cP5 := blk_cell hGP1.out 5
  have cP6 := blk_cell hGP1.out 6
  have cP7 := blk_cell hGP1.out 7
  have cP8 := blk_cell hGP1.out 8
  have cP9 := blk_cell hGP1.out 9
  simp at cP0 cP1 cP2 cP3 cP4 cP5 cP6 cP7 cP8 cP9
  go_wp2_with fail
  refine (HE.out _).mono ?_
  rintro _ w2 ⟨rfl, hb2⟩
  clear cP0 cP1 cP2 cP3 cP4 cP5 cP6 cP7 cP8 cP9
  have hGP2 := hidS (blk_later hGP1.out hb2)
  have hGT2 := hidS (blk_later hGT1.out hb2)
  have hGR2 := hidS (blk_later hGR1.out hb2)
  have hL2 := hidS (hL1.out.trans (hb2.mono hL1.out.size))
  clear hb2 hL1 hGP1 hGT1 hGR1
  rw [he]
  have cT0 := blk_cell hGT2.out 0
  have cT1 := blk_cell hGT2.out 1
  have cT2 := blk_cell hGT2.out 2
  have cT3 := blk_cell hGT2.out 3
  have cT4 := blk_cell hGT2.out 4
  have cT5 := blk_cell hGT2.out 5
  simp at cT0 cT1 cT2 cT3 cT4 cT5
  go_wp2_with fail
  refine (HT.out _).mono ?_
  rintro _ w3 ⟨rfl, hb3⟩
  clear cT0 cT1 cT2 cT3 cT4 cT5
  have hGP3 := hidS (blk_later hGP2.out hb3)
  have hGT3 := hidS (blk_later hGT2.out hb3)
  have hGR3 := hidS (blk_later hGR2.out hb3)
  have hL3 := hidS (hL2.out.trans (hb3.mono hL2.out.size))
  clear hb3 hL2 hGP2 hGT2 hGR2
  rw [ht]
  have hg := (HS.out _ hL3.out).cF
  have hne : w.heap.size + 2 ≠ 0 := by omega
  have kR := blk_cell hGR3.out
  have fR := blk_free hGR3.out
  go_wp2_with fail
  go_region
  go_wp2_with fail
  refine bodyPost_ret (v := .tuple #[.agg #[.int .i64 zeroPk.src, .int .i64 zeroPk.dst, .int .i64 zeroPk.proto, .int .i64 zeroPk.a, .int .i64 zeroPk.b, .int .i64 zeroPk.kind, .int .i64 zeroPk.flags, .int .i64 zeroPk.seq, .int .i64 zeroPk.ack, .string zeroPk.body], .iface 139 (.pointer (some aF))]) (by simp [results, Tryd.results43, go_sem, zeroPk, *]) rfl ⟨rfl, ?_⟩
  refine Below.drew ?_
  repeat (refine below_at ?_ (by omega))
  exact hL3.out

theorem ofG_ping (p : Pk) (t : Tp) (W : World) (hs : p.body.size ≤ maxLen) (hr : rightB p = true) (he : errorB p = false) (ht : rightT t = true) (h1 : p.proto = 1) :
    Calls Tryd.prog 40 #[.agg #[.int .i64 t.src, .int .i64 t.dst, .int .i64 p.proto, .int .i64 t.sport, .int .i64 p.b, .int .i64 p.kind, .int .i64 p.flags, .int .i64 p.seq, .int .i64 p.ack, .string p.body]] W fun e w' => e = .returned (.agg #[.int .i64 (given p t).proto, .int .i64 (given p t).src, .int .i64 (given p t).sport, .int .i64 (given p t).dst, .int .i64 (given p t).dport, .int .i64 (given p t).kind]) ∧ Below W.heap.size W w' := by
  have h := implTOf_any (withT p t) W hs
  rw [ofAns_with hr he ht] at h
  have e : withT p t = ⟨t.src, t.dst, p.proto, t.sport, p.b, p.kind, p.flags, p.seq, p.ack, p.body⟩ := by unfold withT; rw [if_pos h1]
  rw [e] at h
  exact h

theorem ofG_other (p : Pk) (t : Tp) (W : World) (hs : p.body.size ≤ maxLen) (hr : rightB p = true) (he : errorB p = false) (ht : rightT t = true) (h1 : p.proto ≠ 1) :
    Calls Tryd.prog 40 #[.agg #[.int .i64 t.src, .int .i64 t.dst, .int .i64 p.proto, .int .i64 t.sport, .int .i64 t.dport, .int .i64 p.kind, .int .i64 p.flags, .int .i64 p.seq, .int .i64 p.ack, .string p.body]] W fun e w' => e = .returned (.agg #[.int .i64 (given p t).proto, .int .i64 (given p t).src, .int .i64 (given p t).sport, .int .i64 (given p t).dst, .int .i64 (given p t).dport, .int .i64 (given p t).kind]) ∧ Below W.heap.size W w' := by
  have h := implTOf_any (withT p t) W hs
  rw [ofAns_with hr he ht] at h
  have e : withT p t = ⟨t.src, t.dst, p.proto, t.sport, t.dport, p.kind, p.flags, p.seq, p.ack, p.body⟩ := by unfold withT; rw [if_neg h1]
  rw [e] at h
  exact h

set_option maxHeartbeats 4000000 in
theorem give_no_ping {aF aS aY aM : Addr} (p : Pk) (t : Tp) (w : World) (hs : p.body.size ≤ maxLen) (hS : Sent aF aS aY aM w) (hr : rightB p = true) (he : errorB p = false) (ht : rightT t = true) (h1 : p.proto = 1) (hd : sameT (given p t) t = false) :
    Calls Tryd.prog 43 #[.agg #[.int .i64 p.src, .int .i64 p.dst, .int .i64 p.proto, .int .i64 p.a, .int .i64 p.b, .int .i64 p.kind, .int .i64 p.flags, .int .i64 p.seq, .int .i64 p.ack, .string p.body], .agg #[.int .i64 t.proto, .int .i64 t.src, .int .i64 t.sport, .int .i64 t.dst, .int .i64 t.dport, .int .i64 t.kind]] w fun e w' => e = .returned (.tuple #[.agg #[.int .i64 zeroPk.src, .int .i64 zeroPk.dst, .int .i64 zeroPk.proto, .int .i64 zeroPk.a, .int .i64 zeroPk.b, .int .i64 zeroPk.kind, .int .i64 zeroPk.flags, .int .i64 zeroPk.seq, .int .i64 zeroPk.ack, .string zeroPk.body], .iface 139 (.pointer (some aF))]) ∧ Below w.heap.size w w' := by
  have HR := hidS (fun W => implRight_any p W hs)
  have HE := hidS (fun W => isErrB_any p W)
  have HT := hidS (fun W => implTRight_any t W)
  have HS := hidS (fun W (h : Below w.heap.size w W) => hS.later h)
  have hlt0 : 0 < w.heap.size := World.block_lt_of_cell? w _ hS.cF
  clear hS
  have HO := hidS (fun W => ofG_ping p t W hs hr he ht h1)
  have h1n : (p.proto != 1) = false := by simp [h1]
  have hq : ∀ W, (binOp .neq 33 (.agg #[.int .i64 (given p t).proto, .int .i64 (given p t).src, .int .i64 (given p t).sport, .int .i64 (given p t).dst, .int .i64 (given p t).dport, .int .i64 (given p t).kind]) (.agg #[.int .i64 t.proto, .int .i64 t.src, .int .i64 t.sport, .int .i64 t.dst, .int .i64 t.dport, .int .i64 t.kind])).run Tryd.prog W = .ok (.bool true) W := fun W => by rw [neq_tup, hd]; rfl
  generalize given p t = g at *
  clear hd h1
  have hGP0 : Hid ((((w.alloc (.cells #[.int .i64 p.src, .int .i64 p.dst, .int .i64 p.proto, .int .i64 p.a, .int .i64 p.b, .int .i64 p.kind, .int .i64 p.flags, .int .i64 p.seq, .int .i64 p.ack, .string p.body] 29)).alloc (.cells #[.int .i64 t.proto, .int .i64 t.src, .int .i64 t.sport, .int .i64 t.dst, .int .i64 t.dport, .int .i64 t.kind] 33)).alloc (.cells #[.int .i64 0, .int .i64 0, .int .i64 0, .int .i64 0, .int .i64 0, .int .i64 0, .int .i64 0, .int .i64 0, .int .i64 0, .string ⟨#[]⟩] 29)).heap[w.heap.size]? = some (.cells #[.int .i64 p.src, .int .i64 p.dst, .int .i64 p.proto, .int .i64 p.a, .int .i64 p.b, .int .i64 p.kind, .int .i64 p.flags, .int .i64 p.seq, .int .i64 p.ack, .string p.body] 29)) := by
    show _ = _
    have := blk_alloc (blk_alloc (heap_newG w (.cells #[.int .i64 p.src, .int .i64 p.dst, .int .i64 p.proto, .int .i64 p.a, .int .i64 p.b, .int .i64 p.kind, .int .i64 p.flags, .int .i64 p.seq, .int .i64 p.ack, .string p.body] 29)) (.cells #[.int .i64 t.proto, .int .i64 t.src, .int .i64 t.sport, .int .i64 t.dst, .int .i64 t.dport, .int .i64 t.kind] 33)) (.cells #[.int .i64 0, .int .i64 0, .int .i64 0, .int .i64 0, .int .i64 0, .int .i64 0, .int .i64 0, .int .i64 0, .int .i64 0, .string ⟨#[]⟩] 29)
    simpa using this
  have hGT0 : Hid ((((w.alloc (.cells #[.int .i64 p.src, .int .i64 p.dst, .int .i64 p.proto, .int .i64 p.a, .int .i64 p.b, .int .i64 p.kind, .int .i64 p.flags, .int .i64 p.seq, .int .i64 p.ack, .string p.body] 29)).alloc (.cells #[.int .i64 t.proto, .int .i64 t.src, .int .i64 t.sport, .int .i64 t.dst, .int .i64 t.dport, .int .i64 t.kind] 33)).alloc (.cells #[.int .i64 0, .int .i64 0, .int .i64 0, .int .i64 0, .int .i64 0, .int .i64 0, .int .i64 0, .int .i64 0, .int .i64 0, .string ⟨#[]⟩] 29)).heap[w.heap.size + 1]? = some (.cells #[.int .i64 t.proto, .int .i64 t.src, .int .i64 t.sport, .int .i64 t.dst, .int .i64 t.dport, .int .i64 t.kind] 33)) := by
    show _ = _
    have := blk_alloc (heap_newG (w.alloc (.cells #[.int .i64 p.src, .int .i64 p.dst, .int .i64 p.proto, .int .i64 p.a, .int .i64 p.b, .int .i64 p.kind, .int .i64 p.flags, .int .i64 p.seq, .int .i64 p.ack, .string p.body] 29)) (.cells #[.int .i64 t.proto, .int .i64 t.src, .int .i64 t.sport, .int .i64 t.dst, .int .i64 t.dport, .int .i64 t.kind] 33)) (.cells #[.int .i64 0, .int .i64 0, .int .i64 0, .int .i64 0, .int .i64 0, .int .i64 0, .int .i64 0, .int .i64 0, .int .i64 0, .string ⟨#[]⟩] 29)
    simpa using this
  have hGR0 : Hid ((((w.alloc (.cells #[.int .i64 p.src, .int .i64 p.dst, .int .i64 p.proto, .int .i64 p.a, .int .i64 p.b, .int .i64 p.kind, .int .i64 p.flags, .int .i64 p.seq, .int .i64 p.ack, .string p.body] 29)).alloc (.cells #[.int .i64 t.proto, .int .i64 t.src, .int .i64 t.sport, .int .i64 t.dst, .int .i64 t.dport, .int .i64 t.kind] 33)).alloc (.cells #[.int .i64 0, .int .i64 0, .int .i64 0, .int .i64 0, .int .i64 0, .int .i64 0, .int .i64 0, .int .i64 0, .int .i64 0, .string ⟨#[]⟩] 29)).heap[w.heap.size + 2]? = some (.cells #[.int .i64 0, .int .i64 0, .int .i64 0, .int .i64 0, .int .i64 0, .int .i64 0, .int .i64 0, .int .i64 0, .int .i64 0, .string ⟨#[]⟩] 29)) := by
    show _ = _
    have := heap_newG ((w.alloc (.cells #[.int .i64 p.src, .int .i64 p.dst, .int .i64 p.proto, .int .i64 p.a, .int .i64 p.b, .int .i64 p.kind, .int .i64 p.flags, .int .i64 p.seq, .int .i64 p.ack, .string p.body] 29)).alloc (.cells #[.int .i64 t.proto, .int .i64 t.src, .int .i64 t.sport, .int .i64 t.dst, .int .i64 t.dport, .int .i64 t.kind] 33)) (.cells #[.int .i64 0, .int .i64 0, .int .i64 0, .int .i64 0, .int .i64 0, .int .i64 0, .int .i64 0, .int .i64 0, .int .i64 0, .string ⟨#[]⟩] 29)
    simpa using this
  have hL0 := hidS ((((Below.refl w.heap.size w).alloc (Nat.le_refl _) (.cells #[.int .i64 p.src, .int .i64 p.dst, .int .i64 p.proto, .int .i64 p.a, .int .i64 p.b, .int .i64 p.kind, .int .i64 p.flags, .int .i64 p.seq, .int .i64 p.ack, .string p.body] 29)).alloc (by simp) (.cells #[.int .i64 t.proto, .int .i64 t.src, .int .i64 t.sport, .int .i64 t.dst, .int .i64 t.dport, .int .i64 t.kind] 33)).alloc (by simp; omega) (.cells #[.int .i64 0, .int .i64 0, .int .i64 0, .int .i64 0, .int .i64 0, .int .i64 0, .int .i64 0, .int .i64 0, .int .i64 0, .string ⟨#[]⟩] 29))
  go_enter Tryd.func43, Tryd.ntmps43
  go_wp2_with fail
  refine (HR.out _).mono ?_
  rintro _ w1 ⟨rfl, hb1⟩
  have hGP1 := hidS (blk_later hGP0.out hb1)
  have hGT1 := hidS (blk_later hGT0.out hb1)
  have hGR1 := hidS (blk_later hGR0.out hb1)
  have hL1 := hidS (hL0.out.trans (hb1.mono hL0.out.size))
  clear hb1 hL0 hGP0 hGT0 hGR0
  rw [hr]
  have cP0 := blk_cell hGP1.out 0
  have cP1 := blk_cell hGP1.out 1
  have cP2 := blk_cell hGP1.out 2
  have cP3 := blk_cell hGP1.out 3
  have cP4 := blk_cell hGP1.out 4
  have cP5 := blk_cell hGP1.out 5
  have cP6 := blk_cell hGP1.out 6
  have cP7 := blk_cell hGP1.out 7
  have cP8 := blk_cell hGP1.out 8
  have cP9 := blk_cell hGP1.out 9
  simp at cP0 cP1 cP2 cP3 cP4 cP5 cP6 cP7 cP8 cP9
  go_wp2_with fail
  refine (HE.out _).mono ?_
  rintro _ w2 ⟨rfl, hb2⟩
  clear cP0 cP1 cP2 cP3 cP4 cP5 cP6 cP7 cP8 cP9
  have hGP2 := hidS (blk_later hGP1.out hb2)
  have hGT2 := hidS (blk_later hGT1.out hb2)
  have hGR2 := hidS (blk_later hGR1.out hb2)
  have hL2 := hidS (hL1.out.trans (hb2.mono hL1.out.size))
  clear hb2 hL1 hGP1 hGT1 hGR1
  rw [he]
  have cT0 := blk_cell hGT2.out 0
  have cT1 := blk_cell hGT2.out 1
  have cT2 := blk_cell hGT2.out 2
  have cT3 := blk_cell hGT2.out 3
  have cT4 := blk_cell hGT2.out 4
  have cT5 := blk_cell hGT2.out 5
  simp at cT0 cT1 cT2 cT3 cT4 cT5
  go_wp2_with fail
  refine (HT.out _).mono ?_
  rintro _ w3 ⟨rfl, hb3⟩
  clear cT0 cT1 cT2 cT3 cT4 cT5
  have hGP3 := hidS (blk_later hGP2.out hb3)
  have hGT3 := hidS (blk_later hGT2.out hb3)
  have hGR3 := hidS (blk_later hGR2.out hb3)
  have hL3 := hidS (hL2.out.trans (hb3.mono hL2.out.size))
  clear hb3 hL2 hGP2 hGT2 hGR2
  rw [ht]
  have cP0 := blk_cell hGP3.out 0
  have cP1 := blk_cell hGP3.out 1
  have cP2 := blk_cell hGP3.out 2
  have cP3 := blk_cell hGP3.out 3
  have cP4 := blk_cell hGP3.out 4
  have cP5 := blk_cell hGP3.out 5
  have cP6 := blk_cell hGP3.out 6
  have cP7 := blk_cell hGP3.out 7
  have cP8 := blk_cell hGP3.out 8
  have cP9 := blk_cell hGP3.out 9
  simp at cP0 cP1 cP2 cP3 cP4 cP5 cP6 cP7 cP8 cP9
  go_upto_region 4 with fail
  have hGG4 := hidS (heap_newG w3 (.cells #[.int .i64 p.src, .int .i64 p.dst, .int .i64 p.proto, .int .i64 p.a, .int .i64 p.b, .int .i64 p.kind, .int .i64 p.flags, .int .i64 p.seq, .int .i64 p.ack, .string p.body] 29))
  have nG := blk_lt hGR3.out
  have hGP4 := hidS (blk_alloc hGP3.out (.cells #[.int .i64 p.src, .int .i64 p.dst, .int .i64 p.proto, .int .i64 p.a, .int .i64 p.b, .int .i64 p.kind, .int .i64 p.flags, .int .i64 p.seq, .int .i64 p.ack, .string p.body] 29))
  have hGT4 := hidS (blk_alloc hGT3.out (.cells #[.int .i64 p.src, .int .i64 p.dst, .int .i64 p.proto, .int .i64 p.a, .int .i64 p.b, .int .i64 p.kind, .int .i64 p.flags, .int .i64 p.seq, .int .i64 p.ack, .string p.body] 29))
  have hGR4 := hidS (blk_alloc hGR3.out (.cells #[.int .i64 p.src, .int .i64 p.dst, .int .i64 p.proto, .int .i64 p.a, .int .i64 p.b, .int .i64 p.kind, .int .i64 p.flags, .int .i64 p.seq, .int .i64 p.ack, .string p.body] 29))
  have hL4 := hidS (hL3.out.alloc hL3.out.size (.cells #[.int .i64 p.src, .int .i64 p.dst, .int .i64 p.proto, .int .i64 p.a, .int .i64 p.b, .int .i64 p.kind, .int .i64 p.flags, .int .i64 p.seq, .int .i64 p.ack, .string p.body] 29))
  clear cP0 cP1 cP2 cP3 cP4 cP5 cP6 cP7 cP8 cP9
  clear hL3 hGP3 hGT3 hGR3
  generalize w3.alloc (.cells #[.int .i64 p.src, .int .i64 p.dst, .int .i64 p.proto, .int .i64 p.a, .int .i64 p.b, .int .i64 p.kind, .int .i64 p.flags, .int .i64 p.seq, .int .i64 p.ack, .string p.body] 29) = w4 at hGP4 hGT4 hGR4 hGG4 hL4 ⊢
  have lT := blk_lt hGT4.out
  have lG := blk_lt hGG4.out
  have cT0 := blk_cell hGT4.out 0
  have cT1 := blk_cell hGT4.out 1
  have cT2 := blk_cell hGT4.out 2
  have cT3 := blk_cell hGT4.out 3
  have cT4 := blk_cell hGT4.out 4
  have cT5 := blk_cell hGT4.out 5
  simp at cT0 cT1 cT2 cT3 cT4 cT5
  have kG := blk_cell hGG4.out
  have fG := blk_free hGG4.out
  go_region
  have hGG5 : Hid ((((w4.setCell ⟨w3.heap.size, 0, none⟩ (.int .i64 t.src)).setCell ⟨w3.heap.size, 1, none⟩ (.int .i64 t.dst)).setCell ⟨w3.heap.size, 3, none⟩ (.int .i64 t.sport)).drew.heap[w3.heap.size]? = some (.cells #[.int .i64 t.src, .int .i64 t.dst, .int .i64 p.proto, .int .i64 t.sport, .int .i64 p.b, .int .i64 p.kind, .int .i64 p.flags, .int .i64 p.seq, .int .i64 p.ack, .string p.body] 29)) := by
    have := (blk_set (blk_set (blk_set hGG4.out 0 (.int .i64 t.src)) 1 (.int .i64 t.dst)) 3 (.int .i64 t.sport))
    exact this
  have hGP5 : Hid ((((w4.setCell ⟨w3.heap.size, 0, none⟩ (.int .i64 t.src)).setCell ⟨w3.heap.size, 1, none⟩ (.int .i64 t.dst)).setCell ⟨w3.heap.size, 3, none⟩ (.int .i64 t.sport)).drew.heap[w.heap.size]? = some (.cells #[.int .i64 p.src, .int .i64 p.dst, .int .i64 p.proto, .int .i64 p.a, .int .i64 p.b, .int .i64 p.kind, .int .i64 p.flags, .int .i64 p.seq, .int .i64 p.ack, .string p.body] 29)) := by
    have := (blk_other (B := w3.heap.size) (blk_other (B := w3.heap.size) (blk_other (B := w3.heap.size) hGP4.out (by omega) 0 (.int .i64 t.src)) (by omega) 1 (.int .i64 t.dst)) (by omega) 3 (.int .i64 t.sport))
    exact this
  have hGT5 : Hid ((((w4.setCell ⟨w3.heap.size, 0, none⟩ (.int .i64 t.src)).setCell ⟨w3.heap.size, 1, none⟩ (.int .i64 t.dst)).setCell ⟨w3.heap.size, 3, none⟩ (.int .i64 t.sport)).drew.heap[w.heap.size + 1]? = some (.cells #[.int .i64 t.proto, .int .i64 t.src, .int .i64 t.sport, .int .i64 t.dst, .int .i64 t.dport, .int .i64 t.kind] 33)) := by
    have := (blk_other (B := w3.heap.size) (blk_other (B := w3.heap.size) (blk_other (B := w3.heap.size) hGT4.out (by omega) 0 (.int .i64 t.src)) (by omega) 1 (.int .i64 t.dst)) (by omega) 3 (.int .i64 t.sport))
    exact this
  have hGR5 : Hid ((((w4.setCell ⟨w3.heap.size, 0, none⟩ (.int .i64 t.src)).setCell ⟨w3.heap.size, 1, none⟩ (.int .i64 t.dst)).setCell ⟨w3.heap.size, 3, none⟩ (.int .i64 t.sport)).drew.heap[w.heap.size + 2]? = some (.cells #[.int .i64 0, .int .i64 0, .int .i64 0, .int .i64 0, .int .i64 0, .int .i64 0, .int .i64 0, .int .i64 0, .int .i64 0, .string ⟨#[]⟩] 29)) := by
    have := (blk_other (B := w3.heap.size) (blk_other (B := w3.heap.size) (blk_other (B := w3.heap.size) hGR4.out (by omega) 0 (.int .i64 t.src)) (by omega) 1 (.int .i64 t.dst)) (by omega) 3 (.int .i64 t.sport))
    exact this
  have hL5 := hidS (Below.drew (below_at (k := 3) (b := w3.heap.size) (v := .int .i64 t.sport) (below_at (k := 1) (b := w3.heap.size) (v := .int .i64 t.dst) (below_at (k := 0) (b := w3.heap.size) (v := .int .i64 t.src) hL4.out (by omega)) (by omega)) (by omega)))
  clear lT lG cT0 cT1 cT2 cT3 cT4 cT5 kG fG
  clear hL4 hGG4 hGP4 hGT4 hGR4
  generalize (((w4.setCell ⟨w3.heap.size, 0, none⟩ (.int .i64 t.src)).setCell ⟨w3.heap.size, 1, none⟩ (.int .i64 t.dst)).setCell ⟨w3.heap.size, 3, none⟩ (.int .i64 t.sport)).drew = w5 at hGP5 hGT5 hGR5 hGG5 hL5 ⊢
  have cP0 := blk_cell hGP5.out 0
  have cP1 := blk_cell hGP5.out 1
  have cP2 := blk_cell hGP5.out 2
  have cP3 := blk_cell hGP5.out 3
  have cP4 := blk_cell hGP5.out 4
  have cP5 := blk_cell hGP5.out 5
  have cP6 := blk_cell hGP5.out 6
  have cP7 := blk_cell hGP5.out 7
  have cP8 := blk_cell hGP5.out 8
  have cP9 := blk_cell hGP5.out 9
  simp at cP0 cP1 cP2 cP3 cP4 cP5 cP6 cP7 cP8 cP9
  go_upto_region 7 with fail
  clear cP0 cP1 cP2 cP3 cP4 cP5 cP6 cP7 cP8 cP9
  refine grow_kinds 4 [.is (.agg #[.int .i64 t.src, .int .i64 t.dst, .int .i64 p.proto, .int .i64 t.sport, .int .i64 p.b, .int .i64 p.kind, .int .i64 p.flags, .int .i64 p.seq, .int .i64 p.ack, .string p.body]), .is (.agg #[.int .i64 g.proto, .int .i64 g.src, .int .i64 g.sport, .int .i64 g.dst, .int .i64 g.dport, .int .i64 g.kind]), .is (.agg #[.int .i64 t.proto, .int .i64 t.src, .int .i64 t.sport, .int .i64 t.dst, .int .i64 t.dport, .int .i64 t.kind]), .is (.bool true)] rfl (by kernel_rfl) (by kernel_rfl) ?stepsV ?finV
  case stepsV =>
    refine ⟨?_, ?_, ?_, ?_, trivial⟩
    · refine ⟨rfl, fun v W ρ hC kc kf ks ki kd => ?_⟩
      have t6 : ρ (.tmp 6) = .pointer (some ⟨w3.heap.size, 0, none⟩) := ki 6 (by decide)
      have hg := blk_later hGG5.out hC
      have c0 := blk_cell hg 0
      have c1 := blk_cell hg 1
      have c2 := blk_cell hg 2
      have c3 := blk_cell hg 3
      have c4 := blk_cell hg 4
      have c5 := blk_cell hg 5
      have c6 := blk_cell hg 6
      have c7 := blk_cell hg 7
      have c8 := blk_cell hg 8
      have c9 := blk_cell hg 9
      simp at c0 c1 c2 c3 c4 c5 c6 c7 c8 c9
      simp [execOp, go_sem, t6, c0, c1, c2, c3, c4, c5, c6, c7, c8, c9]
      exact ⟨hC, Below.refl _ _, rfl⟩
    · refine ⟨rfl, fun v W ρ hC kc kf ks ki kd => ?_⟩
      have d0 : v 0 = .agg #[.int .i64 t.src, .int .i64 t.dst, .int .i64 p.proto, .int .i64 t.sport, .int .i64 p.b, .int .i64 p.kind, .int .i64 p.flags, .int .i64 p.seq, .int .i64 p.ack, .string p.body] := kd _ (Array.mem_of_getElem? (i := 0) rfl) rfl
      have t37 : ρ (.tmp 37) = v 0 := ks 0 37 (by decide) rfl
      rw [d0] at t37
      simp [execOp, go_sem, t37, kf]
      exact Calls.mono (HO.out _) (fun e x h => ⟨_, h.1, hC.trans (h.2.mono hC.size), h.2, rfl⟩)
    · refine ⟨rfl, fun v W ρ hC kc kf ks ki kd => ?_⟩
      have t3 : ρ (.tmp 3) = .pointer (some ⟨w.heap.size + 1, 0, none⟩) := ki 3 (by decide)
      have hg := blk_later hGT5.out hC
      have c0 := blk_cell hg 0
      have c1 := blk_cell hg 1
      have c2 := blk_cell hg 2
      have c3 := blk_cell hg 3
      have c4 := blk_cell hg 4
      have c5 := blk_cell hg 5
      simp at c0 c1 c2 c3 c4 c5
      simp [execOp, go_sem, t3, c0, c1, c2, c3, c4, c5]
      exact ⟨hC, Below.refl _ _, rfl⟩
    · refine ⟨rfl, fun v W ρ hC kc kf ks ki kd => ?_⟩
      have d1 : v 1 = .agg #[.int .i64 g.proto, .int .i64 g.src, .int .i64 g.sport, .int .i64 g.dst, .int .i64 g.dport, .int .i64 g.kind] := kd _ (Array.mem_of_getElem? (i := 0) rfl) rfl
      have t38 : ρ (.tmp 38) = v 1 := ks 1 38 (by decide) rfl
      rw [d1] at t38
      have d2 : v 2 = .agg #[.int .i64 t.proto, .int .i64 t.src, .int .i64 t.sport, .int .i64 t.dst, .int .i64 t.dport, .int .i64 t.kind] := kd _ (Array.mem_of_getElem? (i := 1) rfl) rfl
      have t39 : ρ (.tmp 39) = v 2 := ks 2 39 (by decide) rfl
      rw [d2] at t39
      simp [execOp, go_sem, t38, t39, hq]
      exact ⟨hC, Below.refl _ _, rfl⟩
  intro vV w6 hb6 hall
  have hvV : vV 3 = .bool true := hall 3 (by decide)
  simp [upto, Act.put]
  rw [hvV]
  clear hall hvV
  have hGP6 := hidS (blk_later hGP5.out hb6)
  have hGT6 := hidS (blk_later hGT5.out hb6)
  have hGR6 := hidS (blk_later hGR5.out hb6)
  have hGG6 := hidS (blk_later hGG5.out hb6)
  have hL6 := hidS (hL5.out.trans (hb6.mono hL5.out.size))
  clear hb6 hL5 hGP5 hGT5 hGR5 hGG5
  have hg := (HS.out _ hL6.out).cF
  have hne : w.heap.size + 2 ≠ 0 := by omega
  have kR := blk_cell hGR6.out
  have fR := blk_free hGR6.out
  go_wp2_with fail
  go_region
  go_wp2_with fail
  refine bodyPost_ret (v := .tuple #[.agg #[.int .i64 zeroPk.src, .int .i64 zeroPk.dst, .int .i64 zeroPk.proto, .int .i64 zeroPk.a, .int .i64 zeroPk.b, .int .i64 zeroPk.kind, .int .i64 zeroPk.flags, .int .i64 zeroPk.seq, .int .i64 zeroPk.ack, .string zeroPk.body], .iface 139 (.pointer (some aF))]) (by simp [results, Tryd.results43, go_sem, zeroPk, *]) rfl ⟨rfl, ?_⟩
  refine Below.drew ?_
  repeat (refine below_at ?_ (by omega))
  exact hL6.out

set_option maxHeartbeats 4000000 in
theorem give_yes_ping {aF aS aY aM : Addr} (p : Pk) (t : Tp) (w : World) (hs : p.body.size ≤ maxLen) (hS : Sent aF aS aY aM w) (hr : rightB p = true) (he : errorB p = false) (ht : rightT t = true) (h1 : p.proto = 1) (hd : sameT (given p t) t = true) :
    Calls Tryd.prog 43 #[.agg #[.int .i64 p.src, .int .i64 p.dst, .int .i64 p.proto, .int .i64 p.a, .int .i64 p.b, .int .i64 p.kind, .int .i64 p.flags, .int .i64 p.seq, .int .i64 p.ack, .string p.body], .agg #[.int .i64 t.proto, .int .i64 t.src, .int .i64 t.sport, .int .i64 t.dst, .int .i64 t.dport, .int .i64 t.kind]] w fun e w' => e = .returned (.tuple #[.agg #[.int .i64 t.src, .int .i64 t.dst, .int .i64 p.proto, .int .i64 t.sport, .int .i64 p.b, .int .i64 p.kind, .int .i64 p.flags, .int .i64 p.seq, .int .i64 p.ack, .string p.body], .nilIface]) ∧ Below w.heap.size w w' := by
  have HR := hidS (fun W => implRight_any p W hs)
  have HE := hidS (fun W => isErrB_any p W)
  have HT := hidS (fun W => implTRight_any t W)
  have HS := hidS (fun W (h : Below w.heap.size w W) => hS.later h)
  have hlt0 : 0 < w.heap.size := World.block_lt_of_cell? w _ hS.cF
  clear hS
  have HO := hidS (fun W => ofG_ping p t W hs hr he ht h1)
  have h1n : (p.proto != 1) = false := by simp [h1]
  have hq : ∀ W, (binOp .neq 33 (.agg #[.int .i64 (given p t).proto, .int .i64 (given p t).src, .int .i64 (given p t).sport, .int .i64 (given p t).dst, .int .i64 (given p t).dport, .int .i64 (given p t).kind]) (.agg #[.int .i64 t.proto, .int .i64 t.src, .int .i64 t.sport, .int .i64 t.dst, .int .i64 t.dport, .int .i64 t.kind])).run Tryd.prog W = .ok (.bool false) W := fun W => by rw [neq_tup, hd]; rfl
  have hsz : p.body.size ≤ 1099511627776 := by unfold rightB at hr; simp only [Bool.and_eq_true, decide_eq_true_eq] at hr; omega
  generalize given p t = g at *
  clear hd h1
  have hGP0 : Hid ((((w.alloc (.cells #[.int .i64 p.src, .int .i64 p.dst, .int .i64 p.proto, .int .i64 p.a, .int .i64 p.b, .int .i64 p.kind, .int .i64 p.flags, .int .i64 p.seq, .int .i64 p.ack, .string p.body] 29)).alloc (.cells #[.int .i64 t.proto, .int .i64 t.src, .int .i64 t.sport, .int .i64 t.dst, .int .i64 t.dport, .int .i64 t.kind] 33)).alloc (.cells #[.int .i64 0, .int .i64 0, .int .i64 0, .int .i64 0, .int .i64 0, .int .i64 0, .int .i64 0, .int .i64 0, .int .i64 0, .string ⟨#[]⟩] 29)).heap[w.heap.size]? = some (.cells #[.int .i64 p.src, .int .i64 p.dst, .int .i64 p.proto, .int .i64 p.a, .int .i64 p.b, .int .i64 p.kind, .int .i64 p.flags, .int .i64 p.seq, .int .i64 p.ack, .string p.body] 29)) := by
    show _ = _
    have := blk_alloc (blk_alloc (heap_newG w (.cells #[.int .i64 p.src, .int .i64 p.dst, .int .i64 p.proto, .int .i64 p.a, .int .i64 p.b, .int .i64 p.kind, .int .i64 p.flags, .int .i64 p.seq, .int .i64 p.ack, .string p.body] 29)) (.cells #[.int .i64 t.proto, .int .i64 t.src, .int .i64 t.sport, .int .i64 t.dst, .int .i64 t.dport, .int .i64 t.kind] 33)) (.cells #[.int .i64 0, .int .i64 0, .int .i64 0, .int .i64 0, .int .i64 0, .int .i64 0, .int .i64 0, .int .i64 0, .int .i64 0, .string ⟨#[]⟩] 29)
    simpa using this
  have hGT0 : Hid ((((w.alloc (.cells #[.int .i64 p.src, .int .i64 p.dst, .int .i64 p.proto, .int .i64 p.a, .int .i64 p.b, .int .i64 p.kind, .int .i64 p.flags, .int .i64 p.seq, .int .i64 p.ack, .string p.body] 29)).alloc (.cells #[.int .i64 t.proto, .int .i64 t.src, .int .i64 t.sport, .int .i64 t.dst, .int .i64 t.dport, .int .i64 t.kind] 33)).alloc (.cells #[.int .i64 0, .int .i64 0, .int .i64 0, .int .i64 0, .int .i64 0, .int .i64 0, .int .i64 0, .int .i64 0, .int .i64 0, .string ⟨#[]⟩] 29)).heap[w.heap.size + 1]? = some (.cells #[.int .i64 t.proto, .int .i64 t.src, .int .i64 t.sport, .int .i64 t.dst, .int .i64 t.dport, .int .i64 t.kind] 33)) := by
    show _ = _
    have := blk_alloc (heap_newG (w.alloc (.cells #[.int .i64 p.src, .int .i64 p.dst, .int .i64 p.proto, .int .i64 p.a, .int .i64 p.b, .int .i64 p.kind, .int .i64 p.flags, .int .i64 p.seq, .int .i64 p.ack, .string p.body] 29)) (.cells #[.int .i64 t.proto, .int .i64 t.src, .int .i64 t.sport, .int .i64 t.dst, .int .i64 t.dport, .int .i64 t.kind] 33)) (.cells #[.int .i64 0, .int .i64 0, .int .i64 0, .int .i64 0, .int .i64 0, .int .i64 0, .int .i64 0, .int .i64 0, .int .i64 0, .string ⟨#[]⟩] 29)
    simpa using this
  have hGR0 : Hid ((((w.alloc (.cells #[.int .i64 p.src, .int .i64 p.dst, .int .i64 p.proto, .int .i64 p.a, .int .i64 p.b, .int .i64 p.kind, .int .i64 p.flags, .int .i64 p.seq, .int .i64 p.ack, .string p.body] 29)).alloc (.cells #[.int .i64 t.proto, .int .i64 t.src, .int .i64 t.sport, .int .i64 t.dst, .int .i64 t.dport, .int .i64 t.kind] 33)).alloc (.cells #[.int .i64 0, .int .i64 0, .int .i64 0, .int .i64 0, .int .i64 0, .int .i64 0, .int .i64 0, .int .i64 0, .int .i64 0, .string ⟨#[]⟩] 29)).heap[w.heap.size + 2]? = some (.cells #[.int .i64 0, .int .i64 0, .int .i64 0, .int .i64 0, .int .i64 0, .int .i64 0, .int .i64 0, .int .i64 0, .int .i64 0, .string ⟨#[]⟩] 29)) := by
    show _ = _
    have := heap_newG ((w.alloc (.cells #[.int .i64 p.src, .int .i64 p.dst, .int .i64 p.proto, .int .i64 p.a, .int .i64 p.b, .int .i64 p.kind, .int .i64 p.flags, .int .i64 p.seq, .int .i64 p.ack, .string p.body] 29)).alloc (.cells #[.int .i64 t.proto, .int .i64 t.src, .int .i64 t.sport, .int .i64 t.dst, .int .i64 t.dport, .int .i64 t.kind] 33)) (.cells #[.int .i64 0, .int .i64 0, .int .i64 0, .int .i64 0, .int .i64 0, .int .i64 0, .int .i64 0, .int .i64 0, .int .i64 0, .string ⟨#[]⟩] 29)
    simpa using this
  have hL0 := hidS ((((Below.refl w.heap.size w).alloc (Nat.le_refl _) (.cells #[.int .i64 p.src, .int .i64 p.dst, .int .i64 p.proto, .int .i64 p.a, .int .i64 p.b, .int .i64 p.kind, .int .i64 p.flags, .int .i64 p.seq, .int .i64 p.ack, .string p.body] 29)).alloc (by simp) (.cells #[.int .i64 t.proto, .int .i64 t.src, .int .i64 t.sport, .int .i64 t.dst, .int .i64 t.dport, .int .i64 t.kind] 33)).alloc (by simp; omega) (.cells #[.int .i64 0, .int .i64 0, .int .i64 0, .int .i64 0, .int .i64 0, .int .i64 0, .int .i64 0, .int .i64 0, .int .i64 0, .string ⟨#[]⟩] 29))
  go_enter Tryd.func43, Tryd.ntmps43
  go_wp2_with fail
  refine (HR.out _).mono ?_
  rintro _ w1 ⟨rfl, hb1⟩
  have hGP1 := hidS (blk_later hGP0.out hb1)
  have hGT1 := hidS (blk_later hGT0.out hb1)
  have hGR1 := hidS (blk_later hGR0.out hb1)
  have hL1 := hidS (hL0.out.trans (hb1.mono hL0.out.size))
  clear hb1 hL0 hGP0 hGT0 hGR0
  rw [hr]
  have cP0 := blk_cell hGP1.out 0
  have cP1 := blk_cell hGP1.out 1
  have cP2 := blk_cell hGP1.out 2
  have cP3 := blk_cell hGP1.out 3
  have cP4 := blk_cell hGP1.out 4
  have cP5 := blk_cell hGP1.out 5
  have cP6 := blk_cell hGP1.out 6
  have cP7 := blk_cell hGP1.out 7
  have cP8 := blk_cell hGP1.out 8
  have cP9 := blk_cell hGP1.out 9
  simp at cP0 cP1 cP2 cP3 cP4 cP5 cP6 cP7 cP8 cP9
  go_wp2_with fail
  refine (HE.out _).mono ?_
  rintro _ w2 ⟨rfl, hb2⟩
  clear cP0 cP1 cP2 cP3 cP4 cP5 cP6 cP7 cP8 cP9
  have hGP2 := hidS (blk_later hGP1.out hb2)
  have hGT2 := hidS (blk_later hGT1.out hb2)
  have hGR2 := hidS (blk_later hGR1.out hb2)
  have hL2 := hidS (hL1.out.trans (hb2.mono hL1.out.size))
  clear hb2 hL1 hGP1 hGT1 hGR1
  rw [he]
  have cT0 := blk_cell hGT2.out 0
  have cT1 := blk_cell hGT2.out 1
  have cT2 := blk_cell hGT2.out 2
  have cT3 := blk_cell hGT2.out 3
  have cT4 := blk_cell hGT2.out 4
  have cT5 := blk_cell hGT2.out 5
  simp at cT0 cT1 cT2 cT3 cT4 cT5
  go_wp2_with fail
  refine (HT.out _).mono ?_
  rintro _ w3 ⟨rfl, hb3⟩
  clear cT0 cT1 cT2 cT3 cT4 cT5
  have hGP3 := hidS (blk_later hGP2.out hb3)
  have hGT3 := hidS (blk_later hGT2.out hb3)
  have hGR3 := hidS (blk_later hGR2.out hb3)
  have hL3 := hidS (hL2.out.trans (hb3.mono hL2.out.size))
  clear hb3 hL2 hGP2 hGT2 hGR2
  rw [ht]
  have cP0 := blk_cell hGP3.out 0
  have cP1 := blk_cell hGP3.out 1
  have cP2 := blk_cell hGP3.out 2
  have cP3 := blk_cell hGP3.out 3
  have cP4 := blk_cell hGP3.out 4
  have cP5 := blk_cell hGP3.out 5
  have cP6 := blk_cell hGP3.out 6
  have cP7 := blk_cell hGP3.out 7
  have cP8 := blk_cell hGP3.out 8
  have cP9 := blk_cell hGP3.out 9
  simp at cP0 cP1 cP2 cP3 cP4 cP5 cP6 cP7 cP8 cP9
  go_upto_region 4 with fail
  have hGG4 := hidS (heap_newG w3 (.cells #[.int .i64 p.src, .int .i64 p.dst, .int .i64 p.proto, .int .i64 p.a, .int .i64 p.b, .int .i64 p.kind, .int .i64 p.flags, .int .i64 p.seq, .int .i64 p.ack, .string p.body] 29))
  have nG := blk_lt hGR3.out
  have hGP4 := hidS (blk_alloc hGP3.out (.cells #[.int .i64 p.src, .int .i64 p.dst, .int .i64 p.proto, .int .i64 p.a, .int .i64 p.b, .int .i64 p.kind, .int .i64 p.flags, .int .i64 p.seq, .int .i64 p.ack, .string p.body] 29))
  have hGT4 := hidS (blk_alloc hGT3.out (.cells #[.int .i64 p.src, .int .i64 p.dst, .int .i64 p.proto, .int .i64 p.a, .int .i64 p.b, .int .i64 p.kind, .int .i64 p.flags, .int .i64 p.seq, .int .i64 p.ack, .string p.body] 29))
  have hGR4 := hidS (blk_alloc hGR3.out (.cells #[.int .i64 p.src, .int .i64 p.dst, .int .i64 p.proto, .int .i64 p.a, .int .i64 p.b, .int .i64 p.kind, .int .i64 p.flags, .int .i64 p.seq, .int .i64 p.ack, .string p.body] 29))
  have hL4 := hidS (hL3.out.alloc hL3.out.size (.cells #[.int .i64 p.src, .int .i64 p.dst, .int .i64 p.proto, .int .i64 p.a, .int .i64 p.b, .int .i64 p.kind, .int .i64 p.flags, .int .i64 p.seq, .int .i64 p.ack, .string p.body] 29))
  clear cP0 cP1 cP2 cP3 cP4 cP5 cP6 cP7 cP8 cP9
  clear hL3 hGP3 hGT3 hGR3
  generalize w3.alloc (.cells #[.int .i64 p.src, .int .i64 p.dst, .int .i64 p.proto, .int .i64 p.a, .int .i64 p.b, .int .i64 p.kind, .int .i64 p.flags, .int .i64 p.seq, .int .i64 p.ack, .string p.body] 29) = w4 at hGP4 hGT4 hGR4 hGG4 hL4 ⊢
  have lT := blk_lt hGT4.out
  have lG := blk_lt hGG4.out
  have cT0 := blk_cell hGT4.out 0
  have cT1 := blk_cell hGT4.out 1
  have cT2 := blk_cell hGT4.out 2
  have cT3 := blk_cell hGT4.out 3
  have cT4 := blk_cell hGT4.out 4
  have cT5 := blk_cell hGT4.out 5
  simp at cT0 cT1 cT2 cT3 cT4 cT5
  have kG := blk_cell hGG4.out
  have fG := blk_free hGG4.out
  go_region
  have hGG5 : Hid ((((w4.setCell ⟨w3.heap.size, 0, none⟩ (.int .i64 t.src)).setCell ⟨w3.heap.size, 1, none⟩ (.int .i64 t.dst)).setCell ⟨w3.heap.size, 3, none⟩ (.int .i64 t.sport)).drew.heap[w3.heap.size]? = some (.cells #[.int .i64 t.src, .int .i64 t.dst, .int .i64 p.proto, .int .i64 t.sport, .int .i64 p.b, .int .i64 p.kind, .int .i64 p.flags, .int .i64 p.seq, .int .i64 p.ack, .string p.body] 29)) := by
    have := (blk_set (blk_set (blk_set hGG4.out 0 (.int .i64 t.src)) 1 (.int .i64 t.dst)) 3 (.int .i64 t.sport))
    exact this
  have hGP5 : Hid ((((w4.setCell ⟨w3.heap.size, 0, none⟩ (.int .i64 t.src)).setCell ⟨w3.heap.size, 1, none⟩ (.int .i64 t.dst)).setCell ⟨w3.heap.size, 3, none⟩ (.int .i64 t.sport)).drew.heap[w.heap.size]? = some (.cells #[.int .i64 p.src, .int .i64 p.dst, .int .i64 p.proto, .int .i64 p.a, .int .i64 p.b, .int .i64 p.kind, .int .i64 p.flags, .int .i64 p.seq, .int .i64 p.ack, .string p.body] 29)) := by
    have := (blk_other (B := w3.heap.size) (blk_other (B := w3.heap.size) (blk_other (B := w3.heap.size) hGP4.out (by omega) 0 (.int .i64 t.src)) (by omega) 1 (.int .i64 t.dst)) (by omega) 3 (.int .i64 t.sport))
    exact this
  have hGT5 : Hid ((((w4.setCell ⟨w3.heap.size, 0, none⟩ (.int .i64 t.src)).setCell ⟨w3.heap.size, 1, none⟩ (.int .i64 t.dst)).setCell ⟨w3.heap.size, 3, none⟩ (.int .i64 t.sport)).drew.heap[w.heap.size + 1]? = some (.cells #[.int .i64 t.proto, .int .i64 t.src, .int .i64 t.sport, .int .i64 t.dst, .int .i64 t.dport, .int .i64 t.kind] 33)) := by
    have := (blk_other (B := w3.heap.size) (blk_other (B := w3.heap.size) (blk_other (B := w3.heap.size) hGT4.out (by omega) 0 (.int .i64 t.src)) (by omega) 1 (.int .i64 t.dst)) (by omega) 3 (.int .i64 t.sport))
    exact this
  have hGR5 : Hid ((((w4.setCell ⟨w3.heap.size, 0, none⟩ (.int .i64 t.src)).setCell ⟨w3.heap.size, 1, none⟩ (.int .i64 t.dst)).setCell ⟨w3.heap.size, 3, none⟩ (.int .i64 t.sport)).drew.heap[w.heap.size + 2]? = some (.cells #[.int .i64 0, .int .i64 0, .int .i64 0, .int .i64 0, .int .i64 0, .int .i64 0, .int .i64 0, .int .i64 0, .int .i64 0, .string ⟨#[]⟩] 29)) := by
    have := (blk_other (B := w3.heap.size) (blk_other (B := w3.heap.size) (blk_other (B := w3.heap.size) hGR4.out (by omega) 0 (.int .i64 t.src)) (by omega) 1 (.int .i64 t.dst)) (by omega) 3 (.int .i64 t.sport))
    exact this
  have hL5 := hidS (Below.drew (below_at (k := 3) (b := w3.heap.size) (v := .int .i64 t.sport) (below_at (k := 1) (b := w3.heap.size) (v := .int .i64 t.dst) (below_at (k := 0) (b := w3.heap.size) (v := .int .i64 t.src) hL4.out (by omega)) (by omega)) (by omega)))
  clear lT lG cT0 cT1 cT2 cT3 cT4 cT5 kG fG
  clear hL4 hGG4 hGP4 hGT4 hGR4
  generalize (((w4.setCell ⟨w3.heap.size, 0, none⟩ (.int .i64 t.src)).setCell ⟨w3.heap.size, 1, none⟩ (.int .i64 t.dst)).setCell ⟨w3.heap.size, 3, none⟩ (.int .i64 t.sport)).drew = w5 at hGP5 hGT5 hGR5 hGG5 hL5 ⊢
  have cP0 := blk_cell hGP5.out 0
  have cP1 := blk_cell hGP5.out 1
  have cP2 := blk_cell hGP5.out 2
  have cP3 := blk_cell hGP5.out 3
  have cP4 := blk_cell hGP5.out 4
  have cP5 := blk_cell hGP5.out 5
  have cP6 := blk_cell hGP5.out 6
  have cP7 := blk_cell hGP5.out 7
  have cP8 := blk_cell hGP5.out 8
  have cP9 := blk_cell hGP5.out 9
  simp at cP0 cP1 cP2 cP3 cP4 cP5 cP6 cP7 cP8 cP9
  go_upto_region 7 with fail
  clear cP0 cP1 cP2 cP3 cP4 cP5 cP6 cP7 cP8 cP9
  refine grow_kinds 4 [.is (.agg #[.int .i64 t.src, .int .i64 t.dst, .int .i64 p.proto, .int .i64 t.sport, .int .i64 p.b, .int .i64 p.kind, .int .i64 p.flags, .int .i64 p.seq, .int .i64 p.ack, .string p.body]), .is (.agg #[.int .i64 g.proto, .int .i64 g.src, .int .i64 g.sport, .int .i64 g.dst, .int .i64 g.dport, .int .i64 g.kind]), .is (.agg #[.int .i64 t.proto, .int .i64 t.src, .int .i64 t.sport, .int .i64 t.dst, .int .i64 t.dport, .int .i64 t.kind]), .is (.bool false)] rfl (by kernel_rfl) (by kernel_rfl) ?stepsV ?finV
  case stepsV =>
    refine ⟨?_, ?_, ?_, ?_, trivial⟩
    · refine ⟨rfl, fun v W ρ hC kc kf ks ki kd => ?_⟩
      have t6 : ρ (.tmp 6) = .pointer (some ⟨w3.heap.size, 0, none⟩) := ki 6 (by decide)
      have hg := blk_later hGG5.out hC
      have c0 := blk_cell hg 0
      have c1 := blk_cell hg 1
      have c2 := blk_cell hg 2
      have c3 := blk_cell hg 3
      have c4 := blk_cell hg 4
      have c5 := blk_cell hg 5
      have c6 := blk_cell hg 6
      have c7 := blk_cell hg 7
      have c8 := blk_cell hg 8
      have c9 := blk_cell hg 9
      simp at c0 c1 c2 c3 c4 c5 c6 c7 c8 c9
      simp [execOp, go_sem, t6, c0, c1, c2, c3, c4, c5, c6, c7, c8, c9]
      exact ⟨hC, Below.refl _ _, rfl⟩
    · refine ⟨rfl, fun v W ρ hC kc kf ks ki kd => ?_⟩
      have d0 : v 0 = .agg #[.int .i64 t.src, .int .i64 t.dst, .int .i64 p.proto, .int .i64 t.sport, .int .i64 p.b, .int .i64 p.kind, .int .i64 p.flags, .int .i64 p.seq, .int .i64 p.ack, .string p.body] := kd _ (Array.mem_of_getElem? (i := 0) rfl) rfl
      have t37 : ρ (.tmp 37) = v 0 := ks 0 37 (by decide) rfl
      rw [d0] at t37
      simp [execOp, go_sem, t37, kf]
      exact Calls.mono (HO.out _) (fun e x h => ⟨_, h.1, hC.trans (h.2.mono hC.size), h.2, rfl⟩)
    · refine ⟨rfl, fun v W ρ hC kc kf ks ki kd => ?_⟩
      have t3 : ρ (.tmp 3) = .pointer (some ⟨w.heap.size + 1, 0, none⟩) := ki 3 (by decide)
      have hg := blk_later hGT5.out hC
      have c0 := blk_cell hg 0
      have c1 := blk_cell hg 1
      have c2 := blk_cell hg 2
      have c3 := blk_cell hg 3
      have c4 := blk_cell hg 4
      have c5 := blk_cell hg 5
      simp at c0 c1 c2 c3 c4 c5
      simp [execOp, go_sem, t3, c0, c1, c2, c3, c4, c5]
      exact ⟨hC, Below.refl _ _, rfl⟩
    · refine ⟨rfl, fun v W ρ hC kc kf ks ki kd => ?_⟩
      have d1 : v 1 = .agg #[.int .i64 g.proto, .int .i64 g.src, .int .i64 g.sport, .int .i64 g.dst, .int .i64 g.dport, .int .i64 g.kind] := kd _ (Array.mem_of_getElem? (i := 0) rfl) rfl
      have t38 : ρ (.tmp 38) = v 1 := ks 1 38 (by decide) rfl
      rw [d1] at t38
      have d2 : v 2 = .agg #[.int .i64 t.proto, .int .i64 t.src, .int .i64 t.sport, .int .i64 t.dst, .int .i64 t.dport, .int .i64 t.kind] := kd _ (Array.mem_of_getElem? (i := 1) rfl) rfl
      have t39 : ρ (.tmp 39) = v 2 := ks 2 39 (by decide) rfl
      rw [d2] at t39
      simp [execOp, go_sem, t38, t39, hq]
      exact ⟨hC, Below.refl _ _, rfl⟩
  intro vV w6 hb6 hall
  have hvV : vV 3 = .bool false := hall 3 (by decide)
  simp [upto, Act.put]
  rw [hvV]
  clear hall hvV
  have hGP6 := hidS (blk_later hGP5.out hb6)
  have hGT6 := hidS (blk_later hGT5.out hb6)
  have hGR6 := hidS (blk_later hGR5.out hb6)
  have hGG6 := hidS (blk_later hGG5.out hb6)
  have hL6 := hidS (hL5.out.trans (hb6.mono hL5.out.size))
  clear hb6 hL5 hGP5 hGT5 hGR5 hGG5
  have cP0 := blk_cell hGP6.out 0
  have cP1 := blk_cell hGP6.out 1
  have cP2 := blk_cell hGP6.out 2
  have cP3 := blk_cell hGP6.out 3
  have cP4 := blk_cell hGP6.out 4
  have cP5 := blk_cell hGP6.out 5
  have cP6 := blk_cell hGP6.out 6
  have cP7 := blk_cell hGP6.out 7
  have cP8 := blk_cell hGP6.out 8
  have cP9 := blk_cell hGP6.out 9
  simp at cP0 cP1 cP2 cP3 cP4 cP5 cP6 cP7 cP8 cP9
  go_wp2_with fail
  refine (clone_any p.body _ hsz).mono ?_
  rintro _ w7 ⟨rfl, hb7⟩
  clear cP0 cP1 cP2 cP3 cP4 cP5 cP6 cP7 cP8 cP9
  have hGP7 := hidS (blk_later hGP6.out hb7)
  have hGT7 := hidS (blk_later hGT6.out hb7)
  have hGR7 := hidS (blk_later hGR6.out hb7)
  have hGG7 := hidS (blk_later hGG6.out hb7)
  have hL7 := hidS (hL6.out.trans (hb7.mono hL6.out.size))
  clear hb7 hL6 hGP6 hGT6 hGR6 hGG6
  have kG := blk_cell hGG7.out
  have fG := blk_free hGG7.out
  go_upto_region 10 with fail
  have hGG8 : Hid ((w7.setCell ⟨w3.heap.size, 9, none⟩ (.string p.body)).heap[w3.heap.size]? = some (.cells #[.int .i64 t.src, .int .i64 t.dst, .int .i64 p.proto, .int .i64 t.sport, .int .i64 p.b, .int .i64 p.kind, .int .i64 p.flags, .int .i64 p.seq, .int .i64 p.ack, .string p.body] 29)) := by
    have := (blk_set hGG7.out 9 (.string p.body))
    exact this
  have hGP8 := hidS (blk_other (B := w3.heap.size) hGP7.out (by omega) 9 (.string p.body))
  have hGT8 := hidS (blk_other (B := w3.heap.size) hGT7.out (by omega) 9 (.string p.body))
  have hGR8 := hidS (blk_other (B := w3.heap.size) hGR7.out (by omega) 9 (.string p.body))
  have hL8 := hidS (below_at (k := 9) (b := w3.heap.size) (v := .string p.body) hL7.out (by omega))
  clear kG fG
  clear hL7 hGG7 hGP7 hGT7 hGR7
  generalize (w7.setCell ⟨w3.heap.size, 9, none⟩ (.string p.body)) = w8 at hGP8 hGT8 hGR8 hGG8 hL8 ⊢
  have cG0 := blk_cell hGG8.out 0
  have cG1 := blk_cell hGG8.out 1
  have cG2 := blk_cell hGG8.out 2
  have cG3 := blk_cell hGG8.out 3
  have cG4 := blk_cell hGG8.out 4
  have cG5 := blk_cell hGG8.out 5
  have cG6 := blk_cell hGG8.out 6
  have cG7 := blk_cell hGG8.out 7
  have cG8 := blk_cell hGG8.out 8
  have cG9 := blk_cell hGG8.out 9
  simp at cG0 cG1 cG2 cG3 cG4 cG5 cG6 cG7 cG8 cG9
  have kR := blk_cell hGR8.out
  have fR := blk_free hGR8.out
  go_wp2_with fail
  refine bodyPost_ret (v := .tuple #[.agg #[.int .i64 t.src, .int .i64 t.dst, .int .i64 p.proto, .int .i64 t.sport, .int .i64 p.b, .int .i64 p.kind, .int .i64 p.flags, .int .i64 p.seq, .int .i64 p.ack, .string p.body], .nilIface]) (by simp [results, Tryd.results43, go_sem, *]) rfl ⟨rfl, ?_⟩
  repeat (refine below_at ?_ (by omega))
  exact hL8.out

set_option maxHeartbeats 4000000 in
theorem give_no_other {aF aS aY aM : Addr} (p : Pk) (t : Tp) (w : World) (hs : p.body.size ≤ maxLen) (hS : Sent aF aS aY aM w) (hr : rightB p = true) (he : errorB p = false) (ht : rightT t = true) (h1 : p.proto ≠ 1) (hd : sameT (given p t) t = false) :
    Calls Tryd.prog 43 #[.agg #[.int .i64 p.src, .int .i64 p.dst, .int .i64 p.proto, .int .i64 p.a, .int .i64 p.b, .int .i64 p.kind, .int .i64 p.flags, .int .i64 p.seq, .int .i64 p.ack, .string p.body], .agg #[.int .i64 t.proto, .int .i64 t.src, .int .i64 t.sport, .int .i64 t.dst, .int .i64 t.dport, .int .i64 t.kind]] w fun e w' => e = .returned (.tuple #[.agg #[.int .i64 zeroPk.src, .int .i64 zeroPk.dst, .int .i64 zeroPk.proto, .int .i64 zeroPk.a, .int .i64 zeroPk.b, .int .i64 zeroPk.kind, .int .i64 zeroPk.flags, .int .i64 zeroPk.seq, .int .i64 zeroPk.ack, .string zeroPk.body], .iface 139 (.pointer (some aF))]) ∧ Below w.heap.size w w' := by
  have HR := hidS (fun W => implRight_any p W hs)
  have HE := hidS (fun W => isErrB_any p W)
  have HT := hidS (fun W => implTRight_any t W)
  have HS := hidS (fun W (h : Below w.heap.size w W) => hS.later h)
  have hlt0 : 0 < w.heap.size := World.block_lt_of_cell? w _ hS.cF
  clear hS
  have HO := hidS (fun W => ofG_other p t W hs hr he ht h1)
  have h1n : (p.proto != 1) = true := by simp [h1]
  have hq : ∀ W, (binOp .neq 33 (.agg #[.int .i64 (given p t).proto, .int .i64 (given p t).src, .int .i64 (given p t).sport, .int .i64 (given p t).dst, .int .i64 (given p t).dport, .int .i64 (given p t).kind]) (.agg #[.int .i64 t.proto, .int .i64 t.src, .int .i64 t.sport, .int .i64 t.dst, .int .i64 t.dport, .int .i64 t.kind])).run Tryd.prog W = .ok (.bool true) W := fun W => by rw [neq_tup, hd]; rfl
  generalize given p t = g at *
  clear hd h1
  have hGP0 : Hid ((((w.alloc (.cells #[.int .i64 p.src, .int .i64 p.dst, .int .i64 p.proto, .int .i64 p.a, .int .i64 p.b, .int .i64 p.kind, .int .i64 p.flags, .int .i64 p.seq, .int .i64 p.ack, .string p.body] 29)).alloc (.cells #[.int .i64 t.proto, .int .i64 t.src, .int .i64 t.sport, .int .i64 t.dst, .int .i64 t.dport, .int .i64 t.kind] 33)).alloc (.cells #[.int .i64 0, .int .i64 0, .int .i64 0, .int .i64 0, .int .i64 0, .int .i64 0, .int .i64 0, .int .i64 0, .int .i64 0, .string ⟨#[]⟩] 29)).heap[w.heap.size]? = some (.cells #[.int .i64 p.src, .int .i64 p.dst, .int .i64 p.proto, .int .i64 p.a, .int .i64 p.b, .int .i64 p.kind, .int .i64 p.flags, .int .i64 p.seq, .int .i64 p.ack, .string p.body] 29)) := by
    show _ = _
    have := blk_alloc (blk_alloc (heap_newG w (.cells #[.int .i64 p.src, .int .i64 p.dst, .int .i64 p.proto, .int .i64 p.a, .int .i64 p.b, .int .i64 p.kind, .int .i64 p.flags, .int .i64 p.seq, .int .i64 p.ack, .string p.body] 29)) (.cells #[.int .i64 t.proto, .int .i64 t.src, .int .i64 t.sport, .int .i64 t.dst, .int .i64 t.dport, .int .i64 t.kind] 33)) (.cells #[.int .i64 0, .int .i64 0, .int .i64 0, .int .i64 0, .int .i64 0, .int .i64 0, .int .i64 0, .int .i64 0, .int .i64 0, .string ⟨#[]⟩] 29)
    simpa using this
  have hGT0 : Hid ((((w.alloc (.cells #[.int .i64 p.src, .int .i64 p.dst, .int .i64 p.proto, .int .i64 p.a, .int .i64 p.b, .int .i64 p.kind, .int .i64 p.flags, .int .i64 p.seq, .int .i64 p.ack, .string p.body] 29)).alloc (.cells #[.int .i64 t.proto, .int .i64 t.src, .int .i64 t.sport, .int .i64 t.dst, .int .i64 t.dport, .int .i64 t.kind] 33)).alloc (.cells #[.int .i64 0, .int .i64 0, .int .i64 0, .int .i64 0, .int .i64 0, .int .i64 0, .int .i64 0, .int .i64 0, .int .i64 0, .string ⟨#[]⟩] 29)).heap[w.heap.size + 1]? = some (.cells #[.int .i64 t.proto, .int .i64 t.src, .int .i64 t.sport, .int .i64 t.dst, .int .i64 t.dport, .int .i64 t.kind] 33)) := by
    show _ = _
    have := blk_alloc (heap_newG (w.alloc (.cells #[.int .i64 p.src, .int .i64 p.dst, .int .i64 p.proto, .int .i64 p.a, .int .i64 p.b, .int .i64 p.kind, .int .i64 p.flags, .int .i64 p.seq, .int .i64 p.ack, .string p.body] 29)) (.cells #[.int .i64 t.proto, .int .i64 t.src, .int .i64 t.sport, .int .i64 t.dst, .int .i64 t.dport, .int .i64 t.kind] 33)) (.cells #[.int .i64 0, .int .i64 0, .int .i64 0, .int .i64 0, .int .i64 0, .int .i64 0, .int .i64 0, .int .i64 0, .int .i64 0, .string ⟨#[]⟩] 29)
    simpa using this
  have hGR0 : Hid ((((w.alloc (.cells #[.int .i64 p.src, .int .i64 p.dst, .int .i64 p.proto, .int .i64 p.a, .int .i64 p.b, .int .i64 p.kind, .int .i64 p.flags, .int .i64 p.seq, .int .i64 p.ack, .string p.body] 29)).alloc (.cells #[.int .i64 t.proto, .int .i64 t.src, .int .i64 t.sport, .int .i64 t.dst, .int .i64 t.dport, .int .i64 t.kind] 33)).alloc (.cells #[.int .i64 0, .int .i64 0, .int .i64 0, .int .i64 0, .int .i64 0, .int .i64 0, .int .i64 0, .int .i64 0, .int .i64 0, .string ⟨#[]⟩] 29)).heap[w.heap.size + 2]? = some (.cells #[.int .i64 0, .int .i64 0, .int .i64 0, .int .i64 0, .int .i64 0, .int .i64 0, .int .i64 0, .int .i64 0, .int .i64 0, .string ⟨#[]⟩] 29)) := by
    show _ = _
    have := heap_newG ((w.alloc (.cells #[.int .i64 p.src, .int .i64 p.dst, .int .i64 p.proto, .int .i64 p.a, .int .i64 p.b, .int .i64 p.kind, .int .i64 p.flags, .int .i64 p.seq, .int .i64 p.ack, .string p.body] 29)).alloc (.cells #[.int .i64 t.proto, .int .i64 t.src, .int .i64 t.sport, .int .i64 t.dst, .int .i64 t.dport, .int .i64 t.kind] 33)) (.cells #[.int .i64 0, .int .i64 0, .int .i64 0, .int .i64 0, .int .i64 0, .int .i64 0, .int .i64 0, .int .i64 0, .int .i64 0, .string ⟨#[]⟩] 29)
    simpa using this
  have hL0 := hidS ((((Below.refl w.heap.size w).alloc (Nat.le_refl _) (.cells #[.int .i64 p.src, .int .i64 p.dst, .int .i64 p.proto, .int .i64 p.a, .int .i64 p.b, .int .i64 p.kind, .int .i64 p.flags, .int .i64 p.seq, .int .i64 p.ack, .string p.body] 29)).alloc (by simp) (.cells #[.int .i64 t.proto, .int .i64 t.src, .int .i64 t.sport, .int .i64 t.dst, .int .i64 t.dport, .int .i64 t.kind] 33)).alloc (by simp; omega) (.cells #[.int .i64 0, .int .i64 0, .int .i64 0, .int .i64 0, .int .i64 0, .int .i64 0, .int .i64 0, .int .i64 0, .int .i64 0, .string ⟨#[]⟩] 29))
  go_enter Tryd.func43, Tryd.ntmps43
  go_wp2_with fail
  refine (HR.out _).mono ?_
  rintro _ w1 ⟨rfl, hb1⟩
  have hGP1 := hidS (blk_later hGP0.out hb1)
  have hGT1 := hidS (blk_later hGT0.out hb1)
  have hGR1 := hidS (blk_later hGR0.out hb1)
  have hL1 := hidS (hL0.out.trans (hb1.mono hL0.out.size))
  clear hb1 hL0 hGP0 hGT0 hGR0
  rw [hr]
  have cP0 := blk_cell hGP1.out 0
  have cP1 := blk_cell hGP1.out 1
  have cP2 := blk_cell hGP1.out 2
  have cP3 := blk_cell hGP1.out 3
  have cP4 := blk_cell hGP1.out 4
  have cP5 := blk_cell hGP1.out 5
  have cP6 := blk_cell hGP1.out 6
  have cP7 := blk_cell hGP1.out 7
  have cP8 := blk_cell hGP1.out 8
  have cP9 := blk_cell hGP1.out 9
  simp at cP0 cP1 cP2 cP3 cP4 cP5 cP6 cP7 cP8 cP9
  go_wp2_with fail
  refine (HE.out _).mono ?_
  rintro _ w2 ⟨rfl, hb2⟩
  clear cP0 cP1 cP2 cP3 cP4 cP5 cP6 cP7 cP8 cP9
  have hGP2 := hidS (blk_later hGP1.out hb2)
  have hGT2 := hidS (blk_later hGT1.out hb2)
  have hGR2 := hidS (blk_later hGR1.out hb2)
  have hL2 := hidS (hL1.out.trans (hb2.mono hL1.out.size))
  clear hb2 hL1 hGP1 hGT1 hGR1
  rw [he]
  have cT0 := blk_cell hGT2.out 0
  have cT1 := blk_cell hGT2.out 1
  have cT2 := blk_cell hGT2.out 2
  have cT3 := blk_cell hGT2.out 3
  have cT4 := blk_cell hGT2.out 4
  have cT5 := blk_cell hGT2.out 5
  simp at cT0 cT1 cT2 cT3 cT4 cT5
  go_wp2_with fail
  refine (HT.out _).mono ?_
  rintro _ w3 ⟨rfl, hb3⟩
  clear cT0 cT1 cT2 cT3 cT4 cT5
  have hGP3 := hidS (blk_later hGP2.out hb3)
  have hGT3 := hidS (blk_later hGT2.out hb3)
  have hGR3 := hidS (blk_later hGR2.out hb3)
  have hL3 := hidS (hL2.out.trans (hb3.mono hL2.out.size))
  clear hb3 hL2 hGP2 hGT2 hGR2
  rw [ht]
  have cP0 := blk_cell hGP3.out 0
  have cP1 := blk_cell hGP3.out 1
  have cP2 := blk_cell hGP3.out 2
  have cP3 := blk_cell hGP3.out 3
  have cP4 := blk_cell hGP3.out 4
  have cP5 := blk_cell hGP3.out 5
  have cP6 := blk_cell hGP3.out 6
  have cP7 := blk_cell hGP3.out 7
  have cP8 := blk_cell hGP3.out 8
  have cP9 := blk_cell hGP3.out 9
  simp at cP0 cP1 cP2 cP3 cP4 cP5 cP6 cP7 cP8 cP9
  go_upto_region 4 with fail
  have hGG4 := hidS (heap_newG w3 (.cells #[.int .i64 p.src, .int .i64 p.dst, .int .i64 p.proto, .int .i64 p.a, .int .i64 p.b, .int .i64 p.kind, .int .i64 p.flags, .int .i64 p.seq, .int .i64 p.ack, .string p.body] 29))
  have nG := blk_lt hGR3.out
  have hGP4 := hidS (blk_alloc hGP3.out (.cells #[.int .i64 p.src, .int .i64 p.dst, .int .i64 p.proto, .int .i64 p.a, .int .i64 p.b, .int .i64 p.kind, .int .i64 p.flags, .int .i64 p.seq, .int .i64 p.ack, .string p.body] 29))
  have hGT4 := hidS (blk_alloc hGT3.out (.cells #[.int .i64 p.src, .int .i64 p.dst, .int .i64 p.proto, .int .i64 p.a, .int .i64 p.b, .int .i64 p.kind, .int .i64 p.flags, .int .i64 p.seq, .int .i64 p.ack, .string p.body] 29))
  have hGR4 := hidS (blk_alloc hGR3.out (.cells #[.int .i64 p.src, .int .i64 p.dst, .int .i64 p.proto, .int .i64 p.a, .int .i64 p.b, .int .i64 p.kind, .int .i64 p.flags, .int .i64 p.seq, .int .i64 p.ack, .string p.body] 29))
  have hL4 := hidS (hL3.out.alloc hL3.out.size (.cells #[.int .i64 p.src, .int .i64 p.dst, .int .i64 p.proto, .int .i64 p.a, .int .i64 p.b, .int .i64 p.kind, .int .i64 p.flags, .int .i64 p.seq, .int .i64 p.ack, .string p.body] 29))
  clear cP0 cP1 cP2 cP3 cP4 cP5 cP6 cP7 cP8 cP9
  clear hL3 hGP3 hGT3 hGR3
  generalize w3.alloc (.cells #[.int .i64 p.src, .int .i64 p.dst, .int .i64 p.proto, .int .i64 p.a, .int .i64 p.b, .int .i64 p.kind, .int .i64 p.flags, .int .i64 p.seq, .int .i64 p.ack, .string p.body] 29) = w4 at hGP4 hGT4 hGR4 hGG4 hL4 ⊢
  have lT := blk_lt hGT4.out
  have lG := blk_lt hGG4.out
  have cT0 := blk_cell hGT4.out 0
  have cT1 := blk_cell hGT4.out 1
  have cT2 := blk_cell hGT4.out 2
  have cT3 := blk_cell hGT4.out 3
  have cT4 := blk_cell hGT4.out 4
  have cT5 := blk_cell hGT4.out 5
  simp at cT0 cT1 cT2 cT3 cT4 cT5
  have kG := blk_cell hGG4.out
  have fG := blk_free hGG4.out
  go_region
  have hGG5 : Hid ((((w4.setCell ⟨w3.heap.size, 0, none⟩ (.int .i64 t.src)).setCell ⟨w3.heap.size, 1, none⟩ (.int .i64 t.dst)).setCell ⟨w3.heap.size, 3, none⟩ (.int .i64 t.sport)).drew.heap[w3.heap.size]? = some (.cells #[.int .i64 t.src, .int .i64 t.dst, .int .i64 p.proto, .int .i64 t.sport, .int .i64 p.b, .int .i64 p.kind, .int .i64 p.flags, .int .i64 p.seq, .int .i64 p.ack, .string p.body] 29)) := by
    have := (blk_set (blk_set (blk_set hGG4.out 0 (.int .i64 t.src)) 1 (.int .i64 t.dst)) 3 (.int .i64 t.sport))
    exact this
  have hGP5 : Hid ((((w4.setCell ⟨w3.heap.size, 0, none⟩ (.int .i64 t.src)).setCell ⟨w3.heap.size, 1, none⟩ (.int .i64 t.dst)).setCell ⟨w3.heap.size, 3, none⟩ (.int .i64 t.sport)).drew.heap[w.heap.size]? = some (.cells #[.int .i64 p.src, .int .i64 p.dst, .int .i64 p.proto, .int .i64 p.a, .int .i64 p.b, .int .i64 p.kind, .int .i64 p.flags, .int .i64 p.seq, .int .i64 p.ack, .string p.body] 29)) := by
    have := (blk_other (B := w3.heap.size) (blk_other (B := w3.heap.size) (blk_other (B := w3.heap.size) hGP4.out (by omega) 0 (.int .i64 t.src)) (by omega) 1 (.int .i64 t.dst)) (by omega) 3 (.int .i64 t.sport))
    exact this
  have hGT5 : Hid ((((w4.setCell ⟨w3.heap.size, 0, none⟩ (.int .i64 t.src)).setCell ⟨w3.heap.size, 1, none⟩ (.int .i64 t.dst)).setCell ⟨w3.heap.size, 3, none⟩ (.int .i64 t.sport)).drew.heap[w.heap.size + 1]? = some (.cells #[.int .i64 t.proto, .int .i64 t.src, .int .i64 t.sport, .int .i64 t.dst, .int .i64 t.dport, .int .i64 t.kind] 33)) := by
    have := (blk_other (B := w3.heap.size) (blk_other (B := w3.heap.size) (blk_other (B := w3.heap.size) hGT4.out (by omega) 0 (.int .i64 t.src)) (by omega) 1 (.int .i64 t.dst)) (by omega) 3 (.int .i64 t.sport))
    exact this
  have hGR5 : Hid ((((w4.setCell ⟨w3.heap.size, 0, none⟩ (.int .i64 t.src)).setCell ⟨w3.heap.size, 1, none⟩ (.int .i64 t.dst)).setCell ⟨w3.heap.size, 3, none⟩ (.int .i64 t.sport)).drew.heap[w.heap.size + 2]? = some (.cells #[.int .i64 0, .int .i64 0, .int .i64 0, .int .i64 0, .int .i64 0, .int .i64 0, .int .i64 0, .int .i64 0, .int .i64 0, .string ⟨#[]⟩] 29)) := by
    have := (blk_other (B := w3.heap.size) (blk_other (B := w3.heap.size) (blk_other (B := w3.heap.size) hGR4.out (by omega) 0 (.int .i64 t.src)) (by omega) 1 (.int .i64 t.dst)) (by omega) 3 (.int .i64 t.sport))
    exact this
  have hL5 := hidS (Below.drew (below_at (k := 3) (b := w3.heap.size) (v := .int .i64 t.sport) (below_at (k := 1) (b := w3.heap.size) (v := .int .i64 t.dst) (below_at (k := 0) (b := w3.heap.size) (v := .int .i64 t.src) hL4.out (by omega)) (by omega)) (by omega)))
  clear lT lG cT0 cT1 cT2 cT3 cT4 cT5 kG fG
  clear hL4 hGG4 hGP4 hGT4 hGR4
  generalize (((w4.setCell ⟨w3.heap.size, 0, none⟩ (.int .i64 t.src)).setCell ⟨w3.heap.size, 1, none⟩ (.int .i64 t.dst)).setCell ⟨w3.heap.size, 3, none⟩ (.int .i64 t.sport)).drew = w5 at hGP5 hGT5 hGR5 hGG5 hL5 ⊢
  have cP0 := blk_cell hGP5.out 0
  have cP1 := blk_cell hGP5.out 1
  have cP2 := blk_cell hGP5.out 2
  have cP3 := blk_cell hGP5.out 3
  have cP4 := blk_cell hGP5.out 4
  have cP5 := blk_cell hGP5.out 5
  have cP6 := blk_cell hGP5.out 6
  have cP7 := blk_cell hGP5.out 7
  have cP8 := blk_cell hGP5.out 8
  have cP9 := blk_cell hGP5.out 9
  simp at cP0 cP1 cP2 cP3 cP4 cP5 cP6 cP7 cP8 cP9
  have cT0 := blk_cell hGT5.out 0
  have cT1 := blk_cell hGT5.out 1
  have cT2 := blk_cell hGT5.out 2
  have cT3 := blk_cell hGT5.out 3
  have cT4 := blk_cell hGT5.out 4
  have cT5 := blk_cell hGT5.out 5
  simp at cT0 cT1 cT2 cT3 cT4 cT5
  have kG := blk_cell hGG5.out
  have fG := blk_free hGG5.out
  go_upto_region 7 with fail
  have hGG6 : Hid ((w5.setCell ⟨w3.heap.size, 4, none⟩ (.int .i64 t.dport)).heap[w3.heap.size]? = some (.cells #[.int .i64 t.src, .int .i64 t.dst, .int .i64 p.proto, .int .i64 t.sport, .int .i64 t.dport, .int .i64 p.kind, .int .i64 p.flags, .int .i64 p.seq, .int .i64 p.ack, .string p.body] 29)) := by
    have := (blk_set hGG5.out 4 (.int .i64 t.dport))
    exact this
  have hGP6 := hidS (blk_other (B := w3.heap.size) hGP5.out (by omega) 4 (.int .i64 t.dport))
  have hGT6 := hidS (blk_other (B := w3.heap.size) hGT5.out (by omega) 4 (.int .i64 t.dport))
  have hGR6 := hidS (blk_other (B := w3.heap.size) hGR5.out (by omega) 4 (.int .i64 t.dport))
  have hL6 := hidS (below_at (k := 4) (b := w3.heap.size) (v := .int .i64 t.dport) hL5.out (by omega))
  clear cP0 cP1 cP2 cP3 cP4 cP5 cP6 cP7 cP8 cP9 cT0 cT1 cT2 cT3 cT4 cT5 kG fG
  clear hL5 hGG5 hGP5 hGT5 hGR5
  generalize (w5.setCell ⟨w3.heap.size, 4, none⟩ (.int .i64 t.dport)) = w6 at hGP6 hGT6 hGR6 hGG6 hL6 ⊢
  refine grow_kinds 4 [.is (.agg #[.int .i64 t.src, .int .i64 t.dst, .int .i64 p.proto, .int .i64 t.sport, .int .i64 t.dport, .int .i64 p.kind, .int .i64 p.flags, .int .i64 p.seq, .int .i64 p.ack, .string p.body]), .is (.agg #[.int .i64 g.proto, .int .i64 g.src, .int .i64 g.sport, .int .i64 g.dst, .int .i64 g.dport, .int .i64 g.kind]), .is (.agg #[.int .i64 t.proto, .int .i64 t.src, .int .i64 t.sport, .int .i64 t.dst, .int .i64 t.dport, .int .i64 t.kind]), .is (.bool true)] rfl (by kernel_rfl) (by kernel_rfl) ?stepsV ?finV
  case stepsV =>
    refine ⟨?_, ?_, ?_, ?_, trivial⟩
    · refine ⟨rfl, fun v W ρ hC kc kf ks ki kd => ?_⟩
      have t6 : ρ (.tmp 6) = .pointer (some ⟨w3.heap.size, 0, none⟩) := ki 6 (by decide)
      have hg := blk_later hGG6.out hC
      have c0 := blk_cell hg 0
      have c1 := blk_cell hg 1
      have c2 := blk_cell hg 2
      have c3 := blk_cell hg 3
      have c4 := blk_cell hg 4
      have c5 := blk_cell hg 5
      have c6 := blk_cell hg 6
      have c7 := blk_cell hg 7
      have c8 := blk_cell hg 8
      have c9 := blk_cell hg 9
      simp at c0 c1 c2 c3 c4 c5 c6 c7 c8 c9
      simp [execOp, go_sem, t6, c0, c1, c2, c3, c4, c5, c6, c7, c8, c9]
      exact ⟨hC, Below.refl _ _, rfl⟩
    · refine ⟨rfl, fun v W ρ hC kc kf ks ki kd => ?_⟩
      have d0 : v 0 = .agg #[.int .i64 t.src, .int .i64 t.dst, .int .i64 p.proto, .int .i64 t.sport, .int .i64 t.dport, .int .i64 p.kind, .int .i64 p.flags, .int .i64 p.seq, .int .i64 p.ack, .string p.body] := kd _ (Array.mem_of_getElem? (i := 0) rfl) rfl
      have t37 : ρ (.tmp 37) = v 0 := ks 0 37 (by decide) rfl
      rw [d0] at t37
      simp [execOp, go_sem, t37, kf]
      exact Calls.mono (HO.out _) (fun e x h => ⟨_, h.1, hC.trans (h.2.mono hC.size), h.2, rfl⟩)
    · refine ⟨rfl, fun v W ρ hC kc kf ks ki kd => ?_⟩
      have t3 : ρ (.tmp 3) = .pointer (some ⟨w.heap.size + 1, 0, none⟩) := ki 3 (by decide)
      have hg := blk_later hGT6.out hC
      have c0 := blk_cell hg 0
      have c1 := blk_cell hg 1
      have c2 := blk_cell hg 2
      have c3 := blk_cell hg 3
      have c4 := blk_cell hg 4
      have c5 := blk_cell hg 5
      simp at c0 c1 c2 c3 c4 c5
      simp [execOp, go_sem, t3, c0, c1, c2, c3, c4, c5]
      exact ⟨hC, Below.refl _ _, rfl⟩
    · refine ⟨rfl, fun v W ρ hC kc kf ks ki kd => ?_⟩
      have d1 : v 1 = .agg #[.int .i64 g.proto, .int .i64 g.src, .int .i64 g.sport, .int .i64 g.dst, .int .i64 g.dport, .int .i64 g.kind] := kd _ (Array.mem_of_getElem? (i := 0) rfl) rfl
      have t38 : ρ (.tmp 38) = v 1 := ks 1 38 (by decide) rfl
      rw [d1] at t38
      have d2 : v 2 = .agg #[.int .i64 t.proto, .int .i64 t.src, .int .i64 t.sport, .int .i64 t.dst, .int .i64 t.dport, .int .i64 t.kind] := kd _ (Array.mem_of_getElem? (i := 1) rfl) rfl
      have t39 : ρ (.tmp 39) = v 2 := ks 2 39 (by decide) rfl
      rw [d2] at t39
      simp [execOp, go_sem, t38, t39, hq]
      exact ⟨hC, Below.refl _ _, rfl⟩
  intro vV w7 hb7 hall
  have hvV : vV 3 = .bool true := hall 3 (by decide)
  simp [upto, Act.put]
  rw [hvV]
  clear hall hvV
  have hGP7 := hidS (blk_later hGP6.out hb7)
  have hGT7 := hidS (blk_later hGT6.out hb7)
  have hGR7 := hidS (blk_later hGR6.out hb7)
  have hGG7 := hidS (blk_later hGG6.out hb7)
  have hL7 := hidS (hL6.out.trans (hb7.mono hL6.out.size))
  clear hb7 hL6 hGP6 hGT6 hGR6 hGG6
  have hg := (HS.out _ hL7.out).cF
  have hne : w.heap.size + 2 ≠ 0 := by omega
  have kR := blk_cell hGR7.out
  have fR := blk_free hGR7.out
  go_wp2_with fail
  go_region
  go_wp2_with fail
  refine bodyPost_ret (v := .tuple #[.agg #[.int .i64 zeroPk.src, .int .i64 zeroPk.dst, .int .i64 zeroPk.proto, .int .i64 zeroPk.a, .int .i64 zeroPk.b, .int .i64 zeroPk.kind, .int .i64 zeroPk.flags, .int .i64 zeroPk.seq, .int .i64 zeroPk.ack, .string zeroPk.body], .iface 139 (.pointer (some aF))]) (by simp [results, Tryd.results43, go_sem, zeroPk, *]) rfl ⟨rfl, ?_⟩
  refine Below.drew ?_
  repeat (refine below_at ?_ (by omega))
  exact hL7.out

set_option maxHeartbeats 4000000 in
theorem give_yes_other {aF aS aY aM : Addr} (p : Pk) (t : Tp) (w : World) (hs : p.body.size ≤ maxLen) (hS : Sent aF aS aY aM w) (hr : rightB p = true) (he : errorB p = false) (ht : rightT t = true) (h1 : p.proto ≠ 1) (hd : sameT (given p t) t = true) :
    Calls Tryd.prog 43 #[.agg #[.int .i64 p.src, .int .i64 p.dst, .int .i64 p.proto, .int .i64 p.a, .int .i64 p.b, .int .i64 p.kind, .int .i64 p.flags, .int .i64 p.seq, .int .i64 p.ack, .string p.body], .agg #[.int .i64 t.proto, .int .i64 t.src, .int .i64 t.sport, .int .i64 t.dst, .int .i64 t.dport, .int .i64 t.kind]] w fun e w' => e = .returned (.tuple #[.agg #[.int .i64 t.src, .int .i64 t.dst, .int .i64 p.proto, .int .i64 t.sport, .int .i64 t.dport, .int .i64 p.kind, .int .i64 p.flags, .int .i64 p.seq, .int .i64 p.ack, .string p.body], .nilIface]) ∧ Below w.heap.size w w' := by
  have HR := hidS (fun W => implRight_any p W hs)
  have HE := hidS (fun W => isErrB_any p W)
  have HT := hidS (fun W => implTRight_any t W)
  have HS := hidS (fun W (h : Below w.heap.size w W) => hS.later h)
  have hlt0 : 0 < w.heap.size := World.block_lt_of_cell? w _ hS.cF
  clear hS
  have HO := hidS (fun W => ofG_other p t W hs hr he ht h1)
  have h1n : (p.proto != 1) = true := by simp [h1]
  have hq : ∀ W, (binOp .neq 33 (.agg #[.int .i64 (given p t).proto, .int .i64 (given p t).src, .int .i64 (given p t).sport, .int .i64 (given p t).dst, .int .i64 (given p t).dport, .int .i64 (given p t).kind]) (.agg #[.int .i64 t.proto, .int .i64 t.src, .int .i64 t.sport, .int .i64 t.dst, .int .i64 t.dport, .int .i64 t.kind])).run Tryd.prog W = .ok (.bool false) W := fun W => by rw [neq_tup, hd]; rfl
  have hsz : p.body.size ≤ 1099511627776 := by unfold rightB at hr; simp only [Bool.and_eq_true, decide_eq_true_eq] at hr; omega
  generalize given p t = g at *
  clear hd h1
  have hGP0 : Hid ((((w.alloc (.cells #[.int .i64 p.src, .int .i64 p.dst, .int .i64 p.proto, .int .i64 p.a, .int .i64 p.b, .int .i64 p.kind, .int .i64 p.flags, .int .i64 p.seq, .int .i64 p.ack, .string p.body] 29)).alloc (.cells #[.int .i64 t.proto, .int .i64 t.src, .int .i64 t.sport, .int .i64 t.dst, .int .i64 t.dport, .int .i64 t.kind] 33)).alloc (.cells #[.int .i64 0, .int .i64 0, .int .i64 0, .int .i64 0, .int .i64 0, .int .i64 0, .int .i64 0, .int .i64 0, .int .i64 0, .string ⟨#[]⟩] 29)).heap[w.heap.size]? = some (.cells #[.int .i64 p.src, .int .i64 p.dst, .int .i64 p.proto, .int .i64 p.a, .int .i64 p.b, .int .i64 p.kind, .int .i64 p.flags, .int .i64 p.seq, .int .i64 p.ack, .string p.body] 29)) := by
    show _ = _
    have := blk_alloc (blk_alloc (heap_newG w (.cells #[.int .i64 p.src, .int .i64 p.dst, .int .i64 p.proto, .int .i64 p.a, .int .i64 p.b, .int .i64 p.kind, .int .i64 p.flags, .int .i64 p.seq, .int .i64 p.ack, .string p.body] 29)) (.cells #[.int .i64 t.proto, .int .i64 t.src, .int .i64 t.sport, .int .i64 t.dst, .int .i64 t.dport, .int .i64 t.kind] 33)) (.cells #[.int .i64 0, .int .i64 0, .int .i64 0, .int .i64 0, .int .i64 0, .int .i64 0, .int .i64 0, .int .i64 0, .int .i64 0, .string ⟨#[]⟩] 29)
    simpa using this
  have hGT0 : Hid ((((w.alloc (.cells #[.int .i64 p.src, .int .i64 p.dst, .int .i64 p.proto, .int .i64 p.a, .int .i64 p.b, .int .i64 p.kind, .int .i64 p.flags, .int .i64 p.seq, .int .i64 p.ack, .string p.body] 29)).alloc (.cells #[.int .i64 t.proto, .int .i64 t.src, .int .i64 t.sport, .int .i64 t.dst, .int .i64 t.dport, .int .i64 t.kind] 33)).alloc (.cells #[.int .i64 0, .int .i64 0, .int .i64 0, .int .i64 0, .int .i64 0, .int .i64 0, .int .i64 0, .int .i64 0, .int .i64 0, .string ⟨#[]⟩] 29)).heap[w.heap.size + 1]? = some (.cells #[.int .i64 t.proto, .int .i64 t.src, .int .i64 t.sport, .int .i64 t.dst, .int .i64 t.dport, .int .i64 t.kind] 33)) := by
    show _ = _
    have := blk_alloc (heap_newG (w.alloc (.cells #[.int .i64 p.src, .int .i64 p.dst, .int .i64 p.proto, .int .i64 p.a, .int .i64 p.b, .int .i64 p.kind, .int .i64 p.flags, .int .i64 p.seq, .int .i64 p.ack, .string p.body] 29)) (.cells #[.int .i64 t.proto, .int .i64 t.src, .int .i64 t.sport, .int .i64 t.dst, .int .i64 t.dport, .int .i64 t.kind] 33)) (.cells #[.int .i64 0, .int .i64 0, .int .i64 0, .int .i64 0, .int .i64 0, .int .i64 0, .int .i64 0, .int .i64 0, .int .i64 0, .string ⟨#[]⟩] 29)
    simpa using this
  have hGR0 : Hid ((((w.alloc (.cells #[.int .i64 p.src, .int .i64 p.dst, .int .i64 p.proto, .int .i64 p.a, .int .i64 p.b, .int .i64 p.kind, .int .i64 p.flags, .int .i64 p.seq, .int .i64 p.ack, .string p.body] 29)).alloc (.cells #[.int .i64 t.proto, .int .i64 t.src, .int .i64 t.sport, .int .i64 t.dst, .int .i64 t.dport, .int .i64 t.kind] 33)).alloc (.cells #[.int .i64 0, .int .i64 0, .int .i64 0, .int .i64 0, .int .i64 0, .int .i64 0, .int .i64 0, .int .i64 0, .int .i64 0, .string ⟨#[]⟩] 29)).heap[w.heap.size + 2]? = some (.cells #[.int .i64 0, .int .i64 0, .int .i64 0, .int .i64 0, .int .i64 0, .int .i64 0, .int .i64 0, .int .i64 0, .int .i64 0, .string ⟨#[]⟩] 29)) := by
    show _ = _
    have := heap_newG ((w.alloc (.cells #[.int .i64 p.src, .int .i64 p.dst, .int .i64 p.proto, .int .i64 p.a, .int .i64 p.b, .int .i64 p.kind, .int .i64 p.flags, .int .i64 p.seq, .int .i64 p.ack, .string p.body] 29)).alloc (.cells #[.int .i64 t.proto, .int .i64 t.src, .int .i64 t.sport, .int .i64 t.dst, .int .i64 t.dport, .int .i64 t.kind] 33)) (.cells #[.int .i64 0, .int .i64 0, .int .i64 0, .int .i64 0, .int .i64 0, .int .i64 0, .int .i64 0, .int .i64 0, .int .i64 0, .string ⟨#[]⟩] 29)
    simpa using this
  have hL0 := hidS ((((Below.refl w.heap.size w).alloc (Nat.le_refl _) (.cells #[.int .i64 p.src, .int .i64 p.dst, .int .i64 p.proto, .int .i64 p.a, .int .i64 p.b, .int .i64 p.kind, .int .i64 p.flags, .int .i64 p.seq, .int .i64 p.ack, .string p.body] 29)).alloc (by simp) (.cells #[.int .i64 t.proto, .int .i64 t.src, .int .i64 t.sport, .int .i64 t.dst, .int .i64 t.dport, .int .i64 t.kind] 33)).alloc (by simp; omega) (.cells #[.int .i64 0, .int .i64 0, .int .i64 0, .int .i64 0, .int .i64 0, .int .i64 0, .int .i64 0, .int .i64 0, .int .i64 0, .string ⟨#[]⟩] 29))
  go_enter Tryd.func43, Tryd.ntmps43
  go_wp2_with fail
  refine (HR.out _).mono ?_
  rintro _ w1 ⟨rfl, hb1⟩
  have hGP1 := hidS (blk_later hGP0.out hb1)
  have hGT1 := hidS (blk_later hGT0.out hb1)
  have hGR1 := hidS (blk_later hGR0.out hb1)
  have hL1 := hidS (hL0.out.trans (hb1.mono hL0.out.size))
  clear hb1 hL0 hGP0 hGT0 hGR0
  rw [hr]
  have cP0 := blk_cell hGP1.out 0
  have cP1 := blk_cell hGP1.out 1
  have cP2 := blk_cell hGP1.out 2
  have cP3 := blk_cell hGP1.out 3
  have cP4 := blk_cell hGP1.out 4
  have cP5 := blk_cell hGP1.out 5
  have cP6 := blk_cell hGP1.out 6
  have cP7 := blk_cell hGP1.out 7
  have cP8 := blk_cell hGP1.out 8
  have cP9 := blk_cell hGP1.out 9
  simp at cP0 cP1 cP2 cP3 cP4 cP5 cP6 cP7 cP8 cP9
  go_wp2_with fail
  refine (HE.out _).mono ?_
  rintro _ w2 ⟨rfl, hb2⟩
  clear cP0 cP1 cP2 cP3 cP4 cP5 cP6 cP7 cP8 cP9
  have hGP2 := hidS (blk_later hGP1.out hb2)
  have hGT2 := hidS (blk_later hGT1.out hb2)
  have hGR2 := hidS (blk_later hGR1.out hb2)
  have hL2 := hidS (hL1.out.trans (hb2.mono hL1.out.size))
  clear hb2 hL1 hGP1 hGT1 hGR1
  rw [he]
  have cT0 := blk_cell hGT2.out 0
  have cT1 := blk_cell hGT2.out 1
  have cT2 := blk_cell hGT2.out 2
  have cT3 := blk_cell hGT2.out 3
  have cT4 := blk_cell hGT2.out 4
  have cT5 := blk_cell hGT2.out 5
  simp at cT0 cT1 cT2 cT3 cT4 cT5
  go_wp2_with fail
  refine (HT.out _).mono ?_
  rintro _ w3 ⟨rfl, hb3⟩
  clear cT0 cT1 cT2 cT3 cT4 cT5
  have hGP3 := hidS (blk_later hGP2.out hb3)
  have hGT3 := hidS (blk_later hGT2.out hb3)
  have hGR3 := hidS (blk_later hGR2.out hb3)
  have hL3 := hidS (hL2.out.trans (hb3.mono hL2.out.size))
  clear hb3 hL2 hGP2 hGT2 hGR2
  rw [ht]
  have cP0 := blk_cell hGP3.out 0
  have cP1 := blk_cell hGP3.out 1
  have cP2 := blk_cell hGP3.out 2
  have cP3 := blk_cell hGP3.out 3
  have cP4 := blk_cell hGP3.out 4
  have cP5 := blk_cell hGP3.out 5
  have cP6 := blk_cell hGP3.out 6
  have cP7 := blk_cell hGP3.out 7
  have cP8 := blk_cell hGP3.out 8
  have cP9 := blk_cell hGP3.out 9
  simp at cP0 cP1 cP2 cP3 cP4 cP5 cP6 cP7 cP8 cP9
  go_upto_region 4 with fail
  have hGG4 := hidS (heap_newG w3 (.cells #[.int .i64 p.src, .int .i64 p.dst, .int .i64 p.proto, .int .i64 p.a, .int .i64 p.b, .int .i64 p.kind, .int .i64 p.flags, .int .i64 p.seq, .int .i64 p.ack, .string p.body] 29))
  have nG := blk_lt hGR3.out
  have hGP4 := hidS (blk_alloc hGP3.out (.cells #[.int .i64 p.src, .int .i64 p.dst, .int .i64 p.proto, .int .i64 p.a, .int .i64 p.b, .int .i64 p.kind, .int .i64 p.flags, .int .i64 p.seq, .int .i64 p.ack, .string p.body] 29))
  have hGT4 := hidS (blk_alloc hGT3.out (.cells #[.int .i64 p.src, .int .i64 p.dst, .int .i64 p.proto, .int .i64 p.a, .int .i64 p.b, .int .i64 p.kind, .int .i64 p.flags, .int .i64 p.seq, .int .i64 p.ack, .string p.body] 29))
  have hGR4 := hidS (blk_alloc hGR3.out (.cells #[.int .i64 p.src, .int .i64 p.dst, .int .i64 p.proto, .int .i64 p.a, .int .i64 p.b, .int .i64 p.kind, .int .i64 p.flags, .int .i64 p.seq, .int .i64 p.ack, .string p.body] 29))
  have hL4 := hidS (hL3.out.alloc hL3.out.size (.cells #[.int .i64 p.src, .int .i64 p.dst, .int .i64 p.proto, .int .i64 p.a, .int .i64 p.b, .int .i64 p.kind, .int .i64 p.flags, .int .i64 p.seq, .int .i64 p.ack, .string p.body] 29))
  clear cP0 cP1 cP2 cP3 cP4 cP5 cP6 cP7 cP8 cP9
  clear hL3 hGP3 hGT3 hGR3
  generalize w3.alloc (.cells #[.int .i64 p.src, .int .i64 p.dst, .int .i64 p.proto, .int .i64 p.a, .int .i64 p.b, .int .i64 p.kind, .int .i64 p.flags, .int .i64 p.seq, .int .i64 p.ack, .string p.body] 29) = w4 at hGP4 hGT4 hGR4 hGG4 hL4 ⊢
  have lT := blk_lt hGT4.out
  have lG := blk_lt hGG4.out
  have cT0 := blk_cell hGT4.out 0
  have cT1 := blk_cell hGT4.out 1
  have cT2 := blk_cell hGT4.out 2
  have cT3 := blk_cell hGT4.out 3
  have cT4 := blk_cell hGT4.out 4
  have cT5 := blk_cell hGT4.out 5
  simp at cT0 cT1 cT2 cT3 cT4 cT5
  have kG := blk_cell hGG4.out
  have fG := blk_free hGG4.out
  go_region
  have hGG5 : Hid ((((w4.setCell ⟨w3.heap.size, 0, none⟩ (.int .i64 t.src)).setCell ⟨w3.heap.size, 1, none⟩ (.int .i64 t.dst)).setCell ⟨w3.heap.size, 3, none⟩ (.int .i64 t.sport)).drew.heap[w3.heap.size]? = some (.cells #[.int .i64 t.src, .int .i64 t.dst, .int .i64 p.proto, .int .i64 t.sport, .int .i64 p.b, .int .i64 p.kind, .int .i64 p.flags, .int .i64 p.seq, .int .i64 p.ack, .string p.body] 29)) := by
    have := (blk_set (blk_set (blk_set hGG4.out 0 (.int .i64 t.src)) 1 (.int .i64 t.dst)) 3 (.int .i64 t.sport))
    exact this
  have hGP5 : Hid ((((w4.setCell ⟨w3.heap.size, 0, none⟩ (.int .i64 t.src)).setCell ⟨w3.heap.size, 1, none⟩ (.int .i64 t.dst)).setCell ⟨w3.heap.size, 3, none⟩ (.int .i64 t.sport)).drew.heap[w.heap.size]? = some (.cells #[.int .i64 p.src, .int .i64 p.dst, .int .i64 p.proto, .int .i64 p.a, .int .i64 p.b, .int .i64 p.kind, .int .i64 p.flags, .int .i64 p.seq, .int .i64 p.ack, .string p.body] 29)) := by
    have := (blk_other (B := w3.heap.size) (blk_other (B := w3.heap.size) (blk_other (B := w3.heap.size) hGP4.out (by omega) 0 (.int .i64 t.src)) (by omega) 1 (.int .i64 t.dst)) (by omega) 3 (.int .i64 t.sport))
    exact this
  have hGT5 : Hid ((((w4.setCell ⟨w3.heap.size, 0, none⟩ (.int .i64 t.src)).setCell ⟨w3.heap.size, 1, none⟩ (.int .i64 t.dst)).setCell ⟨w3.heap.size, 3, none⟩ (.int .i64 t.sport)).drew.heap[w.heap.size + 1]? = some (.cells #[.int .i64 t.proto, .int .i64 t.src, .int .i64 t.sport, .int .i64 t.dst, .int .i64 t.dport, .int .i64 t.kind] 33)) := by
    have := (blk_other (B := w3.heap.size) (blk_other (B := w3.heap.size) (blk_other (B := w3.heap.size) hGT4.out (by omega) 0 (.int .i64 t.src)) (by omega) 1 (.int .i64 t.dst)) (by omega) 3 (.int .i64 t.sport))
    exact this
  have hGR5 : Hid ((((w4.setCell ⟨w3.heap.size, 0, none⟩ (.int .i64 t.src)).setCell ⟨w3.heap.size, 1, none⟩ (.int .i64 t.dst)).setCell ⟨w3.heap.size, 3, none⟩ (.int .i64 t.sport)).drew.heap[w.heap.size + 2]? = some (.cells #[.int .i64 0, .int .i64 0, .int .i64 0, .int .i64 0, .int .i64 0, .int .i64 0, .int .i64 0, .int .i64 0, .int .i64 0, .string ⟨#[]⟩] 29)) := by
    have := (blk_other (B := w3.heap.size) (blk_other (B := w3.heap.size) (blk_other (B := w3.heap.size) hGR4.out (by omega) 0 (.int .i64 t.src)) (by omega) 1 (.int .i64 t.dst)) (by omega) 3 (.int .i64 t.sport))
    exact this
  have hL5 := hidS (Below.drew (below_at (k := 3) (b := w3.heap.size) (v := .int .i64 t.sport) (below_at (k := 1) (b := w3.heap.size) (v := .int .i64 t.dst) (below_at (k := 0) (b := w3.heap.size) (v := .int .i64 t.src) hL4.out (by omega)) (by omega)) (by omega)))
  clear lT lG cT0 cT1 cT2 cT3 cT4 cT5 kG fG
  clear hL4 hGG4 hGP4 hGT4 hGR4
  generalize (((w4.setCell ⟨w3.heap.size, 0, none⟩ (.int .i64 t.src)).setCell ⟨w3.heap.size, 1, none⟩ (.int .i64 t.dst)).setCell ⟨w3.heap.size, 3, none⟩ (.int .i64 t.sport)).drew = w5 at hGP5 hGT5 hGR5 hGG5 hL5 ⊢
  have cP0 := blk_cell hGP5.out 0
  have cP1 := blk_cell hGP5.out 1
  have cP2 := blk_cell hGP5.out 2
  have cP3 := blk_cell hGP5.out 3
  have cP4 := blk_cell hGP5.out 4
  have cP5 := blk_cell hGP5.out 5
  have cP6 := blk_cell hGP5.out 6
  have cP7 := blk_cell hGP5.out 7
  have cP8 := blk_cell hGP5.out 8
  have cP9 := blk_cell hGP5.out 9
  simp at cP0 cP1 cP2 cP3 cP4 cP5 cP6 cP7 cP8 cP9
  have cT0 := blk_cell hGT5.out 0
  have cT1 := blk_cell hGT5.out 1
  have cT2 := blk_cell hGT5.out 2
  have cT3 := blk_cell hGT5.out 3
  have cT4 := blk_cell hGT5.out 4
  have cT5 := blk_cell hGT5.out 5
  simp at cT0 cT1 cT2 cT3 cT4 cT5
  have kG := blk_cell hGG5.out
  have fG := blk_free hGG5.out
  go_upto_region 7 with fail
  have hGG6 : Hid ((w5.setCell ⟨w3.heap.size, 4, none⟩ (.int .i64 t.dport)).heap[w3.heap.size]? = some (.cells #[.int .i64 t.src, .int .i64 t.dst, .int .i64 p.proto, .int .i64 t.sport, .int .i64 t.dport, .int .i64 p.kind, .int .i64 p.flags, .int .i64 p.seq, .int .i64 p.ack, .string p.body] 29)) := by
    have := (blk_set hGG5.out 4 (.int .i64 t.dport))
    exact this
  have hGP6 := hidS (blk_other (B := w3.heap.size) hGP5.out (by omega) 4 (.int .i64 t.dport))
  have hGT6 := hidS (blk_other (B := w3.heap.size) hGT5.out (by omega) 4 (.int .i64 t.dport))
  have hGR6 := hidS (blk_other (B := w3.heap.size) hGR5.out (by omega) 4 (.int .i64 t.dport))
  have hL6 := hidS (below_at (k := 4) (b := w3.heap.size) (v := .int .i64 t.dport) hL5.out (by omega))
  clear cP0 cP1 cP2 cP3 cP4 cP5 cP6 cP7 cP8 cP9 cT0 cT1 cT2 cT3 cT4 cT5 kG fG
  clear hL5 hGG5 hGP5 hGT5 hGR5
  generalize (w5.setCell ⟨w3.heap.size, 4, none⟩ (.int .i64 t.dport)) = w6 at hGP6 hGT6 hGR6 hGG6 hL6 ⊢
  refine grow_kinds 4 [.is (.agg #[.int .i64 t.src, .int .i64 t.dst, .int .i64 p.proto, .int .i64 t.sport, .int .i64 t.dport, .int .i64 p.kind, .int .i64 p.flags, .int .i64 p.seq, .int .i64 p.ack, .string p.body]), .is (.agg #[.int .i64 g.proto, .int .i64 g.src, .int .i64 g.sport, .int .i64 g.dst, .int .i64 g.dport, .int .i64 g.kind]), .is (.agg #[.int .i64 t.proto, .int .i64 t.src, .int .i64 t.sport, .int .i64 t.dst, .int .i64 t.dport, .int .i64 t.kind]), .is (.bool false)] rfl (by kernel_rfl) (by kernel_rfl) ?stepsV ?finV
  case stepsV =>
    refine ⟨?_, ?_, ?_, ?_, trivial⟩
    · refine ⟨rfl, fun v W ρ hC kc kf ks ki kd => ?_⟩
      have t6 : ρ (.tmp 6) = .pointer (some ⟨w3.heap.size, 0, none⟩) := ki 6 (by decide)
      have hg := blk_later hGG6.out hC
      have c0 := blk_cell hg 0
      have c1 := blk_cell hg 1
      have c2 := blk_cell hg 2
      have c3 := blk_cell hg 3
      have c4 := blk_cell hg 4
      have c5 := blk_cell hg 5
      have c6 := blk_cell hg 6
      have c7 := blk_cell hg 7
      have c8 := blk_cell hg 8
      have c9 := blk_cell hg 9
      simp at c0 c1 c2 c3 c4 c5 c6 c7 c8 c9
      simp [execOp, go_sem, t6, c0, c1, c2, c3, c4, c5, c6, c7, c8, c9]
      exact ⟨hC, Below.refl _ _, rfl⟩
    · refine ⟨rfl, fun v W ρ hC kc kf ks ki kd => ?_⟩
      have d0 : v 0 = .agg #[.int .i64 t.src, .int .i64 t.dst, .int .i64 p.proto, .int .i64 t.sport, .int .i64 t.dport, .int .i64 p.kind, .int .i64 p.flags, .int .i64 p.seq, .int .i64 p.ack, .string p.body] := kd _ (Array.mem_of_getElem? (i := 0) rfl) rfl
      have t37 : ρ (.tmp 37) = v 0 := ks 0 37 (by decide) rfl
      rw [d0] at t37
      simp [execOp, go_sem, t37, kf]
      exact Calls.mono (HO.out _) (fun e x h => ⟨_, h.1, hC.trans (h.2.mono hC.size), h.2, rfl⟩)
    · refine ⟨rfl, fun v W ρ hC kc kf ks ki kd => ?_⟩
      have t3 : ρ (.tmp 3) = .pointer (some ⟨w.heap.size + 1, 0, none⟩) := ki 3 (by decide)
      have hg := blk_later hGT6.out hC
      have c0 := blk_cell hg 0
      have c1 := blk_cell hg 1
      have c2 := blk_cell hg 2
      have c3 := blk_cell hg 3
      have c4 := blk_cell hg 4
      have c5 := blk_cell hg 5
      simp at c0 c1 c2 c3 c4 c5
      simp [execOp, go_sem, t3, c0, c1, c2, c3, c4, c5]
      exact ⟨hC, Below.refl _ _, rfl⟩
    · refine ⟨rfl, fun v W ρ hC kc kf ks ki kd => ?_⟩
      have d1 : v 1 = .agg #[.int .i64 g.proto, .int .i64 g.src, .int .i64 g.sport, .int .i64 g.dst, .int .i64 g.dport, .int .i64 g.kind] := kd _ (Array.mem_of_getElem? (i := 0) rfl) rfl
      have t38 : ρ (.tmp 38) = v 1 := ks 1 38 (by decide) rfl
      rw [d1] at t38
      have d2 : v 2 = .agg #[.int .i64 t.proto, .int .i64 t.src, .int .i64 t.sport, .int .i64 t.dst, .int .i64 t.dport, .int .i64 t.kind] := kd _ (Array.mem_of_getElem? (i := 1) rfl) rfl
      have t39 : ρ (.tmp 39) = v 2 := ks 2 39 (by decide) rfl
      rw [d2] at t39
      simp [execOp, go_sem, t38, t39, hq]
      exact ⟨hC, Below.refl _ _, rfl⟩
  intro vV w7 hb7 hall
  have hvV : vV 3 = .bool false := hall 3 (by decide)
  simp [upto, Act.put]
  rw [hvV]
  clear hall hvV
  have hGP7 := hidS (blk_later hGP6.out hb7)
  have hGT7 := hidS (blk_later hGT6.out hb7)
  have hGR7 := hidS (blk_later hGR6.out hb7)
  have hGG7 := hidS (blk_later hGG6.out hb7)
  have hL7 := hidS (hL6.out.trans (hb7.mono hL6.out.size))
  clear hb7 hL6 hGP6 hGT6 hGR6 hGG6
  have cP0 := blk_cell hGP7.out 0
  have cP1 := blk_cell hGP7.out 1
  have cP2 := blk_cell hGP7.out 2
  have cP3 := blk_cell hGP7.out 3
  have cP4 := blk_cell hGP7.out 4
  have cP5 := blk_cell hGP7.out 5
  have cP6 := blk_cell hGP7.out 6
  have cP7 := blk_cell hGP7.out 7
  have cP8 := blk_cell hGP7.out 8
  have cP9 := blk_cell hGP7.out 9
  simp at cP0 cP1 cP2 cP3 cP4 cP5 cP6 cP7 cP8 cP9
  go_wp2_with fail
  refine (clone_any p.body _ hsz).mono ?_
  rintro _ w8 ⟨rfl, hb8⟩
  clear cP0 cP1 cP2 cP3 cP4 cP5 cP6 cP7 cP8 cP9
  have hGP8 := hidS (blk_later hGP7.out hb8)
  have hGT8 := hidS (blk_later hGT7.out hb8)
  have hGR8 := hidS (blk_later hGR7.out hb8)
  have hGG8 := hidS (blk_later hGG7.out hb8)
  have hL8 := hidS (hL7.out.trans (hb8.mono hL7.out.size))
  clear hb8 hL7 hGP7 hGT7 hGR7 hGG7
  have kG := blk_cell hGG8.out
  have fG := blk_free hGG8.out
  go_upto_region 10 with fail
  have hGG9 : Hid ((w8.setCell ⟨w3.heap.size, 9, none⟩ (.string p.body)).heap[w3.heap.size]? = some (.cells #[.int .i64 t.src, .int .i64 t.dst, .int .i64 p.proto, .int .i64 t.sport, .int .i64 t.dport, .int .i64 p.kind, .int .i64 p.flags, .int .i64 p.seq, .int .i64 p.ack, .string p.body] 29)) := by
    have := (blk_set hGG8.out 9 (.string p.body))
    exact this
  have hGP9 := hidS (blk_other (B := w3.heap.size) hGP8.out (by omega) 9 (.string p.body))
  have hGT9 := hidS (blk_other (B := w3.heap.size) hGT8.out (by omega) 9 (.string p.body))
  have hGR9 := hidS (blk_other (B := w3.heap.size) hGR8.out (by omega) 9 (.string p.body))
  have hL9 := hidS (below_at (k := 9) (b := w3.heap.size) (v := .string p.body) hL8.out (by omega))
  clear kG fG
  clear hL8 hGG8 hGP8 hGT8 hGR8
  generalize (w8.setCell ⟨w3.heap.size, 9, none⟩ (.string p.body)) = w9 at hGP9 hGT9 hGR9 hGG9 hL9 ⊢
  have cG0 := blk_cell hGG9.out 0
  have cG1 := blk_cell hGG9.out 1
  have cG2 := blk_cell hGG9.out 2
  have cG3 := blk_cell hGG9.out 3
  have cG4 := blk_cell hGG9.out 4
  have cG5 := blk_cell hGG9.out 5
  have cG6 := blk_cell hGG9.out 6
  have cG7 := blk_cell hGG9.out 7
  have cG8 := blk_cell hGG9.out 8
  have cG9 := blk_cell hGG9.out 9
  simp at cG0 cG1 cG2 cG3 cG4 cG5 cG6 cG7 cG8 cG9
  have kR := blk_cell hGR9.out
  have fR := blk_free hGR9.out
  go_wp2_with fail
  refine bodyPost_ret (v := .tuple #[.agg #[.int .i64 t.src, .int .i64 t.dst, .int .i64 p.proto, .int .i64 t.sport, .int .i64 t.dport, .int .i64 p.kind, .int .i64 p.flags, .int .i64 p.seq, .int .i64 p.ack, .string p.body], .nilIface]) (by simp [results, Tryd.results43, go_sem, *]) rfl ⟨rfl, ?_⟩
  repeat (refine below_at ?_ (by omega))
  exact hL9.out
end Go.Proofs.YtbhemimhmkgfiaaDoor
