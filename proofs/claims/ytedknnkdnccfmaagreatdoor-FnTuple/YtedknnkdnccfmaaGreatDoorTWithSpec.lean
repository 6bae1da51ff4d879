/- Proved here: spec.WithTuple answers the packet with a tuple's ends, or ErrForm; all old memory stays (condition: the body is a string). -/
import Derived.Test.YtedknnkdnccfmaaGreatDoorAll27
import Derived.Test.YtedknnkdnccfmaaGreatDoorAll33
import Derived.Test.YtedknnkdnccfmaaGreatDoorRightSpec
import Derived.Test.YtedknnkdnccfmaaGreatDoorAll15
import Derived.Test.YtedknnkdnccfmaaGreatDoorAll4
import Derived.Deep.Cut
namespace Go.Proofs.YtedknnkdnccfmaaGreatDoor
open Go.ChangeShapes Go.WideShapes Go.ChangeAt Go.RowKit
set_option linter.unusedVariables false
set_option maxRecDepth 100000

theorem withP_no {p : Pk} {t : Tp} (h : withB p t = false) : withP p t = zeroPk := if_neg (by rw [h]; simp)
theorem withC_no {p : Pk} {t : Tp} (h : withB p t = false) : withC p t = 1 := if_neg (by rw [h]; simp)
theorem withP_yes {p : Pk} {t : Tp} (h : withB p t = true) : withP p t = withT p t := if_pos h
theorem withC_yes {p : Pk} {t : Tp} (h : withB p t = true) : withC p t = 0 := if_pos h

set_option maxHeartbeats 1000000 in
theorem l04With_any (p : Pk) (t : Tp) (w : World) :
    Calls Tryz.prog 80 #[.agg #[.int .i64 p.src, .int .i64 p.dst, .int .i64 p.proto, .int .i64 p.a, .int .i64 p.b, .int .i64 p.kind, .int .i64 p.flags, .int .i64 p.seq, .int .i64 p.ack, .string p.body], .agg #[.int .i64 t.proto, .int .i64 t.src, .int .i64 t.sport, .int .i64 t.dst, .int .i64 t.dport, .int .i64 t.kind]] w fun e w' => e = .returned (.agg #[.int .i64 (withT p t).src, .int .i64 (withT p t).dst, .int .i64 (withT p t).proto, .int .i64 (withT p t).a, .int .i64 (withT p t).b, .int .i64 (withT p t).kind, .int .i64 (withT p t).flags, .int .i64 (withT p t).seq, .int .i64 (withT p t).ack, .string (withT p t).body]) ∧ Below w.heap.size w w' := by
  unfold withT
  by_cases h1 : p.proto = 1
  · have h1' : (p.proto == 1) = true := beq_iff_eq.2 h1
    have h1n : (p.proto != 1) = false := by rw [bne, h1']; rfl
    rw [if_pos h1]
    clear h1
    go_enter Tryz.func80, Tryz.ntmps80
    go_wp2
    go_returns
    exact ⟨rfl, by go_grown⟩
  · have h1' : (p.proto == 1) = false := beq_eq_false_iff_ne.2 h1
    have h1n : (p.proto != 1) = true := by rw [bne, h1']; rfl
    rw [if_neg h1]
    clear h1
    go_enter Tryz.func80, Tryz.ntmps80
    go_wp2
    go_returns
    exact ⟨rfl, by go_grown⟩

set_option maxHeartbeats 2000000 in
theorem specWith_any (p : Pk) (t : Tp) (w : World) (hs : p.body.size ≤ maxLen) :
    Calls Tryz.prog 33 #[.agg #[.int .i64 p.src, .int .i64 p.dst, .int .i64 p.proto, .int .i64 p.a, .int .i64 p.b, .int .i64 p.kind, .int .i64 p.flags, .int .i64 p.seq, .int .i64 p.ack, .string p.body], .agg #[.int .i64 t.proto, .int .i64 t.src, .int .i64 t.sport, .int .i64 t.dst, .int .i64 t.dport, .int .i64 t.kind]] w fun e w' => e = .returned (.agg #[.int .i64 (withP p t).src, .int .i64 (withP p t).dst, .int .i64 (withP p t).proto, .int .i64 (withP p t).a, .int .i64 (withP p t).b, .int .i64 (withP p t).kind, .int .i64 (withP p t).flags, .int .i64 (withP p t).seq, .int .i64 (withP p t).ack, .string (withP p t).body, .int .i64 (withC p t)]) ∧ Below w.heap.size w w' := by
  have HR := hidS (fun W => specRight_any p W hs)
  have HE := hidS (fun W => l04Error_any p W)
  have HT := hidS (fun W => specTRight_any t W)
  cases hr : rightB p
  · have hB : withB p t = false := by unfold withB; rw [hr]; rfl
    rw [withP_no hB, withC_no hB]
    clear hB
    have hGP0 : Hid ((((w.alloc (.cells #[.int .i64 p.src, .int .i64 p.dst, .int .i64 p.proto, .int .i64 p.a, .int .i64 p.b, .int .i64 p.kind, .int .i64 p.flags, .int .i64 p.seq, .int .i64 p.ack, .string p.body] 24)).alloc (.cells #[.int .i64 t.proto, .int .i64 t.src, .int .i64 t.sport, .int .i64 t.dst, .int .i64 t.dport, .int .i64 t.kind] 40)).alloc (.cells #[.int .i64 0, .int .i64 0, .int .i64 0, .int .i64 0, .int .i64 0, .int .i64 0, .int .i64 0, .int .i64 0, .int .i64 0, .string ⟨#[]⟩, .int .i64 0] 29)).heap[w.heap.size]? = some (.cells #[.int .i64 p.src, .int .i64 p.dst, .int .i64 p.proto, .int .i64 p.a, .int .i64 p.b, .int .i64 p.kind, .int .i64 p.flags, .int .i64 p.seq, .int .i64 p.ack, .string p.body] 24)) := by
      show _ = _
      have := blk_alloc (blk_alloc (heap_newG w (.cells #[.int .i64 p.src, .int .i64 p.dst, .int .i64 p.proto, .int .i64 p.a, .int .i64 p.b, .int .i64 p.kind, .int .i64 p.flags, .int .i64 p.seq, .int .i64 p.ack, .string p.body] 24)) (.cells #[.int .i64 t.proto, .int .i64 t.src, .int .i64 t.sport, .int .i64 t.dst, .int .i64 t.dport, .int .i64 t.kind] 40)) (.cells #[.int .i64 0, .int .i64 0, .int .i64 0, .int .i64 0, .int .i64 0, .int .i64 0, .int .i64 0, .int .i64 0, .int .i64 0, .string ⟨#[]⟩, .int .i64 0] 29)
      simpa using this
    have hGT0 : Hid ((((w.alloc (.cells #[.int .i64 p.src, .int .i64 p.dst, .int .i64 p.proto, .int .i64 p.a, .int .i64 p.b, .int .i64 p.kind, .int .i64 p.flags, .int .i64 p.seq, .int .i64 p.ack, .string p.body] 24)).alloc (.cells #[.int .i64 t.proto, .int .i64 t.src, .int .i64 t.sport, .int .i64 t.dst, .int .i64 t.dport, .int .i64 t.kind] 40)).alloc (.cells #[.int .i64 0, .int .i64 0, .int .i64 0, .int .i64 0, .int .i64 0, .int .i64 0, .int .i64 0, .int .i64 0, .int .i64 0, .string ⟨#[]⟩, .int .i64 0] 29)).heap[w.heap.size + 1]? = some (.cells #[.int .i64 t.proto, .int .i64 t.src, .int .i64 t.sport, .int .i64 t.dst, .int .i64 t.dport, .int .i64 t.kind] 40)) := by
      show _ = _
      have := blk_alloc (heap_newG (w.alloc (.cells #[.int .i64 p.src, .int .i64 p.dst, .int .i64 p.proto, .int .i64 p.a, .int .i64 p.b, .int .i64 p.kind, .int .i64 p.flags, .int .i64 p.seq, .int .i64 p.ack, .string p.body] 24)) (.cells #[.int .i64 t.proto, .int .i64 t.src, .int .i64 t.sport, .int .i64 t.dst, .int .i64 t.dport, .int .i64 t.kind] 40)) (.cells #[.int .i64 0, .int .i64 0, .int .i64 0, .int .i64 0, .int .i64 0, .int .i64 0, .int .i64 0, .int .i64 0, .int .i64 0, .string ⟨#[]⟩, .int .i64 0] 29)
      simpa using this
    have hGR0 : Hid ((((w.alloc (.cells #[.int .i64 p.src, .int .i64 p.dst, .int .i64 p.proto, .int .i64 p.a, .int .i64 p.b, .int .i64 p.kind, .int .i64 p.flags, .int .i64 p.seq, .int .i64 p.ack, .string p.body] 24)).alloc (.cells #[.int .i64 t.proto, .int .i64 t.src, .int .i64 t.sport, .int .i64 t.dst, .int .i64 t.dport, .int .i64 t.kind] 40)).alloc (.cells #[.int .i64 0, .int .i64 0, .int .i64 0, .int .i64 0, .int .i64 0, .int .i64 0, .int .i64 0, .int .i64 0, .int .i64 0, .string ⟨#[]⟩, .int .i64 0] 29)).heap[w.heap.size + 2]? = some (.cells #[.int .i64 0, .int .i64 0, .int .i64 0, .int .i64 0, .int .i64 0, .int .i64 0, .int .i64 0, .int .i64 0, .int .i64 0, .string ⟨#[]⟩, .int .i64 0] 29)) := by
      show _ = _
      have := heap_newG ((w.alloc (.cells #[.int .i64 p.src, .int .i64 p.dst, .int .i64 p.proto, .int .i64 p.a, .int .i64 p.b, .int .i64 p.kind, .int .i64 p.flags, .int .i64 p.seq, .int .i64 p.ack, .string p.body] 24)).alloc (.cells #[.int .i64 t.proto, .int .i64 t.src, .int .i64 t.sport, .int .i64 t.dst, .int .i64 t.dport, .int .i64 t.kind] 40)) (.cells #[.int .i64 0, .int .i64 0, .int .i64 0, .int .i64 0, .int .i64 0, .int .i64 0, .int .i64 0, .int .i64 0, .int .i64 0, .string ⟨#[]⟩, .int .i64 0] 29)
      simpa using this
    have hL0 := hidS ((((Below.refl w.heap.size w).alloc (Nat.le_refl _) (.cells #[.int .i64 p.src, .int .i64 p.dst, .int .i64 p.proto, .int .i64 p.a, .int .i64 p.b, .int .i64 p.kind, .int .i64 p.flags, .int .i64 p.seq, .int .i64 p.ack, .string p.body] 24)).alloc (by simp) (.cells #[.int .i64 t.proto, .int .i64 t.src, .int .i64 t.sport, .int .i64 t.dst, .int .i64 t.dport, .int .i64 t.kind] 40)).alloc (by simp; omega) (.cells #[.int .i64 0, .int .i64 0, .int .i64 0, .int .i64 0, .int .i64 0, .int .i64 0, .int .i64 0, .int .i64 0, .int .i64 0, .string ⟨#[]⟩, .int .i64 0] 29))
    go_enter Tryz.func33, Tryz.ntmps33
    go_wp2_with fail
    refine (HR.out _).mono ?_
    rintro _ w1 ⟨rfl, hb1⟩
    have hGP1 := hidS (blk_later hGP0.out hb1)
    have hGT1 := hidS (blk_later hGT0.out hb1)
    have hGR1 := hidS (blk_later hGR0.out hb1)
    have hL1 := hidS (hL0.out.trans (hb1.mono hL0.out.size))
    clear hb1 hL0 hGP0 hGT0 hGR0
    rw [hr]
    have kR := blk_cell hGR1.out
    have fR := blk_free hGR1.out
    go_wp2_with fail
    refine bodyPost_ret (v := .agg #[.int .i64 zeroPk.src, .int .i64 zeroPk.dst, .int .i64 zeroPk.proto, .int .i64 zeroPk.a, .int .i64 zeroPk.b, .int .i64 zeroPk.kind, .int .i64 zeroPk.flags, .int .i64 zeroPk.seq, .int .i64 zeroPk.ack, .string zeroPk.body, .int .i64 (1)]) (by simp [results, Tryz.results33, go_sem, zeroPk, *]) rfl ⟨rfl, ?_⟩
    repeat (refine below_at ?_ (by omega))
    exact hL1.out
  cases he : errorB p
  · cases ht : rightT t
    · have hB : withB p t = false := by unfold withB; rw [hr, he, ht]; rfl
      rw [withP_no hB, withC_no hB]
      clear hB
      have hGP0 : Hid ((((w.alloc (.cells #[.int .i64 p.src, .int .i64 p.dst, .int .i64 p.proto, .int .i64 p.a, .int .i64 p.b, .int .i64 p.kind, .int .i64 p.flags, .int .i64 p.seq, .int .i64 p.ack, .string p.body] 24)).alloc (.cells #[.int .i64 t.proto, .int .i64 t.src, .int .i64 t.sport, .int .i64 t.dst, .int .i64 t.dport, .int .i64 t.kind] 40)).alloc (.cells #[.int .i64 0, .int .i64 0, .int .i64 0, .int .i64 0, .int .i64 0, .int .i64 0, .int .i64 0, .int .i64 0, .int .i64 0, .string ⟨#[]⟩, .int .i64 0] 29)).heap[w.heap.size]? = some (.cells #[.int .i64 p.src, .int .i64 p.dst, .int .i64 p.proto, .int .i64 p.a, .int .i64 p.b, .int .i64 p.kind, .int .i64 p.flags, .int .i64 p.seq, .int .i64 p.ack, .string p.body] 24)) := by
        show _ = _
        have := blk_alloc (blk_alloc (heap_newG w (.cells #[.int .i64 p.src, .int .i64 p.dst, .int .i64 p.proto, .int .i64 p.a, .int .i64 p.b, .int .i64 p.kind, .int .i64 p.flags, .int .i64 p.seq, .int .i64 p.ack, .string p.body] 24)) (.cells #[.int .i64 t.proto, .int .i64 t.src, .int .i64 t.sport, .int .i64 t.dst, .int .i64 t.dport, .int .i64 t.kind] 40)) (.cells #[.int .i64 0, .int .i64 0, .int .i64 0, .int .i64 0, .int .i64 0, .int .i64 0, .int .i64 0, .int .i64 0, .int .i64 0, .string ⟨#[]⟩, .int .i64 0] 29)
        simpa using this
      have hGT0 : Hid ((((w.alloc (.cells #[.int .i64 p.src, .int .i64 p.dst, .int .i64 p.proto, .int .i64 p.a, .int .i64 p.b, .int .i64 p.kind, .int .i64 p.flags, .int .i64 p.seq, .int .i64 p.ack, .string p.body] 24)).alloc (.cells #[.int .i64 t.proto, .int .i64 t.src, .int .i64 t.sport, .int .i64 t.dst, .int .i64 t.dport, .int .i64 t.kind] 40)).alloc (.cells #[.int .i64 0, .int .i64 0, .int .i64 0, .int .i64 0, .int .i64 0, .int .i64 0, .int .i64 0, .int .i64 0, .int .i64 0, .string ⟨#[]⟩, .int .i64 0] 29)).heap[w.heap.size + 1]? = some (.cells #[.int .i64 t.proto, .int .i64 t.src, .int .i64 t.sport, .int .i64 t.dst, .int .i64 t.dport, .int .i64 t.kind] 40)) := by
        show _ = _
        have := blk_alloc (heap_newG (w.alloc (.cells #[.int .i64 p.src, .int .i64 p.dst, .int .i64 p.proto, .int .i64 p.a, .int .i64 p.b, .int .i64 p.kind, .int .i64 p.flags, .int .i64 p.seq, .int .i64 p.ack, .string p.body] 24)) (.cells #[.int .i64 t.proto, .int .i64 t.src, .int .i64 t.sport, .int .i64 t.dst, .int .i64 t.dport, .int .i64 t.kind] 40)) (.cells #[.int .i64 0, .int .i64 0, .int .i64 0, .int .i64 0, .int .i64 0, .int .i64 0, .int .i64 0, .int .i64 0, .int .i64 0, .string ⟨#[]⟩, .int .i64 0] 29)
        simpa using this
      have hGR0 : Hid ((((w.alloc (.cells #[.int .i64 p.src, .int .i64 p.dst, .int .i64 p.proto, .int .i64 p.a, .int .i64 p.b, .int .i64 p.kind, .int .i64 p.flags, .int .i64 p.seq, .int .i64 p.ack, .string p.body] 24)).alloc (.cells #[.int .i64 t.proto, .int .i64 t.src, .int .i64 t.sport, .int .i64 t.dst, .int .i64 t.dport, .int .i64 t.kind] 40)).alloc (.cells #[.int .i64 0, .int .i64 0, .int .i64 0, .int .i64 0, .int .i64 0, .int .i64 0, .int .i64 0, .int .i64 0, .int .i64 0, .string ⟨#[]⟩, .int .i64 0] 29)).heap[w.heap.size + 2]? = some (.cells #[.int .i64 0, .int .i64 0, .int .i64 0, .int .i64 0, .int .i64 0, .int .i64 0, .int .i64 0, .int .i64 0, .int .i64 0, .string ⟨#[]⟩, .int .i64 0] 29)) := by
        show _ = _
        have := heap_newG ((w.alloc (.cells #[.int .i64 p.src, .int .i64 p.dst, .int .i64 p.proto, .int .i64 p.a, .int .i64 p.b, .int .i64 p.kind, .int .i64 p.flags, .int .i64 p.seq, .int .i64 p.ack, .string p.body] 24)).alloc (.cells #[.int .i64 t.proto, .int .i64 t.src, .int .i64 t.sport, .int .i64 t.dst, .int .i64 t.dport, .int .i64 t.kind] 40)) (.cells #[.int .i64 0, .int .i64 0, .int .i64 0, .int .i64 0, .int .i64 0, .int .i64 0, .int .i64 0, .int .i64 0, .int .i64 0, .string ⟨#[]⟩, .int .i64 0] 29)
        simpa using this
      have hL0 := hidS ((((Below.refl w.heap.size w).alloc (Nat.le_refl _) (.cells #[.int .i64 p.src, .int .i64 p.dst, .int .i64 p.proto, .int .i64 p.a, .int .i64 p.b, .int .i64 p.kind, .int .i64 p.flags, .int .i64 p.seq, .int .i64 p.ack, .string p.body] 24)).alloc (by simp) (.cells #[.int .i64 t.proto, .int .i64 t.src, .int .i64 t.sport, .int .i64 t.dst, .int .i64 t.dport, .int .i64 t.kind] 40)).alloc (by simp; omega) (.cells #[.int .i64 0, .int .i64 0, .int .i64 0, .int .i64 0, .int .i64 0, .int .i64 0, .int .i64 0, .int .i64 0, .int .i64 0, .string ⟨#[]⟩, .int .i64 0] 29))
      go_enter Tryz.func33, Tryz.ntmps33
      go_wp2_with fail
      refine (HR.out _).mono ?_
      rintro _ w1 ⟨rfl, hb1⟩
      have hGP1 := hidS (blk_later hGP0.out hb1)
      have hGT1 := hidS (blk_later hGT0.out hb1)
      have hGR1 := hidS (blk_later hGR0.out hb1)
      have hL1 := hidS (hL0.out.trans (hb1.mono hL0.out.size))
      clear hb1 hL0 hGP0 hGT0 hGR0
      rw [hr]
      have cP0 := blk_cell hGP1.out 0
      have cP1 := blk_cell hGP1.out 1
      have cP2 := blk_cell hGP1.out 2
      have cP3 := blk_cell hGP1.out 3
      have cP4 := blk_cell hGP1.out 4
      have cP5 := blk_cell hGP1.out 5
      have cP6 := blk_cell hGP1.out 6
      have cP7 := blk_cell hGP1.out 7
      have cP8 := blk_cell hGP1.out 8
      have cP9 := blk_cell hGP1.out 9
      simp at cP0 cP1 cP2 cP3 cP4 cP5 cP6 cP7 cP8 cP9
      go_wp2_with fail
      refine (HE.out _).mono ?_
      rintro _ w2 ⟨rfl, hb2⟩
      clear cP0 cP1 cP2 cP3 cP4 cP5 cP6 cP7 cP8 cP9
      have hGP2 := hidS (blk_later hGP1.out hb2)
      have hGT2 := hidS (blk_later hGT1.out hb2)
      have hGR2 := hidS (blk_later hGR1.out hb2)
      have hL2 := hidS (hL1.out.trans (hb2.mono hL1.out.size))
      clear hb2 hL1 hGP1 hGT1 hGR1
      rw [he]
      have cT0 := blk_cell hGT2.out 0
      have cT1 := blk_cell hGT2.out 1
      have cT2 := blk_cell hGT2.out 2
      have cT3 := blk_cell hGT2.out 3
      have cT4 := blk_cell hGT2.out 4
      have cT5 := blk_cell hGT2.out 5
      simp at cT0 cT1 cT2 cT3 cT4 cT5
      go_wp2_with fail
      refine (HT.out _).mono ?_
      rintro _ w3 ⟨rfl, hb3⟩
      clear cT0 cT1 cT2 cT3 cT4 cT5
      have hGP3 := hidS (blk_later hGP2.out hb3)
      have hGT3 := hidS (blk_later hGT2.out hb3)
      have hGR3 := hidS (blk_later hGR2.out hb3)
      have hL3 := hidS (hL2.out.trans (hb3.mono hL2.out.size))
      clear hb3 hL2 hGP2 hGT2 hGR2
      rw [ht]
      have kR := blk_cell hGR3.out
      have fR := blk_free hGR3.out
      go_wp2_with fail
      refine bodyPost_ret (v := .agg #[.int .i64 zeroPk.src, .int .i64 zeroPk.dst, .int .i64 zeroPk.proto, .int .i64 zeroPk.a, .int .i64 zeroPk.b, .int .i64 zeroPk.kind, .int .i64 zeroPk.flags, .int .i64 zeroPk.seq, .int .i64 zeroPk.ack, .string zeroPk.body, .int .i64 (1)]) (by simp [results, Tryz.results33, go_sem, zeroPk, *]) rfl ⟨rfl, ?_⟩
      repeat (refine below_at ?_ (by omega))
      exact hL3.out
    · by_cases hp : t.proto = p.proto
      · by_cases hk : t.kind = p.kind
        · have hB : withB p t = true := by unfold withB; rw [hr, he, ht, decide_eq_true hp, decide_eq_true hk]; rfl
          rw [withP_yes hB, withC_yes hB]
          have HW := hidS (fun W => l04With_any p t W)
          generalize withT p t = q at *
          have hpn : (t.proto != p.proto) = false := by simp [hp]
          have hkn : (t.kind != p.kind) = false := by simp [hk]
          clear hB hp hk
          have hGP0 : Hid ((((w.alloc (.cells #[.int .i64 p.src, .int .i64 p.dst, .int .i64 p.proto, .int .i64 p.a, .int .i64 p.b, .int .i64 p.kind, .int .i64 p.flags, .int .i64 p.seq, .int .i64 p.ack, .string p.body] 24)).alloc (.cells #[.int .i64 t.proto, .int .i64 t.src, .int .i64 t.sport, .int .i64 t.dst, .int .i64 t.dport, .int .i64 t.kind] 40)).alloc (.cells #[.int .i64 0, .int .i64 0, .int .i64 0, .int .i64 0, .int .i64 0, .int .i64 0, .int .i64 0, .int .i64 0, .int .i64 0, .string ⟨#[]⟩, .int .i64 0] 29)).heap[w.heap.size]? = some (.cells #[.int .i64 p.src, .int .i64 p.dst, .int .i64 p.proto, .int .i64 p.a, .int .i64 p.b, .int .i64 p.kind, .int .i64 p.flags, .int .i64 p.seq, .int .i64 p.ack, .string p.body] 24)) := by
            show _ = _
            have := blk_alloc (blk_alloc (heap_newG w (.cells #[.int .i64 p.src, .int .i64 p.dst, .int .i64 p.proto, .int .i64 p.a, .int .i64 p.b, .int .i64 p.kind, .int .i64 p.flags, .int .i64 p.seq, .int .i64 p.ack, .string p.body] 24)) (.cells #[.int .i64 t.proto, .int .i64 t.src, .int .i64 t.sport, .int .i64 t.dst, .int .i64 t.dport, .int .i64 t.kind] 40)) (.cells #[.int .i64 0, .int .i64 0, .int .i64 0, .int .i64 0, .int .i64 0, .int .i64 0, .int .i64 0, .int .i64 0, .int .i64 0, .string ⟨#[]⟩, .int .i64 0] 29)
            simpa using this
          have hGT0 : Hid ((((w.alloc (.cells #[.int .i64 p.src, .int .i64 p.dst, .int .i64 p.proto, .int .i64 p.a, .int .i64 p.b, .int .i64 p.kind, .int .i64 p.flags, .int .i64 p.seq, .int .i64 p.ack, .string p.body] 24)).alloc (.cells #[.int .i64 t.proto, .int .i64 t.src, .int .i64 t.sport, .int .i64 t.dst, .int .i64 t.dport, .int .i64 t.kind] 40)).alloc (.cells #[.int .i64 0, .int .i64 0, .int .i64 0, .int .i64 0, .int .i64 0, .int .i64 0, .int .i64 0, .int .i64 0, .int .i64 0, .string ⟨#[]⟩, .int .i64 0] 29)).heap[w.heap.size + 1]? = some (.cells #[.int .i64 t.proto, .int .i64 t.src, .int .i64 t.sport, .int .i64 t.dst, .int .i64 t.dport, .int .i64 t.kind] 40)) := by
            show _ = _
            have := blk_alloc (heap_newG (w.alloc (.cells #[.int .i64 p.src, .int .i64 p.dst, .int .i64 p.proto, .int .i64 p.a, .int .i64 p.b, .int .i64 p.kind, .int .i64 p.flags, .int .i64 p.seq, .int .i64 p.ack, .string p.body] 24)) (.cells #[.int .i64 t.proto, .int .i64 t.src, .int .i64 t.sport, .int .i64 t.dst, .int .i64 t.dport, .int .i64 t.kind] 40)) (.cells #[.int .i64 0, .int .i64 0, .int .i64 0, .int .i64 0, .int .i64 0, .int .i64 0, .int .i64 0, .int .i64 0, .int .i64 0, .string ⟨#[]⟩, .int .i64 0] 29)
            simpa using this
          have hGR0 : Hid ((((w.alloc (.cells #[.int .i64 p.src, .int .i64 p.dst, .int .i64 p.proto, .int .i64 p.a, .int .i64 p.b, .int .i64 p.kind, .int .i64 p.flags, .int .i64 p.seq, .int .i64 p.ack, .string p.body] 24)).alloc (.cells #[.int .i64 t.proto, .int .i64 t.src, .int .i64 t.sport, .int .i64 t.dst, .int .i64 t.dport, .int .i64 t.kind] 40)).alloc (.cells #[.int .i64 0, .int .i64 0, .int .i64 0, .int .i64 0, .int .i64 0, .int .i64 0, .int .i64 0, .int .i64 0, .int .i64 0, .string ⟨#[]⟩, .int .i64 0] 29)).heap[w.heap.size + 2]? = some (.cells #[.int .i64 0, .int .i64 0, .int .i64 0, .int .i64 0, .int .i64 0, .int .i64 0, .int .i64 0, .int .i64 0, .int .i64 0, .string ⟨#[]⟩, .int .i64 0] 29)) := by
            show _ = _
            have := heap_newG ((w.alloc (.cells #[.int .i64 p.src, .int .i64 p.dst, .int .i64 p.proto, .int .i64 p.a, .int .i64 p.b, .int .i64 p.kind, .int .i64 p.flags, .int .i64 p.seq, .int .i64 p.ack, .string p.body] 24)).alloc (.cells #[.int .i64 t.proto, .int .i64 t.src, .int .i64 t.sport, .int .i64 t.dst, .int .i64 t.dport, .int .i64 t.kind] 40)) (.cells #[.int .i64 0, .int .i64 0, .int .i64 0, .int .i64 0, .int .i64 0, .int .i64 0, .int .i64 0, .int .i64 0, .int .i64 0, .string ⟨#[]⟩, .int .i64 0] 29)
            simpa using this
          have hL0 := hidS ((((Below.refl w.heap.size w).alloc (Nat.le_refl _) (.cells #[.int .i64 p.src, .int .i64 p.dst, .int .i64 p.proto, .int .i64 p.a, .int .i64 p.b, .int .i64 p.kind, .int .i64 p.flags, .int .i64 p.seq, .int .i64 p.ack, .string p.body] 24)).alloc (by simp) (.cells #[.int .i64 t.proto, .int .i64 t.src, .int .i64 t.sport, .int .i64 t.dst, .int .i64 t.dport, .int .i64 t.kind] 40)).alloc (by simp; omega) (.cells #[.int .i64 0, .int .i64 0, .int .i64 0, .int .i64 0, .int .i64 0, .int .i64 0, .int .i64 0, .int .i64 0, .int .i64 0, .string ⟨#[]⟩, .int .i64 0] 29))
          go_enter Tryz.func33, Tryz.ntmps33
          go_wp2_with fail
          refine (HR.out _).mono ?_
          rintro _ w1 ⟨rfl, hb1⟩
          have hGP1 := hidS (blk_later hGP0.out hb1)
          have hGT1 := hidS (blk_later hGT0.out hb1)
          have hGR1 := hidS (blk_later hGR0.out hb1)
          have hL1 := hidS (hL0.out.trans (hb1.mono hL0.out.size))
          clear hb1 hL0 hGP0 hGT0 hGR0
          rw [hr]
          have cP0 := blk_cell hGP1.out 0
          have cP1 := blk_cell hGP1.out 1
          have cP2 := blk_cell hGP1.out 2
          have cP3 := blk_cell hGP1.out 3
          have cP4 := blk_cell hGP1.out 4
          have cP5 := blk_cell hGP1.out 5
          have cP6 := blk_cell hGP1.out 6
          have cP7 := blk_cell hGP1.out 7
          have cP8 := blk_cell hGP1.out 8
          have cP9 := blk_cell hGP1.out 9
          simp at cP0 cP1 cP2 cP3 cP4 cP5 cP6 cP7 cP8 cP9
          go_wp2_with fail
          refine (HE.out _).mono ?_
          rintro _ w2 ⟨rfl, hb2⟩
          clear cP0 cP1 cP2 cP3 cP4 cP5 cP6 cP7 cP8 cP9
          have hGP2 := hidS (blk_later hGP1.out hb2)
          have hGT2 := hidS (blk_later hGT1.out hb2)
          have hGR2 := hidS (blk_later hGR1.out hb2)
          have hL2 := hidS (hL1.out.trans (hb2.mono hL1.out.size))
          clear hb2 hL1 hGP1 hGT1 hGR1
          rw [he]
          have cT0 := blk_cell hGT2.out 0
          have cT1 := blk_cell hGT2.out 1
          have cT2 := blk_cell hGT2.out 2
          have cT3 := blk_cell hGT2.out 3
          have cT4 := blk_cell hGT2.out 4
          have cT5 := blk_cell hGT2.out 5
          simp at cT0 cT1 cT2 cT3 cT4 cT5
          go_wp2_with fail
          refine (HT.out _).mono ?_
          rintro _ w3 ⟨rfl, hb3⟩
          clear cT0 cT1 cT2 cT3 cT4 cT5
          have hGP3 := hidS (blk_later hGP2.out hb3)
          have hGT3 := hidS (blk_later hGT2.out hb3)
          have hGR3 := hidS (blk_later hGR2.out hb3)
          have hL3 := hidS (hL2.out.trans (hb3.mono hL2.out.size))
          clear hb3 hL2 hGP2 hGT2 hGR2
          rw [ht]
          have cP0 := blk_cell hGP3.out 0
          have cP1 := blk_cell hGP3.out 1
          have cP2 := blk_cell hGP3.out 2
          have cP3 := blk_cell hGP3.out 3
          have cP4 := blk_cell hGP3.out 4
          have cP5 := blk_cell hGP3.out 5
          have cP6 := blk_cell hGP3.out 6
          have cP7 := blk_cell hGP3.out 7
          have cP8 := blk_cell hGP3.out 8
          have cP9 := blk_cell hGP3.out 9
          simp at cP0 cP1 cP2 cP3 cP4 cP5 cP6 cP7 cP8 cP9
          have cT0 := blk_cell hGT3.out 0
          have cT1 := blk_cell hGT3.out 1
          have cT2 := blk_cell hGT3.out 2
          have cT3 := blk_cell hGT3.out 3
          have cT4 := blk_cell hGT3.out 4
          have cT5 := blk_cell hGT3.out 5
          simp at cT0 cT1 cT2 cT3 cT4 cT5
          go_wp2_with fail
          refine (HW.out _).mono ?_
          rintro _ w4 ⟨rfl, hb4⟩
          clear cP0 cP1 cP2 cP3 cP4 cP5 cP6 cP7 cP8 cP9 cT0 cT1 cT2 cT3 cT4 cT5
          have hGP4 := hidS (blk_later hGP3.out hb4)
          have hGT4 := hidS (blk_later hGT3.out hb4)
          have hGR4 := hidS (blk_later hGR3.out hb4)
          have hL4 := hidS (hL3.out.trans (hb4.mono hL3.out.size))
          clear hb4 hL3 hGP3 hGT3 hGR3
          have kR := blk_cell hGR4.out
          have fR := blk_free hGR4.out
          go_wp2_with fail
          refine bodyPost_ret (v := .agg #[.int .i64 q.src, .int .i64 q.dst, .int .i64 q.proto, .int .i64 q.a, .int .i64 q.b, .int .i64 q.kind, .int .i64 q.flags, .int .i64 q.seq, .int .i64 q.ack, .string q.body, .int .i64 (0)]) (by simp [results, Tryz.results33, go_sem, *]) rfl ⟨rfl, ?_⟩
          repeat (refine below_at ?_ (by omega))
          exact hL4.out
        · have hB : withB p t = false := by unfold withB; rw [hr, he, ht, decide_eq_false hk]; simp
          rw [withP_no hB, withC_no hB]
          clear hB
          have hpn : (t.proto != p.proto) = false := by simp [hp]
          have hkn : (t.kind != p.kind) = true := by simp [hk]
          clear hp hk
          have hGP0 : Hid ((((w.alloc (.cells #[.int .i64 p.src, .int .i64 p.dst, .int .i64 p.proto, .int .i64 p.a, .int .i64 p.b, .int .i64 p.kind, .int .i64 p.flags, .int .i64 p.seq, .int .i64 p.ack, .string p.body] 24)).alloc (.cells #[.int .i64 t.proto, .int .i64 t.src, .int .i64 t.sport, .int .i64 t.dst, .int .i64 t.dport, .int .i64 t.kind] 40)).alloc (.cells #[.int .i64 0, .int .i64 0, .int .i64 0, .int .i64 0, .int .i64 0, .int .i64 0, .int .i64 0, .int .i64 0, .int .i64 0, .string ⟨#[]⟩, .int .i64 0] 29)).heap[w.heap.size]? = some (.cells #[.int .i64 p.src, .int .i64 p.dst, .int .i64 p.proto, .int .i64 p.a, .int .i64 p.b, .int .i64 p.kind, .int .i64 p.flags, .int .i64 p.seq, .int .i64 p.ack, .string p.body] 24)) := by
            show _ = _
            have := blk_alloc (blk_alloc (heap_newG w (.cells #[.int .i64 p.src, .int .i64 p.dst, .int .i64 p.proto, .int .i64 p.a, .int .i64 p.b, .int .i64 p.kind, .int .i64 p.flags, .int .i64 p.seq, .int .i64 p.ack, .string p.body] 24)) (.cells #[.int .i64 t.proto, .int .i64 t.src, .int .i64 t.sport, .int .i64 t.dst, .int .i64 t.dport, .int .i64 t.kind] 40)) (.cells #[.int .i64 0, .int .i64 0, .int .i64 0, .int .i64 0, .int .i64 0, .int .i64 0, .int .i64 0, .int .i64 0, .int .i64 0, .string ⟨#[]⟩, .int .i64 0] 29)
            simpa using this
          have hGT0 : Hid ((((w.alloc (.cells #[.int .i64 p.src, .int .i64 p.dst, .int .i64 p.proto, .int .i64 p.a, .int .i64 p.b, .int .i64 p.kind, .int .i64 p.flags, .int .i64 p.seq, .int .i64 p.ack, .string p.body] 24)).alloc (.cells #[.int .i64 t.proto, .int .i64 t.src, .int .i64 t.sport, .int .i64 t.dst, .int .i64 t.dport, .int .i64 t.kind] 40)).alloc (.cells #[.int .i64 0, .int .i64 0, .int .i64 0, .int .i64 0, .int .i64 0, .int .i64 0, .int .i64 0, .int .i64 0, .int .i64 0, .string ⟨#[]⟩, .int .i64 0] 29)).heap[w.heap.size + 1]? = some (.cells #[.int .i64 t.proto, .int .i64 t.src, .int .i64 t.sport, .int .i64 t.dst, .int .i64 t.dport, .int .i64 t.kind] 40)) := by
            show _ = _
            have := blk_alloc (heap_newG (w.alloc (.cells #[.int .i64 p.src, .int .i64 p.dst, .int .i64 p.proto, .int .i64 p.a, .int .i64 p.b, .int .i64 p.kind, .int .i64 p.flags, .int .i64 p.seq, .int .i64 p.ack, .string p.body] 24)) (.cells #[.int .i64 t.proto, .int .i64 t.src, .int .i64 t.sport, .int .i64 t.dst, .int .i64 t.dport, .int .i64 t.kind] 40)) (.cells #[.int .i64 0, .int .i64 0, .int .i64 0, .int .i64 0, .int .i64 0, .int .i64 0, .int .i64 0, .int .i64 0, .int .i64 0, .string ⟨#[]⟩, .int .i64 0] 29)
            simpa using this
          have hGR0 : Hid ((((w.alloc (.cells #[.int .i64 p.src, .int .i64 p.dst, .int .i64 p.proto, .int .i64 p.a, .int .i64 p.b, .int .i64 p.kind, .int .i64 p.flags, .int .i64 p.seq, .int .i64 p.ack, .string p.body] 24)).alloc (.cells #[.int .i64 t.proto, .int .i64 t.src, .int .i64 t.sport, .int .i64 t.dst, .int .i64 t.dport, .int .i64 t.kind] 40)).alloc (.cells #[.int .i64 0, .int .i64 0, .int .i64 0, .int .i64 0, .int .i64 0, .int .i64 0, .int .i64 0, .int .i64 0, .int .i64 0, .string ⟨#[]⟩, .int .i64 0] 29)).heap[w.heap.size + 2]? = some (.cells #[.int .i64 0, .int .i64 0, .int .i64 0, .int .i64 0, .int .i64 0, .int .i64 0, .int .i64 0, .int .i64 0, .int .i64 0, .string ⟨#[]⟩, .int .i64 0] 29)) := by
            show _ = _
            have := heap_newG ((w.alloc (.cells #[.int .i64 p.src, .int .i64 p.dst, .int .i64 p.proto, .int .i64 p.a, .int .i64 p.b, .int .i64 p.kind, .int .i64 p.flags, .int .i64 p.seq, .int .i64 p.ack, .string p.body] 24)).alloc (.cells #[.int .i64 t.proto, .int .i64 t.src, .int .i64 t.sport, .int .i64 t.dst, .int .i64 t.dport, .int .i64 t.kind] 40)) (.cells #[.int .i64 0, .int .i64 0, .int .i64 0, .int .i64 0, .int .i64 0, .int .i64 0, .int .i64 0, .int .i64 0, .int .i64 0, .string ⟨#[]⟩, .int .i64 0] 29)
            simpa using this
          have hL0 := hidS ((((Below.refl w.heap.size w).alloc (Nat.le_refl _) (.cells #[.int .i64 p.src, .int .i64 p.dst, .int .i64 p.proto, .int .i64 p.a, .int .i64 p.b, .int .i64 p.kind, .int .i64 p.flags, .int .i64 p.seq, .int .i64 p.ack, .string p.body] 24)).alloc (by simp) (.cells #[.int .i64 t.proto, .int .i64 t.src, .int .i64 t.sport, .int .i64 t.dst, .int .i64 t.dport, .int .i64 t.kind] 40)).alloc (by simp; omega) (.cells #[.int .i64 0, .int .i64 0, .int .i64 0, .int .i64 0, .int .i64 0, .int .i64 0, .int .i64 0, .int .i64 0, .int .i64 0, .string ⟨#[]⟩, .int .i64 0] 29))
          go_enter Tryz.func33, Tryz.ntmps33
          go_wp2_with fail
          refine (HR.out _).mono ?_
          rintro _ w1 ⟨rfl, hb1⟩
          have hGP1 := hidS (blk_later hGP0.out hb1)
          have hGT1 := hidS (blk_later hGT0.out hb1)
          have hGR1 := hidS (blk_later hGR0.out hb1)
          have hL1 := hidS (hL0.out.trans (hb1.mono hL0.out.size))
          clear hb1 hL0 hGP0 hGT0 hGR0
          rw [hr]
          have cP0 := blk_cell hGP1.out 0
          have cP1 := blk_cell hGP1.out 1
          have cP2 := blk_cell hGP1.out 2
          have cP3 := blk_cell hGP1.out 3
          have cP4 := blk_cell hGP1.out 4
          have cP5 := blk_cell hGP1.out 5
          have cP6 := blk_cell hGP1.out 6
          have cP7 := blk_cell hGP1.out 7
          have cP8 := blk_cell hGP1.out 8
          have cP9 := blk_cell hGP1.out 9
          simp at cP0 cP1 cP2 cP3 cP4 cP5 cP6 cP7 cP8 cP9
          go_wp2_with fail
          refine (HE.out _).mono ?_
          rintro _ w2 ⟨rfl, hb2⟩
          clear cP0 cP1 cP2 cP3 cP4 cP5 cP6 cP7 cP8 cP9
          have hGP2 := hidS (blk_later hGP1.out hb2)
          have hGT2 := hidS (blk_later hGT1.out hb2)
          have hGR2 := hidS (blk_later hGR1.out hb2)
          have hL2 := hidS (hL1.out.trans (hb2.mono hL1.out.size))
          clear hb2 hL1 hGP1 hGT1 hGR1
          rw [he]
          have cT0 := blk_cell hGT2.out 0
          have cT1 := blk_cell hGT2.out 1
          have cT2 := blk_cell hGT2.out 2
          have cT3 := blk_cell hGT2.out 3
          have cT4 := blk_cell hGT2.out 4
          have cT5 := blk_cell hGT2.out 5
          simp at cT0 cT1 cT2 cT3 cT4 cT5
          go_wp2_with fail
          refine (HT.out _).mono ?_
          rintro _ w3 ⟨rfl, hb3⟩
          clear cT0 cT1 cT2 cT3 cT4 cT5
          have hGP3 := hidS (blk_later hGP2.out hb3)
          have hGT3 := hidS (blk_later hGT2.out hb3)
          have hGR3 := hidS (blk_later hGR2.out hb3)
          have hL3 := hidS (hL2.out.trans (hb3.mono hL2.out.size))
          clear hb3 hL2 hGP2 hGT2 hGR2
          rw [ht]
          have cP0 := blk_cell hGP3.out 0
          have cP1 := blk_cell hGP3.out 1
          have cP2 := blk_cell hGP3.out 2
          have cP3 := blk_cell hGP3.out 3
          have cP4 := blk_cell hGP3.out 4
          have cP5 := blk_cell hGP3.out 5
          have cP6 := blk_cell hGP3.out 6
          have cP7 := blk_cell hGP3.out 7
          have cP8 := blk_cell hGP3.out 8
          have cP9 := blk_cell hGP3.out 9
          simp at cP0 cP1 cP2 cP3 cP4 cP5 cP6 cP7 cP8 cP9
          have cT0 := blk_cell hGT3.out 0
          have cT1 := blk_cell hGT3.out 1
          have cT2 := blk_cell hGT3.out 2
          have cT3 := blk_cell hGT3.out 3
          have cT4 := blk_cell hGT3.out 4
          have cT5 := blk_cell hGT3.out 5
          simp at cT0 cT1 cT2 cT3 cT4 cT5
          have kR := blk_cell hGR3.out
          have fR := blk_free hGR3.out
          go_wp2_with fail
          refine bodyPost_ret (v := .agg #[.int .i64 zeroPk.src, .int .i64 zeroPk.dst, .int .i64 zeroPk.proto, .int .i64 zeroPk.a, .int .i64 zeroPk.b, .int .i64 zeroPk.kind, .int .i64 zeroPk.flags, .int .i64 zeroPk.seq, .int .i64 zeroPk.ack, .string zeroPk.body, .int .i64 (1)]) (by simp [results, Tryz.results33, go_sem, zeroPk, *]) rfl ⟨rfl, ?_⟩
          repeat (refine below_at ?_ (by omega))
          exact hL3.out
      · have hB : withB p t = false := by unfold withB; rw [hr, he, ht, decide_eq_false hp]; simp
        rw [withP_no hB, withC_no hB]
        clear hB
        have hpn : (t.proto != p.proto) = true := by simp [hp]
        clear hp
        have hGP0 : Hid ((((w.alloc (.cells #[.int .i64 p.src, .int .i64 p.dst, .int .i64 p.proto, .int .i64 p.a, .int .i64 p.b, .int .i64 p.kind, .int .i64 p.flags, .int .i64 p.seq, .int .i64 p.ack, .string p.body] 24)).alloc (.cells #[.int .i64 t.proto, .int .i64 t.src, .int .i64 t.sport, .int .i64 t.dst, .int .i64 t.dport, .int .i64 t.kind] 40)).alloc (.cells #[.int .i64 0, .int .i64 0, .int .i64 0, .int .i64 0, .int .i64 0, .int .i64 0, .int .i64 0, .int .i64 0, .int .i64 0, .string ⟨#[]⟩, .int .i64 0] 29)).heap[w.heap.size]? = some (.cells #[.int .i64 p.src, .int .i64 p.dst, .int .i64 p.proto, .int .i64 p.a, .int .i64 p.b, .int .i64 p.kind, .int .i64 p.flags, .int .i64 p.seq, .int .i64 p.ack, .string p.body] 24)) := by
          show _ = _
          have := blk_alloc (blk_alloc (heap_newG w (.cells #[.int .i64 p.src, .int .i64 p.dst, .int .i64 p.proto, .int .i64 p.a, .int .i64 p.b, .int .i64 p.kind, .int .i64 p.flags, .int .i64 p.seq, .int .i64 p.ack, .string p.body] 24)) (.cells #[.int .i64 t.proto, .int .i64 t.src, .int .i64 t.sport, .int .i64 t.dst, .int .i64 t.dport, .int .i64 t.kind] 40)) (.cells #[.int .i64 0, .int .i64 0, .int .i64 0, .int .i64 0, .int .i64 0, .int .i64 0, .int .i64 0, .int .i64 0, .int .i64 0, .string ⟨#[]⟩, .int .i64 0] 29)
          simpa using this
        have hGT0 : Hid ((((w.alloc (.cells #[.int .i64 p.src, .int .i64 p.dst, .int .i64 p.proto, .int .i64 p.a, .int .i64 p.b, .int .i64 p.kind, .int .i64 p.flags, .int .i64 p.seq, .int .i64 p.ack, .string p.body] 24)).alloc (.cells #[.int .i64 t.proto, .int .i64 t.src, .int .i64 t.sport, .int .i64 t.dst, .int .i64 t.dport, .int .i64 t.kind] 40)).alloc (.cells #[.int .i64 0, .int .i64 0, .int .i64 0, .int .i64 0, .int .i64 0, .int .i64 0, .int .i64 0, .int .i64 0, .int .i64 0, .string ⟨#[]⟩, .int .i64 0] 29)).heap[w.heap.size + 1]? = some (.cells #[.int .i64 t.proto, .int .i64 t.src, .int .i64 t.sport, .int .i64 t.dst, .int .i64 t.dport, .int .i64 t.kind] 40)) := by
          show _ = _
          have := blk_alloc (heap_newG (w.alloc (.cells #[.int .i64 p.src, .int .i64 p.dst, .int .i64 p.proto, .int .i64 p.a, .int .i64 p.b, .int .i64 p.kind, .int .i64 p.flags, .int .i64 p.seq, .int .i64 p.ack, .string p.body] 24)) (.cells #[.int .i64 t.proto, .int .i64 t.src, .int .i64 t.sport, .int .i64 t.dst, .int .i64 t.dport, .int .i64 t.kind] 40)) (.cells #[.int .i64 0, .int .i64 0, .int .i64 0, .int .i64 0, .int .i64 0, .int .i64 0, .int .i64 0, .int .i64 0, .int .i64 0, .string ⟨#[]⟩, .int .i64 0] 29)
          simpa using this
        have hGR0 : Hid ((((w.alloc (.cells #[.int .i64 p.src, .int .i64 p.dst, .int .i64 p.proto, .int .i64 p.a, .int .i64 p.b, .int .i64 p.kind, .int .i64 p.flags, .int .i64 p.seq, .int .i64 p.ack, .string p.body] 24)).alloc (.cells #[.int .i64 t.proto, .int .i64 t.src, .int .i64 t.sport, .int .i64 t.dst, .int .i64 t.dport, .int .i64 t.kind] 40)).alloc (.cells #[.int .i64 0, .int .i64 0, .int .i64 0, .int .i64 0, .int .i64 0, .int .i64 0, .int .i64 0, .int .i64 0, .int .i64 0, .string ⟨#[]⟩, .int .i64 0] 29)).heap[w.heap.size + 2]? = some (.cells #[.int .i64 0, .int .i64 0, .int .i64 0, .int .i64 0, .int .i64 0, .int .i64 0, .int .i64 0, .int .i64 0, .int .i64 0, .string ⟨#[]⟩, .int .i64 0] 29)) := by
          show _ = _
          have := heap_newG ((w.alloc (.cells #[.int .i64 p.src, .int .i64 p.dst, .int .i64 p.proto, .int .i64 p.a, .int .i64 p.b, .int .i64 p.kind, .int .i64 p.flags, .int .i64 p.seq, .int .i64 p.ack, .string p.body] 24)).alloc (.cells #[.int .i64 t.proto, .int .i64 t.src, .int .i64 t.sport, .int .i64 t.dst, .int .i64 t.dport, .int .i64 t.kind] 40)) (.cells #[.int .i64 0, .int .i64 0, .int .i64 0, .int .i64 0, .int .i64 0, .int .i64 0, .int .i64 0, .int .i64 0, .int .i64 0, .string ⟨#[]⟩, .int .i64 0] 29)
          simpa using this
        have hL0 := hidS ((((Below.refl w.heap.size w).alloc (Nat.le_refl _) (.cells #[.int .i64 p.src, .int .i64 p.dst, .int .i64 p.proto, .int .i64 p.a, .int .i64 p.b, .int .i64 p.kind, .int .i64 p.flags, .int .i64 p.seq, .int .i64 p.ack, .string p.body] 24)).alloc (by simp) (.cells #[.int .i64 t.proto, .int .i64 t.src, .int .i64 t.sport, .int .i64 t.dst, .int .i64 t.dport, .int .i64 t.kind] 40)).alloc (by simp; omega) (.cells #[.int .i64 0, .int .i64 0, .int .i64 0, .int .i64 0, .int .i64 0, .int .i64 0, .int .i64 0, .int .i64 0, .int .i64 0, .string ⟨#[]⟩, .int .i64 0] 29))
        go_enter Tryz.func33, Tryz.ntmps33
        go_wp2_with fail
        refine (HR.out _).mono ?_
        rintro _ w1 ⟨rfl, hb1⟩
        have hGP1 := hidS (blk_later hGP0.out hb1)
        have hGT1 := hidS (blk_later hGT0.out hb1)
        have hGR1 := hidS (blk_later hGR0.out hb1)
        have hL1 := hidS (hL0.out.trans (hb1.mono hL0.out.size))
        clear hb1 hL0 hGP0 hGT0 hGR0
        rw [hr]
        have cP0 := blk_cell hGP1.out 0
        have cP1 := blk_cell hGP1.out 1
        have cP2 := blk_cell hGP1.out 2
        have cP3 := blk_cell hGP1.out 3
        have cP4 := blk_cell hGP1.out 4
        have cP5 := blk_cell hGP1.out 5
        have cP6 := blk_cell hGP1.out 6
        have cP7 := blk_cell hGP1.out 7
        have cP8 := blk_cell hGP1.out 8
        have cP9 := blk_cell hGP1.out 9
        simp at cP0 cP1 cP2 cP3 cP4 cP5 cP6 cP7 cP8 cP9
        go_wp2_with fail
        refine (HE.out _).mono ?_
        rintro _ w2 ⟨rfl, hb2⟩
        clear cP0 cP1 cP2 cP3 cP4 cP5 cP6 cP7 cP8 cP9
        have hGP2 := hidS (blk_later hGP1.out hb2)
        have hGT2 := hidS (blk_later hGT1.out hb2)
        have hGR2 := hidS (blk_later hGR1.out hb2)
        have hL2 := hidS (hL1.out.trans (hb2.mono hL1.out.size))
        clear hb2 hL1 hGP1 hGT1 hGR1
        rw [he]
        have cT0 := blk_cell hGT2.out 0
        have cT1 := blk_cell hGT2.out 1
        have cT2 := blk_cell hGT2.out 2
        have cT3 := blk_cell hGT2.out 3
        have cT4 := blk_cell hGT2.out 4
        have cT5 := blk_cell hGT2.out 5
        simp at cT0 cT1 cT2 cT3 cT4 cT5
        go_wp2_with fail
        refine (HT.out _).mono ?_
        rintro _ w3 ⟨rfl, hb3⟩
        clear cT0 cT1 cT2 cT3 cT4 cT5
        have hGP3 := hidS (blk_later hGP2.out hb3)
        have hGT3 := hidS (blk_later hGT2.out hb3)
        have hGR3 := hidS (blk_later hGR2.out hb3)
        have hL3 := hidS (hL2.out.trans (hb3.mono hL2.out.size))
        clear hb3 hL2 hGP2 hGT2 hGR2
        rw [ht]
        have cP0 := blk_cell hGP3.out 0
        have cP1 := blk_cell hGP3.out 1
        have cP2 := blk_cell hGP3.out 2
        have cP3 := blk_cell hGP3.out 3
        have cP4 := blk_cell hGP3.out 4
        have cP5 := blk_cell hGP3.out 5
        have cP6 := blk_cell hGP3.out 6
        have cP7 := blk_cell hGP3.out 7
        have cP8 := blk_cell hGP3.out 8
        have cP9 := blk_cell hGP3.out 9
        simp at cP0 cP1 cP2 cP3 cP4 cP5 cP6 cP7 cP8 cP9
        have cT0 := blk_cell hGT3.out 0
        have cT1 := blk_cell hGT3.out 1
        have cT2 := blk_cell hGT3.out 2
        have cT3 := blk_cell hGT3.out 3
        have cT4 := blk_cell hGT3.out 4
        have cT5 := blk_cell hGT3.out 5
        simp at cT0 cT1 cT2 cT3 cT4 cT5
        have kR := blk_cell hGR3.out
        have fR := blk_free hGR3.out
        go_wp2_with fail
        refine bodyPost_ret (v := .agg #[.int .i64 zeroPk.src, .int .i64 zeroPk.dst, .int .i64 zeroPk.proto, .int .i64 zeroPk.a, .int .i64 zeroPk.b, .int .i64 zeroPk.kind, .int .i64 zeroPk.flags, .int .i64 zeroPk.seq, .int .i64 zeroPk.ack, .string zeroPk.body, .int .i64 (1)]) (by simp [results, Tryz.results33, go_sem, zeroPk, *]) rfl ⟨rfl, ?_⟩
        repeat (refine below_at ?_ (by omega))
        exact hL3.out
  · have hB : withB p t = false := by unfold withB; rw [hr, he]; rfl
    rw [withP_no hB, withC_no hB]
    clear hB
    have hGP0 : Hid ((((w.alloc (.cells #[.int .i64 p.src, .int .i64 p.dst, .int .i64 p.proto, .int .i64 p.a, .int .i64 p.b, .int .i64 p.kind, .int .i64 p.flags, .int .i64 p.seq, .int .i64 p.ack, .string p.body] 24)).alloc (.cells #[.int .i64 t.proto, .int .i64 t.src, .int .i64 t.sport, .int .i64 t.dst, .int .i64 t.dport, .int .i64 t.kind] 40)).alloc (.cells #[.int .i64 0, .int .i64 0, .int .i64 0, .int .i64 0, .int .i64 0, .int .i64 0, .int .i64 0, .int .i64 0, .int .i64 0, .string ⟨#[]⟩, .int .i64 0] 29)).heap[w.heap.size]? = some (.cells #[.int .i64 p.src, .int .i64 p.dst, .int .i64 p.proto, .int .i64 p.a, .int .i64 p.b, .int .i64 p.kind, .int .i64 p.flags, .int .i64 p.seq, .int .i64 p.ack, .string p.body] 24)) := by
      show _ = _
      have := blk_alloc (blk_alloc (heap_newG w (.cells #[.int .i64 p.src, .int .i64 p.dst, .int .i64 p.proto, .int .i64 p.a, .int .i64 p.b, .int .i64 p.kind, .int .i64 p.flags, .int .i64 p.seq, .int .i64 p.ack, .string p.body] 24)) (.cells #[.int .i64 t.proto, .int .i64 t.src, .int .i64 t.sport, .int .i64 t.dst, .int .i64 t.dport, .int .i64 t.kind] 40)) (.cells #[.int .i64 0, .int .i64 0, .int .i64 0, .int .i64 0, .int .i64 0, .int .i64 0, .int .i64 0, .int .i64 0, .int .i64 0, .string ⟨#[]⟩, .int .i64 0] 29)
      simpa using this
    have hGT0 : Hid ((((w.alloc (.cells #[.int .i64 p.src, .int .i64 p.dst, .int .i64 p.proto, .int .i64 p.a, .int .i64 p.b, .int .i64 p.kind, .int .i64 p.flags, .int .i64 p.seq, .int .i64 p.ack, .string p.body] 24)).alloc (.cells #[.int .i64 t.proto, .int .i64 t.src, .int .i64 t.sport, .int .i64 t.dst, .int .i64 t.dport, .int .i64 t.kind] 40)).alloc (.cells #[.int .i64 0, .int .i64 0, .int .i64 0, .int .i64 0, .int .i64 0, .int .i64 0, .int .i64 0, .int .i64 0, .int .i64 0, .string ⟨#[]⟩, .int .i64 0] 29)).heap[w.heap.size + 1]? = some (.cells #[.int .i64 t.proto, .int .i64 t.src, .int .i64 t.sport, .int .i64 t.dst, .int .i64 t.dport, .int .i64 t.kind] 40)) := by
      show _ = _
      have := blk_alloc (heap_newG (w.alloc (.cells #[.int .i64 p.src, .int .i64 p.dst, .int .i64 p.proto, .int .i64 p.a, .int .i64 p.b, .int .i64 p.kind, .int .i64 p.flags, .int .i64 p.seq, .int .i64 p.ack, .string p.body] 24)) (.cells #[.int .i64 t.proto, .int .i64 t.src, .int .i64 t.sport, .int .i64 t.dst, .int .i64 t.dport, .int .i64 t.kind] 40)) (.cells #[.int .i64 0, .int .i64 0, .int .i64 0, .int .i64 0, .int .i64 0, .int .i64 0, .int .i64 0, .int .i64 0, .int .i64 0, .string ⟨#[]⟩, .int .i64 0] 29)
      simpa using this
    have hGR0 : Hid ((((w.alloc (.cells #[.int .i64 p.src, .int .i64 p.dst, .int .i64 p.proto, .int .i64 p.a, .int .i64 p.b, .int .i64 p.kind, .int .i64 p.flags, .int .i64 p.seq, .int .i64 p.ack, .string p.body] 24)).alloc (.cells #[.int .i64 t.proto, .int .i64 t.src, .int .i64 t.sport, .int .i64 t.dst, .int .i64 t.dport, .int .i64 t.kind] 40)).alloc (.cells #[.int .i64 0, .int .i64 0, .int .i64 0, .int .i64 0, .int .i64 0, .int .i64 0, .int .i64 0, .int .i64 0, .int .i64 0, .string ⟨#[]⟩, .int .i64 0] 29)).heap[w.heap.size + 2]? = some (.cells #[.int .i64 0, .int .i64 0, .int .i64 0, .int .i64 0, .int .i64 0, .int .i64 0, .int .i64 0, .int .i64 0, .int .i64 0, .string ⟨#[]⟩, .int .i64 0] 29)) := by
      show _ = _
      have := heap_newG ((w.alloc (.cells #[.int .i64 p.src, .int .i64 p.dst, .int .i64 p.proto, .int .i64 p.a, .int .i64 p.b, .int .i64 p.kind, .int .i64 p.flags, .int .i64 p.seq, .int .i64 p.ack, .string p.body] 24)).alloc (.cells #[.int .i64 t.proto, .int .i64 t.src, .int .i64 t.sport, .int .i64 t.dst, .int .i64 t.dport, .int .i64 t.kind] 40)) (.cells #[.int .i64 0, .int .i64 0, .int .i64 0, .int .i64 0, .int .i64 0, .int .i64 0, .int .i64 0, .int .i64 0, .int .i64 0, .string ⟨#[]⟩, .int .i64 0] 29)
      simpa using this
    have hL0 := hidS ((((Below.refl w.heap.size w).alloc (Nat.le_refl _) (.cells #[.int .i64 p.src, .int .i64 p.dst, .int .i64 p.proto, .int .i64 p.a, .int .i64 p.b, .int .i64 p.kind, .int .i64 p.flags, .int .i64 p.seq, .int .i64 p.ack, .string p.body] 24)).alloc (by simp) (.cells #[.int .i64 t.proto, .int .i64 t.src, .int .i64 t.sport, .int .i64 t.dst, .int .i64 t.dport, .int .i64 t.kind] 40)).alloc (by simp; omega) (.cells #[.int .i64 0, .int .i64 0, .int .i64 0, .int .i64 0, .int .i64 0, .int .i64 0, .int .i64 0, .int .i64 0, .int .i64 0, .string ⟨#[]⟩, .int .i64 0] 29))
    go_enter Tryz.func33, Tryz.ntmps33
    go_wp2_with fail
    refine (HR.out _).mono ?_
    rintro _ w1 ⟨rfl, hb1⟩
    have hGP1 := hidS (blk_later hGP0.out hb1)
    have hGT1 := hidS (blk_later hGT0.out hb1)
    have hGR1 := hidS (blk_later hGR0.out hb1)
    have hL1 := hidS (hL0.out.trans (hb1.mono hL0.out.size))
    clear hb1 hL0 hGP0 hGT0 hGR0
    rw [hr]
    have cP0 := blk_cell hGP1.out 0
    have cP1 := blk_cell hGP1.out 1
    have cP2 := blk_cell hGP1.out 2
    have cP3 := blk_cell hGP1.out 3
    have cP4 := blk_cell hGP1.out 4
    have cP5 := blk_cell hGP1.out 5
    have cP6 := blk_cell hGP1.out 6
    have cP7 := blk_cell hGP1.out 7
    have cP8 := blk_cell hGP1.out 8
    have cP9 := blk_cell hGP1.out 9
    simp at cP0 cP1 cP2 cP3 cP4 cP5 cP6 cP7 cP8 cP9
    go_wp2_with fail
    refine (HE.out _).mono ?_
    rintro _ w2 ⟨rfl, hb2⟩
    clear cP0 cP1 cP2 cP3 cP4 cP5 cP6 cP7 cP8 cP9
    have hGP2 := hidS (blk_later hGP1.out hb2)
    have hGT2 := hidS (blk_later hGT1.out hb2)
    have hGR2 := hidS (blk_later hGR1.out hb2)
    have hL2 := hidS (hL1.out.trans (hb2.mono hL1.out.size))
    clear hb2 hL1 hGP1 hGT1 hGR1
    rw [he]
    have kR := blk_cell hGR2.out
    have fR := blk_free hGR2.out
    go_wp2_with fail
    refine bodyPost_ret (v := .agg #[.int .i64 zeroPk.src, .int .i64 zeroPk.dst, .int .i64 zeroPk.proto, .int .i64 zeroPk.a, .int .i64 zeroPk.b, .int .i64 zeroPk.kind, .int .i64 zeroPk.flags, .int .i64 zeroPk.seq, .int .i64 zeroPk.ack, .string zeroPk.body, .int .i64 (1)]) (by simp [results, Tryz.results33, go_sem, zeroPk, *]) rfl ⟨rfl, ?_⟩
    repeat (refine below_at ?_ (by omega))
    exact hL2.out
end Go.Proofs.YtedknnkdnccfmaaGreatDoor
