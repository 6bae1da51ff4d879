/- Proved here: impl.isError, impl.tellError and impl.ErrorOf answer as they are to; all old memory stays (conditions: the body is a string; the four package variables hold four errors). -/
import Derived.Test.YtokjhfgbnpdfnaaDoorErrSpec
import Derived.Test.YtokjhfgbnpdfnaaDoorAll36
import Derived.Test.YtokjhfgbnpdfnaaDoorAll33
import Derived.Test.YtokjhfgbnpdfnaaDoorPackAns
import Derived.Test.YtokjhfgbnpdfnaaDoorClone
namespace Go.Proofs.YtokjhfgbnpdfnaaDoor
open Go.ChangeShapes Go.WideShapes Go.ChangeAt Go.RowKit
open Go.ChangeMaps (open_string shut_string)
set_option linter.unusedVariables false
set_option maxRecDepth 100000

theorem sent_allocE {aF aS aY aM : Addr} {w : World} (h : Sent aF aS aY aM w) (o : Obj) : Sent aF aS aY aM (w.alloc o) := h.later ((Below.refl _ _).alloc (Nat.le_refl _) o)
theorem bytesOf_sm {p : Pk} (h : Fine p) : (bytesOf p).size ≤ 140 := by
  unfold bytesOf
  rw [ByteArray.size_append, headT_size]
  have := h.small (checkT p).toNat
  omega
theorem bytesAns_of {p : Pk} (h : rightB p = true) : bytesAns p = bytesOf p := if_pos h
set_option maxHeartbeats 2000000 in
theorem tell_no {aF aS aY aM : Addr} (p : Pk) (f : Int) (w : World) (hs : p.body.size ≤ maxLen) (hS : Sent aF aS aY aM w) (h : errB p f = false) :
    Calls Tryd.prog 35 #[.agg #[.int .i64 p.src, .int .i64 p.dst, .int .i64 p.proto, .int .i64 p.a, .int .i64 p.b, .int .i64 p.kind, .int .i64 p.flags, .int .i64 p.seq, .int .i64 p.ack, .string p.body], .int .i64 f] w fun e w' => e = .returned (.tuple #[.agg #[.int .i64 zeroPk.src, .int .i64 zeroPk.dst, .int .i64 zeroPk.proto, .int .i64 zeroPk.a, .int .i64 zeroPk.b, .int .i64 zeroPk.kind, .int .i64 zeroPk.flags, .int .i64 zeroPk.seq, .int .i64 zeroPk.ack, .string zeroPk.body], .iface 141 (.pointer (some aF))]) ∧ Below w.heap.size w w' := by
  have HR := hidS (fun W => implRight_any p W hs)
  have HI := hidS (fun W => isError_any p W)
  have hlt0 : 1 < w.heap.size := World.block_lt_of_cell? w _ hS.cF
  have hS0 := hidS (sent_allocE (sent_allocE hS (.cells #[.int .i64 p.src, .int .i64 p.dst, .int .i64 p.proto, .int .i64 p.a, .int .i64 p.b, .int .i64 p.kind, .int .i64 p.flags, .int .i64 p.seq, .int .i64 p.ack, .string p.body] 35)) (.cells #[.int .i64 0, .int .i64 0, .int .i64 0, .int .i64 0, .int .i64 0, .int .i64 0, .int .i64 0, .int .i64 0, .int .i64 0, .string ⟨#[]⟩] 35))
  have hP0 := hidS (blk_alloc (heap_newG w (.cells #[.int .i64 p.src, .int .i64 p.dst, .int .i64 p.proto, .int .i64 p.a, .int .i64 p.b, .int .i64 p.kind, .int .i64 p.flags, .int .i64 p.seq, .int .i64 p.ack, .string p.body] 35)) (.cells #[.int .i64 0, .int .i64 0, .int .i64 0, .int .i64 0, .int .i64 0, .int .i64 0, .int .i64 0, .int .i64 0, .int .i64 0, .string ⟨#[]⟩] 35))
  have hG0' : ((w.alloc (.cells #[.int .i64 p.src, .int .i64 p.dst, .int .i64 p.proto, .int .i64 p.a, .int .i64 p.b, .int .i64 p.kind, .int .i64 p.flags, .int .i64 p.seq, .int .i64 p.ack, .string p.body] 35)).alloc (.cells #[.int .i64 0, .int .i64 0, .int .i64 0, .int .i64 0, .int .i64 0, .int .i64 0, .int .i64 0, .int .i64 0, .int .i64 0, .string ⟨#[]⟩] 35)).heap[w.heap.size + 1]? = some (.cells #[.int .i64 0, .int .i64 0, .int .i64 0, .int .i64 0, .int .i64 0, .int .i64 0, .int .i64 0, .int .i64 0, .int .i64 0, .string ⟨#[]⟩] 35) := by
    have := heap_newG (w.alloc (.cells #[.int .i64 p.src, .int .i64 p.dst, .int .i64 p.proto, .int .i64 p.a, .int .i64 p.b, .int .i64 p.kind, .int .i64 p.flags, .int .i64 p.seq, .int .i64 p.ack, .string p.body] 35)) (.cells #[.int .i64 0, .int .i64 0, .int .i64 0, .int .i64 0, .int .i64 0, .int .i64 0, .int .i64 0, .int .i64 0, .int .i64 0, .string ⟨#[]⟩] 35)
    simpa using this
  have hG0 := hidS hG0'
  clear hG0'
  have hL0 := hidS (((Below.refl w.heap.size w).alloc (Nat.le_refl _) (.cells #[.int .i64 p.src, .int .i64 p.dst, .int .i64 p.proto, .int .i64 p.a, .int .i64 p.b, .int .i64 p.kind, .int .i64 p.flags, .int .i64 p.seq, .int .i64 p.ack, .string p.body] 35)).alloc (by simp) (.cells #[.int .i64 0, .int .i64 0, .int .i64 0, .int .i64 0, .int .i64 0, .int .i64 0, .int .i64 0, .int .i64 0, .int .i64 0, .string ⟨#[]⟩] 35))
  cases hr : rightB p
  · clear h hS
    go_enter Tryd.func35, Tryd.ntmps35
    go_wp2_with fail
    refine (HR.out _).mono ?_
    rintro _ w1 ⟨rfl, hb1⟩
    rw [hr]
    have hG6 := blk_later hG0.out hb1
    have hS6 := hidS (hS0.out.later hb1)
    have hL6 := hidS (hL0.out.trans (hb1.mono hL0.out.size))
    clear hb1 hG0 hS0 hL0
    have hg := hS6.out.cF
    have hne : w.heap.size + 1 ≠ 1 := by omega
    have cg := blk_cell hG6
    have fg := blk_free hG6
    clear hS6 hG6
    go_wp2_with fail
    go_region
    go_wp2_with fail
    refine bodyPost_ret (v := .tuple #[.agg #[.int .i64 zeroPk.src, .int .i64 zeroPk.dst, .int .i64 zeroPk.proto, .int .i64 zeroPk.a, .int .i64 zeroPk.b, .int .i64 zeroPk.kind, .int .i64 zeroPk.flags, .int .i64 zeroPk.seq, .int .i64 zeroPk.ack, .string zeroPk.body], .iface 141 (.pointer (some aF))]) (by simp [results, Tryd.results35, go_sem, zeroPk, *]) rfl ⟨rfl, ?_⟩
    refine Below.drew ?_
    repeat (refine below_at ?_ (by omega))
    exact hL6.out
  cases hi : (p.proto == 1 && p.kind == 3)
  · cases ha : addrB f
    · have hal : allA [f] = false := by simp [allA, ha]
      clear h hS ha
      go_enter Tryd.func35, Tryd.ntmps35
      go_wp2_with fail
      refine (HR.out _).mono ?_
      rintro _ w1 ⟨rfl, hb1⟩
      rw [hr]
      have hG1 := hidS (blk_later hG0.out hb1)
      have hP1 := blk_later hP0.out hb1
      have hS1 := hidS (hS0.out.later hb1)
      have hL1 := hidS (hL0.out.trans (hb1.mono hL0.out.size))
      clear hb1 hG0 hP0 hS0 hL0 HR
      have c0 := blk_cell hP1 0
      have c1 := blk_cell hP1 1
      have c2 := blk_cell hP1 2
      have c3 := blk_cell hP1 3
      have c4 := blk_cell hP1 4
      have c5 := blk_cell hP1 5
      have c6 := blk_cell hP1 6
      have c7 := blk_cell hP1 7
      have c8 := blk_cell hP1 8
      have c9 := blk_cell hP1 9
      simp at c0 c1 c2 c3 c4 c5 c6 c7 c8 c9
      have HP1 := hidS hP1
      clear hP1
      go_wp2_with fail
      refine (HI.out _).mono ?_
      rintro _ w2 ⟨rfl, hb2⟩
      rw [hi]
      have hG2 := hidS (blk_later hG1.out hb2)
      have hS2 := hidS (hS1.out.later hb2)
      have hL2 := hidS (hL1.out.trans (hb2.mono hL1.out.size))
      clear hb2 hG1 HP1 hS1 hL1 HI c0 c1 c2 c3 c4 c5 c6 c7 c8 c9
      have hv := vals_at (W := w2) [.int .i64 f] 2
      have HA := hidS (areAddrs_any w2.heap.size [f] _ (ValsAt.ints (ts := [f]) hv) (by simp))
      clear hv
      go_wp2_with fail
      refine HA.out.mono ?_
      rintro _ w3 ⟨rfl, rfl⟩
      rw [hal]
      have hG0 := hidS (blk_alloc hG2.out (.cells #[.int .i64 f] 2))
      have hS0 := hidS (sent_allocE hS2.out (.cells #[.int .i64 f] 2))
      have hL0 := hidS (hL2.out.alloc hL2.out.size (.cells #[.int .i64 f] 2))
      clear hG2 hS2 hL2 HA
      generalize w2.alloc (.cells #[.int .i64 f] 2) = w1 at hG0 hS0 hL0 ⊢
      have hb1 := Below.refl w1.heap.size w1
      have hG6 := blk_later hG0.out hb1
      have hS6 := hidS (hS0.out.later hb1)
      have hL6 := hidS (hL0.out.trans (hb1.mono hL0.out.size))
      clear hb1 hG0 hS0 hL0
      have hg := hS6.out.cF
      have hne : w.heap.size + 1 ≠ 1 := by omega
      have cg := blk_cell hG6
      have fg := blk_free hG6
      clear hS6 hG6
      go_wp2_with fail
      go_region
      go_wp2_with fail
      refine bodyPost_ret (v := .tuple #[.agg #[.int .i64 zeroPk.src, .int .i64 zeroPk.dst, .int .i64 zeroPk.proto, .int .i64 zeroPk.a, .int .i64 zeroPk.b, .int .i64 zeroPk.kind, .int .i64 zeroPk.flags, .int .i64 zeroPk.seq, .int .i64 zeroPk.ack, .string zeroPk.body], .iface 141 (.pointer (some aF))]) (by simp [results, Tryd.results35, go_sem, zeroPk, *]) rfl ⟨rfl, ?_⟩
      refine Below.drew ?_
      repeat (refine below_at ?_ (by omega))
      exact hL6.out
    · exfalso
      unfold errB at h
      rw [hr, hi, ha] at h
      cases h
  · clear h hS
    go_enter Tryd.func35, Tryd.ntmps35
    go_wp2_with fail
    refine (HR.out _).mono ?_
    rintro _ w1 ⟨rfl, hb1⟩
    rw [hr]
    have hG1 := hidS (blk_later hG0.out hb1)
    have hP1 := blk_later hP0.out hb1
    have hS1 := hidS (hS0.out.later hb1)
    have hL1 := hidS (hL0.out.trans (hb1.mono hL0.out.size))
    clear hb1 hG0 hP0 hS0 hL0 HR
    have c0 := blk_cell hP1 0
    have c1 := blk_cell hP1 1
    have c2 := blk_cell hP1 2
    have c3 := blk_cell hP1 3
    have c4 := blk_cell hP1 4
    have c5 := blk_cell hP1 5
    have c6 := blk_cell hP1 6
    have c7 := blk_cell hP1 7
    have c8 := blk_cell hP1 8
    have c9 := blk_cell hP1 9
    simp at c0 c1 c2 c3 c4 c5 c6 c7 c8 c9
    have HP1 := hidS hP1
    clear hP1
    go_wp2_with fail
    refine (HI.out _).mono ?_
    rintro _ w2 ⟨rfl, hb2⟩
    rw [hi]
    have hG0 := hidS (blk_later hG1.out hb2)
    have hS0 := hidS (hS1.out.later hb2)
    have hL0 := hidS (hL1.out.trans (hb2.mono hL1.out.size))
    clear hb2 hG1 HP1 hS1 hL1 HI c0 c1 c2 c3 c4 c5 c6 c7 c8 c9
    have hb1 := Below.refl w2.heap.size w2
    have hG6 := blk_later hG0.out hb1
    have hS6 := hidS (hS0.out.later hb1)
    have hL6 := hidS (hL0.out.trans (hb1.mono hL0.out.size))
    clear hb1 hG0 hS0 hL0
    have hg := hS6.out.cF
    have hne : w.heap.size + 1 ≠ 1 := by omega
    have cg := blk_cell hG6
    have fg := blk_free hG6
    clear hS6 hG6
    go_wp2_with fail
    go_region
    go_wp2_with fail
    refine bodyPost_ret (v := .tuple #[.agg #[.int .i64 zeroPk.src, .int .i64 zeroPk.dst, .int .i64 zeroPk.proto, .int .i64 zeroPk.a, .int .i64 zeroPk.b, .int .i64 zeroPk.kind, .int .i64 zeroPk.flags, .int .i64 zeroPk.seq, .int .i64 zeroPk.ack, .string zeroPk.body], .iface 141 (.pointer (some aF))]) (by simp [results, Tryd.results35, go_sem, zeroPk, *]) rfl ⟨rfl, ?_⟩
    refine Below.drew ?_
    repeat (refine below_at ?_ (by omega))
    exact hL6.out

set_option maxHeartbeats 2000000 in
theorem tell_yes (p : Pk) (f : Int) (w : World) (h : errB p f = true) :
    Calls Tryd.prog 35 #[.agg #[.int .i64 p.src, .int .i64 p.dst, .int .i64 p.proto, .int .i64 p.a, .int .i64 p.b, .int .i64 p.kind, .int .i64 p.flags, .int .i64 p.seq, .int .i64 p.ack, .string p.body], .int .i64 f] w fun e w' => e = .returned (.tuple #[.agg #[.int .i64 (errP p f).src, .int .i64 (errP p f).dst, .int .i64 (errP p f).proto, .int .i64 (errP p f).a, .int .i64 (errP p f).b, .int .i64 (errP p f).kind, .int .i64 (errP p f).flags, .int .i64 (errP p f).seq, .int .i64 (errP p f).ack, .string (errP p f).body], .nilIface]) ∧ Below w.heap.size w w' := by
  have e0 : Hid (errP p f = ⟨f, p.src, 1, 0, 0, 3, 0, 0, 0, (bytesOf p).extract 0 28⟩) := if_pos h
  unfold errB at h
  simp only [Bool.and_eq_true, Bool.not_eq_true'] at h
  obtain ⟨⟨hr, hi⟩, ha⟩ := h
  have hal : allA [f] = true := by simp [allA, ha]
  have hF := fine_of hr
  have hs : p.body.size ≤ maxLen := by have := hF.body; unfold maxLen; omega
  have h28 : 28 ≤ (bytesOf p).size := bytesOf_28 hF
  have HR := hidS (fun W => implRight_any p W hs)
  have HI := hidS (fun W => isError_any p W)
  have HB := hidS (fun W => implBytes_any p W hs)
  rw [bytesAns_of hr] at HB
  have hbs := bytesOf_sm hF
  clear hF ha
  have hP0 := hidS (blk_alloc (heap_newG w (.cells #[.int .i64 p.src, .int .i64 p.dst, .int .i64 p.proto, .int .i64 p.a, .int .i64 p.b, .int .i64 p.kind, .int .i64 p.flags, .int .i64 p.seq, .int .i64 p.ack, .string p.body] 35)) (.cells #[.int .i64 0, .int .i64 0, .int .i64 0, .int .i64 0, .int .i64 0, .int .i64 0, .int .i64 0, .int .i64 0, .int .i64 0, .string ⟨#[]⟩] 35))
  have hG0' : ((w.alloc (.cells #[.int .i64 p.src, .int .i64 p.dst, .int .i64 p.proto, .int .i64 p.a, .int .i64 p.b, .int .i64 p.kind, .int .i64 p.flags, .int .i64 p.seq, .int .i64 p.ack, .string p.body] 35)).alloc (.cells #[.int .i64 0, .int .i64 0, .int .i64 0, .int .i64 0, .int .i64 0, .int .i64 0, .int .i64 0, .int .i64 0, .int .i64 0, .string ⟨#[]⟩] 35)).heap[w.heap.size + 1]? = some (.cells #[.int .i64 0, .int .i64 0, .int .i64 0, .int .i64 0, .int .i64 0, .int .i64 0, .int .i64 0, .int .i64 0, .int .i64 0, .string ⟨#[]⟩] 35) := by
    have := heap_newG (w.alloc (.cells #[.int .i64 p.src, .int .i64 p.dst, .int .i64 p.proto, .int .i64 p.a, .int .i64 p.b, .int .i64 p.kind, .int .i64 p.flags, .int .i64 p.seq, .int .i64 p.ack, .string p.body] 35)) (.cells #[.int .i64 0, .int .i64 0, .int .i64 0, .int .i64 0, .int .i64 0, .int .i64 0, .int .i64 0, .int .i64 0, .int .i64 0, .string ⟨#[]⟩] 35)
    simpa using this
  have hG0 := hidS hG0'
  clear hG0'
  have hL0 := hidS (((Below.refl w.heap.size w).alloc (Nat.le_refl _) (.cells #[.int .i64 p.src, .int .i64 p.dst, .int .i64 p.proto, .int .i64 p.a, .int .i64 p.b, .int .i64 p.kind, .int .i64 p.flags, .int .i64 p.seq, .int .i64 p.ack, .string p.body] 35)).alloc (by simp) (.cells #[.int .i64 0, .int .i64 0, .int .i64 0, .int .i64 0, .int .i64 0, .int .i64 0, .int .i64 0, .int .i64 0, .int .i64 0, .string ⟨#[]⟩] 35))
  go_enter Tryd.func35, Tryd.ntmps35
  go_wp2_with fail
  refine (HR.out _).mono ?_
  rintro _ w1 ⟨rfl, hb1⟩
  rw [hr]
  have hG1 := hidS (blk_later hG0.out hb1)
  have hP1 := blk_later hP0.out hb1
  have hL1 := hidS (hL0.out.trans (hb1.mono hL0.out.size))
  clear hb1 hG0 hP0 hL0 HR
  have c0 := blk_cell hP1 0
  have c1 := blk_cell hP1 1
  have c2 := blk_cell hP1 2
  have c3 := blk_cell hP1 3
  have c4 := blk_cell hP1 4
  have c5 := blk_cell hP1 5
  have c6 := blk_cell hP1 6
  have c7 := blk_cell hP1 7
  have c8 := blk_cell hP1 8
  have c9 := blk_cell hP1 9
  simp at c0 c1 c2 c3 c4 c5 c6 c7 c8 c9
  have HP1 := hidS hP1
  clear hP1
  go_wp2_with fail
  refine (HI.out _).mono ?_
  rintro _ w2 ⟨rfl, hb2⟩
  rw [hi]
  have hG2 := hidS (blk_later hG1.out hb2)
  have HP2 := hidS (blk_later HP1.out hb2)
  have hL2 := hidS (hL1.out.trans (hb2.mono hL1.out.size))
  clear hb2 hG1 HP1 hL1 HI c0 c1 c2 c3 c4 c5 c6 c7 c8 c9
  have hv := vals_at (W := w2) [.int .i64 f] 2
  have HA := hidS (areAddrs_any w2.heap.size [f] _ (ValsAt.ints (ts := [f]) hv) (by simp))
  clear hv
  go_wp2_with fail
  refine HA.out.mono ?_
  rintro _ w3 ⟨rfl, rfl⟩
  rw [hal]
  have hG3 := hidS (blk_alloc hG2.out (.cells #[.int .i64 f] 2))
  have hP1 := blk_alloc HP2.out (.cells #[.int .i64 f] 2)
  have hL3 := hidS (hL2.out.alloc hL2.out.size (.cells #[.int .i64 f] 2))
  clear hG2 HP2 hL2 HA
  generalize w2.alloc (.cells #[.int .i64 f] 2) = w4 at hG3 hP1 hL3 ⊢
  have c0 := blk_cell hP1 0
  have c1 := blk_cell hP1 1
  have c2 := blk_cell hP1 2
  have c3 := blk_cell hP1 3
  have c4 := blk_cell hP1 4
  have c5 := blk_cell hP1 5
  have c6 := blk_cell hP1 6
  have c7 := blk_cell hP1 7
  have c8 := blk_cell hP1 8
  have c9 := blk_cell hP1 9
  simp at c0 c1 c2 c3 c4 c5 c6 c7 c8 c9
  have HP1 := hidS hP1
  clear hP1
  go_wp2_with fail
  refine (HB.out _).mono ?_
  rintro _ w5 ⟨rfl, hb5⟩
  have hG5 := hidS (blk_later hG3.out hb5)
  have HP5 := hidS (blk_later HP1.out hb5)
  have hL5 := hidS (hL3.out.trans (hb5.mono hL3.out.size))
  clear hb5 hG3 HP1 hL3 HB c0 c1 c2 c3 c4 c5 c6 c7 c8 c9
  have h28' : (28 : Int) ≤ ((bytesOf p).size : Int) := by omega
  generalize bytesOf p = t at *
  go_wp2_with fail
  refine (clone_any _ _ (by rw [ByteArray.size_extract]; omega)).mono ?_
  rintro _ w6 ⟨rfl, hb6⟩
  have hG6 := blk_later hG5.out hb6
  have hP1 := blk_later HP5.out hb6
  have hL6 := hidS (hL5.out.trans (hb6.mono hL5.out.size))
  clear hb6 hG5 HP5 hL5
  have d0 := blk_cell hP1 0
  have cg := blk_cell hG6
  have fg := blk_free hG6
  simp at d0
  clear hP1 hG6
  go_wp2_with fail
  refine bodyPost_ret (v := .tuple #[.agg #[.int .i64 f, .int .i64 p.src, .int .i64 1, .int .i64 0, .int .i64 0, .int .i64 3, .int .i64 0, .int .i64 0, .int .i64 0, .string (t.extract 0 28)], .nilIface]) (by simp [results, Tryd.results35, go_sem, *]) rfl ⟨by rw [e0.out], ?_⟩
  repeat (refine below_at ?_ (by omega))
  exact hL6.out
end Go.Proofs.YtokjhfgbnpdfnaaDoor
