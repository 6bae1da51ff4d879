/- Proved here: impl.readPacket answers the packet that a text tells, or which error; all old memory stays (conditions: the text has at most 8000 bytes; the four package variables hold four errors). · Proved here: spec.l03Read answers the packet that a text of at least 28 bytes tells; all old memory stays (condition: at most 8000 bytes). -/
import Derived.Test.YthfhbmiddillbafDoorAll2
import Derived.Test.YthfhbmiddillbafDoorAll8
import Derived.Test.YthfhbmiddillbafDoorAll0
import Derived.Test.YthfhbmiddillbafDoorAll1
section
namespace Go.Proofs.YthfhbmiddillbafDoor
open Go.ChangeShapes Go.WideShapes Go.ChangeAt Go.RowKit
open Go.ChangeMaps (open_string shut_string)
set_option linter.unusedVariables false
set_option maxRecDepth 100000

theorem sent_alloc {aF aS aY aM : Addr} {w : World} (h : Sent aF aS aY aM w) (o : Obj) : Sent aF aS aY aM (w.alloc o) := h.later ((Below.refl _ _).alloc (Nat.le_refl _) o)

theorem readI_short {aF aS aY aM : Addr} (s : ByteArray) (w : World) (hS : Sent aF aS aY aM w) (h1 : s.size < 28) :
    Calls Tryd.prog 15 #[.string s] w fun e w' => e = .returned (.tuple #[.agg #[.int .i64 zeroPk.src, .int .i64 zeroPk.dst, .int .i64 zeroPk.proto, .int .i64 zeroPk.a, .int .i64 zeroPk.b, .int .i64 zeroPk.kind, .int .i64 zeroPk.flags, .int .i64 zeroPk.seq, .int .i64 zeroPk.ack, .string zeroPk.body], .iface 128 (.pointer (some aS))]) ∧ Below w.heap.size w w' := by
  have h1' : (s.size : Int) < 28 := by omega
  have hg := (sent_alloc hS (.cells #[.int .i64 0, .int .i64 0, .int .i64 0, .int .i64 0, .int .i64 0, .int .i64 0, .int .i64 0, .int .i64 0, .int .i64 0, .string ⟨#[]⟩] 23)).cS
  have hlt := World.block_lt_of_cell? w _ hS.cS
  clear hS
  go_enter Tryd.func15, Tryd.ntmps15
  go_wp2_with fail
  go_region
  go_wp2_with fail
  exact bodyPost_ret (v := .tuple #[.agg #[.int .i64 zeroPk.src, .int .i64 zeroPk.dst, .int .i64 zeroPk.proto, .int .i64 zeroPk.a, .int .i64 zeroPk.b, .int .i64 zeroPk.kind, .int .i64 zeroPk.flags, .int .i64 zeroPk.seq, .int .i64 zeroPk.ack, .string zeroPk.body], .iface 128 (.pointer (some aS))]) (by simp [results, Tryd.results15, go_sem, zeroPk]) rfl ⟨rfl, ((Below.refl _ _).alloc (Nat.le_refl _) _).drew⟩
set_option maxHeartbeats 2000000 in
theorem readI_syntax {aF aS aY aM : Addr} (s : ByteArray) (p : Pk) (v : Value) (k : Nat) (w : World) (hS : Sent aF aS aY aM w) (h1 : 28 ≤ s.size) (hs : s.size ≤ 8000) (hk : k ≤ 100) (hp : p = scanPk s) (hb : (bytesAns p).size ≤ 8000) (hbod : p.body.size ≤ maxLen)
    (hPT : ∀ W, Calls Tryd.prog 35 #[.agg #[.int .i64 p.src, .int .i64 p.dst, .int .i64 p.proto, .int .i64 p.a, .int .i64 p.b, .int .i64 p.kind, .int .i64 p.flags, .int .i64 p.seq, .int .i64 p.ack, .string p.body]] W fun e w' => e = .returned v ∧ Below W.heap.size W w')
    (hCA : ∀ W, Calls Tryd.prog 34 #[v] W fun e w' => e = .returned (.int .i64 (k : Int)) ∧ Below W.heap.size W w')
    (hbl : (putAll (twoT 0).data.toList (bytesAns p).data.toList [10, k] == putAll (twoT 0).data.toList s.data.toList [10, k]) = false) :
    Calls Tryd.prog 15 #[.string s] w fun e w' => e = .returned (.tuple #[.agg #[.int .i64 zeroPk.src, .int .i64 zeroPk.dst, .int .i64 zeroPk.proto, .int .i64 zeroPk.a, .int .i64 zeroPk.b, .int .i64 zeroPk.kind, .int .i64 zeroPk.flags, .int .i64 zeroPk.seq, .int .i64 zeroPk.ack, .string zeroPk.body], .iface 128 (.pointer (some aY))]) ∧ Below w.heap.size w w' := by
  have h1' : ¬ (s.size : Int) < 28 := by omega
  have HSC := hidS (fun W => scan_any s W h1 hs)
  rw [← hp] at HSC
  have HB := hidS (fun W => implBytes_any p W hbod)
  have HPT := hidS hPT
  have HCA := hidS hCA
  have hG0 := hidS (heap_newG w (.cells #[.int .i64 0, .int .i64 0, .int .i64 0, .int .i64 0, .int .i64 0, .int .i64 0, .int .i64 0, .int .i64 0, .int .i64 0, .string ⟨#[]⟩] 23))
  have hS0 := hidS (sent_alloc hS (.cells #[.int .i64 0, .int .i64 0, .int .i64 0, .int .i64 0, .int .i64 0, .int .i64 0, .int .i64 0, .int .i64 0, .int .i64 0, .string ⟨#[]⟩] 23))
  have hL0 := hidS ((Below.refl w.heap.size w).alloc (Nat.le_refl _) (.cells #[.int .i64 0, .int .i64 0, .int .i64 0, .int .i64 0, .int .i64 0, .int .i64 0, .int .i64 0, .int .i64 0, .int .i64 0, .string ⟨#[]⟩] 23))
  have hw0 : wordB 0 = true := rfl
  have HS0 := hidS hS
  clear hPT hCA hS hp
  go_enter Tryd.func15, Tryd.ntmps15
  go_wp2_with fail
  refine (HSC.out _).mono ?_
  rintro _ w1 ⟨rfl, hb1⟩
  have hG1 := hidS (blk_alloc (blk_later hG0.out hb1) (.cells #[.int .i64 p.src, .int .i64 p.dst, .int .i64 p.proto, .int .i64 p.a, .int .i64 p.b, .int .i64 p.kind, .int .i64 p.flags, .int .i64 p.seq, .int .i64 p.ack, .string p.body] 23))
  have hP1 := hidS (heap_newG w1 (.cells #[.int .i64 p.src, .int .i64 p.dst, .int .i64 p.proto, .int .i64 p.a, .int .i64 p.b, .int .i64 p.kind, .int .i64 p.flags, .int .i64 p.seq, .int .i64 p.ack, .string p.body] 23))
  have hS1 := hidS (sent_alloc (hS0.out.later hb1) (.cells #[.int .i64 p.src, .int .i64 p.dst, .int .i64 p.proto, .int .i64 p.a, .int .i64 p.b, .int .i64 p.kind, .int .i64 p.flags, .int .i64 p.seq, .int .i64 p.ack, .string p.body] 23))
  have hL1' := hL0.out.trans (hb1.mono hL0.out.size)
  have hL1 := hidS (hL1'.alloc hL1'.size (.cells #[.int .i64 p.src, .int .i64 p.dst, .int .i64 p.proto, .int .i64 p.a, .int .i64 p.b, .int .i64 p.kind, .int .i64 p.flags, .int .i64 p.seq, .int .i64 p.ack, .string p.body] 23))
  have hlt1 : w.heap.size < w1.heap.size := by have := hb1.size; simp at this; omega
  clear hb1 hG0 hS0 hL0 hL1' HSC
  go_wp2_with fail
  refine (HB.out _).mono ?_
  rintro _ w2 ⟨rfl, hb2⟩
  have hG2 := hidS (blk_later hG1.out hb2)
  have hP2 := blk_later hP1.out hb2
  have hS2 := hidS (hS1.out.later hb2)
  have hL2 := hidS (hL1.out.trans (hb2.mono hL1.out.size))
  clear hb2 hG1 hP1 hS1 hL1 HB
  have c0 := blk_cell hP2 0
  have c1 := blk_cell hP2 1
  have c2 := blk_cell hP2 2
  have c3 := blk_cell hP2 3
  have c4 := blk_cell hP2 4
  have c5 := blk_cell hP2 5
  have c6 := blk_cell hP2 6
  have c7 := blk_cell hP2 7
  have c8 := blk_cell hP2 8
  have c9 := blk_cell hP2 9
  simp at c0 c1 c2 c3 c4 c5 c6 c7 c8 c9
  have HP2 := hidS hP2
  clear hP2
  generalize bytesAns p = t at *
  go_wp2_with fail
  refine (HPT.out _).mono ?_
  rintro _ w3 ⟨rfl, hb3⟩
  have hG3 := hidS (blk_later hG2.out hb3)
  have hP3 := hidS (blk_later HP2.out hb3)
  have hS3 := hidS (hS2.out.later hb3)
  have hL3 := hidS (hL2.out.trans (hb3.mono hL2.out.size))
  clear hb3 hG2 HP2 hS2 hL2 HPT c0 c1 c2 c3 c4 c5 c6 c7 c8 c9
  go_wp2_with fail
  refine (HCA.out _).mono ?_
  rintro _ w4 ⟨rfl, hb4⟩
  have hv := vals_at (W := w4) [.int .i64 ((10 : Nat) : Int), .int .i64 (k : Int)] 3
  have hG4 := hidS (blk_alloc (blk_later hG3.out hb4) (.cells #[.int .i64 10, .int .i64 (k : Int)] 3))
  have hP4 := hidS (blk_alloc (blk_later hP3.out hb4) (.cells #[.int .i64 10, .int .i64 (k : Int)] 3))
  have hS4 := hidS (sent_alloc (hS3.out.later hb4) (.cells #[.int .i64 10, .int .i64 (k : Int)] 3))
  have hL4' := hL3.out.trans (hb4.mono hL3.out.size)
  have hL4 := hidS (hL4'.alloc hL4'.size (.cells #[.int .i64 10, .int .i64 (k : Int)] 3))
  have HV : Hid (ValsAt w4.heap.size [.int .i64 ((10 : Nat) : Int), .int .i64 (k : Int)] (w4.alloc (.cells #[.int .i64 10, .int .i64 (k : Int)] 3))) := hv
  clear hb4 hG3 hP3 hS3 hL3 hL4' HCA hv
  go_wp2_with fail
  refine (withWord_x t 0 w4.heap.size 2 [10, k] _ hw0 (ValsAt.nats (ks := [10, k]) HV.out) HV.out.1 (by simp) (by simp; omega) (by omega)).mono ?_
  rintro _ w5 ⟨rfl, hb5⟩
  have hG5 := hidS (blk_later hG4.out hb5)
  have hP5 := hidS (blk_later hP4.out hb5)
  have hS5 := hidS (hS4.out.later hb5)
  have hL5 := hidS (hL4.out.trans (hb5.mono hL4.out.size))
  have HV5 := hidS (HV.out.later hb5)
  clear hb5 hG4 hP4 hS4 hL4 HV
  go_wp2_with fail
  refine (withWord_x s 0 w4.heap.size 2 [10, k] _ hw0 (ValsAt.nats (ks := [10, k]) HV5.out) HV5.out.1 (by simp) (by simp; omega) (by omega)).mono ?_
  rintro _ w6 ⟨rfl, hb6⟩
  have hG6 := blk_later hG5.out hb6
  have hP6 := blk_later hP5.out hb6
  have hS6 := hidS (hS5.out.later hb6)
  have hL6 := hidS (hL5.out.trans (hb6.mono hL5.out.size))
  clear hb6 hG5 hP5 hS5 hL5 HV5
  have hne : w.heap.size ≠ w1.heap.size := by omega
  have c0 := blk_cell hG6 0
  have f0 := blk_free hG6 0
  have d0 := blk_cell hP6 0
  have c1 := blk_cell hG6 1
  have f1 := blk_free hG6 1
  have d1 := blk_cell hP6 1
  have c2 := blk_cell hG6 2
  have f2 := blk_free hG6 2
  have d2 := blk_cell hP6 2
  have c3 := blk_cell hG6 3
  have f3 := blk_free hG6 3
  have d3 := blk_cell hP6 3
  have c4 := blk_cell hG6 4
  have f4 := blk_free hG6 4
  have d4 := blk_cell hP6 4
  have c5 := blk_cell hG6 5
  have f5 := blk_free hG6 5
  have d5 := blk_cell hP6 5
  have c6 := blk_cell hG6 6
  have f6 := blk_free hG6 6
  have d6 := blk_cell hP6 6
  have c7 := blk_cell hG6 7
  have f7 := blk_free hG6 7
  have d7 := blk_cell hP6 7
  have c8 := blk_cell hG6 8
  have f8 := blk_free hG6 8
  have d8 := blk_cell hP6 8
  have c9 := blk_cell hG6 9
  have f9 := blk_free hG6 9
  have d9 := blk_cell hP6 9
  simp at c0 c1 c2 c3 c4 c5 c6 c7 c8 c9 d0 d1 d2 d3 d4 d5 d6 d7 d8 d9
  clear hG6 hP6
  have hg := hS6.out.cY
  have hlt := World.block_lt_of_cell? w6 _ hg
  have hg0 : w.heap.size ≠ 1 := by have h : 1 < w.heap.size := World.block_lt_of_cell? w _ HS0.out.cY; omega
  clear hS6 HS0
  go_wp2_with fail
  go_region
  go_wp2_with fail
  refine bodyPost_ret (v := .tuple #[.agg #[.int .i64 zeroPk.src, .int .i64 zeroPk.dst, .int .i64 zeroPk.proto, .int .i64 zeroPk.a, .int .i64 zeroPk.b, .int .i64 zeroPk.kind, .int .i64 zeroPk.flags, .int .i64 zeroPk.seq, .int .i64 zeroPk.ack, .string zeroPk.body], .iface 128 (.pointer (some aY))]) (by simp [results, Tryd.results15, go_sem, zeroPk, *]) rfl ⟨rfl, ?_⟩
  refine Below.drew ?_
  repeat (refine below_at ?_ (Nat.le_refl _))
  exact hL6.out
set_option maxHeartbeats 2000000 in
theorem readI_sum {aF aS aY aM : Addr} (s : ByteArray) (p : Pk) (v : Value) (k : Nat) (w : World) (hS : Sent aF aS aY aM w) (h1 : 28 ≤ s.size) (hs : s.size ≤ 8000) (hk : k ≤ 100) (hp : p = scanPk s) (hb : (bytesAns p).size ≤ 8000) (hbod : p.body.size ≤ maxLen)
    (hPT : ∀ W, Calls Tryd.prog 35 #[.agg #[.int .i64 p.src, .int .i64 p.dst, .int .i64 p.proto, .int .i64 p.a, .int .i64 p.b, .int .i64 p.kind, .int .i64 p.flags, .int .i64 p.seq, .int .i64 p.ack, .string p.body]] W fun e w' => e = .returned v ∧ Below W.heap.size W w')
    (hCA : ∀ W, Calls Tryd.prog 34 #[v] W fun e w' => e = .returned (.int .i64 (k : Int)) ∧ Below W.heap.size W w')
    (hbl : (putAll (twoT 0).data.toList (bytesAns p).data.toList [10, k] == putAll (twoT 0).data.toList s.data.toList [10, k]) = true) (hbt : ((bytesAns p).toList == s.toList) = false) :
    Calls Tryd.prog 15 #[.string s] w fun e w' => e = .returned (.tuple #[.agg #[.int .i64 zeroPk.src, .int .i64 zeroPk.dst, .int .i64 zeroPk.proto, .int .i64 zeroPk.a, .int .i64 zeroPk.b, .int .i64 zeroPk.kind, .int .i64 zeroPk.flags, .int .i64 zeroPk.seq, .int .i64 zeroPk.ack, .string zeroPk.body], .iface 128 (.pointer (some aM))]) ∧ Below w.heap.size w w' := by
  have h1' : ¬ (s.size : Int) < 28 := by omega
  have HSC := hidS (fun W => scan_any s W h1 hs)
  rw [← hp] at HSC
  have HB := hidS (fun W => implBytes_any p W hbod)
  have HPT := hidS hPT
  have HCA := hidS hCA
  have hG0 := hidS (heap_newG w (.cells #[.int .i64 0, .int .i64 0, .int .i64 0, .int .i64 0, .int .i64 0, .int .i64 0, .int .i64 0, .int .i64 0, .int .i64 0, .string ⟨#[]⟩] 23))
  have hS0 := hidS (sent_alloc hS (.cells #[.int .i64 0, .int .i64 0, .int .i64 0, .int .i64 0, .int .i64 0, .int .i64 0, .int .i64 0, .int .i64 0, .int .i64 0, .string ⟨#[]⟩] 23))
  have hL0 := hidS ((Below.refl w.heap.size w).alloc (Nat.le_refl _) (.cells #[.int .i64 0, .int .i64 0, .int .i64 0, .int .i64 0, .int .i64 0, .int .i64 0, .int .i64 0, .int .i64 0, .int .i64 0, .string ⟨#[]⟩] 23))
  have hw0 : wordB 0 = true := rfl
  have HS0 := hidS hS
  clear hPT hCA hS hp
  go_enter Tryd.func15, Tryd.ntmps15
  go_wp2_with fail
  refine (HSC.out _).mono ?_
  rintro _ w1 ⟨rfl, hb1⟩
  have hG1 := hidS (blk_alloc (blk_later hG0.out hb1) (.cells #[.int .i64 p.src, .int .i64 p.dst, .int .i64 p.proto, .int .i64 p.a, .int .i64 p.b, .int .i64 p.kind, .int .i64 p.flags, .int .i64 p.seq, .int .i64 p.ack, .string p.body] 23))
  have hP1 := hidS (heap_newG w1 (.cells #[.int .i64 p.src, .int .i64 p.dst, .int .i64 p.proto, .int .i64 p.a, .int .i64 p.b, .int .i64 p.kind, .int .i64 p.flags, .int .i64 p.seq, .int .i64 p.ack, .string p.body] 23))
  have hS1 := hidS (sent_alloc (hS0.out.later hb1) (.cells #[.int .i64 p.src, .int .i64 p.dst, .int .i64 p.proto, .int .i64 p.a, .int .i64 p.b, .int .i64 p.kind, .int .i64 p.flags, .int .i64 p.seq, .int .i64 p.ack, .string p.body] 23))
  have hL1' := hL0.out.trans (hb1.mono hL0.out.size)
  have hL1 := hidS (hL1'.alloc hL1'.size (.cells #[.int .i64 p.src, .int .i64 p.dst, .int .i64 p.proto, .int .i64 p.a, .int .i64 p.b, .int .i64 p.kind, .int .i64 p.flags, .int .i64 p.seq, .int .i64 p.ack, .string p.body] 23))
  have hlt1 : w.heap.size < w1.heap.size := by have := hb1.size; simp at this; omega
  clear hb1 hG0 hS0 hL0 hL1' HSC
  go_wp2_with fail
  refine (HB.out _).mono ?_
  rintro _ w2 ⟨rfl, hb2⟩
  have hG2 := hidS (blk_later hG1.out hb2)
  have hP2 := blk_later hP1.out hb2
  have hS2 := hidS (hS1.out.later hb2)
  have hL2 := hidS (hL1.out.trans (hb2.mono hL1.out.size))
  clear hb2 hG1 hP1 hS1 hL1 HB
  have c0 := blk_cell hP2 0
  have c1 := blk_cell hP2 1
  have c2 := blk_cell hP2 2
  have c3 := blk_cell hP2 3
  have c4 := blk_cell hP2 4
  have c5 := blk_cell hP2 5
  have c6 := blk_cell hP2 6
  have c7 := blk_cell hP2 7
  have c8 := blk_cell hP2 8
  have c9 := blk_cell hP2 9
  simp at c0 c1 c2 c3 c4 c5 c6 c7 c8 c9
  have HP2 := hidS hP2
  clear hP2
  generalize bytesAns p = t at *
  go_wp2_with fail
  refine (HPT.out _).mono ?_
  rintro _ w3 ⟨rfl, hb3⟩
  have hG3 := hidS (blk_later hG2.out hb3)
  have hP3 := hidS (blk_later HP2.out hb3)
  have hS3 := hidS (hS2.out.later hb3)
  have hL3 := hidS (hL2.out.trans (hb3.mono hL2.out.size))
  clear hb3 hG2 HP2 hS2 hL2 HPT c0 c1 c2 c3 c4 c5 c6 c7 c8 c9
  go_wp2_with fail
  refine (HCA.out _).mono ?_
  rintro _ w4 ⟨rfl, hb4⟩
  have hv := vals_at (W := w4) [.int .i64 ((10 : Nat) : Int), .int .i64 (k : Int)] 3
  have hG4 := hidS (blk_alloc (blk_later hG3.out hb4) (.cells #[.int .i64 10, .int .i64 (k : Int)] 3))
  have hP4 := hidS (blk_alloc (blk_later hP3.out hb4) (.cells #[.int .i64 10, .int .i64 (k : Int)] 3))
  have hS4 := hidS (sent_alloc (hS3.out.later hb4) (.cells #[.int .i64 10, .int .i64 (k : Int)] 3))
  have hL4' := hL3.out.trans (hb4.mono hL3.out.size)
  have hL4 := hidS (hL4'.alloc hL4'.size (.cells #[.int .i64 10, .int .i64 (k : Int)] 3))
  have HV : Hid (ValsAt w4.heap.size [.int .i64 ((10 : Nat) : Int), .int .i64 (k : Int)] (w4.alloc (.cells #[.int .i64 10, .int .i64 (k : Int)] 3))) := hv
  clear hb4 hG3 hP3 hS3 hL3 hL4' HCA hv
  go_wp2_with fail
  refine (withWord_x t 0 w4.heap.size 2 [10, k] _ hw0 (ValsAt.nats (ks := [10, k]) HV.out) HV.out.1 (by simp) (by simp; omega) (by omega)).mono ?_
  rintro _ w5 ⟨rfl, hb5⟩
  have hG5 := hidS (blk_later hG4.out hb5)
  have hP5 := hidS (blk_later hP4.out hb5)
  have hS5 := hidS (hS4.out.later hb5)
  have hL5 := hidS (hL4.out.trans (hb5.mono hL4.out.size))
  have HV5 := hidS (HV.out.later hb5)
  clear hb5 hG4 hP4 hS4 hL4 HV
  go_wp2_with fail
  refine (withWord_x s 0 w4.heap.size 2 [10, k] _ hw0 (ValsAt.nats (ks := [10, k]) HV5.out) HV5.out.1 (by simp) (by simp; omega) (by omega)).mono ?_
  rintro _ w6 ⟨rfl, hb6⟩
  have hG6 := blk_later hG5.out hb6
  have hP6 := blk_later hP5.out hb6
  have hS6 := hidS (hS5.out.later hb6)
  have hL6 := hidS (hL5.out.trans (hb6.mono hL5.out.size))
  clear hb6 hG5 hP5 hS5 hL5 HV5
  have hne : w.heap.size ≠ w1.heap.size := by omega
  have c0 := blk_cell hG6 0
  have f0 := blk_free hG6 0
  have d0 := blk_cell hP6 0
  have c1 := blk_cell hG6 1
  have f1 := blk_free hG6 1
  have d1 := blk_cell hP6 1
  have c2 := blk_cell hG6 2
  have f2 := blk_free hG6 2
  have d2 := blk_cell hP6 2
  have c3 := blk_cell hG6 3
  have f3 := blk_free hG6 3
  have d3 := blk_cell hP6 3
  have c4 := blk_cell hG6 4
  have f4 := blk_free hG6 4
  have d4 := blk_cell hP6 4
  have c5 := blk_cell hG6 5
  have f5 := blk_free hG6 5
  have d5 := blk_cell hP6 5
  have c6 := blk_cell hG6 6
  have f6 := blk_free hG6 6
  have d6 := blk_cell hP6 6
  have c7 := blk_cell hG6 7
  have f7 := blk_free hG6 7
  have d7 := blk_cell hP6 7
  have c8 := blk_cell hG6 8
  have f8 := blk_free hG6 8
  have d8 := blk_cell hP6 8
  have c9 := blk_cell hG6 9
  have f9 := blk_free hG6 9
  have d9 := blk_cell hP6 9
  simp at c0 c1 c2 c3 c4 c5 c6 c7 c8 c9 d0 d1 d2 d3 d4 d5 d6 d7 d8 d9
  clear hG6 hP6
  have hg := hS6.out.cM
  have hlt := World.block_lt_of_cell? w6 _ hg
  have hg0 : w.heap.size ≠ 2 := by have h : 2 < w.heap.size := World.block_lt_of_cell? w _ HS0.out.cM; omega
  clear hS6 HS0
  go_wp2_with fail
  go_region
  go_wp2_with fail
  refine bodyPost_ret (v := .tuple #[.agg #[.int .i64 zeroPk.src, .int .i64 zeroPk.dst, .int .i64 zeroPk.proto, .int .i64 zeroPk.a, .int .i64 zeroPk.b, .int .i64 zeroPk.kind, .int .i64 zeroPk.flags, .int .i64 zeroPk.seq, .int .i64 zeroPk.ack, .string zeroPk.body], .iface 128 (.pointer (some aM))]) (by simp [results, Tryd.results15, go_sem, zeroPk, *]) rfl ⟨rfl, ?_⟩
  refine Below.drew ?_
  repeat (refine below_at ?_ (Nat.le_refl _))
  exact hL6.out
set_option maxHeartbeats 2000000 in
theorem readI_ok {aF aS aY aM : Addr} (s : ByteArray) (p : Pk) (v : Value) (k : Nat) (w : World) (hS : Sent aF aS aY aM w) (h1 : 28 ≤ s.size) (hs : s.size ≤ 8000) (hk : k ≤ 100) (hp : p = scanPk s) (hb : (bytesAns p).size ≤ 8000) (hbod : p.body.size ≤ maxLen)
    (hPT : ∀ W, Calls Tryd.prog 35 #[.agg #[.int .i64 p.src, .int .i64 p.dst, .int .i64 p.proto, .int .i64 p.a, .int .i64 p.b, .int .i64 p.kind, .int .i64 p.flags, .int .i64 p.seq, .int .i64 p.ack, .string p.body]] W fun e w' => e = .returned v ∧ Below W.heap.size W w')
    (hCA : ∀ W, Calls Tryd.prog 34 #[v] W fun e w' => e = .returned (.int .i64 (k : Int)) ∧ Below W.heap.size W w')
    (hbl : (putAll (twoT 0).data.toList (bytesAns p).data.toList [10, k] == putAll (twoT 0).data.toList s.data.toList [10, k]) = true) (hbt : ((bytesAns p).toList == s.toList) = true) :
    Calls Tryd.prog 15 #[.string s] w fun e w' => e = .returned (.tuple #[.agg #[.int .i64 p.src, .int .i64 p.dst, .int .i64 p.proto, .int .i64 p.a, .int .i64 p.b, .int .i64 p.kind, .int .i64 p.flags, .int .i64 p.seq, .int .i64 p.ack, .string p.body], .nilIface]) ∧ Below w.heap.size w w' := by
  have h1' : ¬ (s.size : Int) < 28 := by omega
  have HSC := hidS (fun W => scan_any s W h1 hs)
  rw [← hp] at HSC
  have HB := hidS (fun W => implBytes_any p W hbod)
  have HPT := hidS hPT
  have HCA := hidS hCA
  have hG0 := hidS (heap_newG w (.cells #[.int .i64 0, .int .i64 0, .int .i64 0, .int .i64 0, .int .i64 0, .int .i64 0, .int .i64 0, .int .i64 0, .int .i64 0, .string ⟨#[]⟩] 23))
  have hS0 := hidS (sent_alloc hS (.cells #[.int .i64 0, .int .i64 0, .int .i64 0, .int .i64 0, .int .i64 0, .int .i64 0, .int .i64 0, .int .i64 0, .int .i64 0, .string ⟨#[]⟩] 23))
  have hL0 := hidS ((Below.refl w.heap.size w).alloc (Nat.le_refl _) (.cells #[.int .i64 0, .int .i64 0, .int .i64 0, .int .i64 0, .int .i64 0, .int .i64 0, .int .i64 0, .int .i64 0, .int .i64 0, .string ⟨#[]⟩] 23))
  have hw0 : wordB 0 = true := rfl
  have HS0 := hidS hS
  clear hPT hCA hS hp
  go_enter Tryd.func15, Tryd.ntmps15
  go_wp2_with fail
  refine (HSC.out _).mono ?_
  rintro _ w1 ⟨rfl, hb1⟩
  have hG1 := hidS (blk_alloc (blk_later hG0.out hb1) (.cells #[.int .i64 p.src, .int .i64 p.dst, .int .i64 p.proto, .int .i64 p.a, .int .i64 p.b, .int .i64 p.kind, .int .i64 p.flags, .int .i64 p.seq, .int .i64 p.ack, .string p.body] 23))
  have hP1 := hidS (heap_newG w1 (.cells #[.int .i64 p.src, .int .i64 p.dst, .int .i64 p.proto, .int .i64 p.a, .int .i64 p.b, .int .i64 p.kind, .int .i64 p.flags, .int .i64 p.seq, .int .i64 p.ack, .string p.body] 23))
  have hS1 := hidS (sent_alloc (hS0.out.later hb1) (.cells #[.int .i64 p.src, .int .i64 p.dst, .int .i64 p.proto, .int .i64 p.a, .int .i64 p.b, .int .i64 p.kind, .int .i64 p.flags, .int .i64 p.seq, .int .i64 p.ack, .string p.body] 23))
  have hL1' := hL0.out.trans (hb1.mono hL0.out.size)
  have hL1 := hidS (hL1'.alloc hL1'.size (.cells #[.int .i64 p.src, .int .i64 p.dst, .int .i64 p.proto, .int .i64 p.a, .int .i64 p.b, .int .i64 p.kind, .int .i64 p.flags, .int .i64 p.seq, .int .i64 p.ack, .string p.body] 23))
  have hlt1 : w.heap.size < w1.heap.size := by have := hb1.size; simp at this; omega
  clear hb1 hG0 hS0 hL0 hL1' HSC
  go_wp2_with fail
  refine (HB.out _).mono ?_
  rintro _ w2 ⟨rfl, hb2⟩
  have hG2 := hidS (blk_later hG1.out hb2)
  have hP2 := blk_later hP1.out hb2
  have hS2 := hidS (hS1.out.later hb2)
  have hL2 := hidS (hL1.out.trans (hb2.mono hL1.out.size))
  clear hb2 hG1 hP1 hS1 hL1 HB
  have c0 := blk_cell hP2 0
  have c1 := blk_cell hP2 1
  have c2 := blk_cell hP2 2
  have c3 := blk_cell hP2 3
  have c4 := blk_cell hP2 4
  have c5 := blk_cell hP2 5
  have c6 := blk_cell hP2 6
  have c7 := blk_cell hP2 7
  have c8 := blk_cell hP2 8
  have c9 := blk_cell hP2 9
  simp at c0 c1 c2 c3 c4 c5 c6 c7 c8 c9
  have HP2 := hidS hP2
  clear hP2
  generalize bytesAns p = t at *
  go_wp2_with fail
  refine (HPT.out _).mono ?_
  rintro _ w3 ⟨rfl, hb3⟩
  have hG3 := hidS (blk_later hG2.out hb3)
  have hP3 := hidS (blk_later HP2.out hb3)
  have hS3 := hidS (hS2.out.later hb3)
  have hL3 := hidS (hL2.out.trans (hb3.mono hL2.out.size))
  clear hb3 hG2 HP2 hS2 hL2 HPT c0 c1 c2 c3 c4 c5 c6 c7 c8 c9
  go_wp2_with fail
  refine (HCA.out _).mono ?_
  rintro _ w4 ⟨rfl, hb4⟩
  have hv := vals_at (W := w4) [.int .i64 ((10 : Nat) : Int), .int .i64 (k : Int)] 3
  have hG4 := hidS (blk_alloc (blk_later hG3.out hb4) (.cells #[.int .i64 10, .int .i64 (k : Int)] 3))
  have hP4 := hidS (blk_alloc (blk_later hP3.out hb4) (.cells #[.int .i64 10, .int .i64 (k : Int)] 3))
  have hS4 := hidS (sent_alloc (hS3.out.later hb4) (.cells #[.int .i64 10, .int .i64 (k : Int)] 3))
  have hL4' := hL3.out.trans (hb4.mono hL3.out.size)
  have hL4 := hidS (hL4'.alloc hL4'.size (.cells #[.int .i64 10, .int .i64 (k : Int)] 3))
  have HV : Hid (ValsAt w4.heap.size [.int .i64 ((10 : Nat) : Int), .int .i64 (k : Int)] (w4.alloc (.cells #[.int .i64 10, .int .i64 (k : Int)] 3))) := hv
  clear hb4 hG3 hP3 hS3 hL3 hL4' HCA hv
  go_wp2_with fail
  refine (withWord_x t 0 w4.heap.size 2 [10, k] _ hw0 (ValsAt.nats (ks := [10, k]) HV.out) HV.out.1 (by simp) (by simp; omega) (by omega)).mono ?_
  rintro _ w5 ⟨rfl, hb5⟩
  have hG5 := hidS (blk_later hG4.out hb5)
  have hP5 := hidS (blk_later hP4.out hb5)
  have hS5 := hidS (hS4.out.later hb5)
  have hL5 := hidS (hL4.out.trans (hb5.mono hL4.out.size))
  have HV5 := hidS (HV.out.later hb5)
  clear hb5 hG4 hP4 hS4 hL4 HV
  go_wp2_with fail
  refine (withWord_x s 0 w4.heap.size 2 [10, k] _ hw0 (ValsAt.nats (ks := [10, k]) HV5.out) HV5.out.1 (by simp) (by simp; omega) (by omega)).mono ?_
  rintro _ w6 ⟨rfl, hb6⟩
  have hG6 := blk_later hG5.out hb6
  have hP6 := blk_later hP5.out hb6
  have hS6 := hidS (hS5.out.later hb6)
  have hL6 := hidS (hL5.out.trans (hb6.mono hL5.out.size))
  clear hb6 hG5 hP5 hS5 hL5 HV5
  have hne : w.heap.size ≠ w1.heap.size := by omega
  have c0 := blk_cell hG6 0
  have f0 := blk_free hG6 0
  have d0 := blk_cell hP6 0
  have c1 := blk_cell hG6 1
  have f1 := blk_free hG6 1
  have d1 := blk_cell hP6 1
  have c2 := blk_cell hG6 2
  have f2 := blk_free hG6 2
  have d2 := blk_cell hP6 2
  have c3 := blk_cell hG6 3
  have f3 := blk_free hG6 3
  have d3 := blk_cell hP6 3
  have c4 := blk_cell hG6 4
  have f4 := blk_free hG6 4
  have d4 := blk_cell hP6 4
  have c5 := blk_cell hG6 5
  have f5 := blk_free hG6 5
  have d5 := blk_cell hP6 5
  have c6 := blk_cell hG6 6
  have f6 := blk_free hG6 6
  have d6 := blk_cell hP6 6
  have c7 := blk_cell hG6 7
  have f7 := blk_free hG6 7
  have d7 := blk_cell hP6 7
  have c8 := blk_cell hG6 8
  have f8 := blk_free hG6 8
  have d8 := blk_cell hP6 8
  have c9 := blk_cell hG6 9
  have f9 := blk_free hG6 9
  have d9 := blk_cell hP6 9
  simp at c0 c1 c2 c3 c4 c5 c6 c7 c8 c9 d0 d1 d2 d3 d4 d5 d6 d7 d8 d9
  clear hG6 hP6
  clear hS6 HS0
  go_wp2_with fail
  refine bodyPost_ret (v := .tuple #[.agg #[.int .i64 p.src, .int .i64 p.dst, .int .i64 p.proto, .int .i64 p.a, .int .i64 p.b, .int .i64 p.kind, .int .i64 p.flags, .int .i64 p.seq, .int .i64 p.ack, .string p.body], .nilIface]) (by simp [results, Tryd.results15, go_sem, *]) rfl ⟨rfl, ?_⟩
  repeat (refine below_at ?_ (Nat.le_refl _))
  exact hL6.out
end Go.Proofs.YthfhbmiddillbafDoor
end

section
namespace Go.Proofs.YthfhbmiddillbafDoor
open Go.ChangeShapes Go.WideShapes Go.ChangeAt Go.RowKit
set_option linter.unusedVariables false
set_option maxRecDepth 100000
set_option linter.unusedSimpArgs false

/-- the packet that a text of at least 28 bytes tells, whatever it is -/
def readPk (s : ByteArray) : Pk :=
  if byteN s 9 = 6 then
    if s.size < 40 then ⟨0, 0, 0, 0, 0, 0, 0, 0, 0, ⟨#[]⟩⟩
    else ⟨word4 s 12, word4 s 16, byteN s 9, word2 s 20, word2 s 22, 0, byteN s 33, word4 s 24, word4 s 28, s.extract 40 s.size⟩
  else if byteN s 9 = 17 then ⟨word4 s 12, word4 s 16, byteN s 9, word2 s 20, word2 s 22, 0, 0, 0, 0, s.extract 28 s.size⟩
  else ⟨word4 s 12, word4 s 16, byteN s 9, word2 s 24, 0, byteN s 20, 0, word2 s 26, 0, s.extract 28 s.size⟩

set_option maxHeartbeats 4000000 in
theorem l03Read_any (s : ByteArray) (w : World) (h1 : 28 ≤ s.size) (hs : s.size ≤ 8000) :
    Calls Tryd.prog 10 #[.string s] w fun e w' => e = .returned (.agg #[.int .i64 (readPk s).src, .int .i64 (readPk s).dst, .int .i64 (readPk s).proto, .int .i64 (readPk s).a, .int .i64 (readPk s).b, .int .i64 (readPk s).kind, .int .i64 (readPk s).flags, .int .i64 (readPk s).seq, .int .i64 (readPk s).ack, .string (readPk s).body]) ∧ Below w.heap.size w w' := by
  have h9 : 9 < s.size := by omega
  have h9i : (9 : Int) < (s.size : Int) := by omega
  have hb9 : s[9].toNat = byteN s 9 := byteN_get h9
  have lb9 := byteN_lt s 9
  have hw9 : IntKind.i64.wrap (byteN s 9 : Int) = (byteN s 9 : Int) := IntWalk.i64_in _ (by omega)
  have hB1 := hidS ((Below.refl w.heap.size w).alloc (Nat.le_refl _) (.cells #[.int .i64 0, .int .i64 0, .int .i64 0, .int .i64 0, .int .i64 0, .int .i64 0, .int .i64 0, .int .i64 0, .int .i64 0, .string ⟨#[]⟩] 23))
  have hG1 : (w.alloc (.cells #[.int .i64 0, .int .i64 0, .int .i64 0, .int .i64 0, .int .i64 0, .int .i64 0, .int .i64 0, .int .i64 0, .int .i64 0, .string ⟨#[]⟩] 23)).heap[w.heap.size]? = some (.cells #[.int .i64 0, .int .i64 0, .int .i64 0, .int .i64 0, .int .i64 0, .int .i64 0, .int .i64 0, .int .i64 0, .int .i64 0, .string ⟨#[]⟩] 23) := heap_newG _ _
  go_enter Tryd.func10, Tryd.ntmps10
  go_wp2_with fail
  generalize w.alloc (.cells #[.int .i64 0, .int .i64 0, .int .i64 0, .int .i64 0, .int .i64 0, .int .i64 0, .int .i64 0, .int .i64 0, .int .i64 0, .string ⟨#[]⟩] 23) = w1 at hB1 hG1 ⊢
  refine grow_struct 9 _ [.is (.string s), .is (.int .i64 (word4 s 12 : Nat)), .is (.string s), .is (.int .i64 (word4 s 16 : Nat)), .is (.string s), .is (.int .u8 (byteN s 9 : Int)), .is (.int .i64 (byteN s 9 : Int)), .is (.agg #[.int .i64 (word4 s 12 : Nat), .int .i64 (word4 s 16 : Nat), .int .i64 (byteN s 9 : Int), .int .i64 0, .int .i64 0, .int .i64 0, .int .i64 0, .int .i64 0, .int .i64 0, .string ⟨#[]⟩]), .blk w1.heap.size #[.int .i64 0, .int .i64 0, .int .i64 0, .int .i64 0, .int .i64 0, .int .i64 0, .int .i64 0, .int .i64 0, .int .i64 0, .string ⟨#[]⟩] 23] 8 7 3 11 23 23 #[.int .i64 0, .int .i64 0, .int .i64 0, .int .i64 0, .int .i64 0, .int .i64 0, .int .i64 0, .int .i64 0, .int .i64 0, .string ⟨#[]⟩] #[.int .i64 (word4 s 12 : Nat), .int .i64 (word4 s 16 : Nat), .int .i64 (byteN s 9 : Int), .int .i64 0, .int .i64 0, .int .i64 0, .int .i64 0, .int .i64 0, .int .i64 0, .string ⟨#[]⟩] rfl rfl rfl (by kernel_rfl) (by kernel_rfl) (by kernel_rfl) rfl rfl rfl rfl (by decide) (by decide) rfl rfl rfl (by first | kernel_rfl | simp [Value.oneCell']) (by kernel_rfl) ?steps ?fin
  case steps =>
    refine ⟨?_, ?_, ?_, ?_, ?_, ?_, ?_, ?_, ?_, trivial⟩
    · refine ⟨rfl, fun v W ρ hC kc kf ks ki kd => ?_⟩
      have t0 : ρ (.tmp 0) = .string s := ki 0 (by decide)
      simp [execOp, go_sem, t0]
      exact ⟨hC, Below.refl _ _, rfl⟩
    · refine ⟨rfl, fun v W ρ hC kc kf ks ki kd => ?_⟩
      have d0 : v 0 = .string s := kd _ (Array.mem_of_getElem? (i := 0) rfl) rfl
      have t4 : ρ (.tmp 4) = v 0 := ks 0 4 (by decide) rfl
      rw [d0] at t4
      simp [execOp, go_sem, t4, kf, kc]
      exact Calls.mono (l03Long_any s 12 _ (by omega) hs) (fun e x h => ⟨_, h.1, hC.trans (h.2.mono hC.size), h.2, rfl⟩)
    · refine ⟨rfl, fun v W ρ hC kc kf ks ki kd => ?_⟩
      have t0 : ρ (.tmp 0) = .string s := ki 0 (by decide)
      simp [execOp, go_sem, t0]
      exact ⟨hC, Below.refl _ _, rfl⟩
    · refine ⟨rfl, fun v W ρ hC kc kf ks ki kd => ?_⟩
      have d2 : v 2 = .string s := kd _ (Array.mem_of_getElem? (i := 0) rfl) rfl
      have t6 : ρ (.tmp 6) = v 2 := ks 2 6 (by decide) rfl
      rw [d2] at t6
      simp [execOp, go_sem, t6, kf, kc]
      exact Calls.mono (l03Long_any s 16 _ (by omega) hs) (fun e x h => ⟨_, h.1, hC.trans (h.2.mono hC.size), h.2, rfl⟩)
    · refine ⟨rfl, fun v W ρ hC kc kf ks ki kd => ?_⟩
      have t0 : ρ (.tmp 0) = .string s := ki 0 (by decide)
      simp [execOp, go_sem, t0]
      exact ⟨hC, Below.refl _ _, rfl⟩
    · refine ⟨rfl, fun v W ρ hC kc kf ks ki kd => ?_⟩
      have d4 : v 4 = .string s := kd _ (Array.mem_of_getElem? (i := 0) rfl) rfl
      have t8 : ρ (.tmp 8) = v 4 := ks 4 8 (by decide) rfl
      rw [d4] at t8
      simp [execOp, go_sem, t8, h9, h9i, hb9, kc]
      exact ⟨hC, Below.refl _ _, rfl⟩
    · refine ⟨rfl, fun v W ρ hC kc kf ks ki kd => ?_⟩
      have d5 : v 5 = .int .u8 (byteN s 9 : Int) := kd _ (Array.mem_of_getElem? (i := 0) rfl) rfl
      have t9 : ρ (.tmp 9) = v 5 := ks 5 9 (by decide) rfl
      rw [d5] at t9
      simp [execOp, go_sem, t9, hw9]
      exact ⟨hC, Below.refl _ _, rfl⟩
    · refine ⟨rfl, fun v W ρ hC kc kf ks ki kd => ?_⟩
      have d1 : v 1 = .int .i64 (word4 s 12 : Nat) := kd _ (Array.mem_of_getElem? (i := 0) rfl) rfl
      have t5 : ρ (.tmp 5) = v 1 := ks 1 5 (by decide) rfl
      rw [d1] at t5
      have d3 : v 3 = .int .i64 (word4 s 16 : Nat) := kd _ (Array.mem_of_getElem? (i := 1) rfl) rfl
      have t7 : ρ (.tmp 7) = v 3 := ks 3 7 (by decide) rfl
      rw [d3] at t7
      have d6 : v 6 = .int .i64 (byteN s 9 : Int) := kd _ (Array.mem_of_getElem? (i := 2) rfl) rfl
      have t10 : ρ (.tmp 10) = v 6 := ks 6 10 (by decide) rfl
      rw [d6] at t10
      simp [execOp, go_sem, t5, t7, t10]
      exact ⟨hC, Below.refl _ _, rfl⟩
    · refine ⟨rfl, fun v W ρ hC kc kf ks ki kd => ?_⟩
      simp [execOp, go_sem, ]
      exact ⟨hC.alloc hC.size _, (Below.refl _ _).alloc (Nat.le_refl _) _, W.heap.size, rfl, hC.size, heap_newG _ _⟩
  case fin =>
    intro v W B hC hvB hn hB hall
    simp [upto, Act.put]
    rw [hvB]
    clear hall
    have hB2 := hidS (hB1.out.trans (hC.mono hB1.out.size))
    have hG2 := blk_later hG1 hC
    have hgl := blk_lt hG1
    have hne : w.heap.size ≠ B := by omega
    have c2 := blk_cell hB 2
    simp at c2
    clear hB1 hG1 hC hvB
    by_cases p6 : byteN s 9 = 6
    · have p6' : ((byteN s 9 : Int) == 6) = true := by rw [p6]; rfl
      by_cases h40 : s.size < 40
      · have eR : Hid (readPk s = ⟨0, 0, 0, 0, 0, 0, 0, 0, 0, ⟨#[]⟩⟩) := by unfold readPk; rw [if_pos p6, if_pos h40]; rfl
        have h40' : (s.size : Int) < 40 := by omega
        have g0 := blk_cell hG2
        have gf := blk_free hG2
        have hL := hB2
        clear p6 h40
        go_wp2
        refine bodyPost_ret (v := .agg #[.int .i64 0, .int .i64 0, .int .i64 0, .int .i64 0, .int .i64 0, .int .i64 0, .int .i64 0, .int .i64 0, .int .i64 0, .string ⟨#[]⟩]) (by simp [results, Tryd.results10, go_sem, g0]) rfl ⟨by rw [eR.out], ?_⟩
        iterate 10 (refine below_at ?_ (Nat.le_refl _))
        exact hL.out
      have eR : Hid (readPk s = ⟨word4 s 12, word4 s 16, byteN s 9, word2 s 20, word2 s 22, 0, byteN s 33, word4 s 24, word4 s 28, s.extract 40 s.size⟩) := by unfold readPk; rw [if_pos p6, if_neg h40]; rfl
      have h40' : (40 : Int) ≤ (s.size : Int) := by omega
      have h40n : 40 ≤ s.size := by omega
      have h33 : 33 < s.size := by omega
      have h33i : (33 : Int) < (s.size : Int) := by omega
      have hb33 : s[33].toNat = byteN s 33 := byteN_get h33
      have lb33 := byteN_lt s 33
      have hw33 : wrap64 (byteN s 33 : Int) = (byteN s 33 : Int) := IntWalk.wrap64_in _ (by omega)
      clear p6 h40
      have hB0 := hB
      have hG0 := hG2
      have hL0 := hB2
      clear hB hG2 hB2
      go_wp2_with fail
      refine (l03Word_any s 20 _ (by omega) hs).mono ?_
      rintro _ x1 ⟨rfl, hx1⟩
      have hB1 := blk_later hB0 hx1
      have hG1 := blk_later hG0 hx1
      have hL1 := hidS (hL0.out.trans (hx1.mono hL0.out.size))
      clear hB0 hG0 hL0 hx1
      have c3 := blk_cell hB1 3
      have f3 := blk_free hB1 3
      simp at c3
      go_wp2_with fail
      have hB1s := blk_set hB1 3 (.int .i64 ((word2 s 20 : Nat) : Int))
      have hG1s := blk_other hG1 hne 3 (.int .i64 ((word2 s 20 : Nat) : Int))
      have hL1s := hidS (Below.setCell hL1.out (p := ⟨B, 3, none⟩) (show w.heap.size ≤ B by omega) (.int .i64 ((word2 s 20 : Nat) : Int)))
      simp at hB1s
      generalize x1.setCell ⟨B, 3, none⟩ (.int .i64 ((word2 s 20 : Nat) : Int)) = y2 at hB1s hG1s hL1s ⊢
      clear hB1 hG1 hL1 c3 f3
      have hB2 := hB1s
      have hG2 := hG1s
      have hL2 := hL1s
      clear hB1s hG1s hL1s
      refine (l03Word_any s 22 _ (by omega) hs).mono ?_
      rintro _ x3 ⟨rfl, hx3⟩
      have hB3 := blk_later hB2 hx3
      have hG3 := blk_later hG2 hx3
      have hL3 := hidS (hL2.out.trans (hx3.mono hL2.out.size))
      clear hB2 hG2 hL2 hx3
      have c4 := blk_cell hB3 4
      have f4 := blk_free hB3 4
      simp at c4
      go_wp2_with fail
      have hB3s := blk_set hB3 4 (.int .i64 ((word2 s 22 : Nat) : Int))
      have hG3s := blk_other hG3 hne 4 (.int .i64 ((word2 s 22 : Nat) : Int))
      have hL3s := hidS (Below.setCell hL3.out (p := ⟨B, 4, none⟩) (show w.heap.size ≤ B by omega) (.int .i64 ((word2 s 22 : Nat) : Int)))
      simp at hB3s
      generalize x3.setCell ⟨B, 4, none⟩ (.int .i64 ((word2 s 22 : Nat) : Int)) = y4 at hB3s hG3s hL3s ⊢
      clear hB3 hG3 hL3 c4 f4
      have hB4 := hB3s
      have hG4 := hG3s
      have hL4 := hL3s
      clear hB3s hG3s hL3s
      refine (l03Long_any s 24 _ (by omega) hs).mono ?_
      rintro _ x5 ⟨rfl, hx5⟩
      have hB5 := blk_later hB4 hx5
      have hG5 := blk_later hG4 hx5
      have hL5 := hidS (hL4.out.trans (hx5.mono hL4.out.size))
      clear hB4 hG4 hL4 hx5
      have c7 := blk_cell hB5 7
      have f7 := blk_free hB5 7
      simp at c7
      go_wp2_with fail
      have hB5s := blk_set hB5 7 (.int .i64 ((word4 s 24 : Nat) : Int))
      have hG5s := blk_other hG5 hne 7 (.int .i64 ((word4 s 24 : Nat) : Int))
      have hL5s := hidS (Below.setCell hL5.out (p := ⟨B, 7, none⟩) (show w.heap.size ≤ B by omega) (.int .i64 ((word4 s 24 : Nat) : Int)))
      simp at hB5s
      generalize x5.setCell ⟨B, 7, none⟩ (.int .i64 ((word4 s 24 : Nat) : Int)) = y6 at hB5s hG5s hL5s ⊢
      clear hB5 hG5 hL5 c7 f7
      have hB6 := hB5s
      have hG6 := hG5s
      have hL6 := hL5s
      clear hB5s hG5s hL5s
      refine (l03Long_any s 28 _ (by omega) hs).mono ?_
      rintro _ x7 ⟨rfl, hx7⟩
      have hB7 := blk_later hB6 hx7
      have hG7 := blk_later hG6 hx7
      have hL7 := hidS (hL6.out.trans (hx7.mono hL6.out.size))
      clear hB6 hG6 hL6 hx7
      have c8 := blk_cell hB7 8
      have f8 := blk_free hB7 8
      simp at c8
      have c6 := blk_cell hB7 6
      have f6 := blk_free hB7 6
      simp at c6
      have c9 := blk_cell hB7 9
      have f9 := blk_free hB7 9
      simp at c9
      have c0 := blk_cell hB7 0
      simp at c0
      have c1 := blk_cell hB7 1
      simp at c1
      have c2 := blk_cell hB7 2
      simp at c2
      have c3 := blk_cell hB7 3
      simp at c3
      have c4 := blk_cell hB7 4
      simp at c4
      have c5 := blk_cell hB7 5
      simp at c5
      have c7 := blk_cell hB7 7
      simp at c7
      have g0 := blk_cell hG7
      have gf := blk_free hG7
      have hneB : B ≠ w.heap.size := fun q => hne q.symm
      have hL := hL7
      go_wp2
      refine bodyPost_ret (v := .agg #[.int .i64 ((word4 s 12 : Nat) : Int), .int .i64 ((word4 s 16 : Nat) : Int), .int .i64 ((byteN s 9 : Nat) : Int), .int .i64 ((word2 s 20 : Nat) : Int), .int .i64 ((word2 s 22 : Nat) : Int), .int .i64 0, .int .i64 ((byteN s 33 : Nat) : Int), .int .i64 ((word4 s 24 : Nat) : Int), .int .i64 ((word4 s 28 : Nat) : Int), .string (s.extract 40 s.size)]) (by simp [results, Tryd.results10, go_sem, g0]) rfl ⟨by rw [eR.out], ?_⟩
      iterate 10 (refine below_at ?_ (Nat.le_refl _))
      iterate 3 (refine below_at ?_ (show w.heap.size ≤ B by omega))
      exact hL.out
    have p6' : ((byteN s 9 : Int) == 6) = false := beq_eq_false_iff_ne.2 (by omega)
    by_cases p17 : byteN s 9 = 17
    · have p17' : ((byteN s 9 : Int) == 17) = true := by rw [p17]; rfl
      have eR : Hid (readPk s = ⟨word4 s 12, word4 s 16, byteN s 9, word2 s 20, word2 s 22, 0, 0, 0, 0, s.extract 28 s.size⟩) := by unfold readPk; rw [if_neg p6, if_pos p17]; rfl
      have h28' : (28 : Int) ≤ (s.size : Int) := by omega
      clear p6 p17
      have hB0 := hB
      have hG0 := hG2
      have hL0 := hB2
      clear hB hG2 hB2
      go_wp2_with fail
      refine (l03Word_any s 20 _ (by omega) hs).mono ?_
      rintro _ x1 ⟨rfl, hx1⟩
      have hB1 := blk_later hB0 hx1
      have hG1 := blk_later hG0 hx1
      have hL1 := hidS (hL0.out.trans (hx1.mono hL0.out.size))
      clear hB0 hG0 hL0 hx1
      have c3 := blk_cell hB1 3
      have f3 := blk_free hB1 3
      simp at c3
      go_wp2_with fail
      have hB1s := blk_set hB1 3 (.int .i64 ((word2 s 20 : Nat) : Int))
      have hG1s := blk_other hG1 hne 3 (.int .i64 ((word2 s 20 : Nat) : Int))
      have hL1s := hidS (Below.setCell hL1.out (p := ⟨B, 3, none⟩) (show w.heap.size ≤ B by omega) (.int .i64 ((word2 s 20 : Nat) : Int)))
      simp at hB1s
      generalize x1.setCell ⟨B, 3, none⟩ (.int .i64 ((word2 s 20 : Nat) : Int)) = y2 at hB1s hG1s hL1s ⊢
      clear hB1 hG1 hL1 c3 f3
      have hB2 := hB1s
      have hG2 := hG1s
      have hL2 := hL1s
      clear hB1s hG1s hL1s
      refine (l03Word_any s 22 _ (by omega) hs).mono ?_
      rintro _ x3 ⟨rfl, hx3⟩
      have hB3 := blk_later hB2 hx3
      have hG3 := blk_later hG2 hx3
      have hL3 := hidS (hL2.out.trans (hx3.mono hL2.out.size))
      clear hB2 hG2 hL2 hx3
      have c4 := blk_cell hB3 4
      have f4 := blk_free hB3 4
      simp at c4
      have c9 := blk_cell hB3 9
      have f9 := blk_free hB3 9
      simp at c9
      have c0 := blk_cell hB3 0
      simp at c0
      have c1 := blk_cell hB3 1
      simp at c1
      have c2 := blk_cell hB3 2
      simp at c2
      have c3 := blk_cell hB3 3
      simp at c3
      have c5 := blk_cell hB3 5
      simp at c5
      have c6 := blk_cell hB3 6
      simp at c6
      have c7 := blk_cell hB3 7
      simp at c7
      have c8 := blk_cell hB3 8
      simp at c8
      have g0 := blk_cell hG3
      have gf := blk_free hG3
      have hneB : B ≠ w.heap.size := fun q => hne q.symm
      have hL := hL3
      go_wp2
      refine bodyPost_ret (v := .agg #[.int .i64 ((word4 s 12 : Nat) : Int), .int .i64 ((word4 s 16 : Nat) : Int), .int .i64 ((byteN s 9 : Nat) : Int), .int .i64 ((word2 s 20 : Nat) : Int), .int .i64 ((word2 s 22 : Nat) : Int), .int .i64 0, .int .i64 0, .int .i64 0, .int .i64 0, .string (s.extract 28 s.size)]) (by simp [results, Tryd.results10, go_sem, g0]) rfl ⟨by rw [eR.out], ?_⟩
      iterate 10 (refine below_at ?_ (Nat.le_refl _))
      iterate 2 (refine below_at ?_ (show w.heap.size ≤ B by omega))
      exact hL.out
    · have p17' : ((byteN s 9 : Int) == 17) = false := beq_eq_false_iff_ne.2 (by omega)
      have eR : Hid (readPk s = ⟨word4 s 12, word4 s 16, byteN s 9, word2 s 24, 0, byteN s 20, 0, word2 s 26, 0, s.extract 28 s.size⟩) := by unfold readPk; rw [if_neg p6, if_neg p17]; rfl
      have h28' : (28 : Int) ≤ (s.size : Int) := by omega
      have h20 : 20 < s.size := by omega
      have h20i : (20 : Int) < (s.size : Int) := by omega
      have hb20 : s[20].toNat = byteN s 20 := byteN_get h20
      have lb20 := byteN_lt s 20
      have hw20 : wrap64 (byteN s 20 : Int) = (byteN s 20 : Int) := IntWalk.wrap64_in _ (by omega)
      clear p6 p17
      have hB0 := hB
      have hG0 := hG2
      have hL0 := hB2
      clear hB hG2 hB2
      have c5 := blk_cell hB0 5
      have f5 := blk_free hB0 5
      simp at c5
      go_wp2_with fail
      have hB0s := blk_set hB0 5 (.int .i64 ((byteN s 20 : Nat) : Int))
      have hG0s := blk_other hG0 hne 5 (.int .i64 ((byteN s 20 : Nat) : Int))
      have hL0s := hidS (Below.setCell hL0.out (p := ⟨B, 5, none⟩) (show w.heap.size ≤ B by omega) (.int .i64 ((byteN s 20 : Nat) : Int)))
      simp at hB0s
      generalize W.setCell ⟨B, 5, none⟩ (.int .i64 ((byteN s 20 : Nat) : Int)) = y1 at hB0s hG0s hL0s ⊢
      clear hB0 hG0 hL0 c5 f5
      have hB1 := hB0s
      have hG1 := hG0s
      have hL1 := hL0s
      clear hB0s hG0s hL0s
      refine (l03Word_any s 24 _ (by omega) hs).mono ?_
      rintro _ x2 ⟨rfl, hx2⟩
      have hB2 := blk_later hB1 hx2
      have hG2 := blk_later hG1 hx2
      have hL2 := hidS (hL1.out.trans (hx2.mono hL1.out.size))
      clear hB1 hG1 hL1 hx2
      have c3 := blk_cell hB2 3
      have f3 := blk_free hB2 3
      simp at c3
      go_wp2_with fail
      have hB2s := blk_set hB2 3 (.int .i64 ((word2 s 24 : Nat) : Int))
      have hG2s := blk_other hG2 hne 3 (.int .i64 ((word2 s 24 : Nat) : Int))
      have hL2s := hidS (Below.setCell hL2.out (p := ⟨B, 3, none⟩) (show w.heap.size ≤ B by omega) (.int .i64 ((word2 s 24 : Nat) : Int)))
      simp at hB2s
      generalize x2.setCell ⟨B, 3, none⟩ (.int .i64 ((word2 s 24 : Nat) : Int)) = y3 at hB2s hG2s hL2s ⊢
      clear hB2 hG2 hL2 c3 f3
      have hB3 := hB2s
      have hG3 := hG2s
      have hL3 := hL2s
      clear hB2s hG2s hL2s
      refine (l03Word_any s 26 _ (by omega) hs).mono ?_
      rintro _ x4 ⟨rfl, hx4⟩
      have hB4 := blk_later hB3 hx4
      have hG4 := blk_later hG3 hx4
      have hL4 := hidS (hL3.out.trans (hx4.mono hL3.out.size))
      clear hB3 hG3 hL3 hx4
      have c7 := blk_cell hB4 7
      have f7 := blk_free hB4 7
      simp at c7
      have c9 := blk_cell hB4 9
      have f9 := blk_free hB4 9
      simp at c9
      have c0 := blk_cell hB4 0
      simp at c0
      have c1 := blk_cell hB4 1
      simp at c1
      have c2 := blk_cell hB4 2
      simp at c2
      have c3 := blk_cell hB4 3
      simp at c3
      have c4 := blk_cell hB4 4
      simp at c4
      have c5 := blk_cell hB4 5
      simp at c5
      have c6 := blk_cell hB4 6
      simp at c6
      have c8 := blk_cell hB4 8
      simp at c8
      have g0 := blk_cell hG4
      have gf := blk_free hG4
      have hneB : B ≠ w.heap.size := fun q => hne q.symm
      have hL := hL4
      go_wp2
      refine bodyPost_ret (v := .agg #[.int .i64 ((word4 s 12 : Nat) : Int), .int .i64 ((word4 s 16 : Nat) : Int), .int .i64 ((byteN s 9 : Nat) : Int), .int .i64 ((word2 s 24 : Nat) : Int), .int .i64 0, .int .i64 ((byteN s 20 : Nat) : Int), .int .i64 0, .int .i64 ((word2 s 26 : Nat) : Int), .int .i64 0, .string (s.extract 28 s.size)]) (by simp [results, Tryd.results10, go_sem, g0]) rfl ⟨by rw [eR.out], ?_⟩
      iterate 10 (refine below_at ?_ (Nat.le_refl _))
      iterate 2 (refine below_at ?_ (show w.heap.size ≤ B by omega))
      exact hL.out
end Go.Proofs.YthfhbmiddillbafDoor
end
