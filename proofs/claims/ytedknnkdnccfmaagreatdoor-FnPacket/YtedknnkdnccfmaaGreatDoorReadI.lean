/- Proved here: impl.readPacket answers the packet that a text tells, or which error; all old memory stays (conditions: the text has at most 8000 bytes; the four package variables hold four errors). -/
import Derived.Test.YtedknnkdnccfmaaGreatDoorScan
import Derived.Test.YtedknnkdnccfmaaGreatDoorAll38
import Derived.Test.YtedknnkdnccfmaaGreatDoorSents
import Derived.Test.YtedknnkdnccfmaaGreatDoorAll17
namespace Go.Proofs.YtedknnkdnccfmaaGreatDoor
open Go.ChangeShapes Go.WideShapes Go.ChangeAt Go.RowKit
open Go.ChangeMaps (open_string shut_string)
set_option linter.unusedVariables false
set_option maxRecDepth 100000

theorem sent_alloc {aF aS aY aM : Addr} {w : World} (h : Sent aF aS aY aM w) (o : Obj) : Sent aF aS aY aM (w.alloc o) := h.later ((Below.refl _ _).alloc (Nat.le_refl _) o)

theorem readI_short {aF aS aY aM : Addr} (s : ByteArray) (w : World) (hS : Sent aF aS aY aM w) (h1 : s.size < 28) :
    Calls Tryz.prog 50 #[.string s] w fun e w' => e = .returned (.tuple #[.agg #[.int .i64 zeroPk.src, .int .i64 zeroPk.dst, .int .i64 zeroPk.proto, .int .i64 zeroPk.a, .int .i64 zeroPk.b, .int .i64 zeroPk.kind, .int .i64 zeroPk.flags, .int .i64 zeroPk.seq, .int .i64 zeroPk.ack, .string zeroPk.body], .iface 186 (.pointer (some aS))]) ∧ Below w.heap.size w w' := by
  have h1' : (s.size : Int) < 28 := by omega
  have hg := (sent_alloc hS (.cells #[.int .i64 0, .int .i64 0, .int .i64 0, .int .i64 0, .int .i64 0, .int .i64 0, .int .i64 0, .int .i64 0, .int .i64 0, .string ⟨#[]⟩] 24)).cS
  have hlt := World.block_lt_of_cell? w _ hS.cS
  clear hS
  go_enter Tryz.func50, Tryz.ntmps50
  go_wp2_with fail
  go_region
  go_wp2_with fail
  exact bodyPost_ret (v := .tuple #[.agg #[.int .i64 zeroPk.src, .int .i64 zeroPk.dst, .int .i64 zeroPk.proto, .int .i64 zeroPk.a, .int .i64 zeroPk.b, .int .i64 zeroPk.kind, .int .i64 zeroPk.flags, .int .i64 zeroPk.seq, .int .i64 zeroPk.ack, .string zeroPk.body], .iface 186 (.pointer (some aS))]) (by simp [results, Tryz.results50, go_sem, zeroPk]) rfl ⟨rfl, ((Below.refl _ _).alloc (Nat.le_refl _) _).drew⟩
set_option maxHeartbeats 2000000 in
theorem readI_syntax {aF aS aY aM : Addr} (s : ByteArray) (p : Pk) (v : Value) (k : Nat) (w : World) (hS : Sent aF aS aY aM w) (h1 : 28 ≤ s.size) (hs : s.size ≤ 8000) (hk : k ≤ 100) (hp : p = scanPk s) (hb : (bytesAns p).size ≤ 8000) (hbod : p.body.size ≤ maxLen)
    (hPT : ∀ W, Calls Tryz.prog 41 #[.agg #[.int .i64 p.src, .int .i64 p.dst, .int .i64 p.proto, .int .i64 p.a, .int .i64 p.b, .int .i64 p.kind, .int .i64 p.flags, .int .i64 p.seq, .int .i64 p.ack, .string p.body]] W fun e w' => e = .returned v ∧ Below W.heap.size W w')
    (hCA : ∀ W, Calls Tryz.prog 46 #[v] W fun e w' => e = .returned (.int .i64 (k : Int)) ∧ Below W.heap.size W w')
    (hbl : (putAll (twoT 0).data.toList (bytesAns p).data.toList [10, k] == putAll (twoT 0).data.toList s.data.toList [10, k]) = false) :
    Calls Tryz.prog 50 #[.string s] w fun e w' => e = .returned (.tuple #[.agg #[.int .i64 zeroPk.src, .int .i64 zeroPk.dst, .int .i64 zeroPk.proto, .int .i64 zeroPk.a, .int .i64 zeroPk.b, .int .i64 zeroPk.kind, .int .i64 zeroPk.flags, .int .i64 zeroPk.seq, .int .i64 zeroPk.ack, .string zeroPk.body], .iface 186 (.pointer (some aY))]) ∧ Below w.heap.size w w' := by
  have h1' : ¬ (s.size : Int) < 28 := by omega
  have HSC := hidS (fun W => scan_any s W h1 hs)
  rw [← hp] at HSC
  have HB := hidS (fun W => implBytes_any p W hbod)
  have HPT := hidS hPT
  have HCA := hidS hCA
  have hG0 := hidS (heap_newG w (.cells #[.int .i64 0, .int .i64 0, .int .i64 0, .int .i64 0, .int .i64 0, .int .i64 0, .int .i64 0, .int .i64 0, .int .i64 0, .string ⟨#[]⟩] 24))
  have hS0 := hidS (sent_alloc hS (.cells #[.int .i64 0, .int .i64 0, .int .i64 0, .int .i64 0, .int .i64 0, .int .i64 0, .int .i64 0, .int .i64 0, .int .i64 0, .string ⟨#[]⟩] 24))
  have hL0 := hidS ((Below.refl w.heap.size w).alloc (Nat.le_refl _) (.cells #[.int .i64 0, .int .i64 0, .int .i64 0, .int .i64 0, .int .i64 0, .int .i64 0, .int .i64 0, .int .i64 0, .int .i64 0, .string ⟨#[]⟩] 24))
  have hw0 : wordB 0 = true := rfl
  have HS0 := hidS hS
  clear hPT hCA hS hp
  go_enter Tryz.func50, Tryz.ntmps50
  go_wp2_with fail
  refine (HSC.out _).mono ?_
  rintro _ w1 ⟨rfl, hb1⟩
  have hG1 := hidS (blk_alloc (blk_later hG0.out hb1) (.cells #[.int .i64 p.src, .int .i64 p.dst, .int .i64 p.proto, .int .i64 p.a, .int .i64 p.b, .int .i64 p.kind, .int .i64 p.flags, .int .i64 p.seq, .int .i64 p.ack, .string p.body] 24))
  have hP1 := hidS (heap_newG w1 (.cells #[.int .i64 p.src, .int .i64 p.dst, .int .i64 p.proto, .int .i64 p.a, .int .i64 p.b, .int .i64 p.kind, .int .i64 p.flags, .int .i64 p.seq, .int .i64 p.ack, .string p.body] 24))
  have hS1 := hidS (sent_alloc (hS0.out.later hb1) (.cells #[.int .i64 p.src, .int .i64 p.dst, .int .i64 p.proto, .int .i64 p.a, .int .i64 p.b, .int .i64 p.kind, .int .i64 p.flags, .int .i64 p.seq, .int .i64 p.ack, .string p.body] 24))
  have hL1' := hL0.out.trans (hb1.mono hL0.out.size)
  have hL1 := hidS (hL1'.alloc hL1'.size (.cells #[.int .i64 p.src, .int .i64 p.dst, .int .i64 p.proto, .int .i64 p.a, .int .i64 p.b, .int .i64 p.kind, .int .i64 p.flags, .int .i64 p.seq, .int .i64 p.ack, .string p.body] 24))
  have hlt1 : w.heap.size < w1.heap.size := by have := hb1.size; simp at this; omega
  clear hb1 hG0 hS0 hL0 hL1' HSC
  go_wp2_with fail
  refine (HB.out _).mono ?_
  rintro _ w2 ⟨rfl, hb2⟩
  have hG2 := hidS (blk_later hG1.out hb2)
  have hP2 := blk_later hP1.out hb2
  have hS2 := hidS (hS1.out.later hb2)
  have hL2 := hidS (hL1.out.trans (hb2.mono hL1.out.size))
  clear hb2 hG1 hP1 hS1 hL1 HB
  have c0 := blk_cell hP2 0
  have c1 := blk_cell hP2 1
  have c2 := blk_cell hP2 2
  have c3 := blk_cell hP2 3
  have c4 := blk_cell hP2 4
  have c5 := blk_cell hP2 5
  have c6 := blk_cell hP2 6
  have c7 := blk_cell hP2 7
  have c8 := blk_cell hP2 8
  have c9 := blk_cell hP2 9
  simp at c0 c1 c2 c3 c4 c5 c6 c7 c8 c9
  have HP2 := hidS hP2
  clear hP2
  generalize bytesAns p = t at *
  go_wp2_with fail
  refine (HPT.out _).mono ?_
  rintro _ w3 ⟨rfl, hb3⟩
  have hG3 := hidS (blk_later hG2.out hb3)
  have hP3 := hidS (blk_later HP2.out hb3)
  have hS3 := hidS (hS2.out.later hb3)
  have hL3 := hidS (hL2.out.trans (hb3.mono hL2.out.size))
  clear hb3 hG2 HP2 hS2 hL2 HPT c0 c1 c2 c3 c4 c5 c6 c7 c8 c9
  go_wp2_with fail
  refine (HCA.out _).mono ?_
  rintro _ w4 ⟨rfl, hb4⟩
  have hv := vals_at (W := w4) [.int .i64 ((10 : Nat) : Int), .int .i64 (k : Int)] 3
  have hG4 := hidS (blk_alloc (blk_later hG3.out hb4) (.cells #[.int .i64 10, .int .i64 (k : Int)] 3))
  have hP4 := hidS (blk_alloc (blk_later hP3.out hb4) (.cells #[.int .i64 10, .int .i64 (k : Int)] 3))
  have hS4 := hidS (sent_alloc (hS3.out.later hb4) (.cells #[.int .i64 10, .int .i64 (k : Int)] 3))
  have hL4' := hL3.out.trans (hb4.mono hL3.out.size)
  have hL4 := hidS (hL4'.alloc hL4'.size (.cells #[.int .i64 10, .int .i64 (k : Int)] 3))
  have HV : Hid (ValsAt w4.heap.size [.int .i64 ((10 : Nat) : Int), .int .i64 (k : Int)] (w4.alloc (.cells #[.int .i64 10, .int .i64 (k : Int)] 3))) := hv
  clear hb4 hG3 hP3 hS3 hL3 hL4' HCA hv
  go_wp2_with fail
  refine (withWord_x t 0 w4.heap.size 2 [10, k] _ hw0 (ValsAt.nats (ks := [10, k]) HV.out) HV.out.1 (by simp) (by simp; omega) (by omega)).mono ?_
  rintro _ w5 ⟨rfl, hb5⟩
  have hG5 := hidS (blk_later hG4.out hb5)
  have hP5 := hidS (blk_later hP4.out hb5)
  have hS5 := hidS (hS4.out.later hb5)
  have hL5 := hidS (hL4.out.trans (hb5.mono hL4.out.size))
  have HV5 := hidS (HV.out.later hb5)
  clear hb5 hG4 hP4 hS4 hL4 HV
  go_wp2_with fail
  refine (withWord_x s 0 w4.heap.size 2 [10, k] _ hw0 (ValsAt.nats (ks := [10, k]) HV5.out) HV5.out.1 (by simp) (by simp; omega) (by omega)).mono ?_
  rintro _ w6 ⟨rfl, hb6⟩
  have hG6 := blk_later hG5.out hb6
  have hP6 := blk_later hP5.out hb6
  have hS6 := hidS (hS5.out.later hb6)
  have hL6 := hidS (hL5.out.trans (hb6.mono hL5.out.size))
  clear hb6 hG5 hP5 hS5 hL5 HV5
  have hne : w.heap.size ≠ w1.heap.size := by omega
  have c0 := blk_cell hG6 0
  have f0 := blk_free hG6 0
  have d0 := blk_cell hP6 0
  have c1 := blk_cell hG6 1
  have f1 := blk_free hG6 1
  have d1 := blk_cell hP6 1
  have c2 := blk_cell hG6 2
  have f2 := blk_free hG6 2
  have d2 := blk_cell hP6 2
  have c3 := blk_cell hG6 3
  have f3 := blk_free hG6 3
  have d3 := blk_cell hP6 3
  have c4 := blk_cell hG6 4
  have f4 := blk_free hG6 4
  have d4 := blk_cell hP6 4
  have c5 := blk_cell hG6 5
  have f5 := blk_free hG6 5
  have d5 := blk_cell hP6 5
  have c6 := blk_cell hG6 6
  have f6 := blk_free hG6 6
  have d6 := blk_cell hP6 6
  have c7 := blk_cell hG6 7
  have f7 := blk_free hG6 7
  have d7 := blk_cell hP6 7
  have c8 := blk_cell hG6 8
  have f8 := blk_free hG6 8
  have d8 := blk_cell hP6 8
  have c9 := blk_cell hG6 9
  have f9 := blk_free hG6 9
  have d9 := blk_cell hP6 9
  simp at c0 c1 c2 c3 c4 c5 c6 c7 c8 c9 d0 d1 d2 d3 d4 d5 d6 d7 d8 d9
  clear hG6 hP6
  have hg := hS6.out.cY
  have hlt := World.block_lt_of_cell? w6 _ hg
  have hg0 : w.heap.size ≠ 1 := by have h : 1 < w.heap.size := World.block_lt_of_cell? w _ HS0.out.cY; omega
  clear hS6 HS0
  go_wp2_with fail
  go_region
  go_wp2_with fail
  refine bodyPost_ret (v := .tuple #[.agg #[.int .i64 zeroPk.src, .int .i64 zeroPk.dst, .int .i64 zeroPk.proto, .int .i64 zeroPk.a, .int .i64 zeroPk.b, .int .i64 zeroPk.kind, .int .i64 zeroPk.flags, .int .i64 zeroPk.seq, .int .i64 zeroPk.ack, .string zeroPk.body], .iface 186 (.pointer (some aY))]) (by simp [results, Tryz.results50, go_sem, zeroPk, *]) rfl ⟨rfl, ?_⟩
  refine Below.drew ?_
  repeat (refine below_at ?_ (Nat.le_refl _))
  exact hL6.out
set_option maxHeartbeats 2000000 in
theorem readI_sum {aF aS aY aM : Addr} (s : ByteArray) (p : Pk) (v : Value) (k : Nat) (w : World) (hS : Sent aF aS aY aM w) (h1 : 28 ≤ s.size) (hs : s.size ≤ 8000) (hk : k ≤ 100) (hp : p = scanPk s) (hb : (bytesAns p).size ≤ 8000) (hbod : p.body.size ≤ maxLen)
    (hPT : ∀ W, Calls Tryz.prog 41 #[.agg #[.int .i64 p.src, .int .i64 p.dst, .int .i64 p.proto, .int .i64 p.a, .int .i64 p.b, .int .i64 p.kind, .int .i64 p.flags, .int .i64 p.seq, .int .i64 p.ack, .string p.body]] W fun e w' => e = .returned v ∧ Below W.heap.size W w')
    (hCA : ∀ W, Calls Tryz.prog 46 #[v] W fun e w' => e = .returned (.int .i64 (k : Int)) ∧ Below W.heap.size W w')
    (hbl : (putAll (twoT 0).data.toList (bytesAns p).data.toList [10, k] == putAll (twoT 0).data.toList s.data.toList [10, k]) = true) (hbt : ((bytesAns p).toList == s.toList) = false) :
    Calls Tryz.prog 50 #[.string s] w fun e w' => e = .returned (.tuple #[.agg #[.int .i64 zeroPk.src, .int .i64 zeroPk.dst, .int .i64 zeroPk.proto, .int .i64 zeroPk.a, .int .i64 zeroPk.b, .int .i64 zeroPk.kind, .int .i64 zeroPk.flags, .int .i64 zeroPk.seq, .int .i64 zeroPk.ack, .string zeroPk.body], .iface 186 (.pointer (some aM))]) ∧ Below w.heap.size w w' := by
  have h1' : ¬ (s.size : Int) < 28 := by omega
  have HSC := hidS (fun W => scan_any s W h1 hs)
  rw [← hp] at HSC
  have HB := hidS (fun W => implBytes_any p W hbod)
  have HPT := hidS hPT
  have HCA := hidS hCA
  have hG0 := hidS (heap_newG w (.cells #[.int .i64 0, .int .i64 0, .int .i64 0, .int .i64 0, .int .i64 0, .int .i64 0, .int .i64 0, .int .i64 0, .int .i64 0, .string ⟨#[]⟩] 24))
  have hS0 := hidS (sent_alloc hS (.cells #[.int .i64 0, .int .i64 0, .int .i64 0, .int .i64 0, .int .i64 0, .int .i64 0, .int .i64 0, .int .i64 0, .int .i64 0, .string ⟨#[]⟩] 24))
  have hL0 := hidS ((Below.refl w.heap.size w).alloc (Nat.le_refl _) (.cells #[.int .i64 0, .int .i64 0, .int .i64 0, .int .i64 0, .int .i64 0, .int .i64 0, .int .i64 0, .int .i64 0, .int .i64 0, .string ⟨#[]⟩] 24))
  have hw0 : wordB 0 = true := rfl
  have HS0 := hidS hS
  clear hPT hCA hS hp
  go_enter Tryz.func50, Tryz.ntmps50
  go_wp2_with fail
  refine (HSC.out _).mono ?_
  rintro _ w1 ⟨rfl, hb1⟩
  have hG1 := hidS (blk_alloc (blk_later hG0.out hb1) (.cells #[.int .i64 p.src, .int .i64 p.dst, .int .i64 p.proto, .int .i64 p.a, .int .i64 p.b, .int .i64 p.kind, .int .i64 p.flags, .int .i64 p.seq, .int .i64 p.ack, .string p.body] 24))
  have hP1 := hidS (heap_newG w1 (.cells #[.int .i64 p.src, .int .i64 p.dst, .int .i64 p.proto, .int .i64 p.a, .int .i64 p.b, .int .i64 p.kind, .int .i64 p.flags, .int .i64 p.seq, .int .i64 p.ack, .string p.body] 24))
  have hS1 := hidS (sent_alloc (hS0.out.later hb1) (.cells #[.int .i64 p.src, .int .i64 p.dst, .int .i64 p.proto, .int .i64 p.a, .int .i64 p.b, .int .i64 p.kind, .int .i64 p.flags, .int .i64 p.seq, .int .i64 p.ack, .string p.body] 24))
  have hL1' := hL0.out.trans (hb1.mono hL0.out.size)
  have hL1 := hidS (hL1'.alloc hL1'.size (.cells #[.int .i64 p.src, .int .i64 p.dst, .int .i64 p.proto, .int .i64 p.a, .int .i64 p.b, .int .i64 p.kind, .int .i64 p.flags, .int .i64 p.seq, .int .i64 p.ack, .string p.body] 24))
  have hlt1 : w.heap.size < w1.heap.size := by have := hb1.size; simp at this; omega
  clear hb1 hG0 hS0 hL0 hL1' HSC
  go_wp2_with fail
  refine (HB.out _).mono ?_
  rintro _ w2 ⟨rfl, hb2⟩
  have hG2 := hidS (blk_later hG1.out hb2)
  have hP2 := blk_later hP1.out hb2
  have hS2 := hidS (hS1.out.later hb2)
  have hL2 := hidS (hL1.out.trans (hb2.mono hL1.out.size))
  clear hb2 hG1 hP1 hS1 hL1 HB
  have c0 := blk_cell hP2 0
  have c1 := blk_cell hP2 1
  have c2 := blk_cell hP2 2
  have c3 := blk_cell hP2 3
  have c4 := blk_cell hP2 4
  have c5 := blk_cell hP2 5
  have c6 := blk_cell hP2 6
  have c7 := blk_cell hP2 7
  have c8 := blk_cell hP2 8
  have c9 := blk_cell hP2 9
  simp at c0 c1 c2 c3 c4 c5 c6 c7 c8 c9
  have HP2 := hidS hP2
  clear hP2
  generalize bytesAns p = t at *
  go_wp2_with fail
  refine (HPT.out _).mono ?_
  rintro _ w3 ⟨rfl, hb3⟩
  have hG3 := hidS (blk_later hG2.out hb3)
  have hP3 := hidS (blk_later HP2.out hb3)
  have hS3 := hidS (hS2.out.later hb3)
  have hL3 := hidS (hL2.out.trans (hb3.mono hL2.out.size))
  clear hb3 hG2 HP2 hS2 hL2 HPT c0 c1 c2 c3 c4 c5 c6 c7 c8 c9
  go_wp2_with fail
  refine (HCA.out _).mono ?_
  rintro _ w4 ⟨rfl, hb4⟩
  have hv := vals_at (W := w4) [.int .i64 ((10 : Nat) : Int), .int .i64 (k : Int)] 3
  have hG4 := hidS (blk_alloc (blk_later hG3.out hb4) (.cells #[.int .i64 10, .int .i64 (k : Int)] 3))
  have hP4 := hidS (blk_alloc (blk_later hP3.out hb4) (.cells #[.int .i64 10, .int .i64 (k : Int)] 3))
  have hS4 := hidS (sent_alloc (hS3.out.later hb4) (.cells #[.int .i64 10, .int .i64 (k : Int)] 3))
  have hL4' := hL3.out.trans (hb4.mono hL3.out.size)
  have hL4 := hidS (hL4'.alloc hL4'.size (.cells #[.int .i64 10, .int .i64 (k : Int)] 3))
  have HV : Hid (ValsAt w4.heap.size [.int .i64 ((10 : Nat) : Int), .int .i64 (k : Int)] (w4.alloc (.cells #[.int .i64 10, .int .i64 (k : Int)] 3))) := hv
  clear hb4 hG3 hP3 hS3 hL3 hL4' HCA hv
  go_wp2_with fail
  refine (withWord_x t 0 w4.heap.size 2 [10, k] _ hw0 (ValsAt.nats (ks := [10, k]) HV.out) HV.out.1 (by simp) (by simp; omega) (by omega)).mono ?_
  rintro _ w5 ⟨rfl, hb5⟩
  have hG5 := hidS (blk_later hG4.out hb5)
  have hP5 := hidS (blk_later hP4.out hb5)
  have hS5 := hidS (hS4.out.later hb5)
  have hL5 := hidS (hL4.out.trans (hb5.mono hL4.out.size))
  have HV5 := hidS (HV.out.later hb5)
  clear hb5 hG4 hP4 hS4 hL4 HV
  go_wp2_with fail
  refine (withWord_x s 0 w4.heap.size 2 [10, k] _ hw0 (ValsAt.nats (ks := [10, k]) HV5.out) HV5.out.1 (by simp) (by simp; omega) (by omega)).mono ?_
  rintro _ w6 ⟨rfl, hb6⟩
  have hG6 := blk_later hG5.out hb6
  have hP6 := blk_later hP5.out hb6
  have hS6 := hidS (hS5.out.later hb6)
  have hL6 := hidS (hL5.out.trans (hb6.mono hL5.out.size))
  clear hb6 hG5 hP5 hS5 hL5 HV5
  have hne : w.heap.size ≠ w1.heap.size := by omega
  have c0 := blk_cell hG6 0
  have f0 := blk_free hG6 0
  have d0 := blk_cell hP6 0
  have c1 := blk_cell hG6 1
  have f1 := blk_free hG6 1
  have d1 := blk_cell hP6 1
  have c2 := blk_cell hG6 2
  have f2 := blk_free hG6 2
  have d2 := blk_cell hP6 2
  have c3 := blk_cell hG6 3
  have f3 := blk_free hG6 3
  have d3 := blk_cell hP6 3
  have c4 := blk_cell hG6 4
  have f4 := blk_free hG6 4
  have d4 := blk_cell hP6 4
  have c5 := blk_cell hG6 5
  have f5 := blk_free hG6 5
  have d5 := blk_cell hP6 5
  have c6 := blk_cell hG6 6
  have f6 := blk_free hG6 6
  have d6 := blk_cell hP6 6
  have c7 := blk_cell hG6 7
  have f7 := blk_free hG6 7
  have d7 := blk_cell hP6 7
  have c8 := blk_cell hG6 8
  have f8 := blk_free hG6 8
  have d8 := blk_cell hP6 8
  have c9 := blk_cell hG6 9
  have f9 := blk_free hG6 9
  have d9 := blk_cell hP6 9
  simp at c0 c1 c2 c3 c4 c5 c6 c7 c8 c9 d0 d1 d2 d3 d4 d5 d6 d7 d8 d9
  clear hG6 hP6
  have hg := hS6.out.cM
  have hlt := World.block_lt_of_cell? w6 _ hg
  have hg0 : w.heap.size ≠ 2 := by have h : 2 < w.heap.size := World.block_lt_of_cell? w _ HS0.out.cM; omega
  clear hS6 HS0
  go_wp2_with fail
  go_region
  go_wp2_with fail
  refine bodyPost_ret (v := .tuple #[.agg #[.int .i64 zeroPk.src, .int .i64 zeroPk.dst, .int .i64 zeroPk.proto, .int .i64 zeroPk.a, .int .i64 zeroPk.b, .int .i64 zeroPk.kind, .int .i64 zeroPk.flags, .int .i64 zeroPk.seq, .int .i64 zeroPk.ack, .string zeroPk.body], .iface 186 (.pointer (some aM))]) (by simp [results, Tryz.results50, go_sem, zeroPk, *]) rfl ⟨rfl, ?_⟩
  refine Below.drew ?_
  repeat (refine below_at ?_ (Nat.le_refl _))
  exact hL6.out
set_option maxHeartbeats 2000000 in
theorem readI_ok {aF aS aY aM : Addr} (s : ByteArray) (p : Pk) (v : Value) (k : Nat) (w : World) (hS : Sent aF aS aY aM w) (h1 : 28 ≤ s.size) (hs : s.size ≤ 8000) (hk : k ≤ 100) (hp : p = scanPk s) (hb : (bytesAns p).size ≤ 8000) (hbod : p.body.size ≤ maxLen)
    (hPT : ∀ W, Calls Tryz.prog 41 #[.agg #[.int .i64 p.src, .int .i64 p.dst, .int .i64 p.proto, .int .i64 p.a, .int .i64 p.b, .int .i64 p.kind, .int .i64 p.flags, .int .i64 p.seq, .int .i64 p.ack, .string p.body]] W fun e w' => e = .returned v ∧ Below W.heap.size W w')
    (hCA : ∀ W, Calls Tryz.prog 46 #[v] W fun e w' => e = .returned (.int .i64 (k : Int)) ∧ Below W.heap.size W w')
    (hbl : (putAll (twoT 0).data.toList (bytesAns p).data.toList [10, k] == putAll (twoT 0).data.toList s.data.toList [10, k]) = true) (hbt : ((bytesAns p).toList == s.toList) = true) :
    Calls Tryz.prog 50 #[.string s] w fun e w' => e = .returned (.tuple #[.agg #[.int .i64 p.src, .int .i64 p.dst, .int .i64 p.proto, .int .i64 p.a, .int .i64 p.b, .int .i64 p.kind, .int .i64 p.flags, .int .i64 p.seq, .int .i64 p.ack, .string p.body], .nilIface]) ∧ Below w.heap.size w w' := by
  have h1' : ¬ (s.size : Int) < 28 := by omega
  have HSC := hidS (fun W => scan_any s W h1 hs)
  rw [← hp] at HSC
  have HB := hidS (fun W => implBytes_any p W hbod)
  have HPT := hidS hPT
  have HCA := hidS hCA
  have hG0 := hidS (heap_newG w (.cells #[.int .i64 0, .int .i64 0, .int .i64 0, .int .i64 0, .int .i64 0, .int .i64 0, .int .i64 0, .int .i64 0, .int .i64 0, .string ⟨#[]⟩] 24))
  have hS0 := hidS (sent_alloc hS (.cells #[.int .i64 0, .int .i64 0, .int .i64 0, .int .i64 0, .int .i64 0, .int .i64 0, .int .i64 0, .int .i64 0, .int .i64 0, .string ⟨#[]⟩] 24))
  have hL0 := hidS ((Below.refl w.heap.size w).alloc (Nat.le_refl _) (.cells #[.int .i64 0, .int .i64 0, .int .i64 0, .int .i64 0, .int .i64 0, .int .i64 0, .int .i64 0, .int .i64 0, .int .i64 0, .string ⟨#[]⟩] 24))
  have hw0 : wordB 0 = true := rfl
  have HS0 := hidS hS
  clear hPT hCA hS hp
  go_enter Tryz.func50, Tryz.ntmps50
  go_wp2_with fail
  refine (HSC.out _).mono ?_
  rintro _ w1 ⟨rfl, hb1⟩
  have hG1 := hidS (blk_alloc (blk_later hG0.out hb1) (.cells #[.int .i64 p.src, .int .i64 p.dst, .int .i64 p.proto, .int .i64 p.a, .int .i64 p.b, .int .i64 p.kind, .int .i64 p.flags, .int .i64 p.seq, .int .i64 p.ack, .string p.body] 24))
  have hP1 := hidS (heap_newG w1 (.cells #[.int .i64 p.src, .int .i64 p.dst, .int .i64 p.proto, .int .i64 p.a, .int .i64 p.b, .int .i64 p.kind, .int .i64 p.flags, .int .i64 p.seq, .int .i64 p.ack, .string p.body] 24))
  have hS1 := hidS (sent_alloc (hS0.out.later hb1) (.cells #[.int .i64 p.src, .int .i64 p.dst, .int .i64 p.proto, .int .i64 p.a, .int .i64 p.b, .int .i64 p.kind, .int .i64 p.flags, .int .i64 p.seq, .int .i64 p.ack, .string p.body] 24))
  have hL1' := hL0.out.trans (hb1.mono hL0.out.size)
  have hL1 := hidS (hL1'.alloc hL1'.size (.cells #[.int .i64 p.src, .int .i64 p.dst, .int .i64 p.proto, .int .i64 p.a, .int .i64 p.b, .int .i64 p.kind, .int .i64 p.flags, .int .i64 p.seq, .int .i64 p.ack, .string p.body] 24))
  have hlt1 : w.heap.size < w1.heap.size := by have := hb1.size; simp at this; omega
  clear hb1 hG0 hS0 hL0 hL1' HSC
  go_wp2_with fail
  refine (HB.out _).mono ?_
  rintro _ w2 ⟨rfl, hb2⟩
  have hG2 := hidS (blk_later hG1.out hb2)
  have hP2 := blk_later hP1.out hb2
  have hS2 := hidS (hS1.out.later hb2)
  have hL2 := hidS (hL1.out.trans (hb2.mono hL1.out.size))
  clear hb2 hG1 hP1 hS1 hL1 HB
  have c0 := blk_cell hP2 0
  have c1 := blk_cell hP2 1
  have c2 := blk_cell hP2 2
  have c3 := blk_cell hP2 3
  have c4 := blk_cell hP2 4
  have c5 := blk_cell hP2 5
  have c6 := blk_cell hP2 6
  have c7 := blk_cell hP2 7
  have c8 := blk_cell hP2 8
  have c9 := blk_cell hP2 9
  simp at c0 c1 c2 c3 c4 c5 c6 c7 c8 c9
  have HP2 := hidS hP2
  clear hP2
  generalize bytesAns p = t at *
  go_wp2_with fail
  refine (HPT.out _).mono ?_
  rintro _ w3 ⟨rfl, hb3⟩
  have hG3 := hidS (blk_later hG2.out hb3)
  have hP3 := hidS (blk_later HP2.out hb3)
  have hS3 := hidS (hS2.out.later hb3)
  have hL3 := hidS (hL2.out.trans (hb3.mono hL2.out.size))
  clear hb3 hG2 HP2 hS2 hL2 HPT c0 c1 c2 c3 c4 c5 c6 c7 c8 c9
  go_wp2_with fail
  refine (HCA.out _).mono ?_
  rintro _ w4 ⟨rfl, hb4⟩
  have hv := vals_at (W := w4) [.int .i64 ((10 : Nat) : Int), .int .i64 (k : Int)] 3
  have hG4 := hidS (blk_alloc (blk_later hG3.out hb4) (.cells #[.int .i64 10, .int .i64 (k : Int)] 3))
  have hP4 := hidS (blk_alloc (blk_later hP3.out hb4) (.cells #[.int .i64 10, .int .i64 (k : Int)] 3))
  have hS4 := hidS (sent_alloc (hS3.out.later hb4) (.cells #[.int .i64 10, .int .i64 (k : Int)] 3))
  have hL4' := hL3.out.trans (hb4.mono hL3.out.size)
  have hL4 := hidS (hL4'.alloc hL4'.size (.cells #[.int .i64 10, .int .i64 (k : Int)] 3))
  have HV : Hid (ValsAt w4.heap.size [.int .i64 ((10 : Nat) : Int), .int .i64 (k : Int)] (w4.alloc (.cells #[.int .i64 10, .int .i64 (k : Int)] 3))) := hv
  clear hb4 hG3 hP3 hS3 hL3 hL4' HCA hv
  go_wp2_with fail
  refine (withWord_x t 0 w4.heap.size 2 [10, k] _ hw0 (ValsAt.nats (ks := [10, k]) HV.out) HV.out.1 (by simp) (by simp; omega) (by omega)).mono ?_
  rintro _ w5 ⟨rfl, hb5⟩
  have hG5 := hidS (blk_later hG4.out hb5)
  have hP5 := hidS (blk_later hP4.out hb5)
  have hS5 := hidS (hS4.out.later hb5)
  have hL5 := hidS (hL4.out.trans (hb5.mono hL4.out.size))
  have HV5 := hidS (HV.out.later hb5)
  clear hb5 hG4 hP4 hS4 hL4 HV
  go_wp2_with fail
  refine (withWord_x s 0 w4.heap.size 2 [10, k] _ hw0 (ValsAt.nats (ks := [10, k]) HV5.out) HV5.out.1 (by simp) (by simp; omega) (by omega)).mono ?_
  rintro _ w6 ⟨rfl, hb6⟩
  have hG6 := blk_later hG5.out hb6
  have hP6 := blk_later hP5.out hb6
  have hS6 := hidS (hS5.out.later hb6)
  have hL6 := hidS (hL5.out.trans (hb6.mono hL5.out.size))
  clear hb6 hG5 hP5 hS5 hL5 HV5
  have hne : w.heap.size ≠ w1.heap.size := by omega
  have c0 := blk_cell hG6 0
  have f0 := blk_free hG6 0
  have d0 := blk_cell hP6 0
  have c1 := blk_cell hG6 1
  have f1 := blk_free hG6 1
  have d1 := blk_cell hP6 1
  have c2 := blk_cell hG6 2
  have f2 := blk_free hG6 2
  have d2 := blk_cell hP6 2
  have c3 := blk_cell hG6 3
  have f3 := blk_free hG6 3
  have d3 := blk_cell hP6 3
  have c4 := blk_cell hG6 4
  have f4 := blk_free hG6 4
  have d4 := blk_cell hP6 4
  have c5 := blk_cell hG6 5
  have f5 := blk_free hG6 5
  have d5 := blk_cell hP6 5
  have c6 := blk_cell hG6 6
  have f6 := blk_free hG6 6
  have d6 := blk_cell hP6 6
  have c7 := blk_cell hG6 7
  have f7 := blk_free hG6 7
  have d7 := blk_cell hP6 7
  have c8 := blk_cell hG6 8
  have f8 := blk_free hG6 8
  have d8 := blk_cell hP6 8
  have c9 := blk_cell hG6 9
  have f9 := blk_free hG6 9
  have d9 := blk_cell hP6 9
  simp at c0 c1 c2 c3 c4 c5 c6 c7 c8 c9 d0 d1 d2 d3 d4 d5 d6 d7 d8 d9
  clear hG6 hP6
  clear hS6 HS0
  go_wp2_with fail
  refine bodyPost_ret (v := .tuple #[.agg #[.int .i64 p.src, .int .i64 p.dst, .int .i64 p.proto, .int .i64 p.a, .int .i64 p.b, .int .i64 p.kind, .int .i64 p.flags, .int .i64 p.seq, .int .i64 p.ack, .string p.body], .nilIface]) (by simp [results, Tryz.results50, go_sem, *]) rfl ⟨rfl, ?_⟩
  repeat (refine below_at ?_ (Nat.le_refl _))
  exact hL6.out
end Go.Proofs.YtedknnkdnccfmaaGreatDoor
