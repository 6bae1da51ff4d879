/- Proved here: impl.scanPacket answers the packet that a text tells; all old memory stays (conditions: the text has at least 28 bytes, at most 8000). · Proved here: impl.partOf answers what stands behind a packet's head, by its Proto; all old memory stays (no conditions). · Proved here: impl.areAddrs answers whether all of a row are addresses, and leaves memory alone (condition: at most 1000 of them). · Proved here: what the parts' methods right and fields answer; all old memory stays (condition: a body is a string). · Proved here: which method of a part is called by its name (closed facts on the program's own table). · Proved here: impl.PacketRight answers whether a packet is right; all old memory stays (condition: the body is a string). · Proved here: impl.PacketRight answers whether a packet is right, whatever its Proto; all old memory stays (condition: the body is a string). -/
import Derived.Test.YthfhbmiddillbafDoorAll0
import Derived.Test.YthfhbmiddillbafDoorAll1
section
namespace Go.Proofs.YthfhbmiddillbafDoor
open Go.ChangeShapes Go.WideShapes Go.ChangeAt Go.RowKit
open Go.ChangeMaps (open_string shut_string)
set_option linter.unusedVariables false
set_option maxRecDepth 100000

theorem numAt (s : ByteArray) (k m : Nat) {x y : Int} (w : World) (hx : x = (k : Int)) (hy : y = (m : Int)) (hk : k ≤ 1000) (hm : m ≤ 4) (hs : s.size ≤ 100000) :
    Calls Tryd.prog 45 #[.string s, .int .i64 x, .int .i64 y] w fun e w' => e = .returned (.int .i64 (numN s k m : Nat)) ∧ w' = w := by
  subst hx; subst hy; exact numberAt_x s k m w hk hm hs
theorem behAt (s : ByteArray) (k : Nat) {x : Int} (w : World) (hx : x = (k : Int)) (hk : k ≤ 1000) (hs : s.size ≤ 100000) :
    Calls Tryd.prog 46 #[.string s, .int .i64 x] w fun e w' => e = .returned (.string (s.extract (min k s.size) s.size)) ∧ Below w.heap.size w w' := by
  subst hx; exact behindOf_x s k w hk hs
/-- the packet that a text tells, as far as it goes -/
def scanOf (s t : ByteArray) : Pk :=
  if numN s 9 1 = 6 then ⟨numN s 12 4, numN s 16 4, 6, numN t 0 2, numN t 2 2, 0, numN t 13 1, numN t 4 4, numN t 8 4, t.extract (min 20 t.size) t.size⟩
  else if numN s 9 1 = 17 then ⟨numN s 12 4, numN s 16 4, 17, numN t 0 2, numN t 2 2, 0, 0, 0, 0, t.extract (min 8 t.size) t.size⟩
  else if numN s 9 1 = 1 then ⟨numN s 12 4, numN s 16 4, 1, numN t 4 2, 0, numN t 0 1, 0, numN t 6 2, 0, t.extract (min 8 t.size) t.size⟩
  else ⟨numN s 12 4, numN s 16 4, numN s 9 1, 0, 0, 0, 0, 0, 0, ⟨#[]⟩⟩
def scanPk (s : ByteArray) : Pk := scanOf s (s.extract 20 s.size)

set_option maxHeartbeats 4000000 in
theorem scan_tcp (s : ByteArray) (w : World) (h1 : 28 ≤ s.size) (hs : s.size ≤ 8000) (hpr : numN s 9 1 = 6) :
    Calls Tryd.prog 32 #[.string s] w fun e w' => e = .returned (.agg #[.int .i64 (scanPk s).src, .int .i64 (scanPk s).dst, .int .i64 (scanPk s).proto, .int .i64 (scanPk s).a, .int .i64 (scanPk s).b, .int .i64 (scanPk s).kind, .int .i64 (scanPk s).flags, .int .i64 (scanPk s).seq, .int .i64 (scanPk s).ack, .string (scanPk s).body]) ∧ Below w.heap.size w w' := by
  have h20 : (20 : Int) ≤ (s.size : Int) := by omega
  have hts : (s.extract 20 s.size).size ≤ 8000 := by rw [ByteArray.size_extract]; omega
  have e0 : Hid (scanPk s = ⟨numN s 12 4, numN s 16 4, 6, numN (s.extract 20 s.size) 0 2, numN (s.extract 20 s.size) 2 2, 0, numN (s.extract 20 s.size) 13 1, numN (s.extract 20 s.size) 4 4, numN (s.extract 20 s.size) 8 4, (s.extract 20 s.size).extract (min 20 (s.extract 20 s.size).size) (s.extract 20 s.size).size⟩) := by show scanOf _ _ = _; unfold scanOf; rw [if_pos hpr]
  have H6 := hidS hpr
  clear hpr
  go_enter Tryd.func32, Tryd.ntmps32
  go_wp2_with fail
  refine (numAt s 12 4 _ rfl rfl (by omega) (by omega) (by omega)).mono ?_
  rintro _ w1 ⟨rfl, rfl⟩
  go_wp2_with fail
  refine (numAt s 16 4 _ rfl rfl (by omega) (by omega) (by omega)).mono ?_
  rintro _ w1 ⟨rfl, rfl⟩
  go_wp2_with fail
  refine (numAt s 9 1 _ rfl rfl (by omega) (by omega) (by omega)).mono ?_
  rintro _ w1 ⟨rfl, rfl⟩
  rw [H6.out]
  generalize s.extract 20 s.size = t at *
  go_wp2_with fail
  refine (numAt t 0 2 _ rfl rfl (by omega) (by omega) (by omega)).mono ?_
  rintro _ w1 ⟨rfl, rfl⟩
  go_wp2_with fail
  refine (numAt t 2 2 _ rfl rfl (by omega) (by omega) (by omega)).mono ?_
  rintro _ w1 ⟨rfl, rfl⟩
  go_wp2_with fail
  refine (numAt t 4 4 _ rfl rfl (by omega) (by omega) (by omega)).mono ?_
  rintro _ w1 ⟨rfl, rfl⟩
  go_wp2_with fail
  refine (numAt t 8 4 _ rfl rfl (by omega) (by omega) (by omega)).mono ?_
  rintro _ w1 ⟨rfl, rfl⟩
  go_wp2_with fail
  refine (numAt t 13 1 _ rfl rfl (by omega) (by omega) (by omega)).mono ?_
  rintro _ w1 ⟨rfl, rfl⟩
  have hG0 := blk_alloc (heap_newG w (.cells #[.int .i64 0, .int .i64 0, .int .i64 0, .int .i64 0, .int .i64 0, .int .i64 0, .int .i64 0, .int .i64 0, .int .i64 0, .string ⟨#[]⟩] 23)) (.cells #[.int .i64 (numN s 12 4 : Nat), .int .i64 (numN s 16 4 : Nat), .int .i64 6, .int .i64 (numN t 0 2 : Nat), .int .i64 (numN t 2 2 : Nat), .int .i64 0, .int .i64 0, .int .i64 (numN t 4 4 : Nat), .int .i64 (numN t 8 4 : Nat), .string ⟨#[]⟩] 23)
  have hG1 : ((w.alloc (.cells #[.int .i64 0, .int .i64 0, .int .i64 0, .int .i64 0, .int .i64 0, .int .i64 0, .int .i64 0, .int .i64 0, .int .i64 0, .string ⟨#[]⟩] 23)).alloc (.cells #[.int .i64 (numN s 12 4 : Nat), .int .i64 (numN s 16 4 : Nat), .int .i64 6, .int .i64 (numN t 0 2 : Nat), .int .i64 (numN t 2 2 : Nat), .int .i64 0, .int .i64 0, .int .i64 (numN t 4 4 : Nat), .int .i64 (numN t 8 4 : Nat), .string ⟨#[]⟩] 23)).heap[w.heap.size + 1]? = some (.cells #[.int .i64 (numN s 12 4 : Nat), .int .i64 (numN s 16 4 : Nat), .int .i64 6, .int .i64 (numN t 0 2 : Nat), .int .i64 (numN t 2 2 : Nat), .int .i64 0, .int .i64 0, .int .i64 (numN t 4 4 : Nat), .int .i64 (numN t 8 4 : Nat), .string ⟨#[]⟩] 23) := by
    have := heap_newG (w.alloc (.cells #[.int .i64 0, .int .i64 0, .int .i64 0, .int .i64 0, .int .i64 0, .int .i64 0, .int .i64 0, .int .i64 0, .int .i64 0, .string ⟨#[]⟩] 23)) (.cells #[.int .i64 (numN s 12 4 : Nat), .int .i64 (numN s 16 4 : Nat), .int .i64 6, .int .i64 (numN t 0 2 : Nat), .int .i64 (numN t 2 2 : Nat), .int .i64 0, .int .i64 0, .int .i64 (numN t 4 4 : Nat), .int .i64 (numN t 8 4 : Nat), .string ⟨#[]⟩] 23)
    simpa using this
  have hL := hidS (((Below.refl w.heap.size w).alloc (Nat.le_refl _) (.cells #[.int .i64 0, .int .i64 0, .int .i64 0, .int .i64 0, .int .i64 0, .int .i64 0, .int .i64 0, .int .i64 0, .int .i64 0, .string ⟨#[]⟩] 23)).alloc (by simp) (.cells #[.int .i64 (numN s 12 4 : Nat), .int .i64 (numN s 16 4 : Nat), .int .i64 6, .int .i64 (numN t 0 2 : Nat), .int .i64 (numN t 2 2 : Nat), .int .i64 0, .int .i64 0, .int .i64 (numN t 4 4 : Nat), .int .i64 (numN t 8 4 : Nat), .string ⟨#[]⟩] 23))
  have HG0 := hidS hG0
  have HG1 := hidS hG1
  clear hG0 hG1
  go_wp2_with fail
  refine (behAt t 20 _ rfl (by omega) (by omega)).mono ?_
  rintro _ w2 ⟨rfl, hb2⟩
  have hG0 := blk_later HG0.out hb2
  have hG1 := blk_later HG1.out hb2
  have hL2 := hidS (hL.out.trans (hb2.mono hL.out.size))
  clear HG0 HG1 hL hb2
  have hne : w.heap.size ≠ w.heap.size + 1 := by omega
  have c00 := blk_cell hG0 0
  have f00 := blk_free hG0 0
  have c01 := blk_cell hG0 1
  have f01 := blk_free hG0 1
  have c02 := blk_cell hG0 2
  have f02 := blk_free hG0 2
  have c03 := blk_cell hG0 3
  have f03 := blk_free hG0 3
  have c04 := blk_cell hG0 4
  have f04 := blk_free hG0 4
  have c05 := blk_cell hG0 5
  have f05 := blk_free hG0 5
  have c06 := blk_cell hG0 6
  have f06 := blk_free hG0 6
  have c07 := blk_cell hG0 7
  have f07 := blk_free hG0 7
  have c08 := blk_cell hG0 8
  have f08 := blk_free hG0 8
  have c09 := blk_cell hG0 9
  have f09 := blk_free hG0 9
  have c10 := blk_cell hG1 0
  have f10 := blk_free hG1 0
  have c11 := blk_cell hG1 1
  have f11 := blk_free hG1 1
  have c12 := blk_cell hG1 2
  have f12 := blk_free hG1 2
  have c13 := blk_cell hG1 3
  have f13 := blk_free hG1 3
  have c14 := blk_cell hG1 4
  have f14 := blk_free hG1 4
  have c15 := blk_cell hG1 5
  have f15 := blk_free hG1 5
  have c16 := blk_cell hG1 6
  have f16 := blk_free hG1 6
  have c17 := blk_cell hG1 7
  have f17 := blk_free hG1 7
  have c18 := blk_cell hG1 8
  have f18 := blk_free hG1 8
  have c19 := blk_cell hG1 9
  have f19 := blk_free hG1 9
  simp at c00 c01 c02 c03 c04 c05 c06 c07 c08 c09 c10 c11 c12 c13 c14 c15 c16 c17 c18 c19
  clear hG0 hG1
  go_wp2_with fail
  refine bodyPost_ret (v := .agg #[.int .i64 (numN s 12 4 : Nat), .int .i64 (numN s 16 4 : Nat), .int .i64 6, .int .i64 (numN t 0 2 : Nat), .int .i64 (numN t 2 2 : Nat), .int .i64 0, .int .i64 (numN t 13 1 : Nat), .int .i64 (numN t 4 4 : Nat), .int .i64 (numN t 8 4 : Nat), .string (t.extract (min 20 t.size) t.size)]) (by simp [results, Tryd.results32, go_sem, *]) rfl ⟨by rw [e0.out], ?_⟩
  repeat (refine below_at ?_ (by omega))
  exact hL2.out
set_option maxHeartbeats 4000000 in
theorem scan_udp (s : ByteArray) (w : World) (h1 : 28 ≤ s.size) (hs : s.size ≤ 8000) (hpr : numN s 9 1 = 17) :
    Calls Tryd.prog 32 #[.string s] w fun e w' => e = .returned (.agg #[.int .i64 (scanPk s).src, .int .i64 (scanPk s).dst, .int .i64 (scanPk s).proto, .int .i64 (scanPk s).a, .int .i64 (scanPk s).b, .int .i64 (scanPk s).kind, .int .i64 (scanPk s).flags, .int .i64 (scanPk s).seq, .int .i64 (scanPk s).ack, .string (scanPk s).body]) ∧ Below w.heap.size w w' := by
  have h20 : (20 : Int) ≤ (s.size : Int) := by omega
  have hts : (s.extract 20 s.size).size ≤ 8000 := by rw [ByteArray.size_extract]; omega
  have e0 : Hid (scanPk s = ⟨numN s 12 4, numN s 16 4, 17, numN (s.extract 20 s.size) 0 2, numN (s.extract 20 s.size) 2 2, 0, 0, 0, 0, (s.extract 20 s.size).extract (min 8 (s.extract 20 s.size).size) (s.extract 20 s.size).size⟩) := by show scanOf _ _ = _; unfold scanOf; rw [if_neg (by omega), if_pos hpr]
  have H6 := hidS hpr
  clear hpr
  go_enter Tryd.func32, Tryd.ntmps32
  go_wp2_with fail
  refine (numAt s 12 4 _ rfl rfl (by omega) (by omega) (by omega)).mono ?_
  rintro _ w1 ⟨rfl, rfl⟩
  go_wp2_with fail
  refine (numAt s 16 4 _ rfl rfl (by omega) (by omega) (by omega)).mono ?_
  rintro _ w1 ⟨rfl, rfl⟩
  go_wp2_with fail
  refine (numAt s 9 1 _ rfl rfl (by omega) (by omega) (by omega)).mono ?_
  rintro _ w1 ⟨rfl, rfl⟩
  rw [H6.out]
  generalize s.extract 20 s.size = t at *
  go_wp2_with fail
  refine (numAt t 0 2 _ rfl rfl (by omega) (by omega) (by omega)).mono ?_
  rintro _ w1 ⟨rfl, rfl⟩
  go_wp2_with fail
  refine (numAt t 2 2 _ rfl rfl (by omega) (by omega) (by omega)).mono ?_
  rintro _ w1 ⟨rfl, rfl⟩
  have hG0 := blk_alloc (heap_newG w (.cells #[.int .i64 0, .int .i64 0, .int .i64 0, .int .i64 0, .int .i64 0, .int .i64 0, .int .i64 0, .int .i64 0, .int .i64 0, .string ⟨#[]⟩] 23)) (.cells #[.int .i64 (numN s 12 4 : Nat), .int .i64 (numN s 16 4 : Nat), .int .i64 17, .int .i64 (numN t 0 2 : Nat), .int .i64 (numN t 2 2 : Nat), .int .i64 0, .int .i64 0, .int .i64 0, .int .i64 0, .string ⟨#[]⟩] 23)
  have hG1 : ((w.alloc (.cells #[.int .i64 0, .int .i64 0, .int .i64 0, .int .i64 0, .int .i64 0, .int .i64 0, .int .i64 0, .int .i64 0, .int .i64 0, .string ⟨#[]⟩] 23)).alloc (.cells #[.int .i64 (numN s 12 4 : Nat), .int .i64 (numN s 16 4 : Nat), .int .i64 17, .int .i64 (numN t 0 2 : Nat), .int .i64 (numN t 2 2 : Nat), .int .i64 0, .int .i64 0, .int .i64 0, .int .i64 0, .string ⟨#[]⟩] 23)).heap[w.heap.size + 1]? = some (.cells #[.int .i64 (numN s 12 4 : Nat), .int .i64 (numN s 16 4 : Nat), .int .i64 17, .int .i64 (numN t 0 2 : Nat), .int .i64 (numN t 2 2 : Nat), .int .i64 0, .int .i64 0, .int .i64 0, .int .i64 0, .string ⟨#[]⟩] 23) := by
    have := heap_newG (w.alloc (.cells #[.int .i64 0, .int .i64 0, .int .i64 0, .int .i64 0, .int .i64 0, .int .i64 0, .int .i64 0, .int .i64 0, .int .i64 0, .string ⟨#[]⟩] 23)) (.cells #[.int .i64 (numN s 12 4 : Nat), .int .i64 (numN s 16 4 : Nat), .int .i64 17, .int .i64 (numN t 0 2 : Nat), .int .i64 (numN t 2 2 : Nat), .int .i64 0, .int .i64 0, .int .i64 0, .int .i64 0, .string ⟨#[]⟩] 23)
    simpa using this
  have hL := hidS (((Below.refl w.heap.size w).alloc (Nat.le_refl _) (.cells #[.int .i64 0, .int .i64 0, .int .i64 0, .int .i64 0, .int .i64 0, .int .i64 0, .int .i64 0, .int .i64 0, .int .i64 0, .string ⟨#[]⟩] 23)).alloc (by simp) (.cells #[.int .i64 (numN s 12 4 : Nat), .int .i64 (numN s 16 4 : Nat), .int .i64 17, .int .i64 (numN t 0 2 : Nat), .int .i64 (numN t 2 2 : Nat), .int .i64 0, .int .i64 0, .int .i64 0, .int .i64 0, .string ⟨#[]⟩] 23))
  have HG0 := hidS hG0
  have HG1 := hidS hG1
  clear hG0 hG1
  go_wp2_with fail
  refine (behAt t 8 _ rfl (by omega) (by omega)).mono ?_
  rintro _ w2 ⟨rfl, hb2⟩
  have hG0 := blk_later HG0.out hb2
  have hG1 := blk_later HG1.out hb2
  have hL2 := hidS (hL.out.trans (hb2.mono hL.out.size))
  clear HG0 HG1 hL hb2
  have hne : w.heap.size ≠ w.heap.size + 1 := by omega
  have c00 := blk_cell hG0 0
  have f00 := blk_free hG0 0
  have c01 := blk_cell hG0 1
  have f01 := blk_free hG0 1
  have c02 := blk_cell hG0 2
  have f02 := blk_free hG0 2
  have c03 := blk_cell hG0 3
  have f03 := blk_free hG0 3
  have c04 := blk_cell hG0 4
  have f04 := blk_free hG0 4
  have c05 := blk_cell hG0 5
  have f05 := blk_free hG0 5
  have c06 := blk_cell hG0 6
  have f06 := blk_free hG0 6
  have c07 := blk_cell hG0 7
  have f07 := blk_free hG0 7
  have c08 := blk_cell hG0 8
  have f08 := blk_free hG0 8
  have c09 := blk_cell hG0 9
  have f09 := blk_free hG0 9
  have c10 := blk_cell hG1 0
  have f10 := blk_free hG1 0
  have c11 := blk_cell hG1 1
  have f11 := blk_free hG1 1
  have c12 := blk_cell hG1 2
  have f12 := blk_free hG1 2
  have c13 := blk_cell hG1 3
  have f13 := blk_free hG1 3
  have c14 := blk_cell hG1 4
  have f14 := blk_free hG1 4
  have c15 := blk_cell hG1 5
  have f15 := blk_free hG1 5
  have c16 := blk_cell hG1 6
  have f16 := blk_free hG1 6
  have c17 := blk_cell hG1 7
  have f17 := blk_free hG1 7
  have c18 := blk_cell hG1 8
  have f18 := blk_free hG1 8
  have c19 := blk_cell hG1 9
  have f19 := blk_free hG1 9
  simp at c00 c01 c02 c03 c04 c05 c06 c07 c08 c09 c10 c11 c12 c13 c14 c15 c16 c17 c18 c19
  clear hG0 hG1
  go_wp2_with fail
  refine bodyPost_ret (v := .agg #[.int .i64 (numN s 12 4 : Nat), .int .i64 (numN s 16 4 : Nat), .int .i64 17, .int .i64 (numN t 0 2 : Nat), .int .i64 (numN t 2 2 : Nat), .int .i64 0, .int .i64 0, .int .i64 0, .int .i64 0, .string (t.extract (min 8 t.size) t.size)]) (by simp [results, Tryd.results32, go_sem, *]) rfl ⟨by rw [e0.out], ?_⟩
  repeat (refine below_at ?_ (by omega))
  exact hL2.out
set_option maxHeartbeats 4000000 in
theorem scan_ping (s : ByteArray) (w : World) (h1 : 28 ≤ s.size) (hs : s.size ≤ 8000) (hpr : numN s 9 1 = 1) :
    Calls Tryd.prog 32 #[.string s] w fun e w' => e = .returned (.agg #[.int .i64 (scanPk s).src, .int .i64 (scanPk s).dst, .int .i64 (scanPk s).proto, .int .i64 (scanPk s).a, .int .i64 (scanPk s).b, .int .i64 (scanPk s).kind, .int .i64 (scanPk s).flags, .int .i64 (scanPk s).seq, .int .i64 (scanPk s).ack, .string (scanPk s).body]) ∧ Below w.heap.size w w' := by
  have h20 : (20 : Int) ≤ (s.size : Int) := by omega
  have hts : (s.extract 20 s.size).size ≤ 8000 := by rw [ByteArray.size_extract]; omega
  have e0 : Hid (scanPk s = ⟨numN s 12 4, numN s 16 4, 1, numN (s.extract 20 s.size) 4 2, 0, numN (s.extract 20 s.size) 0 1, 0, numN (s.extract 20 s.size) 6 2, 0, (s.extract 20 s.size).extract (min 8 (s.extract 20 s.size).size) (s.extract 20 s.size).size⟩) := by show scanOf _ _ = _; unfold scanOf; rw [if_neg (by omega), if_neg (by omega), if_pos hpr]
  have H6 := hidS hpr
  clear hpr
  go_enter Tryd.func32, Tryd.ntmps32
  go_wp2_with fail
  refine (numAt s 12 4 _ rfl rfl (by omega) (by omega) (by omega)).mono ?_
  rintro _ w1 ⟨rfl, rfl⟩
  go_wp2_with fail
  refine (numAt s 16 4 _ rfl rfl (by omega) (by omega) (by omega)).mono ?_
  rintro _ w1 ⟨rfl, rfl⟩
  go_wp2_with fail
  refine (numAt s 9 1 _ rfl rfl (by omega) (by omega) (by omega)).mono ?_
  rintro _ w1 ⟨rfl, rfl⟩
  rw [H6.out]
  generalize s.extract 20 s.size = t at *
  go_wp2_with fail
  refine (numAt t 0 1 _ rfl rfl (by omega) (by omega) (by omega)).mono ?_
  rintro _ w1 ⟨rfl, rfl⟩
  go_wp2_with fail
  refine (numAt t 4 2 _ rfl rfl (by omega) (by omega) (by omega)).mono ?_
  rintro _ w1 ⟨rfl, rfl⟩
  go_wp2_with fail
  refine (numAt t 6 2 _ rfl rfl (by omega) (by omega) (by omega)).mono ?_
  rintro _ w1 ⟨rfl, rfl⟩
  have hG0 := blk_alloc (heap_newG w (.cells #[.int .i64 0, .int .i64 0, .int .i64 0, .int .i64 0, .int .i64 0, .int .i64 0, .int .i64 0, .int .i64 0, .int .i64 0, .string ⟨#[]⟩] 23)) (.cells #[.int .i64 (numN s 12 4 : Nat), .int .i64 (numN s 16 4 : Nat), .int .i64 1, .int .i64 (numN t 4 2 : Nat), .int .i64 0, .int .i64 (numN t 0 1 : Nat), .int .i64 0, .int .i64 (numN t 6 2 : Nat), .int .i64 0, .string ⟨#[]⟩] 23)
  have hG1 : ((w.alloc (.cells #[.int .i64 0, .int .i64 0, .int .i64 0, .int .i64 0, .int .i64 0, .int .i64 0, .int .i64 0, .int .i64 0, .int .i64 0, .string ⟨#[]⟩] 23)).alloc (.cells #[.int .i64 (numN s 12 4 : Nat), .int .i64 (numN s 16 4 : Nat), .int .i64 1, .int .i64 (numN t 4 2 : Nat), .int .i64 0, .int .i64 (numN t 0 1 : Nat), .int .i64 0, .int .i64 (numN t 6 2 : Nat), .int .i64 0, .string ⟨#[]⟩] 23)).heap[w.heap.size + 1]? = some (.cells #[.int .i64 (numN s 12 4 : Nat), .int .i64 (numN s 16 4 : Nat), .int .i64 1, .int .i64 (numN t 4 2 : Nat), .int .i64 0, .int .i64 (numN t 0 1 : Nat), .int .i64 0, .int .i64 (numN t 6 2 : Nat), .int .i64 0, .string ⟨#[]⟩] 23) := by
    have := heap_newG (w.alloc (.cells #[.int .i64 0, .int .i64 0, .int .i64 0, .int .i64 0, .int .i64 0, .int .i64 0, .int .i64 0, .int .i64 0, .int .i64 0, .string ⟨#[]⟩] 23)) (.cells #[.int .i64 (numN s 12 4 : Nat), .int .i64 (numN s 16 4 : Nat), .int .i64 1, .int .i64 (numN t 4 2 : Nat), .int .i64 0, .int .i64 (numN t 0 1 : Nat), .int .i64 0, .int .i64 (numN t 6 2 : Nat), .int .i64 0, .string ⟨#[]⟩] 23)
    simpa using this
  have hL := hidS (((Below.refl w.heap.size w).alloc (Nat.le_refl _) (.cells #[.int .i64 0, .int .i64 0, .int .i64 0, .int .i64 0, .int .i64 0, .int .i64 0, .int .i64 0, .int .i64 0, .int .i64 0, .string ⟨#[]⟩] 23)).alloc (by simp) (.cells #[.int .i64 (numN s 12 4 : Nat), .int .i64 (numN s 16 4 : Nat), .int .i64 1, .int .i64 (numN t 4 2 : Nat), .int .i64 0, .int .i64 (numN t 0 1 : Nat), .int .i64 0, .int .i64 (numN t 6 2 : Nat), .int .i64 0, .string ⟨#[]⟩] 23))
  have HG0 := hidS hG0
  have HG1 := hidS hG1
  clear hG0 hG1
  go_wp2_with fail
  refine (behAt t 8 _ rfl (by omega) (by omega)).mono ?_
  rintro _ w2 ⟨rfl, hb2⟩
  have hG0 := blk_later HG0.out hb2
  have hG1 := blk_later HG1.out hb2
  have hL2 := hidS (hL.out.trans (hb2.mono hL.out.size))
  clear HG0 HG1 hL hb2
  have hne : w.heap.size ≠ w.heap.size + 1 := by omega
  have c00 := blk_cell hG0 0
  have f00 := blk_free hG0 0
  have c01 := blk_cell hG0 1
  have f01 := blk_free hG0 1
  have c02 := blk_cell hG0 2
  have f02 := blk_free hG0 2
  have c03 := blk_cell hG0 3
  have f03 := blk_free hG0 3
  have c04 := blk_cell hG0 4
  have f04 := blk_free hG0 4
  have c05 := blk_cell hG0 5
  have f05 := blk_free hG0 5
  have c06 := blk_cell hG0 6
  have f06 := blk_free hG0 6
  have c07 := blk_cell hG0 7
  have f07 := blk_free hG0 7
  have c08 := blk_cell hG0 8
  have f08 := blk_free hG0 8
  have c09 := blk_cell hG0 9
  have f09 := blk_free hG0 9
  have c10 := blk_cell hG1 0
  have f10 := blk_free hG1 0
  have c11 := blk_cell hG1 1
  have f11 := blk_free hG1 1
  have c12 := blk_cell hG1 2
  have f12 := blk_free hG1 2
  have c13 := blk_cell hG1 3
  have f13 := blk_free hG1 3
  have c14 := blk_cell hG1 4
  have f14 := blk_free hG1 4
  have c15 := blk_cell hG1 5
  have f15 := blk_free hG1 5
  have c16 := blk_cell hG1 6
  have f16 := blk_free hG1 6
  have c17 := blk_cell hG1 7
  have f17 := blk_free hG1 7
  have c18 := blk_cell hG1 8
  have f18 := blk_free hG1 8
  have c19 := blk_cell hG1 9
  have f19 := blk_free hG1 9
  simp at c00 c01 c02 c03 c04 c05 c06 c07 c08 c09 c10 c11 c12 c13 c14 c15 c16 c17 c18 c19
  clear hG0 hG1
  go_wp2_with fail
  refine bodyPost_ret (v := .agg #[.int .i64 (numN s 12 4 : Nat), .int .i64 (numN s 16 4 : Nat), .int .i64 1, .int .i64 (numN t 4 2 : Nat), .int .i64 0, .int .i64 (numN t 0 1 : Nat), .int .i64 0, .int .i64 (numN t 6 2 : Nat), .int .i64 0, .string (t.extract (min 8 t.size) t.size)]) (by simp [results, Tryd.results32, go_sem, *]) rfl ⟨by rw [e0.out], ?_⟩
  repeat (refine below_at ?_ (by omega))
  exact hL2.out
set_option maxHeartbeats 4000000 in
theorem scan_other (s : ByteArray) (w : World) (h1 : 28 ≤ s.size) (hs : s.size ≤ 8000) (h6 : numN s 9 1 ≠ 6) (h17 : numN s 9 1 ≠ 17) (h1' : numN s 9 1 ≠ 1) :
    Calls Tryd.prog 32 #[.string s] w fun e w' => e = .returned (.agg #[.int .i64 (scanPk s).src, .int .i64 (scanPk s).dst, .int .i64 (scanPk s).proto, .int .i64 (scanPk s).a, .int .i64 (scanPk s).b, .int .i64 (scanPk s).kind, .int .i64 (scanPk s).flags, .int .i64 (scanPk s).seq, .int .i64 (scanPk s).ack, .string (scanPk s).body]) ∧ Below w.heap.size w w' := by
  have h20 : (20 : Int) ≤ (s.size : Int) := by omega
  have hts : (s.extract 20 s.size).size ≤ 8000 := by rw [ByteArray.size_extract]; omega
  have e0 : Hid (scanPk s = ⟨numN s 12 4, numN s 16 4, numN s 9 1, 0, 0, 0, 0, 0, 0, ⟨#[]⟩⟩) := by show scanOf _ _ = _; unfold scanOf; rw [if_neg h6, if_neg h17, if_neg h1']
  have g6 : (((numN s 9 1 : Nat) : Int) == 6) = false := by simp; omega
  have g17 : (((numN s 9 1 : Nat) : Int) == 17) = false := by simp; omega
  have g1 : (((numN s 9 1 : Nat) : Int) == 1) = false := by simp; omega
  clear h6 h17 h1'
  go_enter Tryd.func32, Tryd.ntmps32
  go_wp2_with fail
  refine (numAt s 12 4 _ rfl rfl (by omega) (by omega) (by omega)).mono ?_
  rintro _ w1 ⟨rfl, rfl⟩
  go_wp2_with fail
  refine (numAt s 16 4 _ rfl rfl (by omega) (by omega) (by omega)).mono ?_
  rintro _ w1 ⟨rfl, rfl⟩
  go_wp2_with fail
  refine (numAt s 9 1 _ rfl rfl (by omega) (by omega) (by omega)).mono ?_
  rintro _ w1 ⟨rfl, rfl⟩
  generalize s.extract 20 s.size = t at *
  go_wp2_with fail
  go_returns
  exact ⟨by rw [e0.out], by go_grown⟩
theorem scan_any (s : ByteArray) (w : World) (h1 : 28 ≤ s.size) (hs : s.size ≤ 8000) :
    Calls Tryd.prog 32 #[.string s] w fun e w' => e = .returned (.agg #[.int .i64 (scanPk s).src, .int .i64 (scanPk s).dst, .int .i64 (scanPk s).proto, .int .i64 (scanPk s).a, .int .i64 (scanPk s).b, .int .i64 (scanPk s).kind, .int .i64 (scanPk s).flags, .int .i64 (scanPk s).seq, .int .i64 (scanPk s).ack, .string (scanPk s).body]) ∧ Below w.heap.size w w' := by
  by_cases h6 : numN s 9 1 = 6
  · exact scan_tcp s w h1 hs h6
  by_cases h17 : numN s 9 1 = 17
  · exact scan_udp s w h1 hs h17
  by_cases h1' : numN s 9 1 = 1
  · exact scan_ping s w h1 hs h1'
  · exact scan_other s w h1 hs h6 h17 h1'
end Go.Proofs.YthfhbmiddillbafDoor
end

section
namespace Go.Proofs.YthfhbmiddillbafDoor
open Go.ChangeShapes Go.WideShapes Go.ChangeAt Go.RowKit
open Go.ChangeMaps (open_string shut_string)
set_option linter.unusedVariables false

/-- what partOf answers -/
def tcpV (p : Pk) : Value := .iface 78 (.agg #[.int .i64 p.a, .int .i64 p.b, .int .i64 p.seq, .int .i64 p.ack, .int .i64 p.flags, .string p.body])
def udpV (p : Pk) : Value := .iface 80 (.agg #[.int .i64 p.a, .int .i64 p.b, .string p.body])
def errV (p : Pk) : Value := .iface 82 (.agg #[.string p.body])
def echoV (p : Pk) : Value := .iface 84 (.agg #[.int .i64 p.kind, .int .i64 p.a, .int .i64 p.seq, .string p.body])

theorem partOf_tcp (p : Pk) (w : World) (h6 : p.proto = 6) :
    Calls Tryd.prog 35 #[.agg #[.int .i64 p.src, .int .i64 p.dst, .int .i64 p.proto, .int .i64 p.a, .int .i64 p.b, .int .i64 p.kind, .int .i64 p.flags, .int .i64 p.seq, .int .i64 p.ack, .string p.body]] w fun e w' => e = .returned (tcpV p) ∧ Below w.heap.size w w' := by
  have HB := fun o => hidS ((Below.refl w.heap.size w).alloc (Nat.le_refl _) o)
  go_enter Tryd.func35, Tryd.ntmps35
  go_wp2
  go_ret
  exact ⟨rfl, (HB _).out⟩
theorem partOf_udp (p : Pk) (w : World) (h17 : p.proto = 17) :
    Calls Tryd.prog 35 #[.agg #[.int .i64 p.src, .int .i64 p.dst, .int .i64 p.proto, .int .i64 p.a, .int .i64 p.b, .int .i64 p.kind, .int .i64 p.flags, .int .i64 p.seq, .int .i64 p.ack, .string p.body]] w fun e w' => e = .returned (udpV p) ∧ Below w.heap.size w w' := by
  have HB := fun o => hidS ((Below.refl w.heap.size w).alloc (Nat.le_refl _) o)
  go_enter Tryd.func35, Tryd.ntmps35
  go_wp2
  go_ret
  exact ⟨rfl, (HB _).out⟩
theorem partOf_err (p : Pk) (w : World) (h1 : p.proto = 1) (h3 : p.kind = 3) :
    Calls Tryd.prog 35 #[.agg #[.int .i64 p.src, .int .i64 p.dst, .int .i64 p.proto, .int .i64 p.a, .int .i64 p.b, .int .i64 p.kind, .int .i64 p.flags, .int .i64 p.seq, .int .i64 p.ack, .string p.body]] w fun e w' => e = .returned (errV p) ∧ Below w.heap.size w w' := by
  have HB := fun o => hidS ((Below.refl w.heap.size w).alloc (Nat.le_refl _) o)
  go_enter Tryd.func35, Tryd.ntmps35
  go_wp2
  go_ret
  exact ⟨rfl, (HB _).out⟩
theorem partOf_echo (p : Pk) (w : World) (h1 : p.proto = 1) (h3 : p.kind ≠ 3) :
    Calls Tryd.prog 35 #[.agg #[.int .i64 p.src, .int .i64 p.dst, .int .i64 p.proto, .int .i64 p.a, .int .i64 p.b, .int .i64 p.kind, .int .i64 p.flags, .int .i64 p.seq, .int .i64 p.ack, .string p.body]] w fun e w' => e = .returned (echoV p) ∧ Below w.heap.size w w' := by
  have HB := fun o => hidS ((Below.refl w.heap.size w).alloc (Nat.le_refl _) o)
  go_enter Tryd.func35, Tryd.ntmps35
  go_wp2
  go_ret
  exact ⟨rfl, (HB _).out⟩
theorem partOf_none (p : Pk) (w : World) (h6 : p.proto ≠ 6) (h17 : p.proto ≠ 17) (h1 : p.proto ≠ 1) :
    Calls Tryd.prog 35 #[.agg #[.int .i64 p.src, .int .i64 p.dst, .int .i64 p.proto, .int .i64 p.a, .int .i64 p.b, .int .i64 p.kind, .int .i64 p.flags, .int .i64 p.seq, .int .i64 p.ack, .string p.body]] w fun e w' => e = .returned (.nilIface) ∧ Below w.heap.size w w' := by
  have HB := fun o => hidS ((Below.refl w.heap.size w).alloc (Nat.le_refl _) o)
  go_enter Tryd.func35, Tryd.ntmps35
  go_wp2
  go_ret
  exact ⟨rfl, (HB _).out⟩
end Go.Proofs.YthfhbmiddillbafDoor
end

section
namespace Go.Proofs.YthfhbmiddillbafDoor
open Go.ChangeShapes Go.WideShapes Go.ChangeAt Go.RowKit
open Go.ChangeMaps (open_string shut_string)
set_option linter.unusedVariables false

/-- all of them are addresses -/
def allA (zs : List Int) : Bool := zs.all addrB
theorem allA_take_succ (zs : List Int) (k : Nat) (h : k < zs.length) : allA (zs.take (k + 1)) = (allA (zs.take k) && addrB zs[k]) := by
  unfold allA; rw [List.take_succ_eq_append_getElem h, List.all_append]; simp
theorem allA_bad (zs : List Int) (k : Nat) (h : k < zs.length) (hb : addrB zs[k] = false) : allA zs = false := by
  cases e : allA zs
  · rfl
  · have := List.all_eq_true.1 e zs[k] (List.getElem_mem h); rw [hb] at this; cases this
set_option maxHeartbeats 400000 in
theorem areAddrs_any (g : Nat) (zs : List Int) (w : World) (hc : ∀ j, (h : j < zs.length) → w.cell? ⟨g, j, none⟩ = some (.int .i64 zs[j])) (hl : zs.length ≤ 1000) :
    Calls Tryd.prog 19 #[.slice (some ⟨g, 0, none⟩) zs.length zs.length] w fun e w' => e = .returned (.bool (allA zs)) ∧ w' = w := by
  have HC := hidS hc
  clear hc
  go_enter Tryd.func19, Tryd.ntmps19
  go_wp2
  go_loop [7] (fun i => ∃ k : Nat, k ≤ zs.length ∧ i = .int .i64 k ∧ Hid (allA (zs.take k) = true)) (fun i => zs.length - (intOf i).toNat)
  case atStart => exact ⟨0, by omega, rfl, rfl⟩
  case round =>
    obtain ⟨k, hk, rfl, hX⟩ := hrel
    by_cases h : k < zs.length
    · have h' : (k : Int) < (zs.length : Int) := by omega
      have hck := HC.out k h
      have hA := hidS (allA_bad zs k h)
      have hB : Hid (addrB zs[k] = true → allA (zs.take (k + 1)) = true) := by intro q; rw [allA_take_succ zs k h, hX.out, q]; rfl
      generalize zs[k] = z at *
      clear hX
      by_cases h1 : z < 0
      · have hE : Hid (allA zs = false) := hA.out (by simp [addrB]; omega)
        clear hA hB
        go_wp2
        go_ret
        exact ⟨by rw [hE.out]; rfl, rfl⟩
      · by_cases h2 : 4294967295 < z
        · have hE : Hid (allA zs = false) := hA.out (by simp [addrB]; omega)
          clear hA hB
          go_wp2
          go_ret
          exact ⟨by rw [hE.out]; rfl, rfl⟩
        · have hE := hidS (hB.out (by simp [addrB]; omega))
          clear hA hB
          go_wp2
          go_round
          case rel => exact ⟨k + 1, by omega, by go_num, hE⟩
          case measure => simp [intOf]; omega
    · have hE : Hid (allA zs = true) := by have := hX.out; rw [List.take_of_length_le (by omega)] at this; exact this
      clear hX
      go_wp2
      go_ret
      exact ⟨by rw [hE.out]; rfl, rfl⟩
end Go.Proofs.YthfhbmiddillbafDoor
end

section
namespace Go.Proofs.YthfhbmiddillbafDoor
open Go.ChangeShapes Go.WideShapes Go.ChangeAt Go.RowKit
open Go.ChangeMaps (open_string shut_string)
set_option linter.unusedVariables false

theorem two_cells1 (W : World) (o : Obj) (a b : Int) (t : TypeId) : ∀ j, (h : j < [a, b].length) → ((W.alloc o).alloc (.cells #[.int .i64 a, .int .i64 b] t)).cell? ⟨W.heap.size + 1, j, none⟩ = some (.int .i64 [a, b][j]) := by
  have := two_cells (W.alloc o) a b t
  simpa using this
theorem two_cells2 (W : World) (o o2 : Obj) (a b : Int) (t : TypeId) : ∀ j, (h : j < [a, b].length) → (((W.alloc o).alloc o2).alloc (.cells #[.int .i64 a, .int .i64 b] t)).cell? ⟨W.heap.size + 2, j, none⟩ = some (.int .i64 [a, b][j]) := by
  have := two_cells ((W.alloc o).alloc o2) a b t
  simpa using this

set_option maxHeartbeats 1000000 in
theorem tcpRight_any (a b q k f : Int) (s : ByteArray) (w : World) :
    Calls Tryd.prog 98 #[.agg #[.int .i64 a, .int .i64 b, .int .i64 q, .int .i64 k, .int .i64 f, .string s]] w fun e w' => e = .returned (.bool (allW [a, b] && allA [q, k] && flagB f)) ∧ Below w.heap.size w w' := by
  have HB := fun o => hidS ((Below.refl w.heap.size w).alloc (Nat.le_refl _) o)
  have HB2 := fun o o2 => hidS (((Below.refl w.heap.size w).alloc (Nat.le_refl _) o).alloc (by simp) o2)
  have HB3 := fun o o2 o3 => hidS ((((Below.refl w.heap.size w).alloc (Nat.le_refl _) o).alloc (by simp) o2).alloc (by simp; omega) o3)
  cases h1 : allW [a, b]
  · go_enter Tryd.func98, Tryd.ntmps98
    go_wp2_with fail
    refine (areWords_any (w.heap.size + 1) [a, b] _ (two_cells1 _ _ _ _ _) (by simp)).mono ?_
    rintro e w1 ⟨rfl, rfl⟩
    rw [h1]
    go_wp2
    go_ret
    exact ⟨rfl, (HB2 _ _).out⟩
  cases h2 : allA [q, k]
  · go_enter Tryd.func98, Tryd.ntmps98
    go_wp2_with fail
    refine (areWords_any (w.heap.size + 1) [a, b] _ (two_cells1 _ _ _ _ _) (by simp)).mono ?_
    rintro e w1 ⟨rfl, rfl⟩
    rw [h1]
    go_wp2_with fail
    refine (areAddrs_any (w.heap.size + 2) [q, k] _ (two_cells2 _ _ _ _ _ _) (by simp)).mono ?_
    rintro e w1 ⟨rfl, rfl⟩
    rw [h2]
    go_wp2
    go_ret
    exact ⟨rfl, (HB3 _ _ _).out⟩
  by_cases h3 : 0 ≤ f
  · by_cases h4 : f ≤ 63
    · have e : Hid (flagB f = true) := flagB_iff.2 ⟨h3, h4⟩
      go_enter Tryd.func98, Tryd.ntmps98
      go_wp2_with fail
      refine (areWords_any (w.heap.size + 1) [a, b] _ (two_cells1 _ _ _ _ _) (by simp)).mono ?_
      rintro e w1 ⟨rfl, rfl⟩
      rw [h1]
      go_wp2_with fail
      refine (areAddrs_any (w.heap.size + 2) [q, k] _ (two_cells2 _ _ _ _ _ _) (by simp)).mono ?_
      rintro e w1 ⟨rfl, rfl⟩
      rw [h2]
      go_wp2
      go_ret
      exact ⟨by rw [e.out]; rfl, (HB3 _ _ _).out⟩
    · have e : Hid (flagB f = false) := by show _ = _; simp [flagB]; omega
      have h4' : decide (f ≤ 63) = false := by simpa using h4
      go_enter Tryd.func98, Tryd.ntmps98
      go_wp2_with fail
      refine (areWords_any (w.heap.size + 1) [a, b] _ (two_cells1 _ _ _ _ _) (by simp)).mono ?_
      rintro e w1 ⟨rfl, rfl⟩
      rw [h1]
      go_wp2_with fail
      refine (areAddrs_any (w.heap.size + 2) [q, k] _ (two_cells2 _ _ _ _ _ _) (by simp)).mono ?_
      rintro e w1 ⟨rfl, rfl⟩
      rw [h2]
      go_wp2
      go_ret
      exact ⟨by rw [e.out]; rfl, (HB3 _ _ _).out⟩
  · have e : Hid (flagB f = false) := by show _ = _; simp [flagB]; omega
    have h3' : decide (0 ≤ f) = false := by simpa using h3
    go_enter Tryd.func98, Tryd.ntmps98
    go_wp2_with fail
    refine (areWords_any (w.heap.size + 1) [a, b] _ (two_cells1 _ _ _ _ _) (by simp)).mono ?_
    rintro e w1 ⟨rfl, rfl⟩
    rw [h1]
    go_wp2_with fail
    refine (areAddrs_any (w.heap.size + 2) [q, k] _ (two_cells2 _ _ _ _ _ _) (by simp)).mono ?_
    rintro e w1 ⟨rfl, rfl⟩
    rw [h2]
    go_wp2
    go_ret
    exact ⟨by rw [e.out]; rfl, (HB3 _ _ _).out⟩

theorem udpRight_any (a b : Int) (s : ByteArray) (w : World) :
    Calls Tryd.prog 101 #[.agg #[.int .i64 a, .int .i64 b, .string s]] w fun e w' => e = .returned (.bool (allW [a, b])) ∧ Below w.heap.size w w' := by
  have HB2 := fun o o2 => hidS (((Below.refl w.heap.size w).alloc (Nat.le_refl _) o).alloc (by simp) o2)
  go_enter Tryd.func101, Tryd.ntmps101
  go_wp2_with fail
  refine (areWords_any (w.heap.size + 1) [a, b] _ (two_cells1 _ _ _ _ _) (by simp)).mono ?_
  rintro e w1 ⟨rfl, rfl⟩
  go_wp2
  go_ret
  exact ⟨rfl, (HB2 _ _).out⟩

theorem errRight_any (s : ByteArray) (w : World) (hs : s.size ≤ maxLen) :
    Calls Tryd.prog 104 #[.agg #[.string s]] w fun e w' => e = .returned (.bool (decide (28 ≤ s.size))) ∧ Below w.heap.size w w' := by
  have hs' : s.size ≤ 2 ^ 63 - 1 := hs
  have HB := fun o => hidS ((Below.refl w.heap.size w).alloc (Nat.le_refl _) o)
  have e : Hid (decide ((28 : Int) ≤ (s.size : Int)) = decide (28 ≤ s.size)) := by show _ = _; rw [decide_eq_decide]; omega
  go_enter Tryd.func104, Tryd.ntmps104
  go_wp2
  go_ret
  exact ⟨by rw [← e.out]; rfl, (HB _).out⟩

theorem echoRight_any (c a q : Int) (s : ByteArray) (w : World) :
    Calls Tryd.prog 107 #[.agg #[.int .i64 c, .int .i64 a, .int .i64 q, .string s]] w fun e w' => e = .returned (.bool ((decide (c = 8) || decide (c = 0)) && allW [a, q])) ∧ Below w.heap.size w w' := by
  have HB := fun o => hidS ((Below.refl w.heap.size w).alloc (Nat.le_refl _) o)
  have HB2 := fun o o2 => hidS (((Below.refl w.heap.size w).alloc (Nat.le_refl _) o).alloc (by simp) o2)
  by_cases h8 : c = 8
  · subst h8
    go_enter Tryd.func107, Tryd.ntmps107
    go_wp2_with fail
    refine (areWords_any (w.heap.size + 1) [a, q] _ (two_cells1 _ _ _ _ _) (by simp)).mono ?_
    rintro e w1 ⟨rfl, rfl⟩
    go_wp2
    go_ret
    exact ⟨by simp, (HB2 _ _).out⟩
  · by_cases h0 : c = 0
    · subst h0
      go_enter Tryd.func107, Tryd.ntmps107
      go_wp2_with fail
      refine (areWords_any (w.heap.size + 1) [a, q] _ (two_cells1 _ _ _ _ _) (by simp)).mono ?_
      rintro e w1 ⟨rfl, rfl⟩
      go_wp2
      go_ret
      exact ⟨by simp, (HB2 _ _).out⟩
    · have h8' : (c == 8) = false := by simpa using h8
      have h0' : (c == 0) = false := by simpa using h0
      go_enter Tryd.func107, Tryd.ntmps107
      go_wp2
      go_ret
      exact ⟨by simp [h8, h0], (HB _).out⟩

theorem tcpFields_any (a b q k f : Int) (s : ByteArray) (w : World) :
    Calls Tryd.prog 97 #[.agg #[.int .i64 a, .int .i64 b, .int .i64 q, .int .i64 k, .int .i64 f, .string s]] w fun e w' => e = .returned (.agg #[.int .i64 0, .int .i64 0, .int .i64 6, .int .i64 a, .int .i64 b, .int .i64 0, .int .i64 f, .int .i64 q, .int .i64 k, .string s]) ∧ Below w.heap.size w w' := by
  go_enter Tryd.func97, Tryd.ntmps97
  go_wp2
  go_returns
  exact ⟨rfl, by go_grown⟩
theorem udpFields_any (a b : Int) (s : ByteArray) (w : World) :
    Calls Tryd.prog 100 #[.agg #[.int .i64 a, .int .i64 b, .string s]] w fun e w' => e = .returned (.agg #[.int .i64 0, .int .i64 0, .int .i64 17, .int .i64 a, .int .i64 b, .int .i64 0, .int .i64 0, .int .i64 0, .int .i64 0, .string s]) ∧ Below w.heap.size w w' := by
  go_enter Tryd.func100, Tryd.ntmps100
  go_wp2
  go_returns
  exact ⟨rfl, by go_grown⟩
theorem errFields_any (s : ByteArray) (w : World) :
    Calls Tryd.prog 103 #[.agg #[.string s]] w fun e w' => e = .returned (.agg #[.int .i64 0, .int .i64 0, .int .i64 1, .int .i64 0, .int .i64 0, .int .i64 3, .int .i64 0, .int .i64 0, .int .i64 0, .string s]) ∧ Below w.heap.size w w' := by
  go_enter Tryd.func103, Tryd.ntmps103
  go_wp2
  go_returns
  exact ⟨rfl, by go_grown⟩
theorem echoFields_any (c a q : Int) (s : ByteArray) (w : World) :
    Calls Tryd.prog 106 #[.agg #[.int .i64 c, .int .i64 a, .int .i64 q, .string s]] w fun e w' => e = .returned (.agg #[.int .i64 0, .int .i64 0, .int .i64 1, .int .i64 a, .int .i64 0, .int .i64 c, .int .i64 0, .int .i64 q, .int .i64 0, .string s]) ∧ Below w.heap.size w w' := by
  go_enter Tryd.func106, Tryd.ntmps106
  go_wp2
  go_returns
  exact ⟨rfl, by go_grown⟩
end Go.Proofs.YthfhbmiddillbafDoor
end

section
namespace Go.Proofs.YthfhbmiddillbafDoor
open Go.ChangeShapes Go.WideShapes Go.ChangeAt Go.RowKit
set_option linter.unusedVariables false

theorem meth_tcp_right (v : Value) (W : World) : (method 262 78 v "loop.example/g00542/impl.right").run Tryd.prog W = .ok (98, v) W := by kernel_rfl
theorem meth_tcp_fields (v : Value) (W : World) : (method 262 78 v "loop.example/g00542/impl.fields").run Tryd.prog W = .ok (97, v) W := by kernel_rfl
theorem meth_udp_right (v : Value) (W : World) : (method 262 80 v "loop.example/g00542/impl.right").run Tryd.prog W = .ok (101, v) W := by kernel_rfl
theorem meth_udp_fields (v : Value) (W : World) : (method 262 80 v "loop.example/g00542/impl.fields").run Tryd.prog W = .ok (100, v) W := by kernel_rfl
theorem meth_err_right (v : Value) (W : World) : (method 262 82 v "loop.example/g00542/impl.right").run Tryd.prog W = .ok (104, v) W := by kernel_rfl
theorem meth_err_fields (v : Value) (W : World) : (method 262 82 v "loop.example/g00542/impl.fields").run Tryd.prog W = .ok (103, v) W := by kernel_rfl
theorem meth_echo_right (v : Value) (W : World) : (method 262 84 v "loop.example/g00542/impl.right").run Tryd.prog W = .ok (107, v) W := by kernel_rfl
theorem meth_echo_fields (v : Value) (W : World) : (method 262 84 v "loop.example/g00542/impl.fields").run Tryd.prog W = .ok (106, v) W := by kernel_rfl
theorem enter_tcp_right (v : Value) (W : World) : (callFunc 98 #[v]).run Tryd.prog W = .ok (.enter 98 #[v]) W := by kernel_rfl
theorem enter_tcp_fields (v : Value) (W : World) : (callFunc 97 #[v]).run Tryd.prog W = .ok (.enter 97 #[v]) W := by kernel_rfl
theorem enter_udp_right (v : Value) (W : World) : (callFunc 101 #[v]).run Tryd.prog W = .ok (.enter 101 #[v]) W := by kernel_rfl
theorem enter_udp_fields (v : Value) (W : World) : (callFunc 100 #[v]).run Tryd.prog W = .ok (.enter 100 #[v]) W := by kernel_rfl
theorem enter_err_right (v : Value) (W : World) : (callFunc 104 #[v]).run Tryd.prog W = .ok (.enter 104 #[v]) W := by kernel_rfl
theorem enter_err_fields (v : Value) (W : World) : (callFunc 103 #[v]).run Tryd.prog W = .ok (.enter 103 #[v]) W := by kernel_rfl
theorem enter_echo_right (v : Value) (W : World) : (callFunc 107 #[v]).run Tryd.prog W = .ok (.enter 107 #[v]) W := by kernel_rfl
theorem enter_echo_fields (v : Value) (W : World) : (callFunc 106 #[v]).run Tryd.prog W = .ok (.enter 106 #[v]) W := by kernel_rfl
end Go.Proofs.YthfhbmiddillbafDoor
end

section
namespace Go.Proofs.YthfhbmiddillbafDoor
open Go.ChangeShapes Go.WideShapes Go.ChangeAt Go.RowKit
open Go.ChangeMaps (open_string shut_string)
set_option linter.unusedVariables false

theorem ret_bool {a b : Bool} (h : b = a) : Ending.returned (.bool a) = .returned (.bool b) := by rw [h]

set_option maxRecDepth 100000 in
set_option maxHeartbeats 2000000 in
theorem implRight_gen (p : Pk) (qa qb qk qf qs qc : Int) (T : TypeId) (val : Value) (fr ff : FuncId) (b : Bool) (w : World) (hs : p.body.size ≤ maxLen)
    (hPT : ∀ W, Calls Tryd.prog 35 #[.agg #[.int .i64 p.src, .int .i64 p.dst, .int .i64 p.proto, .int .i64 p.a, .int .i64 p.b, .int .i64 p.kind, .int .i64 p.flags, .int .i64 p.seq, .int .i64 p.ack, .string p.body]] W fun e w' => e = .returned (.iface T val) ∧ Below W.heap.size W w')
    (hm1 : ∀ W, (method 262 T val "loop.example/g00542/impl.right").run Tryd.prog W = .ok (fr, val) W)
    (hm2 : ∀ W, (method 262 T val "loop.example/g00542/impl.fields").run Tryd.prog W = .ok (ff, val) W)
    (hc1 : ∀ W, (callFunc fr #[val]).run Tryd.prog W = .ok (.enter fr #[val]) W)
    (hc2 : ∀ W, (callFunc ff #[val]).run Tryd.prog W = .ok (.enter ff #[val]) W)
    (hR : ∀ W, Calls Tryd.prog fr #[val] W fun e w' => e = .returned (.bool b) ∧ Below W.heap.size W w')
    (hF : ∀ W, Calls Tryd.prog ff #[val] W fun e w' => e = .returned (.agg #[.int .i64 0, .int .i64 0, .int .i64 p.proto, .int .i64 qa, .int .i64 qb, .int .i64 qk, .int .i64 qf, .int .i64 qs, .int .i64 qc, .string p.body]) ∧ Below W.heap.size W w')
    (hno : allA [p.src, p.dst] = false ∨ 100 < p.body.size ∨ b = false → rightB p = false)
    (hyes : allA [p.src, p.dst] = true → p.body.size ≤ 100 → b = true → rightB p = decide (qa = p.a ∧ qb = p.b ∧ qk = p.kind ∧ qf = p.flags ∧ qs = p.seq ∧ qc = p.ack)) :
    Calls Tryd.prog 47 #[.agg #[.int .i64 p.src, .int .i64 p.dst, .int .i64 p.proto, .int .i64 p.a, .int .i64 p.b, .int .i64 p.kind, .int .i64 p.flags, .int .i64 p.seq, .int .i64 p.ack, .string p.body]] w fun e w' => e = .returned (.bool (rightB p)) ∧ Below w.heap.size w w' := by
  have hs' : p.body.size ≤ 2 ^ 63 - 1 := hs
  have hB1 := hidS ((Below.refl w.heap.size w).alloc (Nat.le_refl _) (.cells #[.int .i64 p.src, .int .i64 p.dst, .int .i64 p.proto, .int .i64 p.a, .int .i64 p.b, .int .i64 p.kind, .int .i64 p.flags, .int .i64 p.seq, .int .i64 p.ack, .string p.body] 23))
  have HP := hidS (heap_newG w (.cells #[.int .i64 p.src, .int .i64 p.dst, .int .i64 p.proto, .int .i64 p.a, .int .i64 p.b, .int .i64 p.kind, .int .i64 p.flags, .int .i64 p.seq, .int .i64 p.ack, .string p.body] 23))
  have HPT := hidS hPT
  have HM1 := hidS hm1
  have HM2 := hidS hm2
  have HR := hidS hR
  have HF := hidS hF
  have HC1 := hidS hc1
  have HC2 := hidS hc2
  have HN := hidS hno
  have HY := hidS hyes
  clear hPT hm1 hm2 hR hF hc1 hc2 hno hyes
  cases h1 : allA [p.src, p.dst]
  · have e0 : Hid (rightB p = false) := HN.out (.inl h1)
    go_enter Tryd.func47, Tryd.ntmps47
    go_wp2_with fail
    refine (HPT.out _).mono ?_
    rintro e w2 ⟨rfl, hb2⟩
    have hG := blk_later HP.out hb2
    have hL := hidS (hB1.out.trans (hb2.mono hB1.out.size))
    clear hB1 HP hb2 HPT
    have c0 := blk_cell hG 0
    have c1 := blk_cell hG 1
    simp at c0 c1
    go_wp2_with fail
    refine (areAddrs_any w2.heap.size [p.src, p.dst] _ (two_cells _ _ _ _) (by simp)).mono ?_
    rintro e w3 ⟨rfl, rfl⟩
    rw [h1]
    have hL3 := hidS (hL.out.alloc hL.out.size (.cells #[.int .i64 p.src, .int .i64 p.dst] 2))
    generalize w2.alloc (.cells #[.int .i64 p.src, .int .i64 p.dst] 2) = w3 at hL3 ⊢
    go_wp2_with fail
    go_ret
    exact ⟨ret_bool e0.out, hL3.out⟩
  by_cases h2 : 100 < p.body.size
  · have e0 : Hid (rightB p = false) := HN.out (.inr (.inl h2))
    go_enter Tryd.func47, Tryd.ntmps47
    go_wp2_with fail
    refine (HPT.out _).mono ?_
    rintro e w2 ⟨rfl, hb2⟩
    have hG := blk_later HP.out hb2
    have hL := hidS (hB1.out.trans (hb2.mono hB1.out.size))
    clear hB1 HP hb2 HPT
    have c0 := blk_cell hG 0
    have c1 := blk_cell hG 1
    simp at c0 c1
    go_wp2_with fail
    refine (areAddrs_any w2.heap.size [p.src, p.dst] _ (two_cells _ _ _ _) (by simp)).mono ?_
    rintro e w3 ⟨rfl, rfl⟩
    rw [h1]
    have hG3 := blk_alloc hG (.cells #[.int .i64 p.src, .int .i64 p.dst] 2)
    have hL3 := hidS (hL.out.alloc hL.out.size (.cells #[.int .i64 p.src, .int .i64 p.dst] 2))
    generalize w2.alloc (.cells #[.int .i64 p.src, .int .i64 p.dst] 2) = w3 at hG3 hL3 ⊢
    clear hG hL c0 c1
    have c9 := blk_cell hG3 9
    simp at c9
    go_wp2_with fail
    go_ret
    exact ⟨ret_bool e0.out, hL3.out⟩
  have h2' : decide ((100 : Int) < (p.body.size : Int)) = false := by simp; omega
  go_enter Tryd.func47, Tryd.ntmps47
  go_wp2_with fail
  refine (HPT.out _).mono ?_
  rintro e w2 ⟨rfl, hb2⟩
  have hG := blk_later HP.out hb2
  have hL := hidS (hB1.out.trans (hb2.mono hB1.out.size))
  clear hB1 HP hb2 HPT
  have c0 := blk_cell hG 0
  have c1 := blk_cell hG 1
  simp at c0 c1
  go_wp2_with fail
  refine (areAddrs_any w2.heap.size [p.src, p.dst] _ (two_cells _ _ _ _) (by simp)).mono ?_
  rintro e w3 ⟨rfl, rfl⟩
  rw [h1]
  have hG3 := blk_alloc hG (.cells #[.int .i64 p.src, .int .i64 p.dst] 2)
  have hL3 := hidS (hL.out.alloc hL.out.size (.cells #[.int .i64 p.src, .int .i64 p.dst] 2))
  generalize w2.alloc (.cells #[.int .i64 p.src, .int .i64 p.dst] 2) = w3 at hG3 hL3 ⊢
  clear hG hL c0 c1
  have c9 := blk_cell hG3 9
  simp at c9
  go_wp2_with fail
  rw [HM1.out]
  go_wp2_with fail
  rw [HC1.out, Oper.upon_enter]
  refine (HR.out _).mono ?_
  rintro e w4 ⟨rfl, hb4⟩
  cases b
  · have e0 : Hid (rightB p = false) := HN.out (.inr (.inr rfl))
    have hL4 := hidS (hL3.out.trans (hb4.mono hL3.out.size))
    clear hG3 hL3 hb4 c9
    go_wp2_with fail
    go_ret
    exact ⟨ret_bool e0.out, hL4.out⟩
  have hG4 := blk_later hG3 hb4
  have hL4 := hidS (hL3.out.trans (hb4.mono hL3.out.size))
  clear hG3 hL3 hb4 c9
  go_wp2_with fail
  rw [HM2.out]
  go_wp2_with fail
  rw [HC2.out, Oper.upon_enter]
  refine (HF.out _).mono ?_
  rintro e w5 ⟨rfl, hb5⟩
  have hG5 := blk_later hG4 hb5
  have hL5 := hidS (hL4.out.trans (hb5.mono hL4.out.size))
  clear hG4 hL4 hb5 HM1 HM2 HF HC1 HC2 HR
  have hlt := blk_lt hG5
  have hL6 := fun o => hidS (hL5.out.alloc hL5.out.size o).drew
  clear hL5
  have c0 := blk_cell hG5 0
  have c1 := blk_cell hG5 1
  simp at c0 c1
  go_wp2_with fail
  go_region
  have c2 := blk_cell hG5 2
  have c3 := blk_cell hG5 3
  have c4 := blk_cell hG5 4
  have c5 := blk_cell hG5 5
  have c6 := blk_cell hG5 6
  have c7 := blk_cell hG5 7
  have c8 := blk_cell hG5 8
  have c9 := blk_cell hG5 9
  simp at c2 c3 c4 c5 c6 c7 c8 c9
  have HE := hidS (HY.out h1 (by omega) (by simp))
  clear hG5 HY HN
  go_wp2_with fail
  all_goals
    go_ret
    refine ⟨ret_bool ?_, (hL6 _).out⟩
    rw [HE.out]
    first
      | exact decide_eq_true ⟨by assumption, by assumption, by assumption, by assumption, by assumption, by assumption⟩
      | exact decide_eq_false (by rintro ⟨g1, g2, g3, g4, g5, g6⟩; contradiction)
end Go.Proofs.YthfhbmiddillbafDoor
end

section
namespace Go.Proofs.YthfhbmiddillbafDoor
open Go.ChangeShapes Go.WideShapes Go.ChangeAt Go.RowKit
open Go.ChangeMaps (open_string shut_string)
set_option linter.unusedVariables false

theorem allA2 (a b : Int) : allA [a, b] = (addrB a && addrB b) := by simp [allA]
theorem allW2 (a b : Int) : allW [a, b] = (wordB a && wordB b) := by simp [allW]

theorem right_tcp_no (p : Pk) (h6 : p.proto = 6) : allA [p.src, p.dst] = false ∨ 100 < p.body.size ∨ (allW [p.a, p.b] && allA [p.seq, p.ack] && flagB p.flags) = false → rightB p = false := by
  rw [allA2, allW2, allA2]
  rintro (h | h | h)
  · unfold rightB; rw [h]; simp
  · unfold rightB; rw [show decide (p.body.size ≤ 100) = false from by simp; omega]; simp
  · unfold rightB tcpB; rw [if_pos h6]; grind
theorem right_tcp_yes (p : Pk) (h6 : p.proto = 6) : allA [p.src, p.dst] = true → p.body.size ≤ 100 → (allW [p.a, p.b] && allA [p.seq, p.ack] && flagB p.flags) = true → rightB p = decide (p.a = p.a ∧ p.b = p.b ∧ 0 = p.kind ∧ p.flags = p.flags ∧ p.seq = p.seq ∧ p.ack = p.ack) := by
  rw [allA2, allW2, allA2]
  intro h1 h2 h3
  unfold rightB tcpB; rw [if_pos h6, h1, decide_eq_true h2]; grind
theorem right_udp_no (p : Pk) (h17 : p.proto = 17) : allA [p.src, p.dst] = false ∨ 100 < p.body.size ∨ (allW [p.a, p.b]) = false → rightB p = false := by
  rw [allA2, allW2]
  rintro (h | h | h)
  · unfold rightB; rw [h]; simp
  · unfold rightB; rw [show decide (p.body.size ≤ 100) = false from by simp; omega]; simp
  · unfold rightB udpB; rw [if_neg (by omega), if_pos h17]; grind
theorem right_udp_yes (p : Pk) (h17 : p.proto = 17) : allA [p.src, p.dst] = true → p.body.size ≤ 100 → (allW [p.a, p.b]) = true → rightB p = decide (p.a = p.a ∧ p.b = p.b ∧ 0 = p.kind ∧ 0 = p.flags ∧ 0 = p.seq ∧ 0 = p.ack) := by
  rw [allA2, allW2]
  intro h1 h2 h3
  unfold rightB udpB; rw [if_neg (by omega), if_pos h17, h1, decide_eq_true h2]; grind
theorem right_err_no (p : Pk) (h1 : p.proto = 1) (h3 : p.kind = 3) : allA [p.src, p.dst] = false ∨ 100 < p.body.size ∨ (decide (28 ≤ p.body.size)) = false → rightB p = false := by
  rw [allA2]
  rintro (h | h | h)
  · unfold rightB; rw [h]; simp
  · unfold rightB; rw [show decide (p.body.size ≤ 100) = false from by simp; omega]; simp
  · unfold rightB pingB; rw [if_neg (by omega), if_neg (by omega), if_pos h1, if_pos h3, h]; simp
theorem right_err_yes (p : Pk) (h1 : p.proto = 1) (h3 : p.kind = 3) : allA [p.src, p.dst] = true → p.body.size ≤ 100 → (decide (28 ≤ p.body.size)) = true → rightB p = decide (0 = p.a ∧ 0 = p.b ∧ 3 = p.kind ∧ 0 = p.flags ∧ 0 = p.seq ∧ 0 = p.ack) := by
  rw [allA2]
  intro g1 g2 g3
  unfold rightB pingB; rw [if_neg (by omega), if_neg (by omega), if_pos h1, if_pos h3, g1, g3, decide_eq_true g2]; grind
theorem right_echo_no (p : Pk) (h1 : p.proto = 1) (h3 : p.kind ≠ 3) : allA [p.src, p.dst] = false ∨ 100 < p.body.size ∨ ((decide (p.kind = 8) || decide (p.kind = 0)) && allW [p.a, p.seq]) = false → rightB p = false := by
  rw [allA2, allW2]
  rintro (h | h | h)
  · unfold rightB; rw [h]; simp
  · unfold rightB; rw [show decide (p.body.size ≤ 100) = false from by simp; omega]; simp
  · unfold rightB pingB; rw [if_neg (by omega), if_neg (by omega), if_pos h1, if_neg h3]; grind
theorem right_echo_yes (p : Pk) (h1 : p.proto = 1) (h3 : p.kind ≠ 3) : allA [p.src, p.dst] = true → p.body.size ≤ 100 → ((decide (p.kind = 8) || decide (p.kind = 0)) && allW [p.a, p.seq]) = true → rightB p = decide (p.a = p.a ∧ 0 = p.b ∧ p.kind = p.kind ∧ 0 = p.flags ∧ p.seq = p.seq ∧ 0 = p.ack) := by
  rw [allA2, allW2]
  intro g1 g2 g3
  unfold rightB pingB; rw [if_neg (by omega), if_neg (by omega), if_pos h1, if_neg h3, g1, decide_eq_true g2]; grind
theorem right_none (p : Pk) (h6 : p.proto ≠ 6) (h17 : p.proto ≠ 17) (h1 : p.proto ≠ 1) : rightB p = false := by
  unfold rightB; rw [if_neg h6, if_neg h17, if_neg h1]; simp

theorem implRight_none (p : Pk) (w : World) (h6 : p.proto ≠ 6) (h17 : p.proto ≠ 17) (h1 : p.proto ≠ 1) :
    Calls Tryd.prog 47 #[.agg #[.int .i64 p.src, .int .i64 p.dst, .int .i64 p.proto, .int .i64 p.a, .int .i64 p.b, .int .i64 p.kind, .int .i64 p.flags, .int .i64 p.seq, .int .i64 p.ack, .string p.body]] w fun e w' => e = .returned (.bool (rightB p)) ∧ Below w.heap.size w w' := by
  have e0 : Hid (rightB p = false) := right_none p h6 h17 h1
  have hB1 := hidS ((Below.refl w.heap.size w).alloc (Nat.le_refl _) (.cells #[.int .i64 p.src, .int .i64 p.dst, .int .i64 p.proto, .int .i64 p.a, .int .i64 p.b, .int .i64 p.kind, .int .i64 p.flags, .int .i64 p.seq, .int .i64 p.ack, .string p.body] 23))
  have hPT := hidS (fun W => partOf_none p W h6 h17 h1)
  clear h6 h17 h1
  go_enter Tryd.func47, Tryd.ntmps47
  go_wp2_with fail
  refine (hPT.out _).mono ?_
  rintro e w2 ⟨rfl, hb2⟩
  have hL := hidS (hB1.out.trans (hb2.mono hB1.out.size))
  clear hB1 hb2 hPT
  go_wp2_with fail
  go_ret
  exact ⟨ret_bool e0.out, hL.out⟩

theorem implRight_any (p : Pk) (w : World) (hs : p.body.size ≤ maxLen) :
    Calls Tryd.prog 47 #[.agg #[.int .i64 p.src, .int .i64 p.dst, .int .i64 p.proto, .int .i64 p.a, .int .i64 p.b, .int .i64 p.kind, .int .i64 p.flags, .int .i64 p.seq, .int .i64 p.ack, .string p.body]] w fun e w' => e = .returned (.bool (rightB p)) ∧ Below w.heap.size w w' := by
  by_cases h6 : p.proto = 6
  · exact implRight_gen p p.a p.b 0 p.flags p.seq p.ack 78 (.agg #[.int .i64 p.a, .int .i64 p.b, .int .i64 p.seq, .int .i64 p.ack, .int .i64 p.flags, .string p.body]) 98 97 _ w hs
      (fun W => partOf_tcp p W h6) (meth_tcp_right _) (meth_tcp_fields _) (enter_tcp_right _) (enter_tcp_fields _) (fun W => tcpRight_any p.a p.b p.seq p.ack p.flags p.body W) (fun W => by rw [h6]; exact tcpFields_any p.a p.b p.seq p.ack p.flags p.body W) (right_tcp_no p h6) (right_tcp_yes p h6)
  by_cases h17 : p.proto = 17
  · exact implRight_gen p p.a p.b 0 0 0 0 80 (.agg #[.int .i64 p.a, .int .i64 p.b, .string p.body]) 101 100 _ w hs
      (fun W => partOf_udp p W h17) (meth_udp_right _) (meth_udp_fields _) (enter_udp_right _) (enter_udp_fields _) (fun W => udpRight_any p.a p.b p.body W) (fun W => by rw [h17]; exact udpFields_any p.a p.b p.body W) (right_udp_no p h17) (right_udp_yes p h17)
  by_cases h1 : p.proto = 1
  · by_cases h3 : p.kind = 3
    · exact implRight_gen p 0 0 3 0 0 0 82 (.agg #[.string p.body]) 104 103 _ w hs
        (fun W => partOf_err p W h1 h3) (meth_err_right _) (meth_err_fields _) (enter_err_right _) (enter_err_fields _) (fun W => errRight_any p.body W hs) (fun W => by rw [h1]; exact errFields_any p.body W) (right_err_no p h1 h3) (right_err_yes p h1 h3)
    · exact implRight_gen p p.a 0 p.kind 0 p.seq 0 84 (.agg #[.int .i64 p.kind, .int .i64 p.a, .int .i64 p.seq, .string p.body]) 107 106 _ w hs
        (fun W => partOf_echo p W h1 h3) (meth_echo_right _) (meth_echo_fields _) (enter_echo_right _) (enter_echo_fields _) (fun W => echoRight_any p.kind p.a p.seq p.body W) (fun W => by rw [h1]; exact echoFields_any p.kind p.a p.seq p.body W) (right_echo_no p h1 h3) (right_echo_yes p h1 h3)
  · exact implRight_none p w h6 h17 h1
end Go.Proofs.YthfhbmiddillbafDoor
end
