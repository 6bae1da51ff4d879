/- Proved here: impl.scanPacket answers the packet that a text tells; all old memory stays (conditions: the text has at least 28 bytes, at most 8000). -/
import Derived.Test.YtedknnkdnccfmaaGreatDoorNumberAt
import Derived.Test.YtedknnkdnccfmaaGreatDoorAll1
import Derived.Test.YtedknnkdnccfmaaGreatDoorAll3
namespace Go.Proofs.YtedknnkdnccfmaaGreatDoor
open Go.ChangeShapes Go.WideShapes Go.ChangeAt Go.RowKit
open Go.ChangeMaps (open_string shut_string)
set_option linter.unusedVariables false
set_option maxRecDepth 100000

theorem numAt (s : ByteArray) (k m : Nat) {x y : Int} (w : World) (hx : x = (k : Int)) (hy : y = (m : Int)) (hk : k ≤ 1000) (hm : m ≤ 4) (hs : s.size ≤ 100000) :
    Calls Tryz.prog 117 #[.string s, .int .i64 x, .int .i64 y] w fun e w' => e = .returned (.int .i64 (numN s k m : Nat)) ∧ w' = w := by
  subst hx; subst hy; exact numberAt_x s k m w hk hm hs
theorem behAt (s : ByteArray) (k : Nat) {x : Int} (w : World) (hx : x = (k : Int)) (hk : k ≤ 1000) (hs : s.size ≤ 100000) :
    Calls Tryz.prog 118 #[.string s, .int .i64 x] w fun e w' => e = .returned (.string (s.extract (min k s.size) s.size)) ∧ Below w.heap.size w w' := by
  subst hx; exact behindOf_x s k w hk hs
/-- the packet that a text tells, as far as it goes -/
def scanOf (s t : ByteArray) : Pk :=
  if numN s 9 1 = 6 then ⟨numN s 12 4, numN s 16 4, 6, numN t 0 2, numN t 2 2, 0, numN t 13 1, numN t 4 4, numN t 8 4, t.extract (min 20 t.size) t.size⟩
  else if numN s 9 1 = 17 then ⟨numN s 12 4, numN s 16 4, 17, numN t 0 2, numN t 2 2, 0, 0, 0, 0, t.extract (min 8 t.size) t.size⟩
  else if numN s 9 1 = 1 then ⟨numN s 12 4, numN s 16 4, 1, numN t 4 2, 0, numN t 0 1, 0, numN t 6 2, 0, t.extract (min 8 t.size) t.size⟩
  else ⟨numN s 12 4, numN s 16 4, numN s 9 1, 0, 0, 0, 0, 0, 0, ⟨#[]⟩⟩
def scanPk (s : ByteArray) : Pk := scanOf s (s.extract 20 s.size)

set_option maxHeartbeats 4000000 in
theorem scan_tcp (s : ByteArray) (w : World) (h1 : 28 ≤ s.size) (hs : s.size ≤ 8000) (hpr : numN s 9 1 = 6) :
    Calls Tryz.prog 95 #[.string s] w fun e w' => e = .returned (.agg #[.int .i64 (scanPk s).src, .int .i64 (scanPk s).dst, .int .i64 (scanPk s).proto, .int .i64 (scanPk s).a, .int .i64 (scanPk s).b, .int .i64 (scanPk s).kind, .int .i64 (scanPk s).flags, .int .i64 (scanPk s).seq, .int .i64 (scanPk s).ack, .string (scanPk s).body]) ∧ Below w.heap.size w w' := by
  have h20 : (20 : Int) ≤ (s.size : Int) := by omega
  have hts : (s.extract 20 s.size).size ≤ 8000 := by rw [ByteArray.size_extract]; omega
  have e0 : Hid (scanPk s = ⟨numN s 12 4, numN s 16 4, 6, numN (s.extract 20 s.size) 0 2, numN (s.extract 20 s.size) 2 2, 0, numN (s.extract 20 s.size) 13 1, numN (s.extract 20 s.size) 4 4, numN (s.extract 20 s.size) 8 4, (s.extract 20 s.size).extract (min 20 (s.extract 20 s.size).size) (s.extract 20 s.size).size⟩) := by show scanOf _ _ = _; unfold scanOf; rw [if_pos hpr]
  have H6 := hidS hpr
  clear hpr
  go_enter Tryz.func95, Tryz.ntmps95
  go_wp2_with fail
  refine (numAt s 12 4 _ rfl rfl (by omega) (by omega) (by omega)).mono ?_
  rintro _ w1 ⟨rfl, rfl⟩
  go_wp2_with fail
  refine (numAt s 16 4 _ rfl rfl (by omega) (by omega) (by omega)).mono ?_
  rintro _ w1 ⟨rfl, rfl⟩
  go_wp2_with fail
  refine (numAt s 9 1 _ rfl rfl (by omega) (by omega) (by omega)).mono ?_
  rintro _ w1 ⟨rfl, rfl⟩
  rw [H6.out]
  generalize s.extract 20 s.size = t at *
  go_wp2_with fail
  refine (numAt t 0 2 _ rfl rfl (by omega) (by omega) (by omega)).mono ?_
  rintro _ w1 ⟨rfl, rfl⟩
  go_wp2_with fail
  refine (numAt t 2 2 _ rfl rfl (by omega) (by omega) (by omega)).mono ?_
  rintro _ w1 ⟨rfl, rfl⟩
  go_wp2_with fail
  refine (numAt t 4 4 _ rfl rfl (by omega) (by omega) (by omega)).mono ?_
  rintro _ w1 ⟨rfl, rfl⟩
  go_wp2_with fail
  refine (numAt t 8 4 _ rfl rfl (by omega) (by omega) (by omega)).mono ?_
  rintro _ w1 ⟨rfl, rfl⟩
  go_wp2_with fail
  refine (numAt t 13 1 _ rfl rfl (by omega) (by omega) (by omega)).mono ?_
  rintro _ w1 ⟨rfl, rfl⟩
  have hG0 := blk_alloc (heap_newG w (.cells #[.int .i64 0, .int .i64 0, .int .i64 0, .int .i64 0, .int .i64 0, .int .i64 0, .int .i64 0, .int .i64 0, .int .i64 0, .string ⟨#[]⟩] 24)) (.cells #[.int .i64 (numN s 12 4 : Nat), .int .i64 (numN s 16 4 : Nat), .int .i64 6, .int .i64 (numN t 0 2 : Nat), .int .i64 (numN t 2 2 : Nat), .int .i64 0, .int .i64 0, .int .i64 (numN t 4 4 : Nat), .int .i64 (numN t 8 4 : Nat), .string ⟨#[]⟩] 24)
  have hG1 : ((w.alloc (.cells #[.int .i64 0, .int .i64 0, .int .i64 0, .int .i64 0, .int .i64 0, .int .i64 0, .int .i64 0, .int .i64 0, .int .i64 0, .string ⟨#[]⟩] 24)).alloc (.cells #[.int .i64 (numN s 12 4 : Nat), .int .i64 (numN s 16 4 : Nat), .int .i64 6, .int .i64 (numN t 0 2 : Nat), .int .i64 (numN t 2 2 : Nat), .int .i64 0, .int .i64 0, .int .i64 (numN t 4 4 : Nat), .int .i64 (numN t 8 4 : Nat), .string ⟨#[]⟩] 24)).heap[w.heap.size + 1]? = some (.cells #[.int .i64 (numN s 12 4 : Nat), .int .i64 (numN s 16 4 : Nat), .int .i64 6, .int .i64 (numN t 0 2 : Nat), .int .i64 (numN t 2 2 : Nat), .int .i64 0, .int .i64 0, .int .i64 (numN t 4 4 : Nat), .int .i64 (numN t 8 4 : Nat), .string ⟨#[]⟩] 24) := by
    have := heap_newG (w.alloc (.cells #[.int .i64 0, .int .i64 0, .int .i64 0, .int .i64 0, .int .i64 0, .int .i64 0, .int .i64 0, .int .i64 0, .int .i64 0, .string ⟨#[]⟩] 24)) (.cells #[.int .i64 (numN s 12 4 : Nat), .int .i64 (numN s 16 4 : Nat), .int .i64 6, .int .i64 (numN t 0 2 : Nat), .int .i64 (numN t 2 2 : Nat), .int .i64 0, .int .i64 0, .int .i64 (numN t 4 4 : Nat), .int .i64 (numN t 8 4 : Nat), .string ⟨#[]⟩] 24)
    simpa using this
  have hL := hidS (((Below.refl w.heap.size w).alloc (Nat.le_refl _) (.cells #[.int .i64 0, .int .i64 0, .int .i64 0, .int .i64 0, .int .i64 0, .int .i64 0, .int .i64 0, .int .i64 0, .int .i64 0, .string ⟨#[]⟩] 24)).alloc (by simp) (.cells #[.int .i64 (numN s 12 4 : Nat), .int .i64 (numN s 16 4 : Nat), .int .i64 6, .int .i64 (numN t 0 2 : Nat), .int .i64 (numN t 2 2 : Nat), .int .i64 0, .int .i64 0, .int .i64 (numN t 4 4 : Nat), .int .i64 (numN t 8 4 : Nat), .string ⟨#[]⟩] 24))
  have HG0 := hidS hG0
  have HG1 := hidS hG1
  clear hG0 hG1
  go_wp2_with fail
  refine (behAt t 20 _ rfl (by omega) (by omega)).mono ?_
  rintro _ w2 ⟨rfl, hb2⟩
  have hG0 := blk_later HG0.out hb2
  have hG1 := blk_later HG1.out hb2
  have hL2 := hidS (hL.out.trans (hb2.mono hL.out.size))
  clear HG0 HG1 hL hb2
  have hne : w.heap.size ≠ w.heap.size + 1 := by omega
  have c00 := blk_cell hG0 0
  have f00 := blk_free hG0 0
  have c01 := blk_cell hG0 1
  have f01 := blk_free hG0 1
  have c02 := blk_cell hG0 2
  have f02 := blk_free hG0 2
  have c03 := blk_cell hG0 3
  have f03 := blk_free hG0 3
  have c04 := blk_cell hG0 4
  have f04 := blk_free hG0 4
  have c05 := blk_cell hG0 5
  have f05 := blk_free hG0 5
  have c06 := blk_cell hG0 6
  have f06 := blk_free hG0 6
  have c07 := blk_cell hG0 7
  have f07 := blk_free hG0 7
  have c08 := blk_cell hG0 8
  have f08 := blk_free hG0 8
  have c09 := blk_cell hG0 9
  have f09 := blk_free hG0 9
  have c10 := blk_cell hG1 0
  have f10 := blk_free hG1 0
  have c11 := blk_cell hG1 1
  have f11 := blk_free hG1 1
  have c12 := blk_cell hG1 2
  have f12 := blk_free hG1 2
  have c13 := blk_cell hG1 3
  have f13 := blk_free hG1 3
  have c14 := blk_cell hG1 4
  have f14 := blk_free hG1 4
  have c15 := blk_cell hG1 5
  have f15 := blk_free hG1 5
  have c16 := blk_cell hG1 6
  have f16 := blk_free hG1 6
  have c17 := blk_cell hG1 7
  have f17 := blk_free hG1 7
  have c18 := blk_cell hG1 8
  have f18 := blk_free hG1 8
  have c19 := blk_cell hG1 9
  have f19 := blk_free hG1 9
  simp at c00 c01 c02 c03 c04 c05 c06 c07 c08 c09 c10 c11 c12 c13 c14 c15 c16 c17 c18 c19
  clear hG0 hG1
  go_wp2_with fail
  refine bodyPost_ret (v := .agg #[.int .i64 (numN s 12 4 : Nat), .int .i64 (numN s 16 4 : Nat), .int .i64 6, .int .i64 (numN t 0 2 : Nat), .int .i64 (numN t 2 2 : Nat), .int .i64 0, .int .i64 (numN t 13 1 : Nat), .int .i64 (numN t 4 4 : Nat), .int .i64 (numN t 8 4 : Nat), .string (t.extract (min 20 t.size) t.size)]) (by simp [results, Tryz.results95, go_sem, *]) rfl ⟨by rw [e0.out], ?_⟩
  repeat (refine below_at ?_ (by omega))
  exact hL2.out
set_option maxHeartbeats 4000000 in
theorem scan_udp (s : ByteArray) (w : World) (h1 : 28 ≤ s.size) (hs : s.size ≤ 8000) (hpr : numN s 9 1 = 17) :
    Calls Tryz.prog 95 #[.string s] w fun e w' => e = .returned (.agg #[.int .i64 (scanPk s).src, .int .i64 (scanPk s).dst, .int .i64 (scanPk s).proto, .int .i64 (scanPk s).a, .int .i64 (scanPk s).b, .int .i64 (scanPk s).kind, .int .i64 (scanPk s).flags, .int .i64 (scanPk s).seq, .int .i64 (scanPk s).ack, .string (scanPk s).body]) ∧ Below w.heap.size w w' := by
  have h20 : (20 : Int) ≤ (s.size : Int) := by omega
  have hts : (s.extract 20 s.size).size ≤ 8000 := by rw [ByteArray.size_extract]; omega
  have e0 : Hid (scanPk s = ⟨numN s 12 4, numN s 16 4, 17, numN (s.extract 20 s.size) 0 2, numN (s.extract 20 s.size) 2 2, 0, 0, 0, 0, (s.extract 20 s.size).extract (min 8 (s.extract 20 s.size).size) (s.extract 20 s.size).size⟩) := by show scanOf _ _ = _; unfold scanOf; rw [if_neg (by omega), if_pos hpr]
  have H6 := hidS hpr
  clear hpr
  go_enter Tryz.func95, Tryz.ntmps95
  go_wp2_with fail
  refine (numAt s 12 4 _ rfl rfl (by omega) (by omega) (by omega)).mono ?_
  rintro _ w1 ⟨rfl, rfl⟩
  go_wp2_with fail
  refine (numAt s 16 4 _ rfl rfl (by omega) (by omega) (by omega)).mono ?_
  rintro _ w1 ⟨rfl, rfl⟩
  go_wp2_with fail
  refine (numAt s 9 1 _ rfl rfl (by omega) (by omega) (by omega)).mono ?_
  rintro _ w1 ⟨rfl, rfl⟩
  rw [H6.out]
  generalize s.extract 20 s.size = t at *
  go_wp2_with fail
  refine (numAt t 0 2 _ rfl rfl (by omega) (by omega) (by omega)).mono ?_
  rintro _ w1 ⟨rfl, rfl⟩
  go_wp2_with fail
  refine (numAt t 2 2 _ rfl rfl (by omega) (by omega) (by omega)).mono ?_
  rintro _ w1 ⟨rfl, rfl⟩
  have hG0 := blk_alloc (heap_newG w (.cells #[.int .i64 0, .int .i64 0, .int .i64 0, .int .i64 0, .int .i64 0, .int .i64 0, .int .i64 0, .int .i64 0, .int .i64 0, .string ⟨#[]⟩] 24)) (.cells #[.int .i64 (numN s 12 4 : Nat), .int .i64 (numN s 16 4 : Nat), .int .i64 17, .int .i64 (numN t 0 2 : Nat), .int .i64 (numN t 2 2 : Nat), .int .i64 0, .int .i64 0, .int .i64 0, .int .i64 0, .string ⟨#[]⟩] 24)
  have hG1 : ((w.alloc (.cells #[.int .i64 0, .int .i64 0, .int .i64 0, .int .i64 0, .int .i64 0, .int .i64 0, .int .i64 0, .int .i64 0, .int .i64 0, .string ⟨#[]⟩] 24)).alloc (.cells #[.int .i64 (numN s 12 4 : Nat), .int .i64 (numN s 16 4 : Nat), .int .i64 17, .int .i64 (numN t 0 2 : Nat), .int .i64 (numN t 2 2 : Nat), .int .i64 0, .int .i64 0, .int .i64 0, .int .i64 0, .string ⟨#[]⟩] 24)).heap[w.heap.size + 1]? = some (.cells #[.int .i64 (numN s 12 4 : Nat), .int .i64 (numN s 16 4 : Nat), .int .i64 17, .int .i64 (numN t 0 2 : Nat), .int .i64 (numN t 2 2 : Nat), .int .i64 0, .int .i64 0, .int .i64 0, .int .i64 0, .string ⟨#[]⟩] 24) := by
    have := heap_newG (w.alloc (.cells #[.int .i64 0, .int .i64 0, .int .i64 0, .int .i64 0, .int .i64 0, .int .i64 0, .int .i64 0, .int .i64 0, .int .i64 0, .string ⟨#[]⟩] 24)) (.cells #[.int .i64 (numN s 12 4 : Nat), .int .i64 (numN s 16 4 : Nat), .int .i64 17, .int .i64 (numN t 0 2 : Nat), .int .i64 (numN t 2 2 : Nat), .int .i64 0, .int .i64 0, .int .i64 0, .int .i64 0, .string ⟨#[]⟩] 24)
    simpa using this
  have hL := hidS (((Below.refl w.heap.size w).alloc (Nat.le_refl _) (.cells #[.int .i64 0, .int .i64 0, .int .i64 0, .int .i64 0, .int .i64 0, .int .i64 0, .int .i64 0, .int .i64 0, .int .i64 0, .string ⟨#[]⟩] 24)).alloc (by simp) (.cells #[.int .i64 (numN s 12 4 : Nat), .int .i64 (numN s 16 4 : Nat), .int .i64 17, .int .i64 (numN t 0 2 : Nat), .int .i64 (numN t 2 2 : Nat), .int .i64 0, .int .i64 0, .int .i64 0, .int .i64 0, .string ⟨#[]⟩] 24))
  have HG0 := hidS hG0
  have HG1 := hidS hG1
  clear hG0 hG1
  go_wp2_with fail
  refine (behAt t 8 _ rfl (by omega) (by omega)).mono ?_
  rintro _ w2 ⟨rfl, hb2⟩
  have hG0 := blk_later HG0.out hb2
  have hG1 := blk_later HG1.out hb2
  have hL2 := hidS (hL.out.trans (hb2.mono hL.out.size))
  clear HG0 HG1 hL hb2
  have hne : w.heap.size ≠ w.heap.size + 1 := by omega
  have c00 := blk_cell hG0 0
  have f00 := blk_free hG0 0
  have c01 := blk_cell hG0 1
  have f01 := blk_free hG0 1
  have c02 := blk_cell hG0 2
  have f02 := blk_free hG0 2
  have c03 := blk_cell hG0 3
  have f03 := blk_free hG0 3
  have c04 := blk_cell hG0 4
  have f04 := blk_free hG0 4
  have c05 := blk_cell hG0 5
  have f05 := blk_free hG0 5
  have c06 := blk_cell hG0 6
  have f06 := blk_free hG0 6
  have c07 := blk_cell hG0 7
  have f07 := blk_free hG0 7
  have c08 := blk_cell hG0 8
  have f08 := blk_free hG0 8
  have c09 := blk_cell hG0 9
  have f09 := blk_free hG0 9
  have c10 := blk_cell hG1 0
  have f10 := blk_free hG1 0
  have c11 := blk_cell hG1 1
  have f11 := blk_free hG1 1
  have c12 := blk_cell hG1 2
  have f12 := blk_free hG1 2
  have c13 := blk_cell hG1 3
  have f13 := blk_free hG1 3
  have c14 := blk_cell hG1 4
  have f14 := blk_free hG1 4
  have c15 := blk_cell hG1 5
  have f15 := blk_free hG1 5
  have c16 := blk_cell hG1 6
  have f16 := blk_free hG1 6
  have c17 := blk_cell hG1 7
  have f17 := blk_free hG1 7
  have c18 := blk_cell hG1 8
  have f18 := blk_free hG1 8
  have c19 := blk_cell hG1 9
  have f19 := blk_free hG1 9
  simp at c00 c01 c02 c03 c04 c05 c06 c07 c08 c09 c10 c11 c12 c13 c14 c15 c16 c17 c18 c19
  clear hG0 hG1
  go_wp2_with fail
  refine bodyPost_ret (v := .agg #[.int .i64 (numN s 12 4 : Nat), .int .i64 (numN s 16 4 : Nat), .int .i64 17, .int .i64 (numN t 0 2 : Nat), .int .i64 (numN t 2 2 : Nat), .int .i64 0, .int .i64 0, .int .i64 0, .int .i64 0, .string (t.extract (min 8 t.size) t.size)]) (by simp [results, Tryz.results95, go_sem, *]) rfl ⟨by rw [e0.out], ?_⟩
  repeat (refine below_at ?_ (by omega))
  exact hL2.out
set_option maxHeartbeats 4000000 in
theorem scan_ping (s : ByteArray) (w : World) (h1 : 28 ≤ s.size) (hs : s.size ≤ 8000) (hpr : numN s 9 1 = 1) :
    Calls Tryz.prog 95 #[.string s] w fun e w' => e = .returned (.agg #[.int .i64 (scanPk s).src, .int .i64 (scanPk s).dst, .int .i64 (scanPk s).proto, .int .i64 (scanPk s).a, .int .i64 (scanPk s).b, .int .i64 (scanPk s).kind, .int .i64 (scanPk s).flags, .int .i64 (scanPk s).seq, .int .i64 (scanPk s).ack, .string (scanPk s).body]) ∧ Below w.heap.size w w' := by
  have h20 : (20 : Int) ≤ (s.size : Int) := by omega
  have hts : (s.extract 20 s.size).size ≤ 8000 := by rw [ByteArray.size_extract]; omega
  have e0 : Hid (scanPk s = ⟨numN s 12 4, numN s 16 4, 1, numN (s.extract 20 s.size) 4 2, 0, numN (s.extract 20 s.size) 0 1, 0, numN (s.extract 20 s.size) 6 2, 0, (s.extract 20 s.size).extract (min 8 (s.extract 20 s.size).size) (s.extract 20 s.size).size⟩) := by show scanOf _ _ = _; unfold scanOf; rw [if_neg (by omega), if_neg (by omega), if_pos hpr]
  have H6 := hidS hpr
  clear hpr
  go_enter Tryz.func95, Tryz.ntmps95
  go_wp2_with fail
  refine (numAt s 12 4 _ rfl rfl (by omega) (by omega) (by omega)).mono ?_
  rintro _ w1 ⟨rfl, rfl⟩
  go_wp2_with fail
  refine (numAt s 16 4 _ rfl rfl (by omega) (by omega) (by omega)).mono ?_
  rintro _ w1 ⟨rfl, rfl⟩
  go_wp2_with fail
  refine (numAt s 9 1 _ rfl rfl (by omega) (by omega) (by omega)).mono ?_
  rintro _ w1 ⟨rfl, rfl⟩
  rw [H6.out]
  generalize s.extract 20 s.size = t at *
  go_wp2_with fail
  refine (numAt t 0 1 _ rfl rfl (by omega) (by omega) (by omega)).mono ?_
  rintro _ w1 ⟨rfl, rfl⟩
  go_wp2_with fail
  refine (numAt t 4 2 _ rfl rfl (by omega) (by omega) (by omega)).mono ?_
  rintro _ w1 ⟨rfl, rfl⟩
  go_wp2_with fail
  refine (numAt t 6 2 _ rfl rfl (by omega) (by omega) (by omega)).mono ?_
  rintro _ w1 ⟨rfl, rfl⟩
  have hG0 := blk_alloc (heap_newG w (.cells #[.int .i64 0, .int .i64 0, .int .i64 0, .int .i64 0, .int .i64 0, .int .i64 0, .int .i64 0, .int .i64 0, .int .i64 0, .string ⟨#[]⟩] 24)) (.cells #[.int .i64 (numN s 12 4 : Nat), .int .i64 (numN s 16 4 : Nat), .int .i64 1, .int .i64 (numN t 4 2 : Nat), .int .i64 0, .int .i64 (numN t 0 1 : Nat), .int .i64 0, .int .i64 (numN t 6 2 : Nat), .int .i64 0, .string ⟨#[]⟩] 24)
  have hG1 : ((w.alloc (.cells #[.int .i64 0, .int .i64 0, .int .i64 0, .int .i64 0, .int .i64 0, .int .i64 0, .int .i64 0, .int .i64 0, .int .i64 0, .string ⟨#[]⟩] 24)).alloc (.cells #[.int .i64 (numN s 12 4 : Nat), .int .i64 (numN s 16 4 : Nat), .int .i64 1, .int .i64 (numN t 4 2 : Nat), .int .i64 0, .int .i64 (numN t 0 1 : Nat), .int .i64 0, .int .i64 (numN t 6 2 : Nat), .int .i64 0, .string ⟨#[]⟩] 24)).heap[w.heap.size + 1]? = some (.cells #[.int .i64 (numN s 12 4 : Nat), .int .i64 (numN s 16 4 : Nat), .int .i64 1, .int .i64 (numN t 4 2 : Nat), .int .i64 0, .int .i64 (numN t 0 1 : Nat), .int .i64 0, .int .i64 (numN t 6 2 : Nat), .int .i64 0, .string ⟨#[]⟩] 24) := by
    have := heap_newG (w.alloc (.cells #[.int .i64 0, .int .i64 0, .int .i64 0, .int .i64 0, .int .i64 0, .int .i64 0, .int .i64 0, .int .i64 0, .int .i64 0, .string ⟨#[]⟩] 24)) (.cells #[.int .i64 (numN s 12 4 : Nat), .int .i64 (numN s 16 4 : Nat), .int .i64 1, .int .i64 (numN t 4 2 : Nat), .int .i64 0, .int .i64 (numN t 0 1 : Nat), .int .i64 0, .int .i64 (numN t 6 2 : Nat), .int .i64 0, .string ⟨#[]⟩] 24)
    simpa using this
  have hL := hidS (((Below.refl w.heap.size w).alloc (Nat.le_refl _) (.cells #[.int .i64 0, .int .i64 0, .int .i64 0, .int .i64 0, .int .i64 0, .int .i64 0, .int .i64 0, .int .i64 0, .int .i64 0, .string ⟨#[]⟩] 24)).alloc (by simp) (.cells #[.int .i64 (numN s 12 4 : Nat), .int .i64 (numN s 16 4 : Nat), .int .i64 1, .int .i64 (numN t 4 2 : Nat), .int .i64 0, .int .i64 (numN t 0 1 : Nat), .int .i64 0, .int .i64 (numN t 6 2 : Nat), .int .i64 0, .string ⟨#[]⟩] 24))
  have HG0 := hidS hG0
  have HG1 := hidS hG1
  clear hG0 hG1
  go_wp2_with fail
  refine (behAt t 8 _ rfl (by omega) (by omega)).mono ?_
  rintro _ w2 ⟨rfl, hb2⟩
  have hG0 := blk_later HG0.out hb2
  have hG1 := blk_later HG1.out hb2
  have hL2 := hidS (hL.out.trans (hb2.mono hL.out.size))
  clear HG0 HG1 hL hb2
  have hne : w.heap.size ≠ w.heap.size + 1 := by omega
  have c00 := blk_cell hG0 0
  have f00 := blk_free hG0 0
  have c01 := blk_cell hG0 1
  have f01 := blk_free hG0 1
  have c02 := blk_cell hG0 2
  have f02 := blk_free hG0 2
  have c03 := blk_cell hG0 3
  have f03 := blk_free hG0 3
  have c04 := blk_cell hG0 4
  have f04 := blk_free hG0 4
  have c05 := blk_cell hG0 5
  have f05 := blk_free hG0 5
  have c06 := blk_cell hG0 6
  have f06 := blk_free hG0 6
  have c07 := blk_cell hG0 7
  have f07 := blk_free hG0 7
  have c08 := blk_cell hG0 8
  have f08 := blk_free hG0 8
  have c09 := blk_cell hG0 9
  have f09 := blk_free hG0 9
  have c10 := blk_cell hG1 0
  have f10 := blk_free hG1 0
  have c11 := blk_cell hG1 1
  have f11 := blk_free hG1 1
  have c12 := blk_cell hG1 2
  have f12 := blk_free hG1 2
  have c13 := blk_cell hG1 3
  have f13 := blk_free hG1 3
  have c14 := blk_cell hG1 4
  have f14 := blk_free hG1 4
  have c15 := blk_cell hG1 5
  have f15 := blk_free hG1 5
  have c16 := blk_cell hG1 6
  have f16 := blk_free hG1 6
  have c17 := blk_cell hG1 7
  have f17 := blk_free hG1 7
  have c18 := blk_cell hG1 8
  have f18 := blk_free hG1 8
  have c19 := blk_cell hG1 9
  have f19 := blk_free hG1 9
  simp at c00 c01 c02 c03 c04 c05 c06 c07 c08 c09 c10 c11 c12 c13 c14 c15 c16 c17 c18 c19
  clear hG0 hG1
  go_wp2_with fail
  refine bodyPost_ret (v := .agg #[.int .i64 (numN s 12 4 : Nat), .int .i64 (numN s 16 4 : Nat), .int .i64 1, .int .i64 (numN t 4 2 : Nat), .int .i64 0, .int .i64 (numN t 0 1 : Nat), .int .i64 0, .int .i64 (numN t 6 2 : Nat), .int .i64 0, .string (t.extract (min 8 t.size) t.size)]) (by simp [results, Tryz.results95, go_sem, *]) rfl ⟨by rw [e0.out], ?_⟩
  repeat (refine below_at ?_ (by omega))
  exact hL2.out
set_option maxHeartbeats 4000000 in
theorem scan_other (s : ByteArray) (w : World) (h1 : 28 ≤ s.size) (hs : s.size ≤ 8000) (h6 : numN s 9 1 ≠ 6) (h17 : numN s 9 1 ≠ 17) (h1' : numN s 9 1 ≠ 1) :
    Calls Tryz.prog 95 #[.string s] w fun e w' => e = .returned (.agg #[.int .i64 (scanPk s).src, .int .i64 (scanPk s).dst, .int .i64 (scanPk s).proto, .int .i64 (scanPk s).a, .int .i64 (scanPk s).b, .int .i64 (scanPk s).kind, .int .i64 (scanPk s).flags, .int .i64 (scanPk s).seq, .int .i64 (scanPk s).ack, .string (scanPk s).body]) ∧ Below w.heap.size w w' := by
  have h20 : (20 : Int) ≤ (s.size : Int) := by omega
  have hts : (s.extract 20 s.size).size ≤ 8000 := by rw [ByteArray.size_extract]; omega
  have e0 : Hid (scanPk s = ⟨numN s 12 4, numN s 16 4, numN s 9 1, 0, 0, 0, 0, 0, 0, ⟨#[]⟩⟩) := by show scanOf _ _ = _; unfold scanOf; rw [if_neg h6, if_neg h17, if_neg h1']
  have g6 : (((numN s 9 1 : Nat) : Int) == 6) = false := by simp; omega
  have g17 : (((numN s 9 1 : Nat) : Int) == 17) = false := by simp; omega
  have g1 : (((numN s 9 1 : Nat) : Int) == 1) = false := by simp; omega
  clear h6 h17 h1'
  go_enter Tryz.func95, Tryz.ntmps95
  go_wp2_with fail
  refine (numAt s 12 4 _ rfl rfl (by omega) (by omega) (by omega)).mono ?_
  rintro _ w1 ⟨rfl, rfl⟩
  go_wp2_with fail
  refine (numAt s 16 4 _ rfl rfl (by omega) (by omega) (by omega)).mono ?_
  rintro _ w1 ⟨rfl, rfl⟩
  go_wp2_with fail
  refine (numAt s 9 1 _ rfl rfl (by omega) (by omega) (by omega)).mono ?_
  rintro _ w1 ⟨rfl, rfl⟩
  generalize s.extract 20 s.size = t at *
  go_wp2_with fail
  go_returns
  exact ⟨by rw [e0.out], by go_grown⟩
theorem scan_any (s : ByteArray) (w : World) (h1 : 28 ≤ s.size) (hs : s.size ≤ 8000) :
    Calls Tryz.prog 95 #[.string s] w fun e w' => e = .returned (.agg #[.int .i64 (scanPk s).src, .int .i64 (scanPk s).dst, .int .i64 (scanPk s).proto, .int .i64 (scanPk s).a, .int .i64 (scanPk s).b, .int .i64 (scanPk s).kind, .int .i64 (scanPk s).flags, .int .i64 (scanPk s).seq, .int .i64 (scanPk s).ack, .string (scanPk s).body]) ∧ Below w.heap.size w w' := by
  by_cases h6 : numN s 9 1 = 6
  · exact scan_tcp s w h1 hs h6
  by_cases h17 : numN s 9 1 = 17
  · exact scan_udp s w h1 hs h17
  by_cases h1' : numN s 9 1 = 1
  · exact scan_ping s w h1 hs h1'
  · exact scan_other s w h1 hs h6 h17 h1'
end Go.Proofs.YtedknnkdnccfmaaGreatDoor
