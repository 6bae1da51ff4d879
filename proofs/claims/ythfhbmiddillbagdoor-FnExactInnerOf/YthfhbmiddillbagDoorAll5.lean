/- Proved here: impl.scanPacket answers the packet that a text tells; all old memory stays (conditions: the text has at least 28 bytes, at most 8000). · Proved here: impl.countsAt answers a new list of places; all old memory stays (no conditions). · Proved here: impl.readInner answers the packet of which an error speaks, or why not; all old memory stays (conditions: the body is a string; the four package variables hold four errors; what the part's functions answer is told). · Proved here: nothing of a program: what is scanned of a text, byte by byte. · Proved here: spec.l03Inner answers of whom 28 bytes speak; all old memory stays (condition: at most 8000 bytes). -/
import Derived.Test.YthfhbmiddillbagDoorAll4
import Derived.Test.YthfhbmiddillbagDoorAll0
import Derived.Test.YthfhbmiddillbagDoorAll2
import Derived.Test.YthfhbmiddillbagDoorAll3
section
namespace Go.Proofs.YthfhbmiddillbagDoor
open Go.ChangeShapes Go.WideShapes Go.ChangeAt Go.RowKit
open Go.ChangeMaps (open_string shut_string)
set_option linter.unusedVariables false
set_option maxRecDepth 100000

theorem numAt (s : ByteArray) (k m : Nat) {x y : Int} (w : World) (hx : x = (k : Int)) (hy : y = (m : Int)) (hk : k ≤ 1000) (hm : m ≤ 4) (hs : s.size ≤ 100000) :
    Calls Tryd.prog 75 #[.string s, .int .i64 x, .int .i64 y] w fun e w' => e = .returned (.int .i64 (numN s k m : Nat)) ∧ w' = w := by
  subst hx; subst hy; exact numberAt_x s k m w hk hm hs
theorem behAt (s : ByteArray) (k : Nat) {x : Int} (w : World) (hx : x = (k : Int)) (hk : k ≤ 1000) (hs : s.size ≤ 100000) :
    Calls Tryd.prog 76 #[.string s, .int .i64 x] w fun e w' => e = .returned (.string (s.extract (min k s.size) s.size)) ∧ Below w.heap.size w w' := by
  subst hx; exact behindOf_x s k w hk hs
/-- the packet that a text tells, as far as it goes -/
def scanOf (s t : ByteArray) : Pk :=
  if numN s 9 1 = 6 then ⟨numN s 12 4, numN s 16 4, 6, numN t 0 2, numN t 2 2, 0, numN t 13 1, numN t 4 4, numN t 8 4, t.extract (min 20 t.size) t.size⟩
  else if numN s 9 1 = 17 then ⟨numN s 12 4, numN s 16 4, 17, numN t 0 2, numN t 2 2, 0, 0, 0, 0, t.extract (min 8 t.size) t.size⟩
  else if numN s 9 1 = 1 then ⟨numN s 12 4, numN s 16 4, 1, numN t 4 2, 0, numN t 0 1, 0, numN t 6 2, 0, t.extract (min 8 t.size) t.size⟩
  else ⟨numN s 12 4, numN s 16 4, numN s 9 1, 0, 0, 0, 0, 0, 0, ⟨#[]⟩⟩
def scanPk (s : ByteArray) : Pk := scanOf s (s.extract 20 s.size)

set_option maxHeartbeats 4000000 in
theorem scan_tcp (s : ByteArray) (w : World) (h1 : 28 ≤ s.size) (hs : s.size ≤ 8000) (hpr : numN s 9 1 = 6) :
    Calls Tryd.prog 51 #[.string s] w fun e w' => e = .returned (.agg #[.int .i64 (scanPk s).src, .int .i64 (scanPk s).dst, .int .i64 (scanPk s).proto, .int .i64 (scanPk s).a, .int .i64 (scanPk s).b, .int .i64 (scanPk s).kind, .int .i64 (scanPk s).flags, .int .i64 (scanPk s).seq, .int .i64 (scanPk s).ack, .string (scanPk s).body]) ∧ Below w.heap.size w w' := by
  have h20 : (20 : Int) ≤ (s.size : Int) := by omega
  have hts : (s.extract 20 s.size).size ≤ 8000 := by rw [ByteArray.size_extract]; omega
  have e0 : Hid (scanPk s = ⟨numN s 12 4, numN s 16 4, 6, numN (s.extract 20 s.size) 0 2, numN (s.extract 20 s.size) 2 2, 0, numN (s.extract 20 s.size) 13 1, numN (s.extract 20 s.size) 4 4, numN (s.extract 20 s.size) 8 4, (s.extract 20 s.size).extract (min 20 (s.extract 20 s.size).size) (s.extract 20 s.size).size⟩) := by show scanOf _ _ = _; unfold scanOf; rw [if_pos hpr]
  have H6 := hidS hpr
  clear hpr
  go_enter Tryd.func51, Tryd.ntmps51
  go_wp2_with fail
  refine (numAt s 12 4 _ rfl rfl (by omega) (by omega) (by omega)).mono ?_
  rintro _ w1 ⟨rfl, rfl⟩
  go_wp2_with fail
  refine (numAt s 16 4 _ rfl rfl (by omega) (by omega) (by omega)).mono ?_
  rintro _ w1 ⟨rfl, rfl⟩
  go_wp2_with fail
  refine (numAt s 9 1 _ rfl rfl (by omega) (by omega) (by omega)).mono ?_
  rintro _ w1 ⟨rfl, rfl⟩
  rw [H6.out]
  generalize s.extract 20 s.size = t at *
  go_wp2_with fail
  refine (numAt t 0 2 _ rfl rfl (by omega) (by omega) (by omega)).mono ?_
  rintro _ w1 ⟨rfl, rfl⟩
  go_wp2_with fail
  refine (numAt t 2 2 _ rfl rfl (by omega) (by omega) (by omega)).mono ?_
  rintro _ w1 ⟨rfl, rfl⟩
  go_wp2_with fail
  refine (numAt t 4 4 _ rfl rfl (by omega) (by omega) (by omega)).mono ?_
  rintro _ w1 ⟨rfl, rfl⟩
  go_wp2_with fail
  refine (numAt t 8 4 _ rfl rfl (by omega) (by omega) (by omega)).mono ?_
  rintro _ w1 ⟨rfl, rfl⟩
  go_wp2_with fail
  refine (numAt t 13 1 _ rfl rfl (by omega) (by omega) (by omega)).mono ?_
  rintro _ w1 ⟨rfl, rfl⟩
  have hG0 := blk_alloc (heap_newG w (.cells #[.int .i64 0, .int .i64 0, .int .i64 0, .int .i64 0, .int .i64 0, .int .i64 0, .int .i64 0, .int .i64 0, .int .i64 0, .string ⟨#[]⟩] 30)) (.cells #[.int .i64 (numN s 12 4 : Nat), .int .i64 (numN s 16 4 : Nat), .int .i64 6, .int .i64 (numN t 0 2 : Nat), .int .i64 (numN t 2 2 : Nat), .int .i64 0, .int .i64 0, .int .i64 (numN t 4 4 : Nat), .int .i64 (numN t 8 4 : Nat), .string ⟨#[]⟩] 30)
  have hG1 : ((w.alloc (.cells #[.int .i64 0, .int .i64 0, .int .i64 0, .int .i64 0, .int .i64 0, .int .i64 0, .int .i64 0, .int .i64 0, .int .i64 0, .string ⟨#[]⟩] 30)).alloc (.cells #[.int .i64 (numN s 12 4 : Nat), .int .i64 (numN s 16 4 : Nat), .int .i64 6, .int .i64 (numN t 0 2 : Nat), .int .i64 (numN t 2 2 : Nat), .int .i64 0, .int .i64 0, .int .i64 (numN t 4 4 : Nat), .int .i64 (numN t 8 4 : Nat), .string ⟨#[]⟩] 30)).heap[w.heap.size + 1]? = some (.cells #[.int .i64 (numN s 12 4 : Nat), .int .i64 (numN s 16 4 : Nat), .int .i64 6, .int .i64 (numN t 0 2 : Nat), .int .i64 (numN t 2 2 : Nat), .int .i64 0, .int .i64 0, .int .i64 (numN t 4 4 : Nat), .int .i64 (numN t 8 4 : Nat), .string ⟨#[]⟩] 30) := by
    have := heap_newG (w.alloc (.cells #[.int .i64 0, .int .i64 0, .int .i64 0, .int .i64 0, .int .i64 0, .int .i64 0, .int .i64 0, .int .i64 0, .int .i64 0, .string ⟨#[]⟩] 30)) (.cells #[.int .i64 (numN s 12 4 : Nat), .int .i64 (numN s 16 4 : Nat), .int .i64 6, .int .i64 (numN t 0 2 : Nat), .int .i64 (numN t 2 2 : Nat), .int .i64 0, .int .i64 0, .int .i64 (numN t 4 4 : Nat), .int .i64 (numN t 8 4 : Nat), .string ⟨#[]⟩] 30)
    simpa using this
  have hL := hidS (((Below.refl w.heap.size w).alloc (Nat.le_refl _) (.cells #[.int .i64 0, .int .i64 0, .int .i64 0, .int .i64 0, .int .i64 0, .int .i64 0, .int .i64 0, .int .i64 0, .int .i64 0, .string ⟨#[]⟩] 30)).alloc (by simp) (.cells #[.int .i64 (numN s 12 4 : Nat), .int .i64 (numN s 16 4 : Nat), .int .i64 6, .int .i64 (numN t 0 2 : Nat), .int .i64 (numN t 2 2 : Nat), .int .i64 0, .int .i64 0, .int .i64 (numN t 4 4 : Nat), .int .i64 (numN t 8 4 : Nat), .string ⟨#[]⟩] 30))
  have HG0 := hidS hG0
  have HG1 := hidS hG1
  clear hG0 hG1
  go_wp2_with fail
  refine (behAt t 20 _ rfl (by omega) (by omega)).mono ?_
  rintro _ w2 ⟨rfl, hb2⟩
  have hG0 := blk_later HG0.out hb2
  have hG1 := blk_later HG1.out hb2
  have hL2 := hidS (hL.out.trans (hb2.mono hL.out.size))
  clear HG0 HG1 hL hb2
  have hne : w.heap.size ≠ w.heap.size + 1 := by omega
  have c00 := blk_cell hG0 0
  have f00 := blk_free hG0 0
  have c01 := blk_cell hG0 1
  have f01 := blk_free hG0 1
  have c02 := blk_cell hG0 2
  have f02 := blk_free hG0 2
  have c03 := blk_cell hG0 3
  have f03 := blk_free hG0 3
  have c04 := blk_cell hG0 4
  have f04 := blk_free hG0 4
  have c05 := blk_cell hG0 5
  have f05 := blk_free hG0 5
  have c06 := blk_cell hG0 6
  have f06 := blk_free hG0 6
  have c07 := blk_cell hG0 7
  have f07 := blk_free hG0 7
  have c08 := blk_cell hG0 8
  have f08 := blk_free hG0 8
  have c09 := blk_cell hG0 9
  have f09 := blk_free hG0 9
  have c10 := blk_cell hG1 0
  have f10 := blk_free hG1 0
  have c11 := blk_cell hG1 1
  have f11 := blk_free hG1 1
  have c12 := blk_cell hG1 2
  have f12 := blk_free hG1 2
  have c13 := blk_cell hG1 3
  have f13 := blk_free hG1 3
  have c14 := blk_cell hG1 4
  have f14 := blk_free hG1 4
  have c15 := blk_cell hG1 5
  have f15 := blk_free hG1 5
  have c16 := blk_cell hG1 6
  have f16 := blk_free hG1 6
  have c17 := blk_cell hG1 7
  have f17 := blk_free hG1 7
  have c18 := blk_cell hG1 8
  have f18 := blk_free hG1 8
  have c19 := blk_cell hG1 9
  have f19 := blk_free hG1 9
  simp at c00 c01 c02 c03 c04 c05 c06 c07 c08 c09 c10 c11 c12 c13 c14 c15 c16 c17 c18 c19
  clear hG0 hG1
  go_wp2_with fail
  refine bodyPost_ret (v := .agg #[.int .i64 (numN s 12 4 : Nat), .int .i64 (numN s 16 4 : Nat), .int .i64 6, .int .i64 (numN t 0 2 : Nat), .int .i64 (numN t 2 2 : Nat), .int .i64 0, .int .i64 (numN t 13 1 : Nat), .int .i64 (numN t 4 4 : Nat), .int .i64 (numN t 8 4 : Nat), .string (t.extract (min 20 t.size) t.size)]) (by simp [results, Tryd.results51, go_sem, *]) rfl ⟨by rw [e0.out], ?_⟩
  repeat (refine below_at ?_ (by omega))
  exact hL2.out
set_option maxHeartbeats 4000000 in
theorem scan_udp (s : ByteArray) (w : World) (h1 : 28 ≤ s.size) (hs : s.size ≤ 8000) (hpr : numN s 9 1 = 17) :
    Calls Tryd.prog 51 #[.string s] w fun e w' => e = .returned (.agg #[.int .i64 (scanPk s).src, .int .i64 (scanPk s).dst, .int .i64 (scanPk s).proto, .int .i64 (scanPk s).a, .int .i64 (scanPk s).b, .int .i64 (scanPk s).kind, .int .i64 (scanPk s).flags, .int .i64 (scanPk s).seq, .int .i64 (scanPk s).ack, .string (scanPk s).body]) ∧ Below w.heap.size w w' := by
  have h20 : (20 : Int) ≤ (s.size : Int) := by omega
  have hts : (s.extract 20 s.size).size ≤ 8000 := by rw [ByteArray.size_extract]; omega
  have e0 : Hid (scanPk s = ⟨numN s 12 4, numN s 16 4, 17, numN (s.extract 20 s.size) 0 2, numN (s.extract 20 s.size) 2 2, 0, 0, 0, 0, (s.extract 20 s.size).extract (min 8 (s.extract 20 s.size).size) (s.extract 20 s.size).size⟩) := by show scanOf _ _ = _; unfold scanOf; rw [if_neg (by omega), if_pos hpr]
  have H6 := hidS hpr
  clear hpr
  go_enter Tryd.func51, Tryd.ntmps51
  go_wp2_with fail
  refine (numAt s 12 4 _ rfl rfl (by omega) (by omega) (by omega)).mono ?_
  rintro _ w1 ⟨rfl, rfl⟩
  go_wp2_with fail
  refine (numAt s 16 4 _ rfl rfl (by omega) (by omega) (by omega)).mono ?_
  rintro _ w1 ⟨rfl, rfl⟩
  go_wp2_with fail
  refine (numAt s 9 1 _ rfl rfl (by omega) (by omega) (by omega)).mono ?_
  rintro _ w1 ⟨rfl, rfl⟩
  rw [H6.out]
  generalize s.extract 20 s.size = t at *
  go_wp2_with fail
  refine (numAt t 0 2 _ rfl rfl (by omega) (by omega) (by omega)).mono ?_
  rintro _ w1 ⟨rfl, rfl⟩
  go_wp2_with fail
  refine (numAt t 2 2 _ rfl rfl (by omega) (by omega) (by omega)).mono ?_
  rintro _ w1 ⟨rfl, rfl⟩
  have hG0 := blk_alloc (heap_newG w (.cells #[.int .i64 0, .int .i64 0, .int .i64 0, .int .i64 0, .int .i64 0, .int .i64 0, .int .i64 0, .int .i64 0, .int .i64 0, .string ⟨#[]⟩] 30)) (.cells #[.int .i64 (numN s 12 4 : Nat), .int .i64 (numN s 16 4 : Nat), .int .i64 17, .int .i64 (numN t 0 2 : Nat), .int .i64 (numN t 2 2 : Nat), .int .i64 0, .int .i64 0, .int .i64 0, .int .i64 0, .string ⟨#[]⟩] 30)
  have hG1 : ((w.alloc (.cells #[.int .i64 0, .int .i64 0, .int .i64 0, .int .i64 0, .int .i64 0, .int .i64 0, .int .i64 0, .int .i64 0, .int .i64 0, .string ⟨#[]⟩] 30)).alloc (.cells #[.int .i64 (numN s 12 4 : Nat), .int .i64 (numN s 16 4 : Nat), .int .i64 17, .int .i64 (numN t 0 2 : Nat), .int .i64 (numN t 2 2 : Nat), .int .i64 0, .int .i64 0, .int .i64 0, .int .i64 0, .string ⟨#[]⟩] 30)).heap[w.heap.size + 1]? = some (.cells #[.int .i64 (numN s 12 4 : Nat), .int .i64 (numN s 16 4 : Nat), .int .i64 17, .int .i64 (numN t 0 2 : Nat), .int .i64 (numN t 2 2 : Nat), .int .i64 0, .int .i64 0, .int .i64 0, .int .i64 0, .string ⟨#[]⟩] 30) := by
    have := heap_newG (w.alloc (.cells #[.int .i64 0, .int .i64 0, .int .i64 0, .int .i64 0, .int .i64 0, .int .i64 0, .int .i64 0, .int .i64 0, .int .i64 0, .string ⟨#[]⟩] 30)) (.cells #[.int .i64 (numN s 12 4 : Nat), .int .i64 (numN s 16 4 : Nat), .int .i64 17, .int .i64 (numN t 0 2 : Nat), .int .i64 (numN t 2 2 : Nat), .int .i64 0, .int .i64 0, .int .i64 0, .int .i64 0, .string ⟨#[]⟩] 30)
    simpa using this
  have hL := hidS (((Below.refl w.heap.size w).alloc (Nat.le_refl _) (.cells #[.int .i64 0, .int .i64 0, .int .i64 0, .int .i64 0, .int .i64 0, .int .i64 0, .int .i64 0, .int .i64 0, .int .i64 0, .string ⟨#[]⟩] 30)).alloc (by simp) (.cells #[.int .i64 (numN s 12 4 : Nat), .int .i64 (numN s 16 4 : Nat), .int .i64 17, .int .i64 (numN t 0 2 : Nat), .int .i64 (numN t 2 2 : Nat), .int .i64 0, .int .i64 0, .int .i64 0, .int .i64 0, .string ⟨#[]⟩] 30))
  have HG0 := hidS hG0
  have HG1 := hidS hG1
  clear hG0 hG1
  go_wp2_with fail
  refine (behAt t 8 _ rfl (by omega) (by omega)).mono ?_
  rintro _ w2 ⟨rfl, hb2⟩
  have hG0 := blk_later HG0.out hb2
  have hG1 := blk_later HG1.out hb2
  have hL2 := hidS (hL.out.trans (hb2.mono hL.out.size))
  clear HG0 HG1 hL hb2
  have hne : w.heap.size ≠ w.heap.size + 1 := by omega
  have c00 := blk_cell hG0 0
  have f00 := blk_free hG0 0
  have c01 := blk_cell hG0 1
  have f01 := blk_free hG0 1
  have c02 := blk_cell hG0 2
  have f02 := blk_free hG0 2
  have c03 := blk_cell hG0 3
  have f03 := blk_free hG0 3
  have c04 := blk_cell hG0 4
  have f04 := blk_free hG0 4
  have c05 := blk_cell hG0 5
  have f05 := blk_free hG0 5
  have c06 := blk_cell hG0 6
  have f06 := blk_free hG0 6
  have c07 := blk_cell hG0 7
  have f07 := blk_free hG0 7
  have c08 := blk_cell hG0 8
  have f08 := blk_free hG0 8
  have c09 := blk_cell hG0 9
  have f09 := blk_free hG0 9
  have c10 := blk_cell hG1 0
  have f10 := blk_free hG1 0
  have c11 := blk_cell hG1 1
  have f11 := blk_free hG1 1
  have c12 := blk_cell hG1 2
  have f12 := blk_free hG1 2
  have c13 := blk_cell hG1 3
  have f13 := blk_free hG1 3
  have c14 := blk_cell hG1 4
  have f14 := blk_free hG1 4
  have c15 := blk_cell hG1 5
  have f15 := blk_free hG1 5
  have c16 := blk_cell hG1 6
  have f16 := blk_free hG1 6
  have c17 := blk_cell hG1 7
  have f17 := blk_free hG1 7
  have c18 := blk_cell hG1 8
  have f18 := blk_free hG1 8
  have c19 := blk_cell hG1 9
  have f19 := blk_free hG1 9
  simp at c00 c01 c02 c03 c04 c05 c06 c07 c08 c09 c10 c11 c12 c13 c14 c15 c16 c17 c18 c19
  clear hG0 hG1
  go_wp2_with fail
  refine bodyPost_ret (v := .agg #[.int .i64 (numN s 12 4 : Nat), .int .i64 (numN s 16 4 : Nat), .int .i64 17, .int .i64 (numN t 0 2 : Nat), .int .i64 (numN t 2 2 : Nat), .int .i64 0, .int .i64 0, .int .i64 0, .int .i64 0, .string (t.extract (min 8 t.size) t.size)]) (by simp [results, Tryd.results51, go_sem, *]) rfl ⟨by rw [e0.out], ?_⟩
  repeat (refine below_at ?_ (by omega))
  exact hL2.out
set_option maxHeartbeats 4000000 in
theorem scan_ping (s : ByteArray) (w : World) (h1 : 28 ≤ s.size) (hs : s.size ≤ 8000) (hpr : numN s 9 1 = 1) :
    Calls Tryd.prog 51 #[.string s] w fun e w' => e = .returned (.agg #[.int .i64 (scanPk s).src, .int .i64 (scanPk s).dst, .int .i64 (scanPk s).proto, .int .i64 (scanPk s).a, .int .i64 (scanPk s).b, .int .i64 (scanPk s).kind, .int .i64 (scanPk s).flags, .int .i64 (scanPk s).seq, .int .i64 (scanPk s).ack, .string (scanPk s).body]) ∧ Below w.heap.size w w' := by
  have h20 : (20 : Int) ≤ (s.size : Int) := by omega
  have hts : (s.extract 20 s.size).size ≤ 8000 := by rw [ByteArray.size_extract]; omega
  have e0 : Hid (scanPk s = ⟨numN s 12 4, numN s 16 4, 1, numN (s.extract 20 s.size) 4 2, 0, numN (s.extract 20 s.size) 0 1, 0, numN (s.extract 20 s.size) 6 2, 0, (s.extract 20 s.size).extract (min 8 (s.extract 20 s.size).size) (s.extract 20 s.size).size⟩) := by show scanOf _ _ = _; unfold scanOf; rw [if_neg (by omega), if_neg (by omega), if_pos hpr]
  have H6 := hidS hpr
  clear hpr
  go_enter Tryd.func51, Tryd.ntmps51
  go_wp2_with fail
  refine (numAt s 12 4 _ rfl rfl (by omega) (by omega) (by omega)).mono ?_
  rintro _ w1 ⟨rfl, rfl⟩
  go_wp2_with fail
  refine (numAt s 16 4 _ rfl rfl (by omega) (by omega) (by omega)).mono ?_
  rintro _ w1 ⟨rfl, rfl⟩
  go_wp2_with fail
  refine (numAt s 9 1 _ rfl rfl (by omega) (by omega) (by omega)).mono ?_
  rintro _ w1 ⟨rfl, rfl⟩
  rw [H6.out]
  generalize s.extract 20 s.size = t at *
  go_wp2_with fail
  refine (numAt t 0 1 _ rfl rfl (by omega) (by omega) (by omega)).mono ?_
  rintro _ w1 ⟨rfl, rfl⟩
  go_wp2_with fail
  refine (numAt t 4 2 _ rfl rfl (by omega) (by omega) (by omega)).mono ?_
  rintro _ w1 ⟨rfl, rfl⟩
  go_wp2_with fail
  refine (numAt t 6 2 _ rfl rfl (by omega) (by omega) (by omega)).mono ?_
  rintro _ w1 ⟨rfl, rfl⟩
  have hG0 := blk_alloc (heap_newG w (.cells #[.int .i64 0, .int .i64 0, .int .i64 0, .int .i64 0, .int .i64 0, .int .i64 0, .int .i64 0, .int .i64 0, .int .i64 0, .string ⟨#[]⟩] 30)) (.cells #[.int .i64 (numN s 12 4 : Nat), .int .i64 (numN s 16 4 : Nat), .int .i64 1, .int .i64 (numN t 4 2 : Nat), .int .i64 0, .int .i64 (numN t 0 1 : Nat), .int .i64 0, .int .i64 (numN t 6 2 : Nat), .int .i64 0, .string ⟨#[]⟩] 30)
  have hG1 : ((w.alloc (.cells #[.int .i64 0, .int .i64 0, .int .i64 0, .int .i64 0, .int .i64 0, .int .i64 0, .int .i64 0, .int .i64 0, .int .i64 0, .string ⟨#[]⟩] 30)).alloc (.cells #[.int .i64 (numN s 12 4 : Nat), .int .i64 (numN s 16 4 : Nat), .int .i64 1, .int .i64 (numN t 4 2 : Nat), .int .i64 0, .int .i64 (numN t 0 1 : Nat), .int .i64 0, .int .i64 (numN t 6 2 : Nat), .int .i64 0, .string ⟨#[]⟩] 30)).heap[w.heap.size + 1]? = some (.cells #[.int .i64 (numN s 12 4 : Nat), .int .i64 (numN s 16 4 : Nat), .int .i64 1, .int .i64 (numN t 4 2 : Nat), .int .i64 0, .int .i64 (numN t 0 1 : Nat), .int .i64 0, .int .i64 (numN t 6 2 : Nat), .int .i64 0, .string ⟨#[]⟩] 30) := by
    have := heap_newG (w.alloc (.cells #[.int .i64 0, .int .i64 0, .int .i64 0, .int .i64 0, .int .i64 0, .int .i64 0, .int .i64 0, .int .i64 0, .int .i64 0, .string ⟨#[]⟩] 30)) (.cells #[.int .i64 (numN s 12 4 : Nat), .int .i64 (numN s 16 4 : Nat), .int .i64 1, .int .i64 (numN t 4 2 : Nat), .int .i64 0, .int .i64 (numN t 0 1 : Nat), .int .i64 0, .int .i64 (numN t 6 2 : Nat), .int .i64 0, .string ⟨#[]⟩] 30)
    simpa using this
  have hL := hidS (((Below.refl w.heap.size w).alloc (Nat.le_refl _) (.cells #[.int .i64 0, .int .i64 0, .int .i64 0, .int .i64 0, .int .i64 0, .int .i64 0, .int .i64 0, .int .i64 0, .int .i64 0, .string ⟨#[]⟩] 30)).alloc (by simp) (.cells #[.int .i64 (numN s 12 4 : Nat), .int .i64 (numN s 16 4 : Nat), .int .i64 1, .int .i64 (numN t 4 2 : Nat), .int .i64 0, .int .i64 (numN t 0 1 : Nat), .int .i64 0, .int .i64 (numN t 6 2 : Nat), .int .i64 0, .string ⟨#[]⟩] 30))
  have HG0 := hidS hG0
  have HG1 := hidS hG1
  clear hG0 hG1
  go_wp2_with fail
  refine (behAt t 8 _ rfl (by omega) (by omega)).mono ?_
  rintro _ w2 ⟨rfl, hb2⟩
  have hG0 := blk_later HG0.out hb2
  have hG1 := blk_later HG1.out hb2
  have hL2 := hidS (hL.out.trans (hb2.mono hL.out.size))
  clear HG0 HG1 hL hb2
  have hne : w.heap.size ≠ w.heap.size + 1 := by omega
  have c00 := blk_cell hG0 0
  have f00 := blk_free hG0 0
  have c01 := blk_cell hG0 1
  have f01 := blk_free hG0 1
  have c02 := blk_cell hG0 2
  have f02 := blk_free hG0 2
  have c03 := blk_cell hG0 3
  have f03 := blk_free hG0 3
  have c04 := blk_cell hG0 4
  have f04 := blk_free hG0 4
  have c05 := blk_cell hG0 5
  have f05 := blk_free hG0 5
  have c06 := blk_cell hG0 6
  have f06 := blk_free hG0 6
  have c07 := blk_cell hG0 7
  have f07 := blk_free hG0 7
  have c08 := blk_cell hG0 8
  have f08 := blk_free hG0 8
  have c09 := blk_cell hG0 9
  have f09 := blk_free hG0 9
  have c10 := blk_cell hG1 0
  have f10 := blk_free hG1 0
  have c11 := blk_cell hG1 1
  have f11 := blk_free hG1 1
  have c12 := blk_cell hG1 2
  have f12 := blk_free hG1 2
  have c13 := blk_cell hG1 3
  have f13 := blk_free hG1 3
  have c14 := blk_cell hG1 4
  have f14 := blk_free hG1 4
  have c15 := blk_cell hG1 5
  have f15 := blk_free hG1 5
  have c16 := blk_cell hG1 6
  have f16 := blk_free hG1 6
  have c17 := blk_cell hG1 7
  have f17 := blk_free hG1 7
  have c18 := blk_cell hG1 8
  have f18 := blk_free hG1 8
  have c19 := blk_cell hG1 9
  have f19 := blk_free hG1 9
  simp at c00 c01 c02 c03 c04 c05 c06 c07 c08 c09 c10 c11 c12 c13 c14 c15 c16 c17 c18 c19
  clear hG0 hG1
  go_wp2_with fail
  refine bodyPost_ret (v := .agg #[.int .i64 (numN s 12 4 : Nat), .int .i64 (numN s 16 4 : Nat), .int .i64 1, .int .i64 (numN t 4 2 : Nat), .int .i64 0, .int .i64 (numN t 0 1 : Nat), .int .i64 0, .int .i64 (numN t 6 2 : Nat), .int .i64 0, .string (t.extract (min 8 t.size) t.size)]) (by simp [results, Tryd.results51, go_sem, *]) rfl ⟨by rw [e0.out], ?_⟩
  repeat (refine below_at ?_ (by omega))
  exact hL2.out
set_option maxHeartbeats 4000000 in
theorem scan_other (s : ByteArray) (w : World) (h1 : 28 ≤ s.size) (hs : s.size ≤ 8000) (h6 : numN s 9 1 ≠ 6) (h17 : numN s 9 1 ≠ 17) (h1' : numN s 9 1 ≠ 1) :
    Calls Tryd.prog 51 #[.string s] w fun e w' => e = .returned (.agg #[.int .i64 (scanPk s).src, .int .i64 (scanPk s).dst, .int .i64 (scanPk s).proto, .int .i64 (scanPk s).a, .int .i64 (scanPk s).b, .int .i64 (scanPk s).kind, .int .i64 (scanPk s).flags, .int .i64 (scanPk s).seq, .int .i64 (scanPk s).ack, .string (scanPk s).body]) ∧ Below w.heap.size w w' := by
  have h20 : (20 : Int) ≤ (s.size : Int) := by omega
  have hts : (s.extract 20 s.size).size ≤ 8000 := by rw [ByteArray.size_extract]; omega
  have e0 : Hid (scanPk s = ⟨numN s 12 4, numN s 16 4, numN s 9 1, 0, 0, 0, 0, 0, 0, ⟨#[]⟩⟩) := by show scanOf _ _ = _; unfold scanOf; rw [if_neg h6, if_neg h17, if_neg h1']
  have g6 : (((numN s 9 1 : Nat) : Int) == 6) = false := by simp; omega
  have g17 : (((numN s 9 1 : Nat) : Int) == 17) = false := by simp; omega
  have g1 : (((numN s 9 1 : Nat) : Int) == 1) = false := by simp; omega
  clear h6 h17 h1'
  go_enter Tryd.func51, Tryd.ntmps51
  go_wp2_with fail
  refine (numAt s 12 4 _ rfl rfl (by omega) (by omega) (by omega)).mono ?_
  rintro _ w1 ⟨rfl, rfl⟩
  go_wp2_with fail
  refine (numAt s 16 4 _ rfl rfl (by omega) (by omega) (by omega)).mono ?_
  rintro _ w1 ⟨rfl, rfl⟩
  go_wp2_with fail
  refine (numAt s 9 1 _ rfl rfl (by omega) (by omega) (by omega)).mono ?_
  rintro _ w1 ⟨rfl, rfl⟩
  generalize s.extract 20 s.size = t at *
  go_wp2_with fail
  go_returns
  exact ⟨by rw [e0.out], by go_grown⟩
theorem scan_any (s : ByteArray) (w : World) (h1 : 28 ≤ s.size) (hs : s.size ≤ 8000) :
    Calls Tryd.prog 51 #[.string s] w fun e w' => e = .returned (.agg #[.int .i64 (scanPk s).src, .int .i64 (scanPk s).dst, .int .i64 (scanPk s).proto, .int .i64 (scanPk s).a, .int .i64 (scanPk s).b, .int .i64 (scanPk s).kind, .int .i64 (scanPk s).flags, .int .i64 (scanPk s).seq, .int .i64 (scanPk s).ack, .string (scanPk s).body]) ∧ Below w.heap.size w w' := by
  by_cases h6 : numN s 9 1 = 6
  · exact scan_tcp s w h1 hs h6
  by_cases h17 : numN s 9 1 = 17
  · exact scan_udp s w h1 hs h17
  by_cases h1' : numN s 9 1 = 1
  · exact scan_ping s w h1 hs h1'
  · exact scan_other s w h1 hs h6 h17 h1'
end Go.Proofs.YthfhbmiddillbagDoor
end

section
namespace Go.Proofs.YthfhbmiddillbagDoor
open Go.ChangeShapes Go.WideShapes Go.ChangeAt Go.RowKit
set_option linter.unusedVariables false
set_option maxRecDepth 100000

def intsV (l : List Nat) : List Value := l.map fun n : Nat => Value.int .i64 (n : Int)
theorem Tryd.infoInt : (Tryd.prog.info? 3).map (fun i => (i.zero, i.size, i.bytes)) = some (some (.int .i64 0), 1, 8) := by kernel_rfl
/-- what countsAt answers -/
def Counts (B : Nat) (l : List Nat) (e : Ending) (w' : World) : Prop := ∃ v, e = .returned v ∧ w'.ownsRow B 3 1 v l.length (intsV l)
theorem own_new (w : World) (vs : List Value) (h : vs.length ≤ 1000) : (w.alloc (.cells vs.toArray 3)).ownsRow w.heap.size 3 1 (.slice (some ⟨w.heap.size, 0, none⟩) vs.length vs.length) vs.length vs :=
  ⟨by simp, Or.inr ⟨w.heap.size, vs.length, vs.toArray, rfl, Nat.le_refl _, heap_new _ _, Nat.le_refl _, by unfold maxLen; omega, by simp, by simp⟩⟩

theorem countsAt_udp (v : Value) (w : World) :
    Calls Tryd.prog 53 #[.iface 108 v] w fun e w' => Counts w.heap.size [2, 24] e w' ∧ Below w.heap.size w w' := by
  have h2 := as_udp_udp v
  have ho := hidS (own_new w (intsV [2, 24]) (by decide))
  have hB := hidS ((Below.refl w.heap.size w).alloc (Nat.le_refl _) (.cells (intsV [2, 24]).toArray 3))
  go_enter Tryd.func53, Tryd.ntmps53
  go_wp2
  go_ret
  exact ⟨⟨_, rfl, ho.out⟩, hB.out⟩
theorem countsAt_tcp (v : Value) (w : World) :
    Calls Tryd.prog 53 #[.iface 106 v] w fun e w' => Counts w.heap.size [2] e w' ∧ Below w.heap.size w w' := by
  have h2 := as_tcp_udp v
  have ho := hidS (own_new w (intsV [2]) (by decide))
  have hB := hidS ((Below.refl w.heap.size w).alloc (Nat.le_refl _) (.cells (intsV [2]).toArray 3))
  go_enter Tryd.func53, Tryd.ntmps53
  go_wp2
  go_ret
  exact ⟨⟨_, rfl, ho.out⟩, hB.out⟩
theorem countsAt_err (v : Value) (w : World) :
    Calls Tryd.prog 53 #[.iface 110 v] w fun e w' => Counts w.heap.size [2] e w' ∧ Below w.heap.size w w' := by
  have h2 := as_err_udp v
  have ho := hidS (own_new w (intsV [2]) (by decide))
  have hB := hidS ((Below.refl w.heap.size w).alloc (Nat.le_refl _) (.cells (intsV [2]).toArray 3))
  go_enter Tryd.func53, Tryd.ntmps53
  go_wp2
  go_ret
  exact ⟨⟨_, rfl, ho.out⟩, hB.out⟩
theorem countsAt_echo (v : Value) (w : World) :
    Calls Tryd.prog 53 #[.iface 112 v] w fun e w' => Counts w.heap.size [2] e w' ∧ Below w.heap.size w w' := by
  have h2 := as_echo_udp v
  have ho := hidS (own_new w (intsV [2]) (by decide))
  have hB := hidS ((Below.refl w.heap.size w).alloc (Nat.le_refl _) (.cells (intsV [2]).toArray 3))
  go_enter Tryd.func53, Tryd.ntmps53
  go_wp2
  go_ret
  exact ⟨⟨_, rfl, ho.out⟩, hB.out⟩
theorem countsAt_none (w : World) :
    Calls Tryd.prog 53 #[.nilIface] w fun e w' => Counts w.heap.size [2] e w' ∧ Below w.heap.size w w' := by
  have h2 := as_none_udp
  have ho := hidS (own_new w (intsV [2]) (by decide))
  have hB := hidS ((Below.refl w.heap.size w).alloc (Nat.le_refl _) (.cells (intsV [2]).toArray 3))
  go_enter Tryd.func53, Tryd.ntmps53
  go_wp2
  go_ret
  exact ⟨⟨_, rfl, ho.out⟩, hB.out⟩
end Go.Proofs.YthfhbmiddillbagDoor
end

section
namespace Go.Proofs.YthfhbmiddillbagDoor
open Go.ChangeShapes Go.WideShapes Go.ChangeAt Go.RowKit
open Go.ChangeMaps (open_string shut_string)
set_option linter.unusedVariables false
set_option maxRecDepth 100000

theorem own_later {B : Nat} {e : TypeId} {z : Nat} {v : Value} {n : Nat} {xs : List Value} {W W' : World} (h : W.ownsRow B e z v n xs) (hb : Below W.heap.size W W') : W'.ownsRow B e z v n xs := by
  refine ⟨h.1, ?_⟩
  rcases h.2 with h0 | ⟨g, cap, cur, e1, e2, e3, e4⟩
  · exact Or.inl h0
  · exact Or.inr ⟨g, cap, cur, e1, e2, (hb.block g (Array.getElem?_eq_some_iff.1 e3).1).trans e3, e4⟩
theorem intsV_app (l m : List Nat) : intsV (l ++ m) = intsV l ++ intsV m := by simp [intsV]
theorem intsV_get (l : List Nat) (j : Nat) (hj : j < l.length) : (intsV l)[j]? = some (.int .i64 (l[j] : Int)) := by
  unfold intsV; rw [List.getElem?_map, List.getElem?_eq_getElem hj]; rfl
theorem below_appI {B : Nat} {w wr w1 : World} {v : Value} {n : Nat} {xs : List Value} {o : Obj} {B2 : Nat} (hBB : B ≤ B2) (hbel : Below B w wr) (hB : B ≤ wr.heap.size) (hown : wr.ownsRow B2 3 1 v n xs) (hg : (wr.alloc o).grownBy w1 v.ownBlock) : Below B w w1 :=
  (hbel.alloc hB o).grown hg (by simp; omega) (fun k hk => Nat.le_trans hBB (hown.lt k hk).1)
theorem cells_two_new (w : World) (a b : Value) (t : TypeId) : ∀ j v, [a, b][j]? = some v → (w.alloc (.cells #[a, b] t)).cell? ((⟨w.heap.size, 0, none⟩ : Addr).add j) = some v := by
  intro j v h
  have hv := (vals_at (W := w) [a, b] t).2 j (by obtain ⟨h1, _⟩ := List.getElem?_eq_some_iff.1 h; exact h1)
  rw [Addr.add_lit, Nat.zero_add]
  obtain ⟨h1, h2⟩ := List.getElem?_eq_some_iff.1 h
  rw [← h2]; exact hv

set_option maxHeartbeats 2000000 in
theorem innerI_form {aF aS aY aM : Addr} (p : Pk) (w : World) (hs : p.body.size ≤ maxLen) (hS : Sent aF aS aY aM w) (h : (rightB p && (p.proto == 1 && p.kind == 3)) = false) :
    Calls Tryd.prog 29 #[.agg #[.int .i64 p.src, .int .i64 p.dst, .int .i64 p.proto, .int .i64 p.a, .int .i64 p.b, .int .i64 p.kind, .int .i64 p.flags, .int .i64 p.seq, .int .i64 p.ack, .string p.body]] w fun e w' => e = .returned (.tuple #[.agg #[.int .i64 zeroPk.src, .int .i64 zeroPk.dst, .int .i64 zeroPk.proto, .int .i64 zeroPk.a, .int .i64 zeroPk.b, .int .i64 zeroPk.kind, .int .i64 zeroPk.flags, .int .i64 zeroPk.seq, .int .i64 zeroPk.ack, .string zeroPk.body], .iface 134 (.pointer (some aF))]) ∧ Below w.heap.size w w' := by
  have hlt0 : 0 < w.heap.size := World.block_lt_of_cell? w _ hS.cF
  have HR := hidS (fun W => implRight_any p W hs)
  have HI := hidS (fun W => isError_any p W)
  have hP0 := hidS (blk_alloc (heap_newG w (.cells #[.int .i64 p.src, .int .i64 p.dst, .int .i64 p.proto, .int .i64 p.a, .int .i64 p.b, .int .i64 p.kind, .int .i64 p.flags, .int .i64 p.seq, .int .i64 p.ack, .string p.body] 30)) (.cells #[.int .i64 0, .int .i64 0, .int .i64 0, .int .i64 0, .int .i64 0, .int .i64 0, .int .i64 0, .int .i64 0, .int .i64 0, .string ⟨#[]⟩] 30))
  have hG0' : ((w.alloc (.cells #[.int .i64 p.src, .int .i64 p.dst, .int .i64 p.proto, .int .i64 p.a, .int .i64 p.b, .int .i64 p.kind, .int .i64 p.flags, .int .i64 p.seq, .int .i64 p.ack, .string p.body] 30)).alloc (.cells #[.int .i64 0, .int .i64 0, .int .i64 0, .int .i64 0, .int .i64 0, .int .i64 0, .int .i64 0, .int .i64 0, .int .i64 0, .string ⟨#[]⟩] 30)).heap[w.heap.size + 1]? = some (.cells #[.int .i64 0, .int .i64 0, .int .i64 0, .int .i64 0, .int .i64 0, .int .i64 0, .int .i64 0, .int .i64 0, .int .i64 0, .string ⟨#[]⟩] 30) := by
    have := heap_newG (w.alloc (.cells #[.int .i64 p.src, .int .i64 p.dst, .int .i64 p.proto, .int .i64 p.a, .int .i64 p.b, .int .i64 p.kind, .int .i64 p.flags, .int .i64 p.seq, .int .i64 p.ack, .string p.body] 30)) (.cells #[.int .i64 0, .int .i64 0, .int .i64 0, .int .i64 0, .int .i64 0, .int .i64 0, .int .i64 0, .int .i64 0, .int .i64 0, .string ⟨#[]⟩] 30)
    simpa using this
  have hG0 := hidS hG0'
  clear hG0'
  have hS0 := hidS (sent_allocE (sent_allocE hS (.cells #[.int .i64 p.src, .int .i64 p.dst, .int .i64 p.proto, .int .i64 p.a, .int .i64 p.b, .int .i64 p.kind, .int .i64 p.flags, .int .i64 p.seq, .int .i64 p.ack, .string p.body] 30)) (.cells #[.int .i64 0, .int .i64 0, .int .i64 0, .int .i64 0, .int .i64 0, .int .i64 0, .int .i64 0, .int .i64 0, .int .i64 0, .string ⟨#[]⟩] 30))
  have hL0 := hidS (((Below.refl w.heap.size w).alloc (Nat.le_refl _) (.cells #[.int .i64 p.src, .int .i64 p.dst, .int .i64 p.proto, .int .i64 p.a, .int .i64 p.b, .int .i64 p.kind, .int .i64 p.flags, .int .i64 p.seq, .int .i64 p.ack, .string p.body] 30)).alloc (by simp) (.cells #[.int .i64 0, .int .i64 0, .int .i64 0, .int .i64 0, .int .i64 0, .int .i64 0, .int .i64 0, .int .i64 0, .int .i64 0, .string ⟨#[]⟩] 30))
  clear hS
  cases hr : rightB p
  · clear h
    go_enter Tryd.func29, Tryd.ntmps29
    go_wp2_with fail
    refine (HR.out _).mono ?_
    rintro _ w1 ⟨rfl, hb1⟩
    rw [hr]
    have hG9 := blk_later hG0.out hb1
    have hS9 := hidS (hS0.out.later hb1)
    have hL9 := hidS (hL0.out.trans (hb1.mono hL0.out.size))
    clear hb1 hG0 hS0 hL0 hP0 HR
    have hg := hS9.out.cF
    have hne : w.heap.size + 1 ≠ 0 := by omega
    have cg := blk_cell hG9
    have fg := blk_free hG9
    clear hS9 hG9
    go_wp2_with fail
    go_region
    go_wp2_with fail
    refine bodyPost_ret (v := .tuple #[.agg #[.int .i64 zeroPk.src, .int .i64 zeroPk.dst, .int .i64 zeroPk.proto, .int .i64 zeroPk.a, .int .i64 zeroPk.b, .int .i64 zeroPk.kind, .int .i64 zeroPk.flags, .int .i64 zeroPk.seq, .int .i64 zeroPk.ack, .string zeroPk.body], .iface 134 (.pointer (some aF))]) (by simp [results, Tryd.results29, go_sem, zeroPk, *]) rfl ⟨rfl, ?_⟩
    refine Below.drew ?_
    repeat (refine below_at ?_ (by omega))
    exact hL9.out
  rw [hr, Bool.true_and] at h
  go_enter Tryd.func29, Tryd.ntmps29
  go_wp2_with fail
  refine (HR.out _).mono ?_
  rintro _ w1 ⟨rfl, hb1⟩
  rw [hr]
  have hG1 := hidS (blk_later hG0.out hb1)
  have hP1 := blk_later hP0.out hb1
  have hS1 := hidS (hS0.out.later hb1)
  have hL1 := hidS (hL0.out.trans (hb1.mono hL0.out.size))
  clear hb1 hG0 hP0 hS0 hL0 HR
  have c0 := blk_cell hP1 0
  have c1 := blk_cell hP1 1
  have c2 := blk_cell hP1 2
  have c3 := blk_cell hP1 3
  have c4 := blk_cell hP1 4
  have c5 := blk_cell hP1 5
  have c6 := blk_cell hP1 6
  have c7 := blk_cell hP1 7
  have c8 := blk_cell hP1 8
  have c9 := blk_cell hP1 9
  simp at c0 c1 c2 c3 c4 c5 c6 c7 c8 c9
  go_wp2_with fail
  refine (HI.out _).mono ?_
  rintro _ w2 ⟨rfl, hb2⟩
  rw [h]
  have hG9 := blk_later hG1.out hb2
  have hS9 := hidS (hS1.out.later hb2)
  have hL9 := hidS (hL1.out.trans (hb2.mono hL1.out.size))
  clear hb2 hG1 hP1 hS1 hL1 HI c0 c1 c2 c3 c4 c5 c6 c7 c8 c9
  have hg := hS9.out.cF
  have hne : w.heap.size + 1 ≠ 0 := by omega
  have cg := blk_cell hG9
  have fg := blk_free hG9
  clear hS9 hG9
  go_wp2_with fail
  go_region
  go_wp2_with fail
  refine bodyPost_ret (v := .tuple #[.agg #[.int .i64 zeroPk.src, .int .i64 zeroPk.dst, .int .i64 zeroPk.proto, .int .i64 zeroPk.a, .int .i64 zeroPk.b, .int .i64 zeroPk.kind, .int .i64 zeroPk.flags, .int .i64 zeroPk.seq, .int .i64 zeroPk.ack, .string zeroPk.body], .iface 134 (.pointer (some aF))]) (by simp [results, Tryd.results29, go_sem, zeroPk, *]) rfl ⟨rfl, ?_⟩
  refine Below.drew ?_
  repeat (refine below_at ?_ (by omega))
  exact hL9.out

set_option maxHeartbeats 1000000 in
theorem innerI_short {aF aS aY aM : Addr} (p x : Pk) (t : ByteArray) (v : Value) (k : Nat) (ls : List Nat) (w : World) (hs : p.body.size ≤ maxLen) (hS : Sent aF aS aY aM w) (hr : rightB p = true) (hi : (p.proto == 1 && p.kind == 3) = true) (h28 : 28 ≤ p.body.size) (ht : t = p.body.extract 0 28) (htz : t.size = 28) (hx : x = scanPk t) (hk : k ≤ 100) (hls : ls.length ≤ 2) (hlk : ∀ j ∈ ls, j ≤ 100) (hb : (bytesAns x).size ≤ 8000) (hbod : x.body.size ≤ maxLen)
    (hPT : ∀ W, Calls Tryd.prog 52 #[.agg #[.int .i64 x.src, .int .i64 x.dst, .int .i64 x.proto, .int .i64 x.a, .int .i64 x.b, .int .i64 x.kind, .int .i64 x.flags, .int .i64 x.seq, .int .i64 x.ack, .string x.body]] W fun e w' => e = .returned v ∧ Below W.heap.size W w')
    (hCN : ∀ W, Calls Tryd.prog 53 #[v] W fun e w' => Counts W.heap.size ls e w' ∧ Below W.heap.size W w')
    (hCA : ∀ W, Calls Tryd.prog 54 #[v] W fun e w' => e = .returned (.int .i64 (k : Int)) ∧ Below W.heap.size W w')
    (hu : (bytesAns x).size < 28) :
    Calls Tryd.prog 29 #[.agg #[.int .i64 p.src, .int .i64 p.dst, .int .i64 p.proto, .int .i64 p.a, .int .i64 p.b, .int .i64 p.kind, .int .i64 p.flags, .int .i64 p.seq, .int .i64 p.ack, .string p.body]] w fun e w' => e = .returned (.tuple #[.agg #[.int .i64 zeroPk.src, .int .i64 zeroPk.dst, .int .i64 zeroPk.proto, .int .i64 zeroPk.a, .int .i64 zeroPk.b, .int .i64 zeroPk.kind, .int .i64 zeroPk.flags, .int .i64 zeroPk.seq, .int .i64 zeroPk.ack, .string zeroPk.body], .iface 134 (.pointer (some aY))]) ∧ Below w.heap.size w w' := by
  have hlt0 : 1 < w.heap.size := World.block_lt_of_cell? w _ hS.cY
  have h28' : (28 : Int) ≤ (p.body.size : Int) := by omega
  have HSC := hidS (fun W => scan_any t W (by omega) (by omega))
  rw [← hx] at HSC
  have HB := hidS (fun W => implBytes_any x W hbod)
  have HPT := hidS hPT
  have HCA := hidS hCA
  have HCN := hidS hCN
  have hw0 : wordB 0 = true := rfl
  have HT := hidS ht
  have HLK := hidS hlk
  have HR := hidS (fun W => implRight_any p W hs)
  have HI := hidS (fun W => isError_any p W)
  have hP0 := hidS (blk_alloc (heap_newG w (.cells #[.int .i64 p.src, .int .i64 p.dst, .int .i64 p.proto, .int .i64 p.a, .int .i64 p.b, .int .i64 p.kind, .int .i64 p.flags, .int .i64 p.seq, .int .i64 p.ack, .string p.body] 30)) (.cells #[.int .i64 0, .int .i64 0, .int .i64 0, .int .i64 0, .int .i64 0, .int .i64 0, .int .i64 0, .int .i64 0, .int .i64 0, .string ⟨#[]⟩] 30))
  have hG0' : ((w.alloc (.cells #[.int .i64 p.src, .int .i64 p.dst, .int .i64 p.proto, .int .i64 p.a, .int .i64 p.b, .int .i64 p.kind, .int .i64 p.flags, .int .i64 p.seq, .int .i64 p.ack, .string p.body] 30)).alloc (.cells #[.int .i64 0, .int .i64 0, .int .i64 0, .int .i64 0, .int .i64 0, .int .i64 0, .int .i64 0, .int .i64 0, .int .i64 0, .string ⟨#[]⟩] 30)).heap[w.heap.size + 1]? = some (.cells #[.int .i64 0, .int .i64 0, .int .i64 0, .int .i64 0, .int .i64 0, .int .i64 0, .int .i64 0, .int .i64 0, .int .i64 0, .string ⟨#[]⟩] 30) := by
    have := heap_newG (w.alloc (.cells #[.int .i64 p.src, .int .i64 p.dst, .int .i64 p.proto, .int .i64 p.a, .int .i64 p.b, .int .i64 p.kind, .int .i64 p.flags, .int .i64 p.seq, .int .i64 p.ack, .string p.body] 30)) (.cells #[.int .i64 0, .int .i64 0, .int .i64 0, .int .i64 0, .int .i64 0, .int .i64 0, .int .i64 0, .int .i64 0, .int .i64 0, .string ⟨#[]⟩] 30)
    simpa using this
  have hG0 := hidS hG0'
  clear hG0'
  have hS0 := hidS (sent_allocE (sent_allocE hS (.cells #[.int .i64 p.src, .int .i64 p.dst, .int .i64 p.proto, .int .i64 p.a, .int .i64 p.b, .int .i64 p.kind, .int .i64 p.flags, .int .i64 p.seq, .int .i64 p.ack, .string p.body] 30)) (.cells #[.int .i64 0, .int .i64 0, .int .i64 0, .int .i64 0, .int .i64 0, .int .i64 0, .int .i64 0, .int .i64 0, .int .i64 0, .string ⟨#[]⟩] 30))
  have hL0 := hidS (((Below.refl w.heap.size w).alloc (Nat.le_refl _) (.cells #[.int .i64 p.src, .int .i64 p.dst, .int .i64 p.proto, .int .i64 p.a, .int .i64 p.b, .int .i64 p.kind, .int .i64 p.flags, .int .i64 p.seq, .int .i64 p.ack, .string p.body] 30)).alloc (by simp) (.cells #[.int .i64 0, .int .i64 0, .int .i64 0, .int .i64 0, .int .i64 0, .int .i64 0, .int .i64 0, .int .i64 0, .int .i64 0, .string ⟨#[]⟩] 30))
  have HSw := hidS hS
  clear hS hx hPT hCA hCN ht hlk
  go_enter Tryd.func29, Tryd.ntmps29
  go_wp2_with fail
  refine (HR.out _).mono ?_
  rintro _ w1 ⟨rfl, hb1⟩
  rw [hr]
  have hG1 := hidS (blk_later hG0.out hb1)
  have hP1 := blk_later hP0.out hb1
  have hS1 := hidS (hS0.out.later hb1)
  have hL1 := hidS (hL0.out.trans (hb1.mono hL0.out.size))
  clear hb1 hG0 hP0 hS0 hL0 HR
  have c0 := blk_cell hP1 0
  have c1 := blk_cell hP1 1
  have c2 := blk_cell hP1 2
  have c3 := blk_cell hP1 3
  have c4 := blk_cell hP1 4
  have c5 := blk_cell hP1 5
  have c6 := blk_cell hP1 6
  have c7 := blk_cell hP1 7
  have c8 := blk_cell hP1 8
  have c9 := blk_cell hP1 9
  simp at c0 c1 c2 c3 c4 c5 c6 c7 c8 c9
  have HP1 := hidS hP1
  clear hP1
  go_wp2_with fail
  refine (HI.out _).mono ?_
  rintro _ w2 ⟨rfl, hb2⟩
  rw [hi]
  have hG2 := hidS (blk_later hG1.out hb2)
  have hP2 := blk_later HP1.out hb2
  have hS2 := hidS (hS1.out.later hb2)
  have hL2 := hidS (hL1.out.trans (hb2.mono hL1.out.size))
  clear hb2 hG1 HP1 hS1 hL1 HI c0 c1 c2 c3 c4 c5 c6 c7 c8 c9
  have c9 := blk_cell hP2 9
  simp at c9
  clear hP2
  go_wp2_with fail
  rw [← HT.out]
  refine (HSC.out _).mono ?_
  rintro _ w3 ⟨rfl, hb3⟩
  have hG3 := hidS (blk_alloc (blk_later hG2.out hb3) (.cells #[.int .i64 x.src, .int .i64 x.dst, .int .i64 x.proto, .int .i64 x.a, .int .i64 x.b, .int .i64 x.kind, .int .i64 x.flags, .int .i64 x.seq, .int .i64 x.ack, .string x.body] 30))
  have hP3 := hidS (heap_newG w3 (.cells #[.int .i64 x.src, .int .i64 x.dst, .int .i64 x.proto, .int .i64 x.a, .int .i64 x.b, .int .i64 x.kind, .int .i64 x.flags, .int .i64 x.seq, .int .i64 x.ack, .string x.body] 30))
  have hS3 := hidS (sent_allocE (hS2.out.later hb3) (.cells #[.int .i64 x.src, .int .i64 x.dst, .int .i64 x.proto, .int .i64 x.a, .int .i64 x.b, .int .i64 x.kind, .int .i64 x.flags, .int .i64 x.seq, .int .i64 x.ack, .string x.body] 30))
  have hL3' := hL2.out.trans (hb3.mono hL2.out.size)
  have hL3 := hidS (hL3'.alloc hL3'.size (.cells #[.int .i64 x.src, .int .i64 x.dst, .int .i64 x.proto, .int .i64 x.a, .int .i64 x.b, .int .i64 x.kind, .int .i64 x.flags, .int .i64 x.seq, .int .i64 x.ack, .string x.body] 30))
  have hlt3 : w.heap.size + 1 < w3.heap.size := by have h0 := blk_lt hG2.out; have := hb3.size; omega
  clear hb3 hG2 hS2 hL2 hL3' HSC c9
  go_wp2_with fail
  refine (HB.out _).mono ?_
  rintro _ w4 ⟨rfl, hb4⟩
  have hG4 := hidS (blk_later hG3.out hb4)
  have hP4 := blk_later hP3.out hb4
  have hS4 := hidS (hS3.out.later hb4)
  have hL4 := hidS (hL3.out.trans (hb4.mono hL3.out.size))
  clear hb4 hG3 hP3 hS3 hL3 HB
  generalize bytesAns x = u at *
  have hG9 := hG4.out
  have hS9 := hS4
  have hL9 := hL4
  clear hG4 hS4 hL4 hP4
  have hg := hS9.out.cY
  have hne : w.heap.size + 1 ≠ 1 := by omega
  have cg := blk_cell hG9
  have fg := blk_free hG9
  clear hS9 hG9
  go_wp2_with fail
  go_region
  go_wp2_with fail
  refine bodyPost_ret (v := .tuple #[.agg #[.int .i64 zeroPk.src, .int .i64 zeroPk.dst, .int .i64 zeroPk.proto, .int .i64 zeroPk.a, .int .i64 zeroPk.b, .int .i64 zeroPk.kind, .int .i64 zeroPk.flags, .int .i64 zeroPk.seq, .int .i64 zeroPk.ack, .string zeroPk.body], .iface 134 (.pointer (some aY))]) (by simp [results, Tryd.results29, go_sem, zeroPk, *]) rfl ⟨rfl, ?_⟩
  refine Below.drew ?_
  repeat (refine below_at ?_ (by omega))
  exact hL9.out

set_option maxHeartbeats 1000000 in
theorem innerI_ok {aF aS aY aM : Addr} (p x : Pk) (t : ByteArray) (v : Value) (k : Nat) (ls : List Nat) (w : World) (hs : p.body.size ≤ maxLen) (hS : Sent aF aS aY aM w) (hr : rightB p = true) (hi : (p.proto == 1 && p.kind == 3) = true) (h28 : 28 ≤ p.body.size) (ht : t = p.body.extract 0 28) (htz : t.size = 28) (hx : x = scanPk t) (hk : k ≤ 100) (hls : ls.length ≤ 2) (hlk : ∀ j ∈ ls, j ≤ 100) (hb : (bytesAns x).size ≤ 8000) (hbod : x.body.size ≤ maxLen)
    (hPT : ∀ W, Calls Tryd.prog 52 #[.agg #[.int .i64 x.src, .int .i64 x.dst, .int .i64 x.proto, .int .i64 x.a, .int .i64 x.b, .int .i64 x.kind, .int .i64 x.flags, .int .i64 x.seq, .int .i64 x.ack, .string x.body]] W fun e w' => e = .returned v ∧ Below W.heap.size W w')
    (hCN : ∀ W, Calls Tryd.prog 53 #[v] W fun e w' => Counts W.heap.size ls e w' ∧ Below W.heap.size W w')
    (hCA : ∀ W, Calls Tryd.prog 54 #[v] W fun e w' => e = .returned (.int .i64 (k : Int)) ∧ Below W.heap.size W w')
    (hu : 28 ≤ (bytesAns x).size) (hbl : (putAll (twoT 0).data.toList ((bytesAns x).extract 0 28).data.toList (ls ++ [10, k]) == putAll (twoT 0).data.toList t.data.toList (ls ++ [10, k])) = true) :
    Calls Tryd.prog 29 #[.agg #[.int .i64 p.src, .int .i64 p.dst, .int .i64 p.proto, .int .i64 p.a, .int .i64 p.b, .int .i64 p.kind, .int .i64 p.flags, .int .i64 p.seq, .int .i64 p.ack, .string p.body]] w fun e w' => e = .returned (.tuple #[.agg #[.int .i64 x.src, .int .i64 x.dst, .int .i64 x.proto, .int .i64 x.a, .int .i64 x.b, .int .i64 x.kind, .int .i64 x.flags, .int .i64 x.seq, .int .i64 x.ack, .string x.body], .nilIface]) ∧ Below w.heap.size w w' := by
  have hlt0 : 1 < w.heap.size := World.block_lt_of_cell? w _ hS.cY
  have h28' : (28 : Int) ≤ (p.body.size : Int) := by omega
  have HSC := hidS (fun W => scan_any t W (by omega) (by omega))
  rw [← hx] at HSC
  have HB := hidS (fun W => implBytes_any x W hbod)
  have HPT := hidS hPT
  have HCA := hidS hCA
  have HCN := hidS hCN
  have hw0 : wordB 0 = true := rfl
  have HT := hidS ht
  have HLK := hidS hlk
  have HR := hidS (fun W => implRight_any p W hs)
  have HI := hidS (fun W => isError_any p W)
  have hP0 := hidS (blk_alloc (heap_newG w (.cells #[.int .i64 p.src, .int .i64 p.dst, .int .i64 p.proto, .int .i64 p.a, .int .i64 p.b, .int .i64 p.kind, .int .i64 p.flags, .int .i64 p.seq, .int .i64 p.ack, .string p.body] 30)) (.cells #[.int .i64 0, .int .i64 0, .int .i64 0, .int .i64 0, .int .i64 0, .int .i64 0, .int .i64 0, .int .i64 0, .int .i64 0, .string ⟨#[]⟩] 30))
  have hG0' : ((w.alloc (.cells #[.int .i64 p.src, .int .i64 p.dst, .int .i64 p.proto, .int .i64 p.a, .int .i64 p.b, .int .i64 p.kind, .int .i64 p.flags, .int .i64 p.seq, .int .i64 p.ack, .string p.body] 30)).alloc (.cells #[.int .i64 0, .int .i64 0, .int .i64 0, .int .i64 0, .int .i64 0, .int .i64 0, .int .i64 0, .int .i64 0, .int .i64 0, .string ⟨#[]⟩] 30)).heap[w.heap.size + 1]? = some (.cells #[.int .i64 0, .int .i64 0, .int .i64 0, .int .i64 0, .int .i64 0, .int .i64 0, .int .i64 0, .int .i64 0, .int .i64 0, .string ⟨#[]⟩] 30) := by
    have := heap_newG (w.alloc (.cells #[.int .i64 p.src, .int .i64 p.dst, .int .i64 p.proto, .int .i64 p.a, .int .i64 p.b, .int .i64 p.kind, .int .i64 p.flags, .int .i64 p.seq, .int .i64 p.ack, .string p.body] 30)) (.cells #[.int .i64 0, .int .i64 0, .int .i64 0, .int .i64 0, .int .i64 0, .int .i64 0, .int .i64 0, .int .i64 0, .int .i64 0, .string ⟨#[]⟩] 30)
    simpa using this
  have hG0 := hidS hG0'
  clear hG0'
  have hS0 := hidS (sent_allocE (sent_allocE hS (.cells #[.int .i64 p.src, .int .i64 p.dst, .int .i64 p.proto, .int .i64 p.a, .int .i64 p.b, .int .i64 p.kind, .int .i64 p.flags, .int .i64 p.seq, .int .i64 p.ack, .string p.body] 30)) (.cells #[.int .i64 0, .int .i64 0, .int .i64 0, .int .i64 0, .int .i64 0, .int .i64 0, .int .i64 0, .int .i64 0, .int .i64 0, .string ⟨#[]⟩] 30))
  have hL0 := hidS (((Below.refl w.heap.size w).alloc (Nat.le_refl _) (.cells #[.int .i64 p.src, .int .i64 p.dst, .int .i64 p.proto, .int .i64 p.a, .int .i64 p.b, .int .i64 p.kind, .int .i64 p.flags, .int .i64 p.seq, .int .i64 p.ack, .string p.body] 30)).alloc (by simp) (.cells #[.int .i64 0, .int .i64 0, .int .i64 0, .int .i64 0, .int .i64 0, .int .i64 0, .int .i64 0, .int .i64 0, .int .i64 0, .string ⟨#[]⟩] 30))
  have HSw := hidS hS
  clear hS hx hPT hCA hCN ht hlk
  go_enter Tryd.func29, Tryd.ntmps29
  go_wp2_with fail
  refine (HR.out _).mono ?_
  rintro _ w1 ⟨rfl, hb1⟩
  rw [hr]
  have hG1 := hidS (blk_later hG0.out hb1)
  have hP1 := blk_later hP0.out hb1
  have hS1 := hidS (hS0.out.later hb1)
  have hL1 := hidS (hL0.out.trans (hb1.mono hL0.out.size))
  clear hb1 hG0 hP0 hS0 hL0 HR
  have c0 := blk_cell hP1 0
  have c1 := blk_cell hP1 1
  have c2 := blk_cell hP1 2
  have c3 := blk_cell hP1 3
  have c4 := blk_cell hP1 4
  have c5 := blk_cell hP1 5
  have c6 := blk_cell hP1 6
  have c7 := blk_cell hP1 7
  have c8 := blk_cell hP1 8
  have c9 := blk_cell hP1 9
  simp at c0 c1 c2 c3 c4 c5 c6 c7 c8 c9
  have HP1 := hidS hP1
  clear hP1
  go_wp2_with fail
  refine (HI.out _).mono ?_
  rintro _ w2 ⟨rfl, hb2⟩
  rw [hi]
  have hG2 := hidS (blk_later hG1.out hb2)
  have hP2 := blk_later HP1.out hb2
  have hS2 := hidS (hS1.out.later hb2)
  have hL2 := hidS (hL1.out.trans (hb2.mono hL1.out.size))
  clear hb2 hG1 HP1 hS1 hL1 HI c0 c1 c2 c3 c4 c5 c6 c7 c8 c9
  have c9 := blk_cell hP2 9
  simp at c9
  clear hP2
  go_wp2_with fail
  rw [← HT.out]
  refine (HSC.out _).mono ?_
  rintro _ w3 ⟨rfl, hb3⟩
  have hG3 := hidS (blk_alloc (blk_later hG2.out hb3) (.cells #[.int .i64 x.src, .int .i64 x.dst, .int .i64 x.proto, .int .i64 x.a, .int .i64 x.b, .int .i64 x.kind, .int .i64 x.flags, .int .i64 x.seq, .int .i64 x.ack, .string x.body] 30))
  have hP3 := hidS (heap_newG w3 (.cells #[.int .i64 x.src, .int .i64 x.dst, .int .i64 x.proto, .int .i64 x.a, .int .i64 x.b, .int .i64 x.kind, .int .i64 x.flags, .int .i64 x.seq, .int .i64 x.ack, .string x.body] 30))
  have hS3 := hidS (sent_allocE (hS2.out.later hb3) (.cells #[.int .i64 x.src, .int .i64 x.dst, .int .i64 x.proto, .int .i64 x.a, .int .i64 x.b, .int .i64 x.kind, .int .i64 x.flags, .int .i64 x.seq, .int .i64 x.ack, .string x.body] 30))
  have hL3' := hL2.out.trans (hb3.mono hL2.out.size)
  have hL3 := hidS (hL3'.alloc hL3'.size (.cells #[.int .i64 x.src, .int .i64 x.dst, .int .i64 x.proto, .int .i64 x.a, .int .i64 x.b, .int .i64 x.kind, .int .i64 x.flags, .int .i64 x.seq, .int .i64 x.ack, .string x.body] 30))
  have hlt3 : w.heap.size + 1 < w3.heap.size := by have h0 := blk_lt hG2.out; have := hb3.size; omega
  clear hb3 hG2 hS2 hL2 hL3' HSC c9
  go_wp2_with fail
  refine (HB.out _).mono ?_
  rintro _ w4 ⟨rfl, hb4⟩
  have hG4 := hidS (blk_later hG3.out hb4)
  have hP4 := blk_later hP3.out hb4
  have hS4 := hidS (hS3.out.later hb4)
  have hL4 := hidS (hL3.out.trans (hb4.mono hL3.out.size))
  clear hb4 hG3 hP3 hS3 hL3 HB
  generalize bytesAns x = u at *
  have hu' : ¬ (u.size : Int) < 28 := by omega
  have hu2 : (28 : Int) ≤ (u.size : Int) := by omega
  have c0 := blk_cell hP4 0
  have c1 := blk_cell hP4 1
  have c2 := blk_cell hP4 2
  have c3 := blk_cell hP4 3
  have c4 := blk_cell hP4 4
  have c5 := blk_cell hP4 5
  have c6 := blk_cell hP4 6
  have c7 := blk_cell hP4 7
  have c8 := blk_cell hP4 8
  have c9 := blk_cell hP4 9
  simp at c0 c1 c2 c3 c4 c5 c6 c7 c8 c9
  have HP4 := hidS hP4
  clear hP4
  go_wp2_with fail
  refine (HPT.out _).mono ?_
  rintro _ w5 ⟨rfl, hb5⟩
  have hG5 := hidS (blk_later hG4.out hb5)
  have hP5 := hidS (blk_later HP4.out hb5)
  have hS5 := hidS (hS4.out.later hb5)
  have hL5 := hidS (hL4.out.trans (hb5.mono hL4.out.size))
  clear hb5 hG4 HP4 hS4 hL4 HPT c0 c1 c2 c3 c4 c5 c6 c7 c8 c9
  go_wp2_with fail
  refine (HCN.out _).mono ?_
  rintro _ w6 ⟨⟨v1, rfl, hown⟩, hb6⟩
  have hG6 := hidS (blk_later hG5.out hb6)
  have hP6 := hidS (blk_later hP5.out hb6)
  have hS6 := hidS (hS5.out.later hb6)
  have hL6 := hidS (hL5.out.trans (hb6.mono hL5.out.size))
  have HO6 := hidS hown
  have hB5 : w.heap.size ≤ w5.heap.size := hL5.out.size
  have hlt5 : w3.heap.size < w5.heap.size := blk_lt hP5.out
  have h56 := hb6.size
  clear hb6 hG5 hP5 hS5 hL5 HCN hown
  go_wp2_with fail
  refine (HCA.out _).mono ?_
  rintro _ w7 ⟨rfl, hb7⟩
  have hG7 := hidS (blk_later hG6.out hb7)
  have hP7 := hidS (blk_later hP6.out hb7)
  have hS7 := hidS (hS6.out.later hb7)
  have hL7 := hidS (hL6.out.trans (hb7.mono hL6.out.size))
  have HO7 := hidS (own_later HO6.out hb7)
  have h57 : w5.heap.size ≤ w7.heap.size := by have := hb7.size; omega
  clear hb7 hG6 hP6 hS6 hL6 HCA HO6 h56
  obtain ⟨i0, hi0, hz0, hz1, hz2⟩ := info_parts Tryd.infoInt
  have HI0 := hidS hi0
  go_wp2_with (at_builtin; refine wpList_append_own _ rfl _ _ 76 rfl w5.heap.size 3 i0 (.int .i64 0) 1 8 Tryd.underlying76 hi0 hz0 hz1 hz2 rfl (by decide) _ _ _ rfl (HO7.out.alloc _) ⟨w7.heap.size, 0, none⟩ 2 2 [.int .i64 10, .int .i64 (k : Int)] rfl rfl (cells_two_new _ _ _ _) ?c2 ?c3 ?c4 ?c5 ?_)
  case c2 => first | (intro x hx; simp at hx; rcases hx with rfl | rfl <;> rfl) | rfl
  case c3 => unfold maxLen; omega
  case c4 => omega
  case c5 => first | omega | (simp; omega)
  intro v' w8 hown' hgrow _
  have hown2 : w8.ownsRow w5.heap.size 3 1 v' (ls ++ [10, k]).length (intsV (ls ++ [10, k])) := by rw [intsV_app, List.length_append]; exact hown'
  have hL8 := hidS (below_appI hB5 hL7.out hL7.out.size HO7.out hgrow)
  have hbw : Below w5.heap.size w7 w8 := below_appI (Nat.le_refl _) (Below.refl _ _) h57 HO7.out hgrow
  have hG8 := hidS ((hbw.block _ (by omega)).trans hG7.out)
  have hP8 := hidS ((hbw.block _ (by omega)).trans hP7.out)
  clear hown' hgrow HO7 hbw hG7 hP7 hS7 hL7 HI0 hi0 hz0 hz1 hz2
  have hll : (ls ++ [10, k]).length = ls.length + 2 := by simp
  obtain ⟨g, cap, hv, hgl, hcl⟩ : ∃ g cap, v' = .slice (some ⟨g, 0, none⟩) (ls ++ [10, k]).length cap ∧ g < w8.heap.size ∧ ∀ j, (hj : j < (ls ++ [10, k]).length) → w8.cell? ⟨g, j, none⟩ = some (.int .i64 ((ls ++ [10, k])[j] : Int)) := by
    have h0 := hown2
    rcases hown2.2 with ⟨_, hn⟩ | ⟨g, cap, cur, e1, e2, e3, e4⟩
    · omega
    · subst e1
      refine ⟨g, cap, rfl, (Array.getElem?_eq_some_iff.1 e3).1, fun j hj => ?_⟩
      rw [h0.cellAt j (by omega)]
      exact intsV_get _ j hj
  have HCL := hidS hcl
  have HLS : Hid (∀ j ∈ ls ++ [10, k], j ≤ 100000) := fun j hj => by
    rcases List.mem_append.1 hj with h | h
    · have := HLK.out j h; omega
    · simp at h; omega
  subst hv
  have hlb : (ls ++ [10, k]).length ≤ 4 := by omega
  clear hown2 hcl HLK hll
  have huz : (u.extract 0 28).size = 28 := by rw [ByteArray.size_extract]; omega
  generalize ls ++ [10, k] = ks at *
  go_wp2_with fail
  refine (withWord_x (u.extract 0 28) 0 g cap ks _ hw0 HCL.out hgl (by omega) HLS.out (by omega)).mono ?_
  rintro _ w9 ⟨rfl, hb9⟩
  generalize u.extract 0 28 = uu at *
  have hG10 := hidS (blk_later hG8.out hb9)
  have hP10 := hidS (blk_later hP8.out hb9)
  have hL10 := hidS (hL8.out.trans (hb9.mono hL8.out.size))
  have HC10 : Hid (∀ j, (hj : j < ks.length) → w9.cell? ⟨g, j, none⟩ = some (.int .i64 (ks[j] : Int))) := fun j hj => (hb9.cell (p := ⟨g, j, none⟩) hgl).trans (HCL.out j hj)
  have hg9 : g < w9.heap.size := Nat.lt_of_lt_of_le hgl hb9.size
  clear hb9 hG8 hP8 hL8 HCL hgl
  go_wp2_with fail
  refine (withWord_x t 0 g cap ks _ hw0 HC10.out hg9 (by omega) HLS.out (by omega)).mono ?_
  rintro _ w11 ⟨rfl, hb11⟩
  have hG9 := blk_later hG10.out hb11
  have hP11 := blk_later hP10.out hb11
  have hL9 := hidS (hL10.out.trans (hb11.mono hL10.out.size))
  have hS9 := hidS (HSw.out.later hL9.out)
  clear hb11 hG10 hP10 hL10 HC10 hg9 HLS
  have d0 := blk_cell hP11 0
  have d1 := blk_cell hP11 1
  have d2 := blk_cell hP11 2
  have d3 := blk_cell hP11 3
  have d4 := blk_cell hP11 4
  have d5 := blk_cell hP11 5
  have d6 := blk_cell hP11 6
  have d7 := blk_cell hP11 7
  have d8 := blk_cell hP11 8
  have d9 := blk_cell hP11 9
  simp at d0 d1 d2 d3 d4 d5 d6 d7 d8 d9
  have hne3 : w.heap.size + 1 ≠ w3.heap.size := by omega
  have cg := blk_cell hG9
  have fg := blk_free hG9
  clear hS9 hG9 hP11
  go_wp2_with fail
  refine bodyPost_ret (v := .tuple #[.agg #[.int .i64 x.src, .int .i64 x.dst, .int .i64 x.proto, .int .i64 x.a, .int .i64 x.b, .int .i64 x.kind, .int .i64 x.flags, .int .i64 x.seq, .int .i64 x.ack, .string x.body], .nilIface]) (by simp [results, Tryd.results29, go_sem, *]) rfl ⟨rfl, ?_⟩
  repeat (refine below_at ?_ (by omega))
  exact hL9.out

set_option maxHeartbeats 1000000 in
theorem innerI_syntax {aF aS aY aM : Addr} (p x : Pk) (t : ByteArray) (v : Value) (k : Nat) (ls : List Nat) (w : World) (hs : p.body.size ≤ maxLen) (hS : Sent aF aS aY aM w) (hr : rightB p = true) (hi : (p.proto == 1 && p.kind == 3) = true) (h28 : 28 ≤ p.body.size) (ht : t = p.body.extract 0 28) (htz : t.size = 28) (hx : x = scanPk t) (hk : k ≤ 100) (hls : ls.length ≤ 2) (hlk : ∀ j ∈ ls, j ≤ 100) (hb : (bytesAns x).size ≤ 8000) (hbod : x.body.size ≤ maxLen)
    (hPT : ∀ W, Calls Tryd.prog 52 #[.agg #[.int .i64 x.src, .int .i64 x.dst, .int .i64 x.proto, .int .i64 x.a, .int .i64 x.b, .int .i64 x.kind, .int .i64 x.flags, .int .i64 x.seq, .int .i64 x.ack, .string x.body]] W fun e w' => e = .returned v ∧ Below W.heap.size W w')
    (hCN : ∀ W, Calls Tryd.prog 53 #[v] W fun e w' => Counts W.heap.size ls e w' ∧ Below W.heap.size W w')
    (hCA : ∀ W, Calls Tryd.prog 54 #[v] W fun e w' => e = .returned (.int .i64 (k : Int)) ∧ Below W.heap.size W w')
    (hu : 28 ≤ (bytesAns x).size) (hbl : (putAll (twoT 0).data.toList ((bytesAns x).extract 0 28).data.toList (ls ++ [10, k]) == putAll (twoT 0).data.toList t.data.toList (ls ++ [10, k])) = false) :
    Calls Tryd.prog 29 #[.agg #[.int .i64 p.src, .int .i64 p.dst, .int .i64 p.proto, .int .i64 p.a, .int .i64 p.b, .int .i64 p.kind, .int .i64 p.flags, .int .i64 p.seq, .int .i64 p.ack, .string p.body]] w fun e w' => e = .returned (.tuple #[.agg #[.int .i64 zeroPk.src, .int .i64 zeroPk.dst, .int .i64 zeroPk.proto, .int .i64 zeroPk.a, .int .i64 zeroPk.b, .int .i64 zeroPk.kind, .int .i64 zeroPk.flags, .int .i64 zeroPk.seq, .int .i64 zeroPk.ack, .string zeroPk.body], .iface 134 (.pointer (some aY))]) ∧ Below w.heap.size w w' := by
  have hlt0 : 1 < w.heap.size := World.block_lt_of_cell? w _ hS.cY
  have h28' : (28 : Int) ≤ (p.body.size : Int) := by omega
  have HSC := hidS (fun W => scan_any t W (by omega) (by omega))
  rw [← hx] at HSC
  have HB := hidS (fun W => implBytes_any x W hbod)
  have HPT := hidS hPT
  have HCA := hidS hCA
  have HCN := hidS hCN
  have hw0 : wordB 0 = true := rfl
  have HT := hidS ht
  have HLK := hidS hlk
  have HR := hidS (fun W => implRight_any p W hs)
  have HI := hidS (fun W => isError_any p W)
  have hP0 := hidS (blk_alloc (heap_newG w (.cells #[.int .i64 p.src, .int .i64 p.dst, .int .i64 p.proto, .int .i64 p.a, .int .i64 p.b, .int .i64 p.kind, .int .i64 p.flags, .int .i64 p.seq, .int .i64 p.ack, .string p.body] 30)) (.cells #[.int .i64 0, .int .i64 0, .int .i64 0, .int .i64 0, .int .i64 0, .int .i64 0, .int .i64 0, .int .i64 0, .int .i64 0, .string ⟨#[]⟩] 30))
  have hG0' : ((w.alloc (.cells #[.int .i64 p.src, .int .i64 p.dst, .int .i64 p.proto, .int .i64 p.a, .int .i64 p.b, .int .i64 p.kind, .int .i64 p.flags, .int .i64 p.seq, .int .i64 p.ack, .string p.body] 30)).alloc (.cells #[.int .i64 0, .int .i64 0, .int .i64 0, .int .i64 0, .int .i64 0, .int .i64 0, .int .i64 0, .int .i64 0, .int .i64 0, .string ⟨#[]⟩] 30)).heap[w.heap.size + 1]? = some (.cells #[.int .i64 0, .int .i64 0, .int .i64 0, .int .i64 0, .int .i64 0, .int .i64 0, .int .i64 0, .int .i64 0, .int .i64 0, .string ⟨#[]⟩] 30) := by
    have := heap_newG (w.alloc (.cells #[.int .i64 p.src, .int .i64 p.dst, .int .i64 p.proto, .int .i64 p.a, .int .i64 p.b, .int .i64 p.kind, .int .i64 p.flags, .int .i64 p.seq, .int .i64 p.ack, .string p.body] 30)) (.cells #[.int .i64 0, .int .i64 0, .int .i64 0, .int .i64 0, .int .i64 0, .int .i64 0, .int .i64 0, .int .i64 0, .int .i64 0, .string ⟨#[]⟩] 30)
    simpa using this
  have hG0 := hidS hG0'
  clear hG0'
  have hS0 := hidS (sent_allocE (sent_allocE hS (.cells #[.int .i64 p.src, .int .i64 p.dst, .int .i64 p.proto, .int .i64 p.a, .int .i64 p.b, .int .i64 p.kind, .int .i64 p.flags, .int .i64 p.seq, .int .i64 p.ack, .string p.body] 30)) (.cells #[.int .i64 0, .int .i64 0, .int .i64 0, .int .i64 0, .int .i64 0, .int .i64 0, .int .i64 0, .int .i64 0, .int .i64 0, .string ⟨#[]⟩] 30))
  have hL0 := hidS (((Below.refl w.heap.size w).alloc (Nat.le_refl _) (.cells #[.int .i64 p.src, .int .i64 p.dst, .int .i64 p.proto, .int .i64 p.a, .int .i64 p.b, .int .i64 p.kind, .int .i64 p.flags, .int .i64 p.seq, .int .i64 p.ack, .string p.body] 30)).alloc (by simp) (.cells #[.int .i64 0, .int .i64 0, .int .i64 0, .int .i64 0, .int .i64 0, .int .i64 0, .int .i64 0, .int .i64 0, .int .i64 0, .string ⟨#[]⟩] 30))
  have HSw := hidS hS
  clear hS hx hPT hCA hCN ht hlk
  go_enter Tryd.func29, Tryd.ntmps29
  go_wp2_with fail
  refine (HR.out _).mono ?_
  rintro _ w1 ⟨rfl, hb1⟩
  rw [hr]
  have hG1 := hidS (blk_later hG0.out hb1)
  have hP1 := blk_later hP0.out hb1
  have hS1 := hidS (hS0.out.later hb1)
  have hL1 := hidS (hL0.out.trans (hb1.mono hL0.out.size))
  clear hb1 hG0 hP0 hS0 hL0 HR
  have c0 := blk_cell hP1 0
  have c1 := blk_cell hP1 1
  have c2 := blk_cell hP1 2
  have c3 := blk_cell hP1 3
  have c4 := blk_cell hP1 4
  have c5 := blk_cell hP1 5
  have c6 := blk_cell hP1 6
  have c7 := blk_cell hP1 7
  have c8 := blk_cell hP1 8
  have c9 := blk_cell hP1 9
  simp at c0 c1 c2 c3 c4 c5 c6 c7 c8 c9
  have HP1 := hidS hP1
  clear hP1
  go_wp2_with fail
  refine (HI.out _).mono ?_
  rintro _ w2 ⟨rfl, hb2⟩
  rw [hi]
  have hG2 := hidS (blk_later hG1.out hb2)
  have hP2 := blk_later HP1.out hb2
  have hS2 := hidS (hS1.out.later hb2)
  have hL2 := hidS (hL1.out.trans (hb2.mono hL1.out.size))
  clear hb2 hG1 HP1 hS1 hL1 HI c0 c1 c2 c3 c4 c5 c6 c7 c8 c9
  have c9 := blk_cell hP2 9
  simp at c9
  clear hP2
  go_wp2_with fail
  rw [← HT.out]
  refine (HSC.out _).mono ?_
  rintro _ w3 ⟨rfl, hb3⟩
  have hG3 := hidS (blk_alloc (blk_later hG2.out hb3) (.cells #[.int .i64 x.src, .int .i64 x.dst, .int .i64 x.proto, .int .i64 x.a, .int .i64 x.b, .int .i64 x.kind, .int .i64 x.flags, .int .i64 x.seq, .int .i64 x.ack, .string x.body] 30))
  have hP3 := hidS (heap_newG w3 (.cells #[.int .i64 x.src, .int .i64 x.dst, .int .i64 x.proto, .int .i64 x.a, .int .i64 x.b, .int .i64 x.kind, .int .i64 x.flags, .int .i64 x.seq, .int .i64 x.ack, .string x.body] 30))
  have hS3 := hidS (sent_allocE (hS2.out.later hb3) (.cells #[.int .i64 x.src, .int .i64 x.dst, .int .i64 x.proto, .int .i64 x.a, .int .i64 x.b, .int .i64 x.kind, .int .i64 x.flags, .int .i64 x.seq, .int .i64 x.ack, .string x.body] 30))
  have hL3' := hL2.out.trans (hb3.mono hL2.out.size)
  have hL3 := hidS (hL3'.alloc hL3'.size (.cells #[.int .i64 x.src, .int .i64 x.dst, .int .i64 x.proto, .int .i64 x.a, .int .i64 x.b, .int .i64 x.kind, .int .i64 x.flags, .int .i64 x.seq, .int .i64 x.ack, .string x.body] 30))
  have hlt3 : w.heap.size + 1 < w3.heap.size := by have h0 := blk_lt hG2.out; have := hb3.size; omega
  clear hb3 hG2 hS2 hL2 hL3' HSC c9
  go_wp2_with fail
  refine (HB.out _).mono ?_
  rintro _ w4 ⟨rfl, hb4⟩
  have hG4 := hidS (blk_later hG3.out hb4)
  have hP4 := blk_later hP3.out hb4
  have hS4 := hidS (hS3.out.later hb4)
  have hL4 := hidS (hL3.out.trans (hb4.mono hL3.out.size))
  clear hb4 hG3 hP3 hS3 hL3 HB
  generalize bytesAns x = u at *
  have hu' : ¬ (u.size : Int) < 28 := by omega
  have hu2 : (28 : Int) ≤ (u.size : Int) := by omega
  have c0 := blk_cell hP4 0
  have c1 := blk_cell hP4 1
  have c2 := blk_cell hP4 2
  have c3 := blk_cell hP4 3
  have c4 := blk_cell hP4 4
  have c5 := blk_cell hP4 5
  have c6 := blk_cell hP4 6
  have c7 := blk_cell hP4 7
  have c8 := blk_cell hP4 8
  have c9 := blk_cell hP4 9
  simp at c0 c1 c2 c3 c4 c5 c6 c7 c8 c9
  have HP4 := hidS hP4
  clear hP4
  go_wp2_with fail
  refine (HPT.out _).mono ?_
  rintro _ w5 ⟨rfl, hb5⟩
  have hG5 := hidS (blk_later hG4.out hb5)
  have hP5 := hidS (blk_later HP4.out hb5)
  have hS5 := hidS (hS4.out.later hb5)
  have hL5 := hidS (hL4.out.trans (hb5.mono hL4.out.size))
  clear hb5 hG4 HP4 hS4 hL4 HPT c0 c1 c2 c3 c4 c5 c6 c7 c8 c9
  go_wp2_with fail
  refine (HCN.out _).mono ?_
  rintro _ w6 ⟨⟨v1, rfl, hown⟩, hb6⟩
  have hG6 := hidS (blk_later hG5.out hb6)
  have hP6 := hidS (blk_later hP5.out hb6)
  have hS6 := hidS (hS5.out.later hb6)
  have hL6 := hidS (hL5.out.trans (hb6.mono hL5.out.size))
  have HO6 := hidS hown
  have hB5 : w.heap.size ≤ w5.heap.size := hL5.out.size
  have hlt5 : w3.heap.size < w5.heap.size := blk_lt hP5.out
  have h56 := hb6.size
  clear hb6 hG5 hP5 hS5 hL5 HCN hown
  go_wp2_with fail
  refine (HCA.out _).mono ?_
  rintro _ w7 ⟨rfl, hb7⟩
  have hG7 := hidS (blk_later hG6.out hb7)
  have hP7 := hidS (blk_later hP6.out hb7)
  have hS7 := hidS (hS6.out.later hb7)
  have hL7 := hidS (hL6.out.trans (hb7.mono hL6.out.size))
  have HO7 := hidS (own_later HO6.out hb7)
  have h57 : w5.heap.size ≤ w7.heap.size := by have := hb7.size; omega
  clear hb7 hG6 hP6 hS6 hL6 HCA HO6 h56
  obtain ⟨i0, hi0, hz0, hz1, hz2⟩ := info_parts Tryd.infoInt
  have HI0 := hidS hi0
  go_wp2_with (at_builtin; refine wpList_append_own _ rfl _ _ 76 rfl w5.heap.size 3 i0 (.int .i64 0) 1 8 Tryd.underlying76 hi0 hz0 hz1 hz2 rfl (by decide) _ _ _ rfl (HO7.out.alloc _) ⟨w7.heap.size, 0, none⟩ 2 2 [.int .i64 10, .int .i64 (k : Int)] rfl rfl (cells_two_new _ _ _ _) ?c2 ?c3 ?c4 ?c5 ?_)
  case c2 => first | (intro x hx; simp at hx; rcases hx with rfl | rfl <;> rfl) | rfl
  case c3 => unfold maxLen; omega
  case c4 => omega
  case c5 => first | omega | (simp; omega)
  intro v' w8 hown' hgrow _
  have hown2 : w8.ownsRow w5.heap.size 3 1 v' (ls ++ [10, k]).length (intsV (ls ++ [10, k])) := by rw [intsV_app, List.length_append]; exact hown'
  have hL8 := hidS (below_appI hB5 hL7.out hL7.out.size HO7.out hgrow)
  have hbw : Below w5.heap.size w7 w8 := below_appI (Nat.le_refl _) (Below.refl _ _) h57 HO7.out hgrow
  have hG8 := hidS ((hbw.block _ (by omega)).trans hG7.out)
  have hP8 := hidS ((hbw.block _ (by omega)).trans hP7.out)
  clear hown' hgrow HO7 hbw hG7 hP7 hS7 hL7 HI0 hi0 hz0 hz1 hz2
  have hll : (ls ++ [10, k]).length = ls.length + 2 := by simp
  obtain ⟨g, cap, hv, hgl, hcl⟩ : ∃ g cap, v' = .slice (some ⟨g, 0, none⟩) (ls ++ [10, k]).length cap ∧ g < w8.heap.size ∧ ∀ j, (hj : j < (ls ++ [10, k]).length) → w8.cell? ⟨g, j, none⟩ = some (.int .i64 ((ls ++ [10, k])[j] : Int)) := by
    have h0 := hown2
    rcases hown2.2 with ⟨_, hn⟩ | ⟨g, cap, cur, e1, e2, e3, e4⟩
    · omega
    · subst e1
      refine ⟨g, cap, rfl, (Array.getElem?_eq_some_iff.1 e3).1, fun j hj => ?_⟩
      rw [h0.cellAt j (by omega)]
      exact intsV_get _ j hj
  have HCL := hidS hcl
  have HLS : Hid (∀ j ∈ ls ++ [10, k], j ≤ 100000) := fun j hj => by
    rcases List.mem_append.1 hj with h | h
    · have := HLK.out j h; omega
    · simp at h; omega
  subst hv
  have hlb : (ls ++ [10, k]).length ≤ 4 := by omega
  clear hown2 hcl HLK hll
  have huz : (u.extract 0 28).size = 28 := by rw [ByteArray.size_extract]; omega
  generalize ls ++ [10, k] = ks at *
  go_wp2_with fail
  refine (withWord_x (u.extract 0 28) 0 g cap ks _ hw0 HCL.out hgl (by omega) HLS.out (by omega)).mono ?_
  rintro _ w9 ⟨rfl, hb9⟩
  generalize u.extract 0 28 = uu at *
  have hG10 := hidS (blk_later hG8.out hb9)
  have hP10 := hidS (blk_later hP8.out hb9)
  have hL10 := hidS (hL8.out.trans (hb9.mono hL8.out.size))
  have HC10 : Hid (∀ j, (hj : j < ks.length) → w9.cell? ⟨g, j, none⟩ = some (.int .i64 (ks[j] : Int))) := fun j hj => (hb9.cell (p := ⟨g, j, none⟩) hgl).trans (HCL.out j hj)
  have hg9 : g < w9.heap.size := Nat.lt_of_lt_of_le hgl hb9.size
  clear hb9 hG8 hP8 hL8 HCL hgl
  go_wp2_with fail
  refine (withWord_x t 0 g cap ks _ hw0 HC10.out hg9 (by omega) HLS.out (by omega)).mono ?_
  rintro _ w11 ⟨rfl, hb11⟩
  have hG9 := blk_later hG10.out hb11
  have hP11 := blk_later hP10.out hb11
  have hL9 := hidS (hL10.out.trans (hb11.mono hL10.out.size))
  have hS9 := hidS (HSw.out.later hL9.out)
  clear hb11 hG10 hP10 hL10 HC10 hg9 HLS
  have hg := hS9.out.cY
  have hne : w.heap.size + 1 ≠ 1 := by omega
  have cg := blk_cell hG9
  have fg := blk_free hG9
  clear hS9 hG9
  go_wp2_with fail
  go_region
  go_wp2_with fail
  refine bodyPost_ret (v := .tuple #[.agg #[.int .i64 zeroPk.src, .int .i64 zeroPk.dst, .int .i64 zeroPk.proto, .int .i64 zeroPk.a, .int .i64 zeroPk.b, .int .i64 zeroPk.kind, .int .i64 zeroPk.flags, .int .i64 zeroPk.seq, .int .i64 zeroPk.ack, .string zeroPk.body], .iface 134 (.pointer (some aY))]) (by simp [results, Tryd.results29, go_sem, zeroPk, *]) rfl ⟨rfl, ?_⟩
  refine Below.drew ?_
  repeat (refine below_at ?_ (by omega))
  exact hL9.out
end Go.Proofs.YthfhbmiddillbagDoor
end

section
namespace Go.Proofs.YthfhbmiddillbagDoor
open Go.ChangeShapes Go.WideShapes Go.ChangeAt Go.RowKit
set_option linter.unusedVariables false

theorem numN_one (s : ByteArray) (k : Nat) : numN s k 1 = byteN s k := by simp [numN]
theorem numN_two (s : ByteArray) (k : Nat) : numN s k 2 = word2 s k := by simp [numN, word2]
theorem numN_four (s : ByteArray) (k : Nat) : numN s k 4 = word4 s k := by simp [numN, word4, word2, Nat.add_assoc]; omega
theorem byteN_list (s : ByteArray) (k : Nat) : byteN s k = (s.data.toList.getD k 0).toNat := by
  unfold byteN
  rw [Array.getD_eq_getD_getElem?, List.getD_eq_getElem?_getD, Array.getElem?_toList]
theorem ext_list (s : ByteArray) (a b : Nat) : (s.extract a b).data.toList = (s.data.toList.drop a).take (b - a) := by
  rw [ByteArray.data_extract, Array.toList_extract, List.extract_eq_take_drop]
theorem byteN_ext (s : ByteArray) (a j : Nat) : byteN (s.extract a s.size) j = byteN s (a + j) := by
  rw [byteN_list, byteN_list, ext_list]
  have e : (s.data.toList.drop a).take (s.size - a) = s.data.toList.drop a := List.take_of_length_le (by simp)
  rw [e, List.getD_eq_getElem?_getD, List.getD_eq_getElem?_getD, List.getElem?_drop]
theorem word2_ext (s : ByteArray) (a j : Nat) : word2 (s.extract a s.size) j = word2 s (a + j) := by
  unfold word2; rw [byteN_ext, byteN_ext, Nat.add_assoc]
theorem word4_ext (s : ByteArray) (a j : Nat) : word4 (s.extract a s.size) j = word4 s (a + j) := by
  unfold word4; rw [word2_ext, word2_ext, Nat.add_assoc]
theorem body_ext (s : ByteArray) (a b : Nat) (h : a + b ≤ s.size) : (s.extract a s.size).extract (min b (s.extract a s.size).size) (s.extract a s.size).size = s.extract (a + b) s.size := by
  have hz : (s.extract a s.size).size = s.size - a := by simp
  rw [hz, ByteArray.extract_extract, Nat.min_eq_left (by omega), show a + (s.size - a) = s.size by omega, Nat.min_self]
theorem scan_proto (s : ByteArray) : (scanPk s).proto = (byteN s 9 : Int) := by
  unfold scanPk scanOf
  rw [numN_one]
  split
  · rename_i h; rw [h]; rfl
  · split
    · rename_i h; rw [h]; rfl
    · split
      · rename_i h; rw [h]; rfl
      · rfl
end Go.Proofs.YthfhbmiddillbagDoor
end

section
namespace Go.Proofs.YthfhbmiddillbagDoor
open Go.ChangeShapes Go.WideShapes Go.ChangeAt Go.RowKit
set_option linter.unusedVariables false
set_option maxRecDepth 100000
set_option linter.unusedSimpArgs false

/-- of whom 28 bytes speak, whatever they are -/
def innerPk (s : ByteArray) : Pk :=
  if byteN s 9 = 6 then ⟨word4 s 12, word4 s 16, byteN s 9, word2 s 20, word2 s 22, 0, 0, word4 s 24, 0, ⟨#[]⟩⟩
  else if byteN s 9 = 1 then ⟨word4 s 12, word4 s 16, byteN s 9, word2 s 24, 0, byteN s 20, 0, word2 s 26, 0, ⟨#[]⟩⟩
  else ⟨word4 s 12, word4 s 16, byteN s 9, word2 s 20, word2 s 22, 0, 0, 0, 0, ⟨#[]⟩⟩

set_option maxHeartbeats 4000000 in
theorem l03Inner_any (s : ByteArray) (w : World) (h1 : 28 ≤ s.size) (hs : s.size ≤ 8000) :
    Calls Tryd.prog 27 #[.string s] w fun e w' => e = .returned (.agg #[.int .i64 (innerPk s).src, .int .i64 (innerPk s).dst, .int .i64 (innerPk s).proto, .int .i64 (innerPk s).a, .int .i64 (innerPk s).b, .int .i64 (innerPk s).kind, .int .i64 (innerPk s).flags, .int .i64 (innerPk s).seq, .int .i64 (innerPk s).ack, .string (innerPk s).body]) ∧ Below w.heap.size w w' := by
  have h9 : 9 < s.size := by omega
  have h9i : (9 : Int) < (s.size : Int) := by omega
  have hb9 : s[9].toNat = byteN s 9 := byteN_get h9
  have lb9 := byteN_lt s 9
  have hw9 : IntKind.i64.wrap (byteN s 9 : Int) = (byteN s 9 : Int) := IntWalk.i64_in _ (by omega)
  have hB1 := hidS ((Below.refl w.heap.size w).alloc (Nat.le_refl _) (.cells #[.int .i64 0, .int .i64 0, .int .i64 0, .int .i64 0, .int .i64 0, .int .i64 0, .int .i64 0, .int .i64 0, .int .i64 0, .string ⟨#[]⟩] 30))
  have hG1 : (w.alloc (.cells #[.int .i64 0, .int .i64 0, .int .i64 0, .int .i64 0, .int .i64 0, .int .i64 0, .int .i64 0, .int .i64 0, .int .i64 0, .string ⟨#[]⟩] 30)).heap[w.heap.size]? = some (.cells #[.int .i64 0, .int .i64 0, .int .i64 0, .int .i64 0, .int .i64 0, .int .i64 0, .int .i64 0, .int .i64 0, .int .i64 0, .string ⟨#[]⟩] 30) := heap_newG _ _
  go_enter Tryd.func27, Tryd.ntmps27
  go_wp2_with fail
  generalize w.alloc (.cells #[.int .i64 0, .int .i64 0, .int .i64 0, .int .i64 0, .int .i64 0, .int .i64 0, .int .i64 0, .int .i64 0, .int .i64 0, .string ⟨#[]⟩] 30) = w1 at hB1 hG1 ⊢
  refine grow_struct 13 _ [.is (.string s), .is (.int .i64 (word4 s 12 : Nat)), .is (.string s), .is (.int .i64 (word4 s 16 : Nat)), .is (.string s), .is (.int .u8 (byteN s 9 : Int)), .is (.int .i64 (byteN s 9 : Int)), .is (.string s), .is (.int .i64 (word2 s 20 : Nat)), .is (.string s), .is (.int .i64 (word2 s 22 : Nat)), .is (.agg #[.int .i64 (word4 s 12 : Nat), .int .i64 (word4 s 16 : Nat), .int .i64 (byteN s 9 : Int), .int .i64 (word2 s 20 : Nat), .int .i64 (word2 s 22 : Nat), .int .i64 0, .int .i64 0, .int .i64 0, .int .i64 0, .string ⟨#[]⟩]), .blk w1.heap.size #[.int .i64 0, .int .i64 0, .int .i64 0, .int .i64 0, .int .i64 0, .int .i64 0, .int .i64 0, .int .i64 0, .int .i64 0, .string ⟨#[]⟩] 30] 12 11 3 15 30 30 #[.int .i64 0, .int .i64 0, .int .i64 0, .int .i64 0, .int .i64 0, .int .i64 0, .int .i64 0, .int .i64 0, .int .i64 0, .string ⟨#[]⟩] #[.int .i64 (word4 s 12 : Nat), .int .i64 (word4 s 16 : Nat), .int .i64 (byteN s 9 : Int), .int .i64 (word2 s 20 : Nat), .int .i64 (word2 s 22 : Nat), .int .i64 0, .int .i64 0, .int .i64 0, .int .i64 0, .string ⟨#[]⟩] rfl rfl rfl (by kernel_rfl) (by kernel_rfl) (by kernel_rfl) rfl rfl rfl rfl (by decide) (by decide) rfl rfl rfl (by first | kernel_rfl | simp [Value.oneCell']) (by kernel_rfl) ?steps ?fin
  case steps =>
    refine ⟨?_, ?_, ?_, ?_, ?_, ?_, ?_, ?_, ?_, ?_, ?_, ?_, ?_, trivial⟩
    · refine ⟨rfl, fun v W ρ hC kc kf ks ki kd => ?_⟩
      have t0 : ρ (.tmp 0) = .string s := ki 0 (by decide)
      simp [execOp, go_sem, t0]
      exact ⟨hC, Below.refl _ _, rfl⟩
    · refine ⟨rfl, fun v W ρ hC kc kf ks ki kd => ?_⟩
      have d0 : v 0 = .string s := kd _ (Array.mem_of_getElem? (i := 0) rfl) rfl
      have t4 : ρ (.tmp 4) = v 0 := ks 0 4 (by decide) rfl
      rw [d0] at t4
      simp [execOp, go_sem, t4, kf, kc]
      exact Calls.mono (l03Long_any s 12 _ (by omega) hs) (fun e x h => ⟨_, h.1, hC.trans (h.2.mono hC.size), h.2, rfl⟩)
    · refine ⟨rfl, fun v W ρ hC kc kf ks ki kd => ?_⟩
      have t0 : ρ (.tmp 0) = .string s := ki 0 (by decide)
      simp [execOp, go_sem, t0]
      exact ⟨hC, Below.refl _ _, rfl⟩
    · refine ⟨rfl, fun v W ρ hC kc kf ks ki kd => ?_⟩
      have d2 : v 2 = .string s := kd _ (Array.mem_of_getElem? (i := 0) rfl) rfl
      have t6 : ρ (.tmp 6) = v 2 := ks 2 6 (by decide) rfl
      rw [d2] at t6
      simp [execOp, go_sem, t6, kf, kc]
      exact Calls.mono (l03Long_any s 16 _ (by omega) hs) (fun e x h => ⟨_, h.1, hC.trans (h.2.mono hC.size), h.2, rfl⟩)
    · refine ⟨rfl, fun v W ρ hC kc kf ks ki kd => ?_⟩
      have t0 : ρ (.tmp 0) = .string s := ki 0 (by decide)
      simp [execOp, go_sem, t0]
      exact ⟨hC, Below.refl _ _, rfl⟩
    · refine ⟨rfl, fun v W ρ hC kc kf ks ki kd => ?_⟩
      have d4 : v 4 = .string s := kd _ (Array.mem_of_getElem? (i := 0) rfl) rfl
      have t8 : ρ (.tmp 8) = v 4 := ks 4 8 (by decide) rfl
      rw [d4] at t8
      simp [execOp, go_sem, t8, h9, h9i, hb9, kc]
      exact ⟨hC, Below.refl _ _, rfl⟩
    · refine ⟨rfl, fun v W ρ hC kc kf ks ki kd => ?_⟩
      have d5 : v 5 = .int .u8 (byteN s 9 : Int) := kd _ (Array.mem_of_getElem? (i := 0) rfl) rfl
      have t9 : ρ (.tmp 9) = v 5 := ks 5 9 (by decide) rfl
      rw [d5] at t9
      simp [execOp, go_sem, t9, hw9]
      exact ⟨hC, Below.refl _ _, rfl⟩
    · refine ⟨rfl, fun v W ρ hC kc kf ks ki kd => ?_⟩
      have t0 : ρ (.tmp 0) = .string s := ki 0 (by decide)
      simp [execOp, go_sem, t0]
      exact ⟨hC, Below.refl _ _, rfl⟩
    · refine ⟨rfl, fun v W ρ hC kc kf ks ki kd => ?_⟩
      have d7 : v 7 = .string s := kd _ (Array.mem_of_getElem? (i := 0) rfl) rfl
      have t11 : ρ (.tmp 11) = v 7 := ks 7 11 (by decide) rfl
      rw [d7] at t11
      simp [execOp, go_sem, t11, kf, kc]
      exact Calls.mono (l03Word_any s 20 _ (by omega) hs) (fun e x h => ⟨_, h.1, hC.trans (h.2.mono hC.size), h.2, rfl⟩)
    · refine ⟨rfl, fun v W ρ hC kc kf ks ki kd => ?_⟩
      have t0 : ρ (.tmp 0) = .string s := ki 0 (by decide)
      simp [execOp, go_sem, t0]
      exact ⟨hC, Below.refl _ _, rfl⟩
    · refine ⟨rfl, fun v W ρ hC kc kf ks ki kd => ?_⟩
      have d9 : v 9 = .string s := kd _ (Array.mem_of_getElem? (i := 0) rfl) rfl
      have t13 : ρ (.tmp 13) = v 9 := ks 9 13 (by decide) rfl
      rw [d9] at t13
      simp [execOp, go_sem, t13, kf, kc]
      exact Calls.mono (l03Word_any s 22 _ (by omega) hs) (fun e x h => ⟨_, h.1, hC.trans (h.2.mono hC.size), h.2, rfl⟩)
    · refine ⟨rfl, fun v W ρ hC kc kf ks ki kd => ?_⟩
      have d1 : v 1 = .int .i64 (word4 s 12 : Nat) := kd _ (Array.mem_of_getElem? (i := 0) rfl) rfl
      have t5 : ρ (.tmp 5) = v 1 := ks 1 5 (by decide) rfl
      rw [d1] at t5
      have d3 : v 3 = .int .i64 (word4 s 16 : Nat) := kd _ (Array.mem_of_getElem? (i := 1) rfl) rfl
      have t7 : ρ (.tmp 7) = v 3 := ks 3 7 (by decide) rfl
      rw [d3] at t7
      have d6 : v 6 = .int .i64 (byteN s 9 : Int) := kd _ (Array.mem_of_getElem? (i := 2) rfl) rfl
      have t10 : ρ (.tmp 10) = v 6 := ks 6 10 (by decide) rfl
      rw [d6] at t10
      have d8 : v 8 = .int .i64 (word2 s 20 : Nat) := kd _ (Array.mem_of_getElem? (i := 3) rfl) rfl
      have t12 : ρ (.tmp 12) = v 8 := ks 8 12 (by decide) rfl
      rw [d8] at t12
      have d10 : v 10 = .int .i64 (word2 s 22 : Nat) := kd _ (Array.mem_of_getElem? (i := 4) rfl) rfl
      have t14 : ρ (.tmp 14) = v 10 := ks 10 14 (by decide) rfl
      rw [d10] at t14
      simp [execOp, go_sem, t5, t7, t10, t12, t14]
      exact ⟨hC, Below.refl _ _, rfl⟩
    · refine ⟨rfl, fun v W ρ hC kc kf ks ki kd => ?_⟩
      simp [execOp, go_sem, ]
      exact ⟨hC.alloc hC.size _, (Below.refl _ _).alloc (Nat.le_refl _) _, W.heap.size, rfl, hC.size, heap_newG _ _⟩
  case fin =>
    intro v W B hC hvB hn hB hall
    simp [upto, Act.put]
    rw [hvB]
    clear hall
    have hB2 := hidS (hB1.out.trans (hC.mono hB1.out.size))
    have hG2 := blk_later hG1 hC
    have hgl := blk_lt hG1
    have hne : w.heap.size ≠ B := by omega
    have c2 := blk_cell hB 2
    simp at c2
    clear hB1 hG1 hC hvB
    by_cases p6 : byteN s 9 = 6
    · have p6' : ((byteN s 9 : Int) == 6) = true := by rw [p6]; rfl
      have eR : Hid (innerPk s = ⟨word4 s 12, word4 s 16, byteN s 9, word2 s 20, word2 s 22, 0, 0, word4 s 24, 0, ⟨#[]⟩⟩) := by unfold innerPk; rw [if_pos p6]; rfl
      clear p6
      have hB0 := hB
      have hG0 := hG2
      have hL0 := hB2
      clear hB hG2 hB2
      go_wp2_with fail
      refine (l03Long_any s 24 _ (by omega) hs).mono ?_
      rintro _ x1 ⟨rfl, hx1⟩
      have hB1 := blk_later hB0 hx1
      have hG1 := blk_later hG0 hx1
      have hL1 := hidS (hL0.out.trans (hx1.mono hL0.out.size))
      clear hB0 hG0 hL0 hx1
      have c7 := blk_cell hB1 7
      have f7 := blk_free hB1 7
      simp at c7
      have c0 := blk_cell hB1 0
      simp at c0
      have c1 := blk_cell hB1 1
      simp at c1
      have c2 := blk_cell hB1 2
      simp at c2
      have c3 := blk_cell hB1 3
      simp at c3
      have c4 := blk_cell hB1 4
      simp at c4
      have c5 := blk_cell hB1 5
      simp at c5
      have c6 := blk_cell hB1 6
      simp at c6
      have c8 := blk_cell hB1 8
      simp at c8
      have c9 := blk_cell hB1 9
      simp at c9
      have g0 := blk_cell hG1
      have gf := blk_free hG1
      have hneB : B ≠ w.heap.size := fun q => hne q.symm
      have hL := hL1
      go_wp2
      refine bodyPost_ret (v := .agg #[.int .i64 ((word4 s 12 : Nat) : Int), .int .i64 ((word4 s 16 : Nat) : Int), .int .i64 ((byteN s 9 : Nat) : Int), .int .i64 ((word2 s 20 : Nat) : Int), .int .i64 ((word2 s 22 : Nat) : Int), .int .i64 0, .int .i64 0, .int .i64 ((word4 s 24 : Nat) : Int), .int .i64 0, .string ⟨#[]⟩]) (by simp [results, Tryd.results27, go_sem, g0]) rfl ⟨by rw [eR.out], ?_⟩
      iterate 10 (refine below_at ?_ (Nat.le_refl _))
      iterate 1 (refine below_at ?_ (show w.heap.size ≤ B by omega))
      exact hL.out
    have p6' : ((byteN s 9 : Int) == 6) = false := beq_eq_false_iff_ne.2 (by omega)
    by_cases p1 : byteN s 9 = 1
    · have p1' : ((byteN s 9 : Int) == 1) = true := by rw [p1]; rfl
      have eR : Hid (innerPk s = ⟨word4 s 12, word4 s 16, byteN s 9, word2 s 24, 0, byteN s 20, 0, word2 s 26, 0, ⟨#[]⟩⟩) := by unfold innerPk; rw [if_neg p6, if_pos p1]; rfl
      have h20 : 20 < s.size := by omega
      have h20i : (20 : Int) < (s.size : Int) := by omega
      have hb20 : s[20].toNat = byteN s 20 := byteN_get h20
      have lb20 := byteN_lt s 20
      have hw20 : wrap64 (byteN s 20 : Int) = (byteN s 20 : Int) := IntWalk.wrap64_in _ (by omega)
      clear p6 p1
      have hB0 := hB
      have hG0 := hG2
      have hL0 := hB2
      clear hB hG2 hB2
      have c5 := blk_cell hB0 5
      have f5 := blk_free hB0 5
      simp at c5
      go_wp2_with fail
      have hB0s := blk_set hB0 5 (.int .i64 ((byteN s 20 : Nat) : Int))
      have hG0s := blk_other hG0 hne 5 (.int .i64 ((byteN s 20 : Nat) : Int))
      have hL0s := hidS (Below.setCell hL0.out (p := ⟨B, 5, none⟩) (show w.heap.size ≤ B by omega) (.int .i64 ((byteN s 20 : Nat) : Int)))
      simp at hB0s
      generalize W.setCell ⟨B, 5, none⟩ (.int .i64 ((byteN s 20 : Nat) : Int)) = y1 at hB0s hG0s hL0s ⊢
      clear hB0 hG0 hL0 c5 f5
      have hB1 := hB0s
      have hG1 := hG0s
      have hL1 := hL0s
      clear hB0s hG0s hL0s
      refine (l03Word_any s 24 _ (by omega) hs).mono ?_
      rintro _ x2 ⟨rfl, hx2⟩
      have hB2 := blk_later hB1 hx2
      have hG2 := blk_later hG1 hx2
      have hL2 := hidS (hL1.out.trans (hx2.mono hL1.out.size))
      clear hB1 hG1 hL1 hx2
      have c3 := blk_cell hB2 3
      have f3 := blk_free hB2 3
      simp at c3
      have c4 := blk_cell hB2 4
      have f4 := blk_free hB2 4
      simp at c4
      go_wp2_with fail
      have hB2s := blk_set hB2 3 (.int .i64 ((word2 s 24 : Nat) : Int))
      have hG2s := blk_other hG2 hne 3 (.int .i64 ((word2 s 24 : Nat) : Int))
      have hL2s := hidS (Below.setCell hL2.out (p := ⟨B, 3, none⟩) (show w.heap.size ≤ B by omega) (.int .i64 ((word2 s 24 : Nat) : Int)))
      simp at hB2s
      generalize x2.setCell ⟨B, 3, none⟩ (.int .i64 ((word2 s 24 : Nat) : Int)) = y3 at hB2s hG2s hL2s ⊢
      clear hB2 hG2 hL2 c3 f3
      have hB3 := hB2s
      have hG3 := hG2s
      have hL3 := hL2s
      clear hB2s hG2s hL2s
      have hB3s := blk_set hB3 4 (.int .i64 0)
      have hG3s := blk_other hG3 hne 4 (.int .i64 0)
      have hL3s := hidS (Below.setCell hL3.out (p := ⟨B, 4, none⟩) (show w.heap.size ≤ B by omega) (.int .i64 0))
      simp at hB3s
      generalize y3.setCell ⟨B, 4, none⟩ (.int .i64 0) = y4 at hB3s hG3s hL3s ⊢
      clear hB3 hG3 hL3 c4 f4
      have hB4 := hB3s
      have hG4 := hG3s
      have hL4 := hL3s
      clear hB3s hG3s hL3s
      refine (l03Word_any s 26 _ (by omega) hs).mono ?_
      rintro _ x5 ⟨rfl, hx5⟩
      have hB5 := blk_later hB4 hx5
      have hG5 := blk_later hG4 hx5
      have hL5 := hidS (hL4.out.trans (hx5.mono hL4.out.size))
      clear hB4 hG4 hL4 hx5
      have c7 := blk_cell hB5 7
      have f7 := blk_free hB5 7
      simp at c7
      have c0 := blk_cell hB5 0
      simp at c0
      have c1 := blk_cell hB5 1
      simp at c1
      have c2 := blk_cell hB5 2
      simp at c2
      have c3 := blk_cell hB5 3
      simp at c3
      have c4 := blk_cell hB5 4
      simp at c4
      have c5 := blk_cell hB5 5
      simp at c5
      have c6 := blk_cell hB5 6
      simp at c6
      have c8 := blk_cell hB5 8
      simp at c8
      have c9 := blk_cell hB5 9
      simp at c9
      have g0 := blk_cell hG5
      have gf := blk_free hG5
      have hneB : B ≠ w.heap.size := fun q => hne q.symm
      have hL := hL5
      go_wp2
      refine bodyPost_ret (v := .agg #[.int .i64 ((word4 s 12 : Nat) : Int), .int .i64 ((word4 s 16 : Nat) : Int), .int .i64 ((byteN s 9 : Nat) : Int), .int .i64 ((word2 s 24 : Nat) : Int), .int .i64 0, .int .i64 ((byteN s 20 : Nat) : Int), .int .i64 0, .int .i64 ((word2 s 26 : Nat) : Int), .int .i64 0, .string ⟨#[]⟩]) (by simp [results, Tryd.results27, go_sem, g0]) rfl ⟨by rw [eR.out], ?_⟩
      iterate 10 (refine below_at ?_ (Nat.le_refl _))
      iterate 1 (refine below_at ?_ (show w.heap.size ≤ B by omega))
      exact hL.out
    · have p1' : ((byteN s 9 : Int) == 1) = false := beq_eq_false_iff_ne.2 (by omega)
      have eR : Hid (innerPk s = ⟨word4 s 12, word4 s 16, byteN s 9, word2 s 20, word2 s 22, 0, 0, 0, 0, ⟨#[]⟩⟩) := by unfold innerPk; rw [if_neg p6, if_neg p1]; rfl
      clear p6 p1
      have hB0 := hB
      have hG0 := hG2
      have hL0 := hB2
      clear hB hG2 hB2
      have c0 := blk_cell hB0 0
      simp at c0
      have c1 := blk_cell hB0 1
      simp at c1
      have c2 := blk_cell hB0 2
      simp at c2
      have c3 := blk_cell hB0 3
      simp at c3
      have c4 := blk_cell hB0 4
      simp at c4
      have c5 := blk_cell hB0 5
      simp at c5
      have c6 := blk_cell hB0 6
      simp at c6
      have c7 := blk_cell hB0 7
      simp at c7
      have c8 := blk_cell hB0 8
      simp at c8
      have c9 := blk_cell hB0 9
      simp at c9
      have g0 := blk_cell hG0
      have gf := blk_free hG0
      have hneB : B ≠ w.heap.size := fun q => hne q.symm
      have hL := hL0
      go_wp2
      refine bodyPost_ret (v := .agg #[.int .i64 ((word4 s 12 : Nat) : Int), .int .i64 ((word4 s 16 : Nat) : Int), .int .i64 ((byteN s 9 : Nat) : Int), .int .i64 ((word2 s 20 : Nat) : Int), .int .i64 ((word2 s 22 : Nat) : Int), .int .i64 0, .int .i64 0, .int .i64 0, .int .i64 0, .string ⟨#[]⟩]) (by simp [results, Tryd.results27, go_sem, g0]) rfl ⟨by rw [eR.out], ?_⟩
      iterate 10 (refine below_at ?_ (Nat.le_refl _))
      iterate 0 (refine below_at ?_ (show w.heap.size ≤ B by omega))
      exact hL.out
end Go.Proofs.YthfhbmiddillbagDoor
end
