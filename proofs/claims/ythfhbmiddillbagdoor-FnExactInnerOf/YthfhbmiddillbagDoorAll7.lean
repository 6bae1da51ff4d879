/- Proved here: nothing of a program: what is scanned of the first 28 bytes of a packet is of whom they speak, and they are those of that packet but for its counts and checks just where it is so told. · Proved here: impl.InnerOf answers the packet and the code of what impl.readInner answers; all old memory stays (condition: what these answer is told). · Proved here: where the four package variables read as four errors of errors.New's make with four texts, they hold four different ones (no program walked). · Proved here: the laws' own helpers on packets: szPacket and toPacket; all old memory stays (condition: the body is a string). · Proved here: the laws' own helpers on packets: eqPacket, eqPacketOut of two that are the same; all old memory stays (condition: the body is a string). · Proved here: a laws.Packet that came in as an argument is its fields, each of its kind (a bridge; no program of its own). -/
import Derived.Test.YthfhbmiddillbagDoorAll5
import Derived.Test.YthfhbmiddillbagDoorInnerSpec
import Derived.Test.YthfhbmiddillbagDoorAll4
import Derived.LaidLaws
import Derived.Stop.LaidErr
import Derived.ChangeVars
import Derived.Test.YthfhbmiddillbagDoorAll0
import Derived.Test.YthfhbmiddillbagDoorAll2
import Derived.Test.YthfhbmiddillbagDoorRows
import Derived.WalkKit
import Derived.WalkSpells
import Derived.ProofKit
import Derived.OpenShut
import Derived.ShutString
import Derived.Handy
import Derived.Below
import Derived.ChangeArms
section
namespace Go.Proofs.YthfhbmiddillbagDoor
open Go.ChangeShapes Go.WideShapes Go.ChangeAt Go.RowKit
set_option linter.unusedVariables false
set_option maxRecDepth 100000

/-- a byte of a text -/
def bt (t : ByteArray) (k : Nat) : UInt8 := t.data.toList.getD k 0
theorem byteN_bt (t : ByteArray) (k : Nat) : byteN t k = (bt t k).toNat := byteN_list t k
theorem two_word (t : ByteArray) (k : Nat) : (twoT (word2 t k)).data.toList = [bt t k, bt t (k + 1)] := by
  have h1 := (bt t k).toNat_lt
  have h2 := (bt t (k + 1)).toNat_lt
  rw [two_list]
  unfold word2
  rw [byteN_bt, byteN_bt, show (256 * (bt t k).toNat + (bt t (k + 1)).toNat) / 256 = (bt t k).toNat by omega, show (256 * (bt t k).toNat + (bt t (k + 1)).toNat) % 256 = (bt t (k + 1)).toNat by omega]
  simp
theorem four_word (t : ByteArray) (k : Nat) : (fourT (word4 t k)).data.toList = [bt t k, bt t (k + 1), bt t (k + 2), bt t (k + 3)] := by
  have h := word2_lt t (k + 2)
  have h0 := word2_lt t k
  unfold fourT word4
  rw [show (65536 * word2 t k + word2 t (k + 2)) / 65536 = word2 t k by omega, show (65536 * word2 t k + word2 t (k + 2)) % 65536 = word2 t (k + 2) by omega, ByteArray.data_append, Array.toList_append, two_word, two_word]
  rfl
theorem list28 (l : List UInt8) (h : l.length = 28) : l = [l.getD 0 0, l.getD 1 0, l.getD 2 0, l.getD 3 0, l.getD 4 0, l.getD 5 0, l.getD 6 0, l.getD 7 0, l.getD 8 0, l.getD 9 0, l.getD 10 0, l.getD 11 0, l.getD 12 0, l.getD 13 0, l.getD 14 0, l.getD 15 0, l.getD 16 0, l.getD 17 0, l.getD 18 0, l.getD 19 0, l.getD 20 0, l.getD 21 0, l.getD 22 0, l.getD 23 0, l.getD 24 0, l.getD 25 0, l.getD 26 0, l.getD 27 0] := by
  match l, h with
  | [b0, b1, b2, b3, b4, b5, b6, b7, b8, b9, b10, b11, b12, b13, b14, b15, b16, b17, b18, b19, b20, b21, b22, b23, b24, b25, b26, b27], _ => rfl
theorem bt_list (t : ByteArray) (h : t.size = 28) : t.data.toList = [bt t 0, bt t 1, bt t 2, bt t 3, bt t 4, bt t 5, bt t 6, bt t 7, bt t 8, bt t 9, bt t 10, bt t 11, bt t 12, bt t 13, bt t 14, bt t 15, bt t 16, bt t 17, bt t 18, bt t 19, bt t 20, bt t 21, bt t 22, bt t 23, bt t 24, bt t 25, bt t 26, bt t 27] := list28 _ (by simpa using h)
theorem bt_out (t : ByteArray) (k : Nat) (h : t.size ≤ k) : byteN t k = 0 := byteN_out (by omega)

theorem scan_inner (t : ByteArray) (h : t.size = 28) (hp : byteN t 9 = 6 ∨ byteN t 9 = 17 ∨ byteN t 9 = 1) : scanPk t = innerPk t := by
  have e8 : (t.extract 20 t.size).extract (min 8 (t.extract 20 t.size).size) (t.extract 20 t.size).size = ⟨#[]⟩ := by
    rw [body_ext t 20 8 (by omega)]
    apply ByteArray.ext
    apply Array.toList_inj.1
    rw [ext_list, h]; simp
  have e20 : (t.extract 20 t.size).extract (min 20 (t.extract 20 t.size).size) (t.extract 20 t.size).size = ⟨#[]⟩ := by
    have hz : (t.extract 20 t.size).size = 8 := by simp; omega
    apply ByteArray.ext
    apply Array.toList_inj.1
    rw [ext_list, hz]; simp
  unfold scanPk scanOf innerPk
  simp only [numN_one, numN_two, numN_four, byteN_ext, word2_ext, word4_ext, e8, e20]
  rcases hp with h6 | h17 | h1
  · rw [if_pos h6, if_pos h6, h6]
    have z33 : byteN t (20 + 13) = 0 := bt_out t _ (by omega)
    have z28 : word4 t (20 + 8) = 0 := by unfold word4 word2; rw [bt_out t _ (by omega), bt_out t _ (by omega), bt_out t _ (by omega), bt_out t _ (by omega)]
    rw [z33, z28]; rfl
  · rw [if_neg (by omega), if_pos h17, if_neg (by omega), if_neg (by omega), h17]; rfl
  · rw [if_neg (by omega), if_neg (by omega), if_pos h1, if_neg (by omega), if_pos h1, h1]; rfl
theorem inner_src (t : ByteArray) : (innerPk t).src = (word4 t 12 : Int) ∧ (innerPk t).dst = (word4 t 16 : Int) ∧ (innerPk t).proto = (byteN t 9 : Int) := by
  unfold innerPk; split
  · exact ⟨rfl, rfl, rfl⟩
  · split <;> exact ⟨rfl, rfl, rfl⟩
theorem head_inner (t : ByteArray) (n : Nat) (c : Int) : (headT (innerPk t) n c).data.toList = [69, 0] ++ (twoT (20 + (n : Int)).toNat).data.toList ++ [0, 0, 0, 0, 64, bt t 9] ++ (twoT c.toNat).data.toList ++ [bt t 12, bt t 13, bt t 14, bt t 15] ++ [bt t 16, bt t 17, bt t 18, bt t 19] := by
  obtain ⟨e1, e2, e3⟩ := inner_src t
  rw [head_list, e1, e2, e3]
  have : UInt8.ofNat ((byteN t 9 : Int)).toNat = bt t 9 := by rw [byteN_bt]; simp
  rw [this, Int.toNat_natCast, Int.toNat_natCast, four_word, four_word]

theorem put_tcp (h1 h2 c1 c2 b0 b1 b2 b3 b4 b5 b6 b7 b8 b9 b10 b11 b12 b13 b14 b15 b16 b17 b18 b19 b20 b21 b22 b23 b24 b25 b26 b27 : UInt8) : putAll [0, 0] [69, 0, h1, h2, 0, 0, 0, 0, 64, b9, c1, c2, b12, b13, b14, b15, b16, b17, b18, b19, b20, b21, b22, b23, b24, b25, b26, b27] [2, 10, 36] = putAll [0, 0] [b0, b1, b2, b3, b4, b5, b6, b7, b8, b9, b10, b11, b12, b13, b14, b15, b16, b17, b18, b19, b20, b21, b22, b23, b24, b25, b26, b27] [2, 10, 36] ↔ (69 = b0 ∧ 0 = b1 ∧ 0 = b4 ∧ 0 = b5 ∧ 0 = b6 ∧ 0 = b7 ∧ 64 = b8) := by
  simp [putAll, putAt, over]
theorem put_udp (h1 h2 c1 c2 m1 m2 d1 d2 b0 b1 b2 b3 b4 b5 b6 b7 b8 b9 b10 b11 b12 b13 b14 b15 b16 b17 b18 b19 b20 b21 b22 b23 b24 b25 b26 b27 : UInt8) : putAll [0, 0] [69, 0, h1, h2, 0, 0, 0, 0, 64, b9, c1, c2, b12, b13, b14, b15, b16, b17, b18, b19, b20, b21, b22, b23, m1, m2, d1, d2] [2, 24, 10, 26] = putAll [0, 0] [b0, b1, b2, b3, b4, b5, b6, b7, b8, b9, b10, b11, b12, b13, b14, b15, b16, b17, b18, b19, b20, b21, b22, b23, b24, b25, b26, b27] [2, 24, 10, 26] ↔ (69 = b0 ∧ 0 = b1 ∧ 0 = b4 ∧ 0 = b5 ∧ 0 = b6 ∧ 0 = b7 ∧ 64 = b8) := by
  simp [putAll, putAt, over]
theorem put_echo (h1 h2 c1 c2 d1 d2 b0 b1 b2 b3 b4 b5 b6 b7 b8 b9 b10 b11 b12 b13 b14 b15 b16 b17 b18 b19 b20 b21 b22 b23 b24 b25 b26 b27 : UInt8) : putAll [0, 0] [69, 0, h1, h2, 0, 0, 0, 0, 64, b9, c1, c2, b12, b13, b14, b15, b16, b17, b18, b19, b20, 0, d1, d2, b24, b25, b26, b27] [2, 10, 22] = putAll [0, 0] [b0, b1, b2, b3, b4, b5, b6, b7, b8, b9, b10, b11, b12, b13, b14, b15, b16, b17, b18, b19, b20, b21, b22, b23, b24, b25, b26, b27] [2, 10, 22] ↔ (69 = b0 ∧ 0 = b1 ∧ 0 = b4 ∧ 0 = b5 ∧ 0 = b6 ∧ 0 = b7 ∧ 64 = b8 ∧ 0 = b21) := by
  simp [putAll, putAt, over]

theorem bytes_28 (x : Pk) : ((bytesOf x).extract 0 28).data.toList = (headT x (tailT x (checkT x).toNat).size (checkAns (headT x (tailT x (checkT x).toNat).size 0))).data.toList ++ (tailT x (checkT x).toNat).data.toList.take 8 := by
  rw [ext_list]
  unfold bytesOf
  rw [ByteArray.data_append, Array.toList_append, List.drop_zero, List.take_append, head_len, List.take_of_length_le (by rw [head_len]; omega)]
theorem ok_lists (t : ByteArray) (h : t.size = 28) : (t.extract 0 2).toList = [bt t 0, bt t 1] ∧ ((headT (innerPk t) 0 0).extract 0 2).toList = [69, 0] ∧ (t.extract 4 10).toList = [bt t 4, bt t 5, bt t 6, bt t 7, bt t 8, bt t 9] ∧ ((headT (innerPk t) 0 0).extract 4 10).toList = [0, 0, 0, 0, 64, bt t 9] := by
  refine ⟨?_, ?_, ?_, ?_⟩
  · rw [ByteArray.toList_eq, ext_list, bt_list t h]; rfl
  · rw [ByteArray.toList_eq, ext_list, head_inner, two_list, two_list]; rfl
  · rw [ByteArray.toList_eq, ext_list, bt_list t h]; rfl
  · rw [ByteArray.toList_eq, ext_list, head_inner, two_list, two_list]; rfl
theorem inner_tcp (t : ByteArray) (h : t.size = 28) (h6 : byteN t 9 = 6) (hr : rightB (innerPk t) = true) :
    (putAll (twoT 0).data.toList ((bytesOf (innerPk t)).extract 0 28).data.toList ([2] ++ [10, 36]) == putAll (twoT 0).data.toList t.data.toList ([2] ++ [10, 36])) = okI t (innerPk t) := by
  obtain ⟨o1, o2, o3, o4⟩ := ok_lists t h
  have hx : innerPk t = ⟨word4 t 12, word4 t 16, byteN t 9, word2 t 20, word2 t 22, 0, 0, word4 t 24, 0, ⟨#[]⟩⟩ := by unfold innerPk; rw [if_pos h6]
  have hpr : (innerPk t).proto = 6 := by rw [hx, h6]; rfl
  have hta : ∀ c, (tailT (innerPk t) c).data.toList.take 8 = [bt t 20, bt t 21, bt t 22, bt t 23, bt t 24, bt t 25, bt t 26, bt t 27] := fun c => by
    unfold tailT
    rw [if_pos hpr, hx]
    simp [two_word, four_word]
  rw [bytes_28, hta, head_inner, bt_list t h, two_list, two_list]
  have hb9 : (bt t 9).toNat = 6 := by rw [← byteN_bt]; exact h6
  unfold okI
  rw [hr, o1, o2, o3, o4, hpr, Bool.eq_iff_iff, beq_iff_eq]
  refine (put_tcp _ _ _ _ (bt t 0) (bt t 1) (bt t 2) (bt t 3) (bt t 4) (bt t 5) (bt t 6) (bt t 7) (bt t 8) (bt t 9) (bt t 10) (bt t 11) (bt t 12) (bt t 13) (bt t 14) (bt t 15) (bt t 16) (bt t 17) (bt t 18) (bt t 19) (bt t 20) (bt t 21) (bt t 22) (bt t 23) (bt t 24) (bt t 25) (bt t 26) (bt t 27)).trans ?_
  simp
  grind
theorem inner_udp (t : ByteArray) (h : t.size = 28) (h17 : byteN t 9 = 17) (hr : rightB (innerPk t) = true) :
    (putAll (twoT 0).data.toList ((bytesOf (innerPk t)).extract 0 28).data.toList ([2, 24] ++ [10, 26]) == putAll (twoT 0).data.toList t.data.toList ([2, 24] ++ [10, 26])) = okI t (innerPk t) := by
  obtain ⟨o1, o2, o3, o4⟩ := ok_lists t h
  have hx : innerPk t = ⟨word4 t 12, word4 t 16, byteN t 9, word2 t 20, word2 t 22, 0, 0, 0, 0, ⟨#[]⟩⟩ := by unfold innerPk; rw [if_neg (by omega), if_neg (by omega)]
  have hpr : (innerPk t).proto = 17 := by rw [hx, h17]; rfl
  have hta : ∀ c, (tailT (innerPk t) c).data.toList.take 8 = [bt t 20, bt t 21, bt t 22, bt t 23] ++ (twoT (8 + ((innerPk t).body.size : Int)).toNat).data.toList ++ (twoT c).data.toList := fun c => by
    unfold tailT
    rw [if_neg (by omega), if_pos hpr, hx]
    simp only [ByteArray.data_append, Array.toList_append, Int.toNat_natCast, two_word]
    simp [two_list]
  rw [bytes_28, hta, head_inner, bt_list t h, two_list, two_list, two_list, two_list]
  unfold okI
  rw [hr, o1, o2, o3, o4, hpr, Bool.eq_iff_iff, beq_iff_eq]
  refine (put_udp _ _ _ _ _ _ _ _ (bt t 0) (bt t 1) (bt t 2) (bt t 3) (bt t 4) (bt t 5) (bt t 6) (bt t 7) (bt t 8) (bt t 9) (bt t 10) (bt t 11) (bt t 12) (bt t 13) (bt t 14) (bt t 15) (bt t 16) (bt t 17) (bt t 18) (bt t 19) (bt t 20) (bt t 21) (bt t 22) (bt t 23) (bt t 24) (bt t 25) (bt t 26) (bt t 27)).trans ?_
  simp
  grind
theorem inner_echo (t : ByteArray) (h : t.size = 28) (h1 : byteN t 9 = 1) (hr : rightB (innerPk t) = true) :
    (putAll (twoT 0).data.toList ((bytesOf (innerPk t)).extract 0 28).data.toList ([2] ++ [10, 22]) == putAll (twoT 0).data.toList t.data.toList ([2] ++ [10, 22])) = okI t (innerPk t) := by
  obtain ⟨o1, o2, o3, o4⟩ := ok_lists t h
  have hx : innerPk t = ⟨word4 t 12, word4 t 16, byteN t 9, word2 t 24, 0, byteN t 20, 0, word2 t 26, 0, ⟨#[]⟩⟩ := by unfold innerPk; rw [if_neg (by omega), if_pos h1]
  have hpr : (innerPk t).proto = 1 := by rw [hx, h1]; rfl
  have hk3 : (innerPk t).kind ≠ 3 := by
    intro e
    have hb : (innerPk t).body.size = 0 := by rw [hx]; rfl
    unfold rightB pingB at hr
    rw [if_neg (by omega), if_neg (by omega), if_pos hpr, if_pos e, hb] at hr
    simp at hr
  have hkd : UInt8.ofNat (innerPk t).kind.toNat = bt t 20 := by rw [hx]; show UInt8.ofNat ((byteN t 20 : Int)).toNat = _; rw [byteN_bt]; simp
  have hta : ∀ c, (tailT (innerPk t) c).data.toList.take 8 = [bt t 20, 0] ++ (twoT c).data.toList ++ [bt t 24, bt t 25, bt t 26, bt t 27] := fun c => by
    have hrow : (rowT [(innerPk t).kind, 0]).data.toList = [bt t 20, 0] := by
      show [UInt8.ofNat (innerPk t).kind.toNat, UInt8.ofNat (0 : Int).toNat] = _
      rw [hkd]; rfl
    unfold tailT
    rw [if_neg (by omega), if_neg (by omega), if_neg hk3]
    have ea : (innerPk t).a.toNat = word2 t 24 := by rw [hx]; rfl
    have eq : (innerPk t).seq.toNat = word2 t 26 := by rw [hx]; rfl
    rw [ea, eq]
    simp only [ByteArray.data_append, Array.toList_append, two_word, hrow]
    simp [two_list]
  rw [bytes_28, hta, head_inner, bt_list t h, two_list, two_list, two_list]
  have hk3' : ((innerPk t).kind == 3) = false := by simpa using hk3
  have hz : ((byteN t 21 : Int) == 0) = decide (0 = bt t 21) := by
    rw [byteN_bt, Bool.eq_iff_iff, beq_iff_eq, decide_eq_true_eq]
    constructor
    · intro e; exact (UInt8.toNat_inj.1 (by simpa using e)).symm
    · intro e; rw [← e]; rfl
  unfold okI
  rw [hr, o1, o2, o3, o4, hpr, hk3', hz, Bool.eq_iff_iff, beq_iff_eq]
  refine (put_echo _ _ _ _ _ _ (bt t 0) (bt t 1) (bt t 2) (bt t 3) (bt t 4) (bt t 5) (bt t 6) (bt t 7) (bt t 8) (bt t 9) (bt t 10) (bt t 11) (bt t 12) (bt t 13) (bt t 14) (bt t 15) (bt t 16) (bt t 17) (bt t 18) (bt t 19) (bt t 20) (bt t 21) (bt t 22) (bt t 23) (bt t 24) (bt t 25) (bt t 26) (bt t 27)).trans ?_
  simp
  grind
end Go.Proofs.YthfhbmiddillbagDoor
end

section
namespace Go.Proofs.YthfhbmiddillbagDoor
open Go.ChangeShapes Go.WideShapes Go.ChangeAt Go.RowKit
open Go.ChangeMaps (open_string shut_string)
set_option linter.unusedVariables false
set_option maxRecDepth 100000

set_option maxHeartbeats 1000000 in
theorem implInner_gen (p : Pk) (w : World) (q : Pk) (err : Value) (c : Int)
    (hR : ∀ W, Below w.heap.size w W → Calls Tryd.prog 29 #[.agg #[.int .i64 p.src, .int .i64 p.dst, .int .i64 p.proto, .int .i64 p.a, .int .i64 p.b, .int .i64 p.kind, .int .i64 p.flags, .int .i64 p.seq, .int .i64 p.ack, .string p.body]] W fun e w' => e = .returned (.tuple #[.agg #[.int .i64 q.src, .int .i64 q.dst, .int .i64 q.proto, .int .i64 q.a, .int .i64 q.b, .int .i64 q.kind, .int .i64 q.flags, .int .i64 q.seq, .int .i64 q.ack, .string q.body], err]) ∧ Below W.heap.size W w')
    (hCO : ∀ W, Below w.heap.size w W → Calls Tryd.prog 42 #[err] W fun e w' => e = .returned (.int .i64 c) ∧ Below W.heap.size W w') :
    Calls Tryd.prog 15 #[.agg #[.int .i64 p.src, .int .i64 p.dst, .int .i64 p.proto, .int .i64 p.a, .int .i64 p.b, .int .i64 p.kind, .int .i64 p.flags, .int .i64 p.seq, .int .i64 p.ack, .string p.body]] w fun e w' => e = .returned (.agg #[.int .i64 q.src, .int .i64 q.dst, .int .i64 q.proto, .int .i64 q.a, .int .i64 q.b, .int .i64 q.kind, .int .i64 q.flags, .int .i64 q.seq, .int .i64 q.ack, .string q.body, .int .i64 (c)]) ∧ Below w.heap.size w w' := by
  have HR := hidS hR
  have HCO := hidS hCO
  have hG0 : ((w.alloc (.cells #[.int .i64 p.src, .int .i64 p.dst, .int .i64 p.proto, .int .i64 p.a, .int .i64 p.b, .int .i64 p.kind, .int .i64 p.flags, .int .i64 p.seq, .int .i64 p.ack, .string p.body] 30)).alloc (.cells #[.int .i64 0, .int .i64 0, .int .i64 0, .int .i64 0, .int .i64 0, .int .i64 0, .int .i64 0, .int .i64 0, .int .i64 0, .string ⟨#[]⟩, .int .i64 0] 32)).heap[w.heap.size + 1]? = some (.cells #[.int .i64 0, .int .i64 0, .int .i64 0, .int .i64 0, .int .i64 0, .int .i64 0, .int .i64 0, .int .i64 0, .int .i64 0, .string ⟨#[]⟩, .int .i64 0] 32) := by
    have := heap_newG (w.alloc (.cells #[.int .i64 p.src, .int .i64 p.dst, .int .i64 p.proto, .int .i64 p.a, .int .i64 p.b, .int .i64 p.kind, .int .i64 p.flags, .int .i64 p.seq, .int .i64 p.ack, .string p.body] 30)) (.cells #[.int .i64 0, .int .i64 0, .int .i64 0, .int .i64 0, .int .i64 0, .int .i64 0, .int .i64 0, .int .i64 0, .int .i64 0, .string ⟨#[]⟩, .int .i64 0] 32)
    simpa using this
  have HG := hidS hG0
  have hL := hidS (((Below.refl w.heap.size w).alloc (Nat.le_refl _) (.cells #[.int .i64 p.src, .int .i64 p.dst, .int .i64 p.proto, .int .i64 p.a, .int .i64 p.b, .int .i64 p.kind, .int .i64 p.flags, .int .i64 p.seq, .int .i64 p.ack, .string p.body] 30)).alloc (by simp) (.cells #[.int .i64 0, .int .i64 0, .int .i64 0, .int .i64 0, .int .i64 0, .int .i64 0, .int .i64 0, .int .i64 0, .int .i64 0, .string ⟨#[]⟩, .int .i64 0] 32))
  clear hR hCO hG0
  go_enter Tryd.func15, Tryd.ntmps15
  go_wp2_with fail
  refine (HR.out _ hL.out).mono ?_
  rintro _ w1 ⟨rfl, hb1⟩
  have hL1 := hidS (hL.out.trans (hb1.mono hL.out.size))
  have hG1 := hidS (blk_later HG.out hb1)
  clear hb1 hL HG HR
  go_wp2_with fail
  refine (packAns_x q err c _ (fun W hW => HCO.out W (hL1.out.trans (hW.mono hL1.out.size)))).mono ?_
  rintro _ w2 ⟨rfl, hb2⟩
  have hL2 := hidS (hL1.out.trans (hb2.mono hL1.out.size))
  have hG2 := blk_later hG1.out hb2
  clear hb2 hL1 hG1 HCO
  have c0 := blk_cell hG2
  have f0 := blk_free hG2
  clear hG2
  go_wp2_with fail
  refine bodyPost_ret (v := .agg #[.int .i64 q.src, .int .i64 q.dst, .int .i64 q.proto, .int .i64 q.a, .int .i64 q.b, .int .i64 q.kind, .int .i64 q.flags, .int .i64 q.seq, .int .i64 q.ack, .string q.body, .int .i64 (c)]) (by simp [results, Tryd.results15, go_sem, *]) rfl ⟨rfl, ?_⟩
  repeat (refine below_at ?_ (by omega))
  exact hL2.out

/-- the place of a part's check, and of its counts -/
def placeK (proto : Int) : Nat := if proto = 6 then 36 else if proto = 17 then 26 else 22
def placeL (proto : Int) : List Nat := if proto = 17 then [2, 24] else [2]
theorem partAll (p : Pk) : ∃ v, (∀ W, Calls Tryd.prog 52 #[.agg #[.int .i64 p.src, .int .i64 p.dst, .int .i64 p.proto, .int .i64 p.a, .int .i64 p.b, .int .i64 p.kind, .int .i64 p.flags, .int .i64 p.seq, .int .i64 p.ack, .string p.body]] W fun e w' => e = .returned v ∧ Below W.heap.size W w') ∧ (∀ W, Calls Tryd.prog 53 #[v] W fun e w' => Counts W.heap.size (placeL p.proto) e w' ∧ Below W.heap.size W w') ∧ (∀ W, Calls Tryd.prog 54 #[v] W fun e w' => e = .returned (.int .i64 (placeK p.proto : Int)) ∧ Below W.heap.size W w') := by
  by_cases h6 : p.proto = 6
  · have e : placeK p.proto = 36 := by unfold placeK; rw [if_pos h6]
    have e2 : placeL p.proto = [2] := by unfold placeL; rw [if_neg (by omega)]
    rw [e, e2]; exact ⟨_, fun W => partOf_tcp p W h6, fun W => countsAt_tcp _ W, fun W => checkAt_tcp _ W⟩
  by_cases h17 : p.proto = 17
  · have e : placeK p.proto = 26 := by unfold placeK; rw [if_neg h6, if_pos h17]
    have e2 : placeL p.proto = [2, 24] := by unfold placeL; rw [if_pos h17]
    rw [e, e2]; exact ⟨_, fun W => partOf_udp p W h17, fun W => countsAt_udp _ W, fun W => checkAt_udp _ W⟩
  have e : placeK p.proto = 22 := by unfold placeK; rw [if_neg h6, if_neg h17]
  have e2 : placeL p.proto = [2] := by unfold placeL; rw [if_neg h17]
  rw [e, e2]
  by_cases h1 : p.proto = 1
  · by_cases h3 : p.kind = 3
    · exact ⟨_, fun W => partOf_err p W h1 h3, fun W => countsAt_err _ W, fun W => checkAt_err _ W⟩
    · exact ⟨_, fun W => partOf_echo p W h1 h3, fun W => countsAt_echo _ W, fun W => checkAt_echo _ W⟩
  · exact ⟨_, fun W => partOf_none p W h6 h17 h1, fun W => countsAt_none W, fun W => checkAt_none W⟩
theorem err_body {p : Pk} (h : rightB p = true) (h1 : p.proto = 1) (h3 : p.kind = 3) : 28 ≤ p.body.size := by
  unfold rightB pingB at h
  rw [if_neg (by omega), if_neg (by omega), if_pos h1, if_pos h3] at h
  simp only [Bool.and_eq_true, decide_eq_true_eq] at h
  exact h.2.2.2
theorem placeK_le (n : Int) : placeK n ≤ 100 := by unfold placeK; split; omega; split <;> omega
theorem placeL_le (n : Int) : (placeL n).length ≤ 2 ∧ ∀ j ∈ placeL n, j ≤ 100 := by unfold placeL; split <;> simp
theorem scan_bodyI (s : ByteArray) : (scanPk s).body.size ≤ s.size := by
  unfold scanPk scanOf
  split
  · simp; omega
  · split
    · simp; omega
    · split
      · simp; omega
      · exact Nat.zero_le _

theorem implInner_any {aF aS aY aM : Addr} (p : Pk) (w : World) (hs : p.body.size ≤ maxLen) (hS : Sent aF aS aY aM w) :
    Calls Tryd.prog 15 #[.agg #[.int .i64 p.src, .int .i64 p.dst, .int .i64 p.proto, .int .i64 p.a, .int .i64 p.b, .int .i64 p.kind, .int .i64 p.flags, .int .i64 p.seq, .int .i64 p.ack, .string p.body]] w fun e w' => e = .returned (.agg #[.int .i64 (innerP p).src, .int .i64 (innerP p).dst, .int .i64 (innerP p).proto, .int .i64 (innerP p).a, .int .i64 (innerP p).b, .int .i64 (innerP p).kind, .int .i64 (innerP p).flags, .int .i64 (innerP p).seq, .int .i64 (innerP p).ack, .string (innerP p).body, .int .i64 (innerC p)]) ∧ Below w.heap.size w w' := by
  cases hE : errK p
  · have e1 : innerC p = 1 := if_pos hE
    have e2 : innerP p = zeroPk := if_neg (by rw [e1]; decide)
    rw [e1, e2]
    have hE' : (rightB p && (p.proto == 1 && p.kind == 3)) = false := by rw [← Bool.and_assoc]; exact hE
    exact implInner_gen p w zeroPk _ 1 (fun W hW => innerI_form p W hs (hS.later hW) hE') (fun W hW => codeOf_errForm W (hS.later hW))
  have hE0 := hE
  unfold errK at hE0
  rw [Bool.and_assoc, Bool.and_eq_true] at hE0
  obtain ⟨hr, hi⟩ := hE0
  have hi' := hi
  rw [Bool.and_eq_true, beq_iff_eq, beq_iff_eq] at hi'
  have h28 := err_body hr hi'.1 hi'.2
  obtain ⟨t, ht⟩ : ∃ t, t = p.body.extract 0 28 := ⟨_, rfl⟩
  have htz : t.size = 28 := by rw [ht, ByteArray.size_extract]; omega
  have eC : innerC p = if okI t (innerPk t) = false then 3 else 0 := by unfold innerC; rw [if_neg (by rw [hE]; simp), ← ht]
  have eP : innerP p = if innerC p = 0 then innerPk t else zeroPk := by unfold innerP; rw [← ht]
  obtain ⟨v, hPT, hCN, hCA⟩ := partAll (scanPk t)
  have hsb := scan_bodyI t
  have hbd : (scanPk t).body.size ≤ maxLen := by unfold maxLen; omega
  obtain ⟨hl1, hl2⟩ := placeL_le (scanPk t).proto
  have e0 : (⟨#[]⟩ : ByteArray).size = 0 := rfl
  have hba : (bytesAns (scanPk t)).size ≤ 8000 := by
    cases hr : rightB (scanPk t)
    · have : bytesAns (scanPk t) = ⟨#[]⟩ := if_neg (by rw [hr]; simp)
      rw [this, e0]; omega
    · rw [bytesAns_of hr]; have := bytesOf_sm (fine_of hr); omega
  have short : rightB (scanPk t) = false → okI t (innerPk t) = false → Calls Tryd.prog 15 #[.agg #[.int .i64 p.src, .int .i64 p.dst, .int .i64 p.proto, .int .i64 p.a, .int .i64 p.b, .int .i64 p.kind, .int .i64 p.flags, .int .i64 p.seq, .int .i64 p.ack, .string p.body]] w fun e w' => e = .returned (.agg #[.int .i64 (innerP p).src, .int .i64 (innerP p).dst, .int .i64 (innerP p).proto, .int .i64 (innerP p).a, .int .i64 (innerP p).b, .int .i64 (innerP p).kind, .int .i64 (innerP p).flags, .int .i64 (innerP p).seq, .int .i64 (innerP p).ack, .string (innerP p).body, .int .i64 (innerC p)]) ∧ Below w.heap.size w w' := by
    intro hn ho
    have e1 : innerC p = 3 := by rw [eC, if_pos ho]
    have e2 : innerP p = zeroPk := by rw [eP, if_neg (by rw [e1]; decide)]
    rw [e1, e2]
    have hz : bytesAns (scanPk t) = ⟨#[]⟩ := if_neg (by rw [hn]; simp)
    exact implInner_gen p w zeroPk _ 3 (fun W hW => innerI_short p (scanPk t) t v _ _ W hs (hS.later hW) hr hi h28 ht htz rfl (placeK_le _) hl1 hl2 hba hbd hPT hCN hCA (by rw [hz, e0]; omega)) (fun W hW => codeOf_errSyntax W (hS.later hW))
  have okno : ∀ y : Pk, rightB y = false → okI t y = false := fun y hy => by unfold okI; rw [hy]; rfl
  by_cases hp : byteN t 9 = 6 ∨ byteN t 9 = 17 ∨ byteN t 9 = 1
  · have hsc := scan_inner t htz hp
    cases hrx : rightB (innerPk t)
    · exact short (by rw [hsc]; exact hrx) (okno _ hrx)
    · have hpr := (inner_src t).2.2
      have hEQ : (putAll (twoT 0).data.toList ((bytesAns (scanPk t)).extract 0 28).data.toList (placeL (scanPk t).proto ++ [10, placeK (scanPk t).proto]) == putAll (twoT 0).data.toList t.data.toList (placeL (scanPk t).proto ++ [10, placeK (scanPk t).proto])) = okI t (innerPk t) := by
        rw [hsc, bytesAns_of hrx, hpr]
        rcases hp with h6 | h17 | h1
        · rw [h6]; exact inner_tcp t htz h6 hrx
        · rw [h17]; exact inner_udp t htz h17 hrx
        · rw [h1]; exact inner_echo t htz h1 hrx
      have hu : 28 ≤ (bytesAns (scanPk t)).size := by rw [hsc, bytesAns_of hrx]; exact bytesOf_28 (fine_of hrx)
      cases ho : okI t (innerPk t)
      · have e1 : innerC p = 3 := by rw [eC, if_pos ho]
        have e2 : innerP p = zeroPk := by rw [eP, if_neg (by rw [e1]; decide)]
        rw [e1, e2]
        exact implInner_gen p w zeroPk _ 3 (fun W hW => innerI_syntax p (scanPk t) t v _ _ W hs (hS.later hW) hr hi h28 ht htz rfl (placeK_le _) hl1 hl2 hba hbd hPT hCN hCA hu (hEQ.trans ho)) (fun W hW => codeOf_errSyntax W (hS.later hW))
      · have e1 : innerC p = 0 := by rw [eC, if_neg (by rw [ho]; simp)]
        have e2 : innerP p = scanPk t := by rw [eP, if_pos e1, hsc]
        rw [e1, e2]
        exact implInner_gen p w (scanPk t) _ 0 (fun W hW => innerI_ok p (scanPk t) t v _ _ W hs (hS.later hW) hr hi h28 ht htz rfl (placeK_le _) hl1 hl2 hba hbd hPT hCN hCA hu (hEQ.trans ho)) (fun W hW => codeOf_nil W (hS.later hW))
  · have g6 : byteN t 9 ≠ 6 := fun h => hp (.inl h)
    have g17 : byteN t 9 ≠ 17 := fun h => hp (.inr (.inl h))
    have g1 : byteN t 9 ≠ 1 := fun h => hp (.inr (.inr h))
    have hpr := (inner_src t).2.2
    exact short (right_none _ (by rw [scan_proto]; omega) (by rw [scan_proto]; omega) (by rw [scan_proto]; omega)) (okno _ (right_none _ (by rw [hpr]; omega) (by rw [hpr]; omega) (by rw [hpr]; omega)))
end Go.Proofs.YthfhbmiddillbagDoor
end

section
namespace Go.Proofs.YthfhbmiddillbagDoor
open Go.ChangeShapes Go.WideShapes Go.ChangeAt Go.RowKit
set_option linter.unusedVariables false

theorem sent_one {P : Program} {n nm : String} {text : List UInt8} {r : List (String × DataW Unit)} {W : World} {g : Nat} {ti tp te ts : TypeId} {ms : Array (String × TypeId)} {f : Field}
    (h : laidMet P ((n, .iface nm (.ptr (.agg [.lit (.string text)]))) :: r) W)
    (hg : P.globalNamed n = some g) (ht : (P.globals[g]?).map (·.type) = some ti) (hi : P.underlying ti = some (.interface ms)) (hrow : ∀ u, P.typeName? 3 u = some nm → u = tp)
    (hp : P.underlying tp = some (.pointer te)) (he : P.underlying te = some (.struct #[f])) (hft : f.type = ts) (hfo : f.offset = 0) (hs : P.underlying ts = some .string) (hc : P.cellsOf te = 1) (hcs : P.cellsOf ts = 1) :
    ∃ (a : Addr) (s : ByteArray), W.cell? ⟨g, 0, none⟩ = some (.iface tp (.pointer (some a))) ∧ W.cell? a = some (.string s) ∧ s.data.toList = text ∧ ErrAt a W := by
  obtain ⟨ps, ⟨g0, t0, cs0, f0, p0, q0, hg0, ht0, hv0, hd0, _, e0⟩, _, hrows⟩ := h
  obtain rfl := Option.some.inj (hg.symm.trans hg0)
  obtain rfl := Option.some.inj (ht.symm.trans ht0)
  subst e0
  obtain ⟨l0⟩ := cs0
  have ok0 : ∀ u v, l0 = [.iface u v] → Value.okWide P W .any 0 u v := fun u v e => by
    subst e
    exact (hrows g 0 (by simp [MemPlace.row])).2 u v (by simpa using World.var?_cell hg0 hv0 0)
  obtain ⟨a0, s0, rfl, hc0, hs0, hz0, hp0⟩ := errorString_of_trod hi hrow hp he hft hfo hs hc hcs hd0 ok0
  subst hp0
  exact ⟨a0, s0, by simpa using World.var?_cell hg0 hv0 0, hc0, hs0, (hrows a0.block a0.off (by simp [MemPlace.row])).1⟩
theorem sent_ne {W : World} {a b : Addr} {s t : ByteArray} {l m : List UInt8} (ha : W.cell? a = some (.string s)) (hs : s.data.toList = l) (hb : W.cell? b = some (.string t)) (ht : t.data.toList = m) (h : l ≠ m) : a ≠ b := by
  rintro rfl
  rw [ha] at hb
  injection hb with hb
  injection hb with hb
  subst hb
  exact h (hs.symm.trans ht)
theorem star_err : "*" ++ "errors.errorString" = "*errors.errorString" := by decide
theorem row_err (u : TypeId) (h : Tryd.prog.typeName? 3 u = some "*errors.errorString") : u = 134 :=
  typeName_ptr_named (nm := "errors.errorString") (by rw [star_err]; kernel_rfl) (by kernel_rfl) (by decide) u (by rw [star_err]; exact h)
theorem cells_es : Tryd.prog.cellsOf 136 = 1 := by kernel_rfl
theorem cells_st : Tryd.prog.cellsOf 9 = 1 := by kernel_rfl

theorem sents_of {W : World} (h : laidMet Tryd.prog [("loop.example/g00542/impl.errForm", Rows.laid_loop_example_g00542_impl_errForm), ("loop.example/g00542/impl.errShort", Rows.laid_loop_example_g00542_impl_errShort), ("loop.example/g00542/impl.errSyntax", Rows.laid_loop_example_g00542_impl_errSyntax), ("loop.example/g00542/impl.errSum", Rows.laid_loop_example_g00542_impl_errSum)] W) :
    ∃ aF aS aY aM, Sent aF aS aY aM W := by
  have h2 := h.tail
  have h3 := h2.tail
  have h4 := h3.tail
  obtain ⟨aF, sF, cF, dF, tF, bF⟩ := sent_one h (show Tryd.prog.globalNamed "loop.example/g00542/impl.errForm" = some 0 by kernel_rfl) (show (Tryd.prog.globals[0]?).map (·.type) = some 45 by kernel_rfl) Tryd.underlying45 row_err Tryd.underlying134 Tryd.underlying136 rfl rfl Tryd.underlying9 cells_es cells_st
  obtain ⟨aS, sS, cS, dS, tS, bS⟩ := sent_one h2 (show Tryd.prog.globalNamed "loop.example/g00542/impl.errShort" = some 2 by kernel_rfl) (show (Tryd.prog.globals[2]?).map (·.type) = some 45 by kernel_rfl) Tryd.underlying45 row_err Tryd.underlying134 Tryd.underlying136 rfl rfl Tryd.underlying9 cells_es cells_st
  obtain ⟨aY, sY, cY, dY, tY, bY⟩ := sent_one h3 (show Tryd.prog.globalNamed "loop.example/g00542/impl.errSyntax" = some 1 by kernel_rfl) (show (Tryd.prog.globals[1]?).map (·.type) = some 45 by kernel_rfl) Tryd.underlying45 row_err Tryd.underlying134 Tryd.underlying136 rfl rfl Tryd.underlying9 cells_es cells_st
  obtain ⟨aM, sM, cM, dM, tM, bM⟩ := sent_one h4 (show Tryd.prog.globalNamed "loop.example/g00542/impl.errSum" = some 3 by kernel_rfl) (show (Tryd.prog.globals[3]?).map (·.type) = some 45 by kernel_rfl) Tryd.underlying45 row_err Tryd.underlying134 Tryd.underlying136 rfl rfl Tryd.underlying9 cells_es cells_st
  exact ⟨aF, aS, aY, aM, cF, cS, cY, cM, bF, bS, bY, bM, sent_ne dF tF dS tS (by decide), sent_ne dF tF dY tY (by decide), sent_ne dF tF dM tM (by decide), sent_ne dS tS dY tY (by decide), sent_ne dS tS dM tM (by decide), sent_ne dY tY dM tM (by decide)⟩
end Go.Proofs.YthfhbmiddillbagDoor
end

section
namespace Go.Proofs.YthfhbmiddillbagDoor
open Go.ChangeShapes Go.WideShapes Go.ChangeAt Go.RowKit
set_option linter.unusedVariables false

theorem szPacket_any (p : Pk) (n : Nat) (w : World) (hn : n ≤ 1048576) (hs : p.body.size ≤ maxLen) :
    Calls Tryd.prog 9 #[.agg #[.int .i64 p.src, .int .i64 p.dst, .int .i64 p.proto, .int .i64 p.a, .int .i64 p.b, .int .i64 p.kind, .int .i64 p.flags, .int .i64 p.seq, .int .i64 p.ack, .string p.body], .int .i64 (n : Int)] w fun e w' => e = .returned (.int .i64 (if (n : Int) < (p.body.size : Int) then -1 else (n : Int) - (p.body.size : Int))) ∧ Below w.heap.size w w' := by
  have hs' : p.body.size ≤ 2 ^ 63 - 1 := hs
  have HB := fun o => hidS ((Below.refl w.heap.size w).alloc (Nat.le_refl _) o)
  by_cases h : (n : Int) < (p.body.size : Int)
  · rw [if_pos h]
    have h' : (n : Int) - (p.body.size : Int) < 0 := by omega
    go_enter Tryd.func9, Tryd.ntmps9
    go_wp2
    go_ret
    exact ⟨rfl, (HB _).out⟩
  · rw [if_neg h]
    have h' : ¬ (n : Int) - (p.body.size : Int) < 0 := by omega
    go_enter Tryd.func9, Tryd.ntmps9
    go_wp2
    go_ret
    exact ⟨rfl, (HB _).out⟩

theorem szPacket_big (p : Pk) (w : World) (hs : p.body.size ≤ maxLen) (h : 1048576 < p.body.size) :
    Calls Tryd.prog 9 #[.agg #[.int .i64 p.src, .int .i64 p.dst, .int .i64 p.proto, .int .i64 p.a, .int .i64 p.b, .int .i64 p.kind, .int .i64 p.flags, .int .i64 p.seq, .int .i64 p.ack, .string p.body], .int .i64 1048576] w fun e w' => e = .returned (.int .i64 (-1)) ∧ Below w.heap.size w w' := by
  have := szPacket_any p 1048576 w (by omega) hs
  rw [if_pos (by omega)] at this
  exact this
theorem szPacket_ok (p : Pk) (w : World) (hs : p.body.size ≤ maxLen) (h : ¬ 1048576 < p.body.size) :
    Calls Tryd.prog 9 #[.agg #[.int .i64 p.src, .int .i64 p.dst, .int .i64 p.proto, .int .i64 p.a, .int .i64 p.b, .int .i64 p.kind, .int .i64 p.flags, .int .i64 p.seq, .int .i64 p.ack, .string p.body], .int .i64 1048576] w fun e w' => e = .returned (.int .i64 (1048576 - (p.body.size : Int))) ∧ Below w.heap.size w w' := by
  have := szPacket_any p 1048576 w (by omega) hs
  rw [if_neg (by omega)] at this
  exact this

set_option maxHeartbeats 1000000 in
theorem toPacket_any (p : Pk) (w : World) :
    Calls Tryd.prog 11 #[.agg #[.int .i64 p.src, .int .i64 p.dst, .int .i64 p.proto, .int .i64 p.a, .int .i64 p.b, .int .i64 p.kind, .int .i64 p.flags, .int .i64 p.seq, .int .i64 p.ack, .string p.body]] w fun e w' => e = .returned (.agg #[.int .i64 p.src, .int .i64 p.dst, .int .i64 p.proto, .int .i64 p.a, .int .i64 p.b, .int .i64 p.kind, .int .i64 p.flags, .int .i64 p.seq, .int .i64 p.ack, .string p.body]) ∧ Below w.heap.size w w' := by
  go_enter Tryd.func11, Tryd.ntmps11
  go_wp2
  go_returns
  exact ⟨rfl, by go_grown⟩

end Go.Proofs.YthfhbmiddillbagDoor
end

section
namespace Go.Proofs.YthfhbmiddillbagDoor
open Go.ChangeShapes Go.WideShapes Go.ChangeAt Go.RowKit
set_option linter.unusedVariables false

set_option maxHeartbeats 1000000 in
theorem eqPacket_same (p : Pk) (w : World) :
    Calls Tryd.prog 26 #[.agg #[.int .i64 p.src, .int .i64 p.dst, .int .i64 p.proto, .int .i64 p.a, .int .i64 p.b, .int .i64 p.kind, .int .i64 p.flags, .int .i64 p.seq, .int .i64 p.ack, .string p.body], .agg #[.int .i64 p.src, .int .i64 p.dst, .int .i64 p.proto, .int .i64 p.a, .int .i64 p.b, .int .i64 p.kind, .int .i64 p.flags, .int .i64 p.seq, .int .i64 p.ack, .string p.body]] w fun e w' => e = .returned (.bool true) ∧ Below w.heap.size w w' := by
  go_enter Tryd.func26, Tryd.ntmps26
  go_wp2
  go_ret
  exact ⟨rfl, by go_grown⟩
set_option maxHeartbeats 1000000 in
theorem eqPacketOut_same (p : Pk) (c : Int) (w : World) :
    Calls Tryd.prog 13 #[.agg #[.int .i64 p.src, .int .i64 p.dst, .int .i64 p.proto, .int .i64 p.a, .int .i64 p.b, .int .i64 p.kind, .int .i64 p.flags, .int .i64 p.seq, .int .i64 p.ack, .string p.body, .int .i64 (c)], .agg #[.int .i64 p.src, .int .i64 p.dst, .int .i64 p.proto, .int .i64 p.a, .int .i64 p.b, .int .i64 p.kind, .int .i64 p.flags, .int .i64 p.seq, .int .i64 p.ack, .string p.body, .int .i64 (c)]] w fun e w' => e = .returned (.bool true) ∧ Below w.heap.size w w' := by
  have h1 : ((w.alloc (.cells #[.int .i64 p.src, .int .i64 p.dst, .int .i64 p.proto, .int .i64 p.a, .int .i64 p.b, .int .i64 p.kind, .int .i64 p.flags, .int .i64 p.seq, .int .i64 p.ack, .string p.body, .int .i64 c] 32)).alloc (.cells #[.int .i64 p.src, .int .i64 p.dst, .int .i64 p.proto, .int .i64 p.a, .int .i64 p.b, .int .i64 p.kind, .int .i64 p.flags, .int .i64 p.seq, .int .i64 p.ack, .string p.body, .int .i64 c] 32)).heap[w.heap.size]? = some (.cells #[.int .i64 p.src, .int .i64 p.dst, .int .i64 p.proto, .int .i64 p.a, .int .i64 p.b, .int .i64 p.kind, .int .i64 p.flags, .int .i64 p.seq, .int .i64 p.ack, .string p.body, .int .i64 c] 32) := blk_alloc (heap_newG w (.cells #[.int .i64 p.src, .int .i64 p.dst, .int .i64 p.proto, .int .i64 p.a, .int .i64 p.b, .int .i64 p.kind, .int .i64 p.flags, .int .i64 p.seq, .int .i64 p.ack, .string p.body, .int .i64 c] 32)) (.cells #[.int .i64 p.src, .int .i64 p.dst, .int .i64 p.proto, .int .i64 p.a, .int .i64 p.b, .int .i64 p.kind, .int .i64 p.flags, .int .i64 p.seq, .int .i64 p.ack, .string p.body, .int .i64 c] 32)
  have h2 : ((w.alloc (.cells #[.int .i64 p.src, .int .i64 p.dst, .int .i64 p.proto, .int .i64 p.a, .int .i64 p.b, .int .i64 p.kind, .int .i64 p.flags, .int .i64 p.seq, .int .i64 p.ack, .string p.body, .int .i64 c] 32)).alloc (.cells #[.int .i64 p.src, .int .i64 p.dst, .int .i64 p.proto, .int .i64 p.a, .int .i64 p.b, .int .i64 p.kind, .int .i64 p.flags, .int .i64 p.seq, .int .i64 p.ack, .string p.body, .int .i64 c] 32)).heap[w.heap.size + 1]? = some (.cells #[.int .i64 p.src, .int .i64 p.dst, .int .i64 p.proto, .int .i64 p.a, .int .i64 p.b, .int .i64 p.kind, .int .i64 p.flags, .int .i64 p.seq, .int .i64 p.ack, .string p.body, .int .i64 c] 32) := by
    have := heap_newG (w.alloc (.cells #[.int .i64 p.src, .int .i64 p.dst, .int .i64 p.proto, .int .i64 p.a, .int .i64 p.b, .int .i64 p.kind, .int .i64 p.flags, .int .i64 p.seq, .int .i64 p.ack, .string p.body, .int .i64 c] 32)) (.cells #[.int .i64 p.src, .int .i64 p.dst, .int .i64 p.proto, .int .i64 p.a, .int .i64 p.b, .int .i64 p.kind, .int .i64 p.flags, .int .i64 p.seq, .int .i64 p.ack, .string p.body, .int .i64 c] 32)
    simpa using this
  have hL := hidS (((Below.refl w.heap.size w).alloc (Nat.le_refl _) (.cells #[.int .i64 p.src, .int .i64 p.dst, .int .i64 p.proto, .int .i64 p.a, .int .i64 p.b, .int .i64 p.kind, .int .i64 p.flags, .int .i64 p.seq, .int .i64 p.ack, .string p.body, .int .i64 c] 32)).alloc (by simp) (.cells #[.int .i64 p.src, .int .i64 p.dst, .int .i64 p.proto, .int .i64 p.a, .int .i64 p.b, .int .i64 p.kind, .int .i64 p.flags, .int .i64 p.seq, .int .i64 p.ack, .string p.body, .int .i64 c] 32))
  go_enter Tryd.func13, Tryd.ntmps13
  go_wp2_with fail
  generalize (w.alloc (.cells #[.int .i64 p.src, .int .i64 p.dst, .int .i64 p.proto, .int .i64 p.a, .int .i64 p.b, .int .i64 p.kind, .int .i64 p.flags, .int .i64 p.seq, .int .i64 p.ack, .string p.body, .int .i64 c] 32)).alloc (.cells #[.int .i64 p.src, .int .i64 p.dst, .int .i64 p.proto, .int .i64 p.a, .int .i64 p.b, .int .i64 p.kind, .int .i64 p.flags, .int .i64 p.seq, .int .i64 p.ack, .string p.body, .int .i64 c] 32) = w1 at h1 h2 hL ⊢
  refine (eqPacket_same p _).mono ?_
  rintro _ w2 ⟨rfl, hb2⟩
  have k1 := blk_cell (blk_later h1 hb2) 10
  have k2 := blk_cell (blk_later h2 hb2) 10
  simp at k1 k2
  have hE := hidS (hL.out.trans (hb2.mono hL.out.size))
  clear h1 h2 hL hb2
  go_wp2
  go_ret
  exact ⟨rfl, hE.out⟩
end Go.Proofs.YthfhbmiddillbagDoor
end

section
namespace Go.Proofs.YthfhbmiddillbagDoor
open Go.ChangeShapes Go.WideShapes Go.ChangeAt Go.RowKit
set_option linter.unusedVariables false
set_option maxRecDepth 100000

theorem list_of_packet (l : List Value) (h : l.length = 10) : ∃ c0 c1 c2 c3 c4 c5 c6 c7 c8 c9 : Value, l = [c0, c1, c2, c3, c4, c5, c6, c7, c8, c9] := by
  match l, h with
  | [c0, c1, c2, c3, c4, c5, c6, c7, c8, c9], _ => exact ⟨c0, c1, c2, c3, c4, c5, c6, c7, c8, c9, rfl⟩

theorem open_packet {H : Type} {enc : TypeId × Value → H} {w : World} {base b0 : Nat} {sp : Nat → Bool} {held : Bool} {r : Reach} {v : Value} {d : DataW H} {ps : List MemPlace}
    (hval : Value.okWide Tryd.prog w r b0 28 v) (h : DataW.Trod enc Tryd.prog w base sp held 28 v d ps) :
    ∃ (a0 : Int) (a1 : Int) (a2 : Int) (a3 : Int) (a4 : Int) (a5 : Int) (a6 : Int) (a7 : Int) (a8 : Int) (s9 : ByteArray), v = .agg #[.int .i64 a0, .int .i64 a1, .int .i64 a2, .int .i64 a3, .int .i64 a4, .int .i64 a5, .int .i64 a6, .int .i64 a7, .int .i64 a8, .string s9] ∧ (Lit.int .i64 a0).wf = true ∧ (Lit.int .i64 a1).wf = true ∧ (Lit.int .i64 a2).wf = true ∧ (Lit.int .i64 a3).wf = true ∧ (Lit.int .i64 a4).wf = true ∧ (Lit.int .i64 a5).wf = true ∧ (Lit.int .i64 a6).wf = true ∧ (Lit.int .i64 a7).wf = true ∧ (Lit.int .i64 a8).wf = true ∧ s9.size ≤ maxLen := by
  obtain ⟨cs, rfl, hsz⟩ := okWide_struct Tryd.underlying28 hval
  obtain ⟨fuel, hf⟩ := h
  obtain ⟨xs, n, rfl, _, hl, hx, hall⟩ := DataW.trod_struct Tryd.underlying28 hf
  have hc : Tryd.prog.cellsOf 28 = 10 := by kernel_rfl
  have hci : Tryd.prog.cellsOf 2 = 1 := by kernel_rfl
  have hcs : Tryd.prog.cellsOf 9 = 1 := by kernel_rfl
  obtain ⟨l⟩ := cs
  rw [hc] at hsz
  obtain ⟨c0, c1, c2, c3, c4, c5, c6, c7, c8, c9, rfl⟩ := list_of_packet l hsz
  clear hl hf hval
  have hX : ∀ i, i < 10 → ∃ x, xs[i]? = some x := fun i hi => ⟨xs[i]'(by rw [hx]; exact hi), List.getElem?_eq_getElem _⟩
  have t0 : DataW.trod enc Tryd.prog w base sp held n 2 [c0] = xs[0]? := by
    have g : DataW.trod enc Tryd.prog w base sp held n 2 (List.take (Tryd.prog.cellsOf 2) (List.drop 0 [c0, c1, c2, c3, c4, c5, c6, c7, c8, c9])) = xs[0]? := hall 0 _ rfl
    rw [hci] at g
    exact g
  obtain ⟨x0, e0⟩ := hX 0 (by omega)
  rw [e0] at t0
  obtain ⟨a0, q0, _, w0⟩ := DataW.trod_int Tryd.underlying2 t0
  obtain rfl : c0 = .int .i64 a0 := by simpa using q0
  have t1 : DataW.trod enc Tryd.prog w base sp held n 2 [c1] = xs[1]? := by
    have g : DataW.trod enc Tryd.prog w base sp held n 2 (List.take (Tryd.prog.cellsOf 2) (List.drop 1 [.int .i64 a0, c1, c2, c3, c4, c5, c6, c7, c8, c9])) = xs[1]? := hall 1 _ rfl
    rw [hci] at g
    exact g
  obtain ⟨x1, e1⟩ := hX 1 (by omega)
  rw [e1] at t1
  obtain ⟨a1, q1, _, w1⟩ := DataW.trod_int Tryd.underlying2 t1
  obtain rfl : c1 = .int .i64 a1 := by simpa using q1
  have t2 : DataW.trod enc Tryd.prog w base sp held n 2 [c2] = xs[2]? := by
    have g : DataW.trod enc Tryd.prog w base sp held n 2 (List.take (Tryd.prog.cellsOf 2) (List.drop 2 [.int .i64 a0, .int .i64 a1, c2, c3, c4, c5, c6, c7, c8, c9])) = xs[2]? := hall 2 _ rfl
    rw [hci] at g
    exact g
  obtain ⟨x2, e2⟩ := hX 2 (by omega)
  rw [e2] at t2
  obtain ⟨a2, q2, _, w2⟩ := DataW.trod_int Tryd.underlying2 t2
  obtain rfl : c2 = .int .i64 a2 := by simpa using q2
  have t3 : DataW.trod enc Tryd.prog w base sp held n 2 [c3] = xs[3]? := by
    have g : DataW.trod enc Tryd.prog w base sp held n 2 (List.take (Tryd.prog.cellsOf 2) (List.drop 3 [.int .i64 a0, .int .i64 a1, .int .i64 a2, c3, c4, c5, c6, c7, c8, c9])) = xs[3]? := hall 3 _ rfl
    rw [hci] at g
    exact g
  obtain ⟨x3, e3⟩ := hX 3 (by omega)
  rw [e3] at t3
  obtain ⟨a3, q3, _, w3⟩ := DataW.trod_int Tryd.underlying2 t3
  obtain rfl : c3 = .int .i64 a3 := by simpa using q3
  have t4 : DataW.trod enc Tryd.prog w base sp held n 2 [c4] = xs[4]? := by
    have g : DataW.trod enc Tryd.prog w base sp held n 2 (List.take (Tryd.prog.cellsOf 2) (List.drop 4 [.int .i64 a0, .int .i64 a1, .int .i64 a2, .int .i64 a3, c4, c5, c6, c7, c8, c9])) = xs[4]? := hall 4 _ rfl
    rw [hci] at g
    exact g
  obtain ⟨x4, e4⟩ := hX 4 (by omega)
  rw [e4] at t4
  obtain ⟨a4, q4, _, w4⟩ := DataW.trod_int Tryd.underlying2 t4
  obtain rfl : c4 = .int .i64 a4 := by simpa using q4
  have t5 : DataW.trod enc Tryd.prog w base sp held n 2 [c5] = xs[5]? := by
    have g : DataW.trod enc Tryd.prog w base sp held n 2 (List.take (Tryd.prog.cellsOf 2) (List.drop 5 [.int .i64 a0, .int .i64 a1, .int .i64 a2, .int .i64 a3, .int .i64 a4, c5, c6, c7, c8, c9])) = xs[5]? := hall 5 _ rfl
    rw [hci] at g
    exact g
  obtain ⟨x5, e5⟩ := hX 5 (by omega)
  rw [e5] at t5
  obtain ⟨a5, q5, _, w5⟩ := DataW.trod_int Tryd.underlying2 t5
  obtain rfl : c5 = .int .i64 a5 := by simpa using q5
  have t6 : DataW.trod enc Tryd.prog w base sp held n 2 [c6] = xs[6]? := by
    have g : DataW.trod enc Tryd.prog w base sp held n 2 (List.take (Tryd.prog.cellsOf 2) (List.drop 6 [.int .i64 a0, .int .i64 a1, .int .i64 a2, .int .i64 a3, .int .i64 a4, .int .i64 a5, c6, c7, c8, c9])) = xs[6]? := hall 6 _ rfl
    rw [hci] at g
    exact g
  obtain ⟨x6, e6⟩ := hX 6 (by omega)
  rw [e6] at t6
  obtain ⟨a6, q6, _, w6⟩ := DataW.trod_int Tryd.underlying2 t6
  obtain rfl : c6 = .int .i64 a6 := by simpa using q6
  have t7 : DataW.trod enc Tryd.prog w base sp held n 2 [c7] = xs[7]? := by
    have g : DataW.trod enc Tryd.prog w base sp held n 2 (List.take (Tryd.prog.cellsOf 2) (List.drop 7 [.int .i64 a0, .int .i64 a1, .int .i64 a2, .int .i64 a3, .int .i64 a4, .int .i64 a5, .int .i64 a6, c7, c8, c9])) = xs[7]? := hall 7 _ rfl
    rw [hci] at g
    exact g
  obtain ⟨x7, e7⟩ := hX 7 (by omega)
  rw [e7] at t7
  obtain ⟨a7, q7, _, w7⟩ := DataW.trod_int Tryd.underlying2 t7
  obtain rfl : c7 = .int .i64 a7 := by simpa using q7
  have t8 : DataW.trod enc Tryd.prog w base sp held n 2 [c8] = xs[8]? := by
    have g : DataW.trod enc Tryd.prog w base sp held n 2 (List.take (Tryd.prog.cellsOf 2) (List.drop 8 [.int .i64 a0, .int .i64 a1, .int .i64 a2, .int .i64 a3, .int .i64 a4, .int .i64 a5, .int .i64 a6, .int .i64 a7, c8, c9])) = xs[8]? := hall 8 _ rfl
    rw [hci] at g
    exact g
  obtain ⟨x8, e8⟩ := hX 8 (by omega)
  rw [e8] at t8
  obtain ⟨a8, q8, _, w8⟩ := DataW.trod_int Tryd.underlying2 t8
  obtain rfl : c8 = .int .i64 a8 := by simpa using q8
  have t9 : DataW.trod enc Tryd.prog w base sp held n 9 [c9] = xs[9]? := by
    have g : DataW.trod enc Tryd.prog w base sp held n 9 (List.take (Tryd.prog.cellsOf 9) (List.drop 9 [.int .i64 a0, .int .i64 a1, .int .i64 a2, .int .i64 a3, .int .i64 a4, .int .i64 a5, .int .i64 a6, .int .i64 a7, .int .i64 a8, c9])) = xs[9]? := hall 9 _ rfl
    rw [hcs] at g
    exact g
  obtain ⟨x9, e9⟩ := hX 9 (by omega)
  rw [e9] at t9
  obtain ⟨s9, q9, _, w9⟩ := DataW.trod_string Tryd.underlying9 t9
  obtain rfl : c9 = .string s9 := by simpa using q9
  exact ⟨a0, a1, a2, a3, a4, a5, a6, a7, a8, s9, rfl, w0, w1, w2, w3, w4, w5, w6, w7, w8, w9⟩
end Go.Proofs.YthfhbmiddillbagDoor
end
