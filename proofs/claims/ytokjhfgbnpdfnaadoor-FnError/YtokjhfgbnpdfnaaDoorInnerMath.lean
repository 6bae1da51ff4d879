/- Proved here: nothing of a program: what is scanned of the first 28 bytes of a packet is of whom they speak, and they are those of that packet but for its counts and checks just where it is so told. -/
import Derived.Test.YtokjhfgbnpdfnaaDoorAll22
import Derived.Test.YtokjhfgbnpdfnaaDoorInnerSpec
import Derived.Test.YtokjhfgbnpdfnaaDoorAll33
namespace Go.Proofs.YtokjhfgbnpdfnaaDoor
open Go.ChangeShapes Go.WideShapes Go.ChangeAt Go.RowKit
set_option linter.unusedVariables false
set_option maxRecDepth 100000

/-- a byte of a text -/
def bt (t : ByteArray) (k : Nat) : UInt8 := t.data.toList.getD k 0
theorem byteN_bt (t : ByteArray) (k : Nat) : byteN t k = (bt t k).toNat := byteN_list t k
theorem two_word (t : ByteArray) (k : Nat) : (twoT (word2 t k)).data.toList = [bt t k, bt t (k + 1)] := by
  have h1 := (bt t k).toNat_lt
  have h2 := (bt t (k + 1)).toNat_lt
  rw [two_list]
  unfold word2
  rw [byteN_bt, byteN_bt, show (256 * (bt t k).toNat + (bt t (k + 1)).toNat) / 256 = (bt t k).toNat by omega, show (256 * (bt t k).toNat + (bt t (k + 1)).toNat) % 256 = (bt t (k + 1)).toNat by omega]
  simp
theorem four_word (t : ByteArray) (k : Nat) : (fourT (word4 t k)).data.toList = [bt t k, bt t (k + 1), bt t (k + 2), bt t (k + 3)] := by
  have h := word2_lt t (k + 2)
  have h0 := word2_lt t k
  unfold fourT word4
  rw [show (65536 * word2 t k + word2 t (k + 2)) / 65536 = word2 t k by omega, show (65536 * word2 t k + word2 t (k + 2)) % 65536 = word2 t (k + 2) by omega, ByteArray.data_append, Array.toList_append, two_word, two_word]
  rfl
theorem list28 (l : List UInt8) (h : l.length = 28) : l = [l.getD 0 0, l.getD 1 0, l.getD 2 0, l.getD 3 0, l.getD 4 0, l.getD 5 0, l.getD 6 0, l.getD 7 0, l.getD 8 0, l.getD 9 0, l.getD 10 0, l.getD 11 0, l.getD 12 0, l.getD 13 0, l.getD 14 0, l.getD 15 0, l.getD 16 0, l.getD 17 0, l.getD 18 0, l.getD 19 0, l.getD 20 0, l.getD 21 0, l.getD 22 0, l.getD 23 0, l.getD 24 0, l.getD 25 0, l.getD 26 0, l.getD 27 0] := by
  match l, h with
  | [b0, b1, b2, b3, b4, b5, b6, b7, b8, b9, b10, b11, b12, b13, b14, b15, b16, b17, b18, b19, b20, b21, b22, b23, b24, b25, b26, b27], _ => rfl
theorem bt_list (t : ByteArray) (h : t.size = 28) : t.data.toList = [bt t 0, bt t 1, bt t 2, bt t 3, bt t 4, bt t 5, bt t 6, bt t 7, bt t 8, bt t 9, bt t 10, bt t 11, bt t 12, bt t 13, bt t 14, bt t 15, bt t 16, bt t 17, bt t 18, bt t 19, bt t 20, bt t 21, bt t 22, bt t 23, bt t 24, bt t 25, bt t 26, bt t 27] := list28 _ (by simpa using h)
theorem bt_out (t : ByteArray) (k : Nat) (h : t.size ≤ k) : byteN t k = 0 := byteN_out (by omega)

theorem scan_inner (t : ByteArray) (h : t.size = 28) (hp : byteN t 9 = 6 ∨ byteN t 9 = 17 ∨ byteN t 9 = 1) : scanPk t = innerPk t := by
  have e8 : (t.extract 20 t.size).extract (min 8 (t.extract 20 t.size).size) (t.extract 20 t.size).size = ⟨#[]⟩ := by
    rw [body_ext t 20 8 (by omega)]
    apply ByteArray.ext
    apply Array.toList_inj.1
    rw [ext_list, h]; simp
  have e20 : (t.extract 20 t.size).extract (min 20 (t.extract 20 t.size).size) (t.extract 20 t.size).size = ⟨#[]⟩ := by
    have hz : (t.extract 20 t.size).size = 8 := by simp; omega
    apply ByteArray.ext
    apply Array.toList_inj.1
    rw [ext_list, hz]; simp
  unfold scanPk scanOf innerPk
  simp only [numN_one, numN_two, numN_four, byteN_ext, word2_ext, word4_ext, e8, e20]
  rcases hp with h6 | h17 | h1
  · rw [if_pos h6, if_pos h6, h6]
    have z33 : byteN t (20 + 13) = 0 := bt_out t _ (by omega)
    have z28 : word4 t (20 + 8) = 0 := by unfold word4 word2; rw [bt_out t _ (by omega), bt_out t _ (by omega), bt_out t _ (by omega), bt_out t _ (by omega)]
    rw [z33, z28]; rfl
  · rw [if_neg (by omega), if_pos h17, if_neg (by omega), if_neg (by omega), h17]; rfl
  · rw [if_neg (by omega), if_neg (by omega), if_pos h1, if_neg (by omega), if_pos h1, h1]; rfl
theorem inner_src (t : ByteArray) : (innerPk t).src = (word4 t 12 : Int) ∧ (innerPk t).dst = (word4 t 16 : Int) ∧ (innerPk t).proto = (byteN t 9 : Int) := by
  unfold innerPk; split
  · exact ⟨rfl, rfl, rfl⟩
  · split <;> exact ⟨rfl, rfl, rfl⟩
theorem head_inner (t : ByteArray) (n : Nat) (c : Int) : (headT (innerPk t) n c).data.toList = [69, 0] ++ (twoT (20 + (n : Int)).toNat).data.toList ++ [0, 0, 0, 0, 64, bt t 9] ++ (twoT c.toNat).data.toList ++ [bt t 12, bt t 13, bt t 14, bt t 15] ++ [bt t 16, bt t 17, bt t 18, bt t 19] := by
  obtain ⟨e1, e2, e3⟩ := inner_src t
  rw [head_list, e1, e2, e3]
  have : UInt8.ofNat ((byteN t 9 : Int)).toNat = bt t 9 := by rw [byteN_bt]; simp
  rw [this, Int.toNat_natCast, Int.toNat_natCast, four_word, four_word]

theorem put_tcp (h1 h2 c1 c2 b0 b1 b2 b3 b4 b5 b6 b7 b8 b9 b10 b11 b12 b13 b14 b15 b16 b17 b18 b19 b20 b21 b22 b23 b24 b25 b26 b27 : UInt8) : putAll [0, 0] [69, 0, h1, h2, 0, 0, 0, 0, 64, b9, c1, c2, b12, b13, b14, b15, b16, b17, b18, b19, b20, b21, b22, b23, b24, b25, b26, b27] [2, 10, 36] = putAll [0, 0] [b0, b1, b2, b3, b4, b5, b6, b7, b8, b9, b10, b11, b12, b13, b14, b15, b16, b17, b18, b19, b20, b21, b22, b23, b24, b25, b26, b27] [2, 10, 36] ↔ (69 = b0 ∧ 0 = b1 ∧ 0 = b4 ∧ 0 = b5 ∧ 0 = b6 ∧ 0 = b7 ∧ 64 = b8) := by
  simp [putAll, putAt, over]
theorem put_udp (h1 h2 c1 c2 m1 m2 d1 d2 b0 b1 b2 b3 b4 b5 b6 b7 b8 b9 b10 b11 b12 b13 b14 b15 b16 b17 b18 b19 b20 b21 b22 b23 b24 b25 b26 b27 : UInt8) : putAll [0, 0] [69, 0, h1, h2, 0, 0, 0, 0, 64, b9, c1, c2, b12, b13, b14, b15, b16, b17, b18, b19, b20, b21, b22, b23, m1, m2, d1, d2] [2, 24, 10, 26] = putAll [0, 0] [b0, b1, b2, b3, b4, b5, b6, b7, b8, b9, b10, b11, b12, b13, b14, b15, b16, b17, b18, b19, b20, b21, b22, b23, b24, b25, b26, b27] [2, 24, 10, 26] ↔ (69 = b0 ∧ 0 = b1 ∧ 0 = b4 ∧ 0 = b5 ∧ 0 = b6 ∧ 0 = b7 ∧ 64 = b8) := by
  simp [putAll, putAt, over]
theorem put_echo (h1 h2 c1 c2 d1 d2 b0 b1 b2 b3 b4 b5 b6 b7 b8 b9 b10 b11 b12 b13 b14 b15 b16 b17 b18 b19 b20 b21 b22 b23 b24 b25 b26 b27 : UInt8) : putAll [0, 0] [69, 0, h1, h2, 0, 0, 0, 0, 64, b9, c1, c2, b12, b13, b14, b15, b16, b17, b18, b19, b20, 0, d1, d2, b24, b25, b26, b27] [2, 10, 22] = putAll [0, 0] [b0, b1, b2, b3, b4, b5, b6, b7, b8, b9, b10, b11, b12, b13, b14, b15, b16, b17, b18, b19, b20, b21, b22, b23, b24, b25, b26, b27] [2, 10, 22] ↔ (69 = b0 ∧ 0 = b1 ∧ 0 = b4 ∧ 0 = b5 ∧ 0 = b6 ∧ 0 = b7 ∧ 64 = b8 ∧ 0 = b21) := by
  simp [putAll, putAt, over]

theorem bytes_28 (x : Pk) : ((bytesOf x).extract 0 28).data.toList = (headT x (tailT x (checkT x).toNat).size (checkAns (headT x (tailT x (checkT x).toNat).size 0))).data.toList ++ (tailT x (checkT x).toNat).data.toList.take 8 := by
  rw [ext_list]
  unfold bytesOf
  rw [ByteArray.data_append, Array.toList_append, List.drop_zero, List.take_append, head_len, List.take_of_length_le (by rw [head_len]; omega)]
theorem ok_lists (t : ByteArray) (h : t.size = 28) : (t.extract 0 2).toList = [bt t 0, bt t 1] ∧ ((headT (innerPk t) 0 0).extract 0 2).toList = [69, 0] ∧ (t.extract 4 10).toList = [bt t 4, bt t 5, bt t 6, bt t 7, bt t 8, bt t 9] ∧ ((headT (innerPk t) 0 0).extract 4 10).toList = [0, 0, 0, 0, 64, bt t 9] := by
  refine ⟨?_, ?_, ?_, ?_⟩
  · rw [ByteArray.toList_eq, ext_list, bt_list t h]; rfl
  · rw [ByteArray.toList_eq, ext_list, head_inner, two_list, two_list]; rfl
  · rw [ByteArray.toList_eq, ext_list, bt_list t h]; rfl
  · rw [ByteArray.toList_eq, ext_list, head_inner, two_list, two_list]; rfl
theorem inner_tcp (t : ByteArray) (h : t.size = 28) (h6 : byteN t 9 = 6) (hr : rightB (innerPk t) = true) :
    (putAll (twoT 0).data.toList ((bytesOf (innerPk t)).extract 0 28).data.toList ([2] ++ [10, 36]) == putAll (twoT 0).data.toList t.data.toList ([2] ++ [10, 36])) = okI t (innerPk t) := by
  obtain ⟨o1, o2, o3, o4⟩ := ok_lists t h
  have hx : innerPk t = ⟨word4 t 12, word4 t 16, byteN t 9, word2 t 20, word2 t 22, 0, 0, word4 t 24, 0, ⟨#[]⟩⟩ := by unfold innerPk; rw [if_pos h6]
  have hpr : (innerPk t).proto = 6 := by rw [hx, h6]; rfl
  have hta : ∀ c, (tailT (innerPk t) c).data.toList.take 8 = [bt t 20, bt t 21, bt t 22, bt t 23, bt t 24, bt t 25, bt t 26, bt t 27] := fun c => by
    unfold tailT
    rw [if_pos hpr, hx]
    simp [two_word, four_word]
  rw [bytes_28, hta, head_inner, bt_list t h, two_list, two_list]
  have hb9 : (bt t 9).toNat = 6 := by rw [← byteN_bt]; exact h6
  unfold okI
  rw [hr, o1, o2, o3, o4, hpr, Bool.eq_iff_iff, beq_iff_eq]
  refine (put_tcp _ _ _ _ (bt t 0) (bt t 1) (bt t 2) (bt t 3) (bt t 4) (bt t 5) (bt t 6) (bt t 7) (bt t 8) (bt t 9) (bt t 10) (bt t 11) (bt t 12) (bt t 13) (bt t 14) (bt t 15) (bt t 16) (bt t 17) (bt t 18) (bt t 19) (bt t 20) (bt t 21) (bt t 22) (bt t 23) (bt t 24) (bt t 25) (bt t 26) (bt t 27)).trans ?_
  simp
  grind
theorem inner_udp (t : ByteArray) (h : t.size = 28) (h17 : byteN t 9 = 17) (hr : rightB (innerPk t) = true) :
    (putAll (twoT 0).data.toList ((bytesOf (innerPk t)).extract 0 28).data.toList ([2, 24] ++ [10, 26]) == putAll (twoT 0).data.toList t.data.toList ([2, 24] ++ [10, 26])) = okI t (innerPk t) := by
  obtain ⟨o1, o2, o3, o4⟩ := ok_lists t h
  have hx : innerPk t = ⟨word4 t 12, word4 t 16, byteN t 9, word2 t 20, word2 t 22, 0, 0, 0, 0, ⟨#[]⟩⟩ := by unfold innerPk; rw [if_neg (by omega), if_neg (by omega)]
  have hpr : (innerPk t).proto = 17 := by rw [hx, h17]; rfl
  have hta : ∀ c, (tailT (innerPk t) c).data.toList.take 8 = [bt t 20, bt t 21, bt t 22, bt t 23] ++ (twoT (8 + ((innerPk t).body.size : Int)).toNat).data.toList ++ (twoT c).data.toList := fun c => by
    unfold tailT
    rw [if_neg (by omega), if_pos hpr, hx]
    simp only [ByteArray.data_append, Array.toList_append, Int.toNat_natCast, two_word]
    simp [two_list]
  rw [bytes_28, hta, head_inner, bt_list t h, two_list, two_list, two_list, two_list]
  unfold okI
  rw [hr, o1, o2, o3, o4, hpr, Bool.eq_iff_iff, beq_iff_eq]
  refine (put_udp _ _ _ _ _ _ _ _ (bt t 0) (bt t 1) (bt t 2) (bt t 3) (bt t 4) (bt t 5) (bt t 6) (bt t 7) (bt t 8) (bt t 9) (bt t 10) (bt t 11) (bt t 12) (bt t 13) (bt t 14) (bt t 15) (bt t 16) (bt t 17) (bt t 18) (bt t 19) (bt t 20) (bt t 21) (bt t 22) (bt t 23) (bt t 24) (bt t 25) (bt t 26) (bt t 27)).trans ?_
  simp
  grind
theorem inner_echo (t : ByteArray) (h : t.size = 28) (h1 : byteN t 9 = 1) (hr : rightB (innerPk t) = true) :
    (putAll (twoT 0).data.toList ((bytesOf (innerPk t)).extract 0 28).data.toList ([2] ++ [10, 22]) == putAll (twoT 0).data.toList t.data.toList ([2] ++ [10, 22])) = okI t (innerPk t) := by
  obtain ⟨o1, o2, o3, o4⟩ := ok_lists t h
  have hx : innerPk t = ⟨word4 t 12, word4 t 16, byteN t 9, word2 t 24, 0, byteN t 20, 0, word2 t 26, 0, ⟨#[]⟩⟩ := by unfold innerPk; rw [if_neg (by omega), if_pos h1]
  have hpr : (innerPk t).proto = 1 := by rw [hx, h1]; rfl
  have hk3 : (innerPk t).kind ≠ 3 := by
    intro e
    have hb : (innerPk t).body.size = 0 := by rw [hx]; rfl
    unfold rightB pingB at hr
    rw [if_neg (by omega), if_neg (by omega), if_pos hpr, if_pos e, hb] at hr
    simp at hr
  have hkd : UInt8.ofNat (innerPk t).kind.toNat = bt t 20 := by rw [hx]; show UInt8.ofNat ((byteN t 20 : Int)).toNat = _; rw [byteN_bt]; simp
  have hta : ∀ c, (tailT (innerPk t) c).data.toList.take 8 = [bt t 20, 0] ++ (twoT c).data.toList ++ [bt t 24, bt t 25, bt t 26, bt t 27] := fun c => by
    have hrow : (rowT [(innerPk t).kind, 0]).data.toList = [bt t 20, 0] := by
      show [UInt8.ofNat (innerPk t).kind.toNat, UInt8.ofNat (0 : Int).toNat] = _
      rw [hkd]; rfl
    unfold tailT
    rw [if_neg (by omega), if_neg (by omega), if_neg hk3]
    have ea : (innerPk t).a.toNat = word2 t 24 := by rw [hx]; rfl
    have eq : (innerPk t).seq.toNat = word2 t 26 := by rw [hx]; rfl
    rw [ea, eq]
    simp only [ByteArray.data_append, Array.toList_append, two_word, hrow]
    simp [two_list]
  rw [bytes_28, hta, head_inner, bt_list t h, two_list, two_list, two_list]
  have hk3' : ((innerPk t).kind == 3) = false := by simpa using hk3
  have hz : ((byteN t 21 : Int) == 0) = decide (0 = bt t 21) := by
    rw [byteN_bt, Bool.eq_iff_iff, beq_iff_eq, decide_eq_true_eq]
    constructor
    · intro e; exact (UInt8.toNat_inj.1 (by simpa using e)).symm
    · intro e; rw [← e]; rfl
  unfold okI
  rw [hr, o1, o2, o3, o4, hpr, hk3', hz, Bool.eq_iff_iff, beq_iff_eq]
  refine (put_echo _ _ _ _ _ _ (bt t 0) (bt t 1) (bt t 2) (bt t 3) (bt t 4) (bt t 5) (bt t 6) (bt t 7) (bt t 8) (bt t 9) (bt t 10) (bt t 11) (bt t 12) (bt t 13) (bt t 14) (bt t 15) (bt t 16) (bt t 17) (bt t 18) (bt t 19) (bt t 20) (bt t 21) (bt t 22) (bt t 23) (bt t 24) (bt t 25) (bt t 26) (bt t 27)).trans ?_
  simp
  grind
end Go.Proofs.YtokjhfgbnpdfnaaDoor
