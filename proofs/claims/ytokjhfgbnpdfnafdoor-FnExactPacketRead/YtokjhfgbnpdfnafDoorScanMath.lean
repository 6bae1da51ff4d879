/- Proved here: nothing of a program: what is scanned of a text, byte by byte. -/
import Derived.Test.YtokjhfgbnpdfnafDoorScan
namespace Go.Proofs.YtokjhfgbnpdfnafDoor
open Go.ChangeShapes Go.WideShapes Go.ChangeAt Go.RowKit
set_option linter.unusedVariables false

theorem numN_one (s : ByteArray) (k : Nat) : numN s k 1 = byteN s k := by simp [numN]
theorem numN_two (s : ByteArray) (k : Nat) : numN s k 2 = word2 s k := by simp [numN, word2]
theorem numN_four (s : ByteArray) (k : Nat) : numN s k 4 = word4 s k := by simp [numN, word4, word2, Nat.add_assoc]; omega
theorem byteN_list (s : ByteArray) (k : Nat) : byteN s k = (s.data.toList.getD k 0).toNat := by
  unfold byteN
  rw [Array.getD_eq_getD_getElem?, List.getD_eq_getElem?_getD, Array.getElem?_toList]
theorem ext_list (s : ByteArray) (a b : Nat) : (s.extract a b).data.toList = (s.data.toList.drop a).take (b - a) := by
  rw [ByteArray.data_extract, Array.toList_extract, List.extract_eq_take_drop]
theorem byteN_ext (s : ByteArray) (a j : Nat) : byteN (s.extract a s.size) j = byteN s (a + j) := by
  rw [byteN_list, byteN_list, ext_list]
  have e : (s.data.toList.drop a).take (s.size - a) = s.data.toList.drop a := List.take_of_length_le (by simp)
  rw [e, List.getD_eq_getElem?_getD, List.getD_eq_getElem?_getD, List.getElem?_drop]
theorem word2_ext (s : ByteArray) (a j : Nat) : word2 (s.extract a s.size) j = word2 s (a + j) := by
  unfold word2; rw [byteN_ext, byteN_ext, Nat.add_assoc]
theorem word4_ext (s : ByteArray) (a j : Nat) : word4 (s.extract a s.size) j = word4 s (a + j) := by
  unfold word4; rw [word2_ext, word2_ext, Nat.add_assoc]
theorem body_ext (s : ByteArray) (a b : Nat) (h : a + b ≤ s.size) : (s.extract a s.size).extract (min b (s.extract a s.size).size) (s.extract a s.size).size = s.extract (a + b) s.size := by
  have hz : (s.extract a s.size).size = s.size - a := by simp
  rw [hz, ByteArray.extract_extract, Nat.min_eq_left (by omega), show a + (s.size - a) = s.size by omega, Nat.min_self]
theorem scan_proto (s : ByteArray) : (scanPk s).proto = (byteN s 9 : Int) := by
  unfold scanPk scanOf
  rw [numN_one]
  split
  · rename_i h; rw [h]; rfl
  · split
    · rename_i h; rw [h]; rfl
    · split
      · rename_i h; rw [h]; rfl
      · rfl
end Go.Proofs.YtokjhfgbnpdfnafDoor
