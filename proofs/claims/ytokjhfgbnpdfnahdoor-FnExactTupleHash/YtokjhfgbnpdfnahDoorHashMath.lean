/- Proved here: nothing of a program: a CRC goes on from text to text; a tuple's place by a key, as a plain function. -/
import Derived.Test.YtokjhfgbnpdfnahDoorCrcCore
import Derived.Test.YtokjhfgbnpdfnahDoorTextMath
namespace Go.Proofs.YtokjhfgbnpdfnahDoor
open Go.ChangeShapes Go.WideShapes Go.ChangeAt Go.RowKit
set_option linter.unusedVariables false
set_option maxRecDepth 100000
set_option linter.unusedSimpArgs false

theorem crcRun_app (r : Nat) (l m : List UInt8) : crcRun r (l ++ m) = crcRun (crcRun r l) m := by simp [crcRun]
theorem crcOf_app (l m : List UInt8) : crcOf (crcOf 0 l) m = crcOf 0 (l ++ m) := by
  unfold crcOf
  rw [Nat.xor_assoc, Nat.xor_self, Nat.xor_zero, crcRun_app]
theorem crc_app {t u : ByteArray} (h : t.size + u.size ≤ 8000) : crcAns (crcAns 0 t) u = crcAns 0 (t ++ u) := by
  have e1 : crcAns 0 t = ((crcOf 0 t.data.toList : Nat) : Int) := if_neg (by omega)
  have e2 : crcAns 0 (t ++ u) = ((crcOf 0 (t ++ u).data.toList : Nat) : Int) := if_neg (by rw [ByteArray.size_append]; omega)
  have hlt := crcOf_lt 0 t.data.toList (by omega)
  have e3 : crcAns ((crcOf 0 t.data.toList : Nat) : Int) u = ((crcOf ((crcOf 0 t.data.toList : Nat) : Int).toNat u.data.toList : Nat) : Int) := if_neg (by omega)
  rw [e1, e3, e2, Int.toNat_natCast, crcOf_app]
  simp [ByteArray.data_append]
def hashB (t : Tp) (k : ByteArray) (n : Int) : Bool := rightT t && decide (k.size ≤ 20) && (decide (1 ≤ n) && decide (n ≤ 64))
def hashAns (t : Tp) (k : ByteArray) (n : Int) : Int := if hashB t k n = true then (crcAns 0 (k ++ tupT t)).tmod n else -1
theorem hash_no {t : Tp} {k : ByteArray} {n : Int} (h : hashB t k n = false) : hashAns t k n = -1 := if_neg (by rw [h]; simp)
theorem hash_yes {t : Tp} {k : ByteArray} {n : Int} (h : hashB t k n = true) : hashAns t k n = (crcAns 0 (k ++ tupT t)).tmod n := if_pos h
end Go.Proofs.YtokjhfgbnpdfnahDoor
