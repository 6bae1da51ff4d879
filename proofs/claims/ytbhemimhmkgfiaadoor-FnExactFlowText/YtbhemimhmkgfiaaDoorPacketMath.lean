/- Proved here: nothing of a program: what a right packet is, and its bytes, as plain functions. -/
import Derived.Test.YtbhemimhmkgfiaaDoorSumMath
namespace Go.Proofs.YtbhemimhmkgfiaaDoor
set_option linter.unusedVariables false

/-- a packet -/
structure Pk where
  src : Int
  dst : Int
  proto : Int
  a : Int
  b : Int
  kind : Int
  flags : Int
  seq : Int
  ack : Int
  body : ByteArray
def zeroPk : Pk := ⟨0, 0, 0, 0, 0, 0, 0, 0, 0, ⟨#[]⟩⟩
/-- an address -/
def addrB (z : Int) : Bool := decide (0 ≤ z) && decide (z ≤ 4294967295)
theorem addrB_iff {z : Int} : addrB z = true ↔ 0 ≤ z ∧ z ≤ 4294967295 := by simp [addrB]
/-- flags -/
def flagB (z : Int) : Bool := decide (0 ≤ z) && decide (z ≤ 63)
theorem flagB_iff {z : Int} : flagB z = true ↔ 0 ≤ z ∧ z ≤ 63 := by simp [flagB]
def tcpB (p : Pk) : Bool := wordB p.a && wordB p.b && decide (p.kind = 0) && flagB p.flags && addrB p.seq && addrB p.ack
def udpB (p : Pk) : Bool := wordB p.a && wordB p.b && decide (p.kind = 0) && decide (p.flags = 0) && decide (p.seq = 0) && decide (p.ack = 0)
def pingB (p : Pk) : Bool := decide (p.b = 0) && decide (p.flags = 0) && decide (p.ack = 0) &&
  (if p.kind = 3 then decide (p.a = 0) && decide (p.seq = 0) && decide (28 ≤ p.body.size) else (decide (p.kind = 8) || decide (p.kind = 0)) && wordB p.a && wordB p.seq)
/-- is it right? -/
def rightB (p : Pk) : Bool := addrB p.src && addrB p.dst && decide (p.body.size ≤ 100) &&
  (if p.proto = 6 then tcpB p else if p.proto = 17 then udpB p else if p.proto = 1 then pingB p else false)
end Go.Proofs.YtbhemimhmkgfiaaDoor
