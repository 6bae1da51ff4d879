/- Proved here: nothing of a program: what a right packet is, and its bytes, as plain functions. · Proved here: nothing of a program: what a right tuple is, a packet's tuple, a tuple turned round, which is ahead, as plain functions. -/
import Derived.Test.YtpcflfhblomcoaaSumMath
section
namespace Go.Proofs.Ytpcflfhblomcoaa
set_option linter.unusedVariables false

/-- a packet -/
structure Pk where
  src : Int
  dst : Int
  proto : Int
  a : Int
  b : Int
  kind : Int
  flags : Int
  seq : Int
  ack : Int
  body : ByteArray
def zeroPk : Pk := ⟨0, 0, 0, 0, 0, 0, 0, 0, 0, ⟨#[]⟩⟩
/-- an address -/
def addrB (z : Int) : Bool := decide (0 ≤ z) && decide (z ≤ 4294967295)
theorem addrB_iff {z : Int} : addrB z = true ↔ 0 ≤ z ∧ z ≤ 4294967295 := by simp [addrB]
/-- flags -/
def flagB (z : Int) : Bool := decide (0 ≤ z) && decide (z ≤ 63)
theorem flagB_iff {z : Int} : flagB z = true ↔ 0 ≤ z ∧ z ≤ 63 := by simp [flagB]
def tcpB (p : Pk) : Bool := wordB p.a && wordB p.b && decide (p.kind = 0) && flagB p.flags && addrB p.seq && addrB p.ack
def udpB (p : Pk) : Bool := wordB p.a && wordB p.b && decide (p.kind = 0) && decide (p.flags = 0) && decide (p.seq = 0) && decide (p.ack = 0)
def pingB (p : Pk) : Bool := decide (p.b = 0) && decide (p.flags = 0) && decide (p.ack = 0) &&
  (if p.kind = 3 then decide (p.a = 0) && decide (p.seq = 0) && decide (28 ≤ p.body.size) else (decide (p.kind = 8) || decide (p.kind = 0)) && wordB p.a && wordB p.seq)
/-- is it right? -/
def rightB (p : Pk) : Bool := addrB p.src && addrB p.dst && decide (p.body.size ≤ 100) &&
  (if p.proto = 6 then tcpB p else if p.proto = 17 then udpB p else if p.proto = 1 then pingB p else false)
end Go.Proofs.Ytpcflfhblomcoaa
end

section
namespace Go.Proofs.Ytpcflfhblomcoaa
set_option linter.unusedVariables false

/-- a tuple -/
structure Tp where
  proto : Int
  src : Int
  sport : Int
  dst : Int
  dport : Int
  kind : Int
def zeroTp : Tp := ⟨0, 0, 0, 0, 0, 0⟩
/-- an ask or a reply -/
def echoB (k : Int) : Bool := decide (k = 8) || decide (k = 0)
/-- is it right? -/
def rightT (t : Tp) : Bool := addrB t.src && addrB t.dst && wordB t.sport && wordB t.dport &&
  (if t.proto = 1 then echoB t.kind && decide (t.sport = t.dport) else (decide (t.proto = 6) || decide (t.proto = 17)) && decide (t.kind = 0))
/-- does it tell an error? -/
def errorB (p : Pk) : Bool := p.proto == 1 && p.kind == 3
/-- a right packet's tuple -/
def ofP (p : Pk) : Tp := ⟨p.proto, p.src, p.a, p.dst, if p.proto = 1 then p.a else p.b, p.kind⟩
def ofAns (p : Pk) : Tp := if (rightB p && !errorB p) = true then ofP p else zeroTp
/-- turned round -/
def invT (t : Tp) : Tp := ⟨t.proto, t.dst, t.dport, t.src, t.sport, if t.proto = 1 then 8 - t.kind else 0⟩
def invAns (t : Tp) : Tp := if rightT t = true then invT t else zeroTp
/-- is a ahead of b? -/
def lessT (a b : Tp) : Bool :=
  if a.proto = b.proto then if a.src = b.src then if a.sport = b.sport then if a.dst = b.dst then if a.dport = b.dport then decide (a.kind < b.kind) else decide (a.dport < b.dport) else decide (a.dst < b.dst) else decide (a.sport < b.sport) else decide (a.src < b.src) else decide (a.proto < b.proto)
def lessAns (a b : Tp) : Bool := rightT a && rightT b && lessT a b
/-- a packet with a tuple's ends -/
def withT (p : Pk) (t : Tp) : Pk := ⟨t.src, t.dst, p.proto, t.sport, if p.proto = 1 then p.b else t.dport, p.kind, p.flags, p.seq, p.ack, p.body⟩
def withB (p : Pk) (t : Tp) : Bool := rightB p && !errorB p && rightT t && decide (t.proto = p.proto) && decide (t.kind = p.kind)
end Go.Proofs.Ytpcflfhblomcoaa
end
