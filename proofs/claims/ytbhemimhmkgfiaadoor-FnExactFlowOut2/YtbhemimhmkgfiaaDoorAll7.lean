/- Proved here: nothing of a program: what a right tuple is, a packet's tuple, a tuple turned round, which is ahead, as plain functions. · Proved here: nothing of a program: what a packet's flags say, the next state, a state's life and name, as plain functions. -/
import Derived.Test.YtbhemimhmkgfiaaDoorAll3
section
namespace Go.Proofs.YtbhemimhmkgfiaaDoor
set_option linter.unusedVariables false

/-- a tuple -/
structure Tp where
  proto : Int
  src : Int
  sport : Int
  dst : Int
  dport : Int
  kind : Int
def zeroTp : Tp := ⟨0, 0, 0, 0, 0, 0⟩
/-- an ask or a reply -/
def echoB (k : Int) : Bool := decide (k = 8) || decide (k = 0)
/-- is it right? -/
def rightT (t : Tp) : Bool := addrB t.src && addrB t.dst && wordB t.sport && wordB t.dport &&
  (if t.proto = 1 then echoB t.kind && decide (t.sport = t.dport) else (decide (t.proto = 6) || decide (t.proto = 17)) && decide (t.kind = 0))
/-- does it tell an error? -/
def errorB (p : Pk) : Bool := p.proto == 1 && p.kind == 3
/-- a right packet's tuple -/
def ofP (p : Pk) : Tp := ⟨p.proto, p.src, p.a, p.dst, if p.proto = 1 then p.a else p.b, p.kind⟩
def ofAns (p : Pk) : Tp := if (rightB p && !errorB p) = true then ofP p else zeroTp
/-- turned round -/
def invT (t : Tp) : Tp := ⟨t.proto, t.dst, t.dport, t.src, t.sport, if t.proto = 1 then 8 - t.kind else 0⟩
def invAns (t : Tp) : Tp := if rightT t = true then invT t else zeroTp
/-- is a ahead of b? -/
def lessT (a b : Tp) : Bool :=
  if a.proto = b.proto then if a.src = b.src then if a.sport = b.sport then if a.dst = b.dst then if a.dport = b.dport then decide (a.kind < b.kind) else decide (a.dport < b.dport) else decide (a.dst < b.dst) else decide (a.sport < b.sport) else decide (a.src < b.src) else decide (a.proto < b.proto)
def lessAns (a b : Tp) : Bool := rightT a && rightT b && lessT a b
/-- a packet with a tuple's ends -/
def withT (p : Pk) (t : Tp) : Pk := ⟨t.src, t.dst, p.proto, t.sport, if p.proto = 1 then p.b else t.dport, p.kind, p.flags, p.seq, p.ack, p.body⟩
def withB (p : Pk) (t : Tp) : Bool := rightB p && !errorB p && rightT t && decide (t.proto = p.proto) && decide (t.kind = p.kind)
end Go.Proofs.YtbhemimhmkgfiaaDoor
end

section
namespace Go.Proofs.YtbhemimhmkgfiaaDoor
open Go.ChangeShapes Go.WideShapes Go.ChangeAt Go.RowKit
set_option linter.unusedVariables false

/-- is it a state? -/
def stB (s : Int) : Bool := decide (0 ≤ s) && decide (s ≤ 8)
theorem stB_iff {s : Int} : stB s = true ↔ 0 ≤ s ∧ s ≤ 8 := by unfold stB; simp
theorem states {s : Int} (h : stB s = true) : s = 0 ∨ s = 1 ∨ s = 2 ∨ s = 3 ∨ s = 4 ∨ s = 5 ∨ s = 6 ∨ s = 7 ∨ s = 8 := by have := stB_iff.1 h; omega
/-- what flags say -/
def signZ (f : Int) : Int := if 0 ≤ f ∧ f ≤ 63 then (if f / 4 % 2 = 1 then 5 else if f / 2 % 2 = 1 then (if f / 16 % 2 = 1 then 2 else 1) else if f % 2 = 1 then 3 else if f / 16 % 2 = 1 then 4 else 0) else -1
def ackZ (s : Int) (b : Bool) : Int := if s = 2 then (if b then 2 else 3) else if s = 3 then 3 else if s = 4 then 5 else if s = 5 then 5 else if s = 6 then 7 else if s = 7 then 7 else if s = 8 then 8 else -1
def finZ (s : Int) : Int := if s = 2 then 4 else if s = 3 then 4 else if s = 4 then 6 else if s = 5 then 6 else if s = 6 then 6 else if s = 7 then 7 else if s = 8 then 8 else -1
def synZ (s : Int) (b : Bool) : Int := if b then -1 else if s = 0 then 1 else if s = 1 then 1 else if s = 7 then 1 else if s = 8 then 1 else -1
def bothZ (s : Int) (b : Bool) : Int := if b then (if s = 1 then 2 else if s = 2 then 2 else -1) else -1
def rstZ (s : Int) : Int := if s = 0 then -1 else 8
/-- the next state -/
def nextZ (s : Int) (b : Bool) (g : Int) : Int := if stB s = true then (if g = 5 then rstZ s else if g = 1 then synZ s b else if g = 2 then bothZ s b else if g = 3 then finZ s else if g = 4 then ackZ s b else -1) else -1
def lifeZ (s : Int) : Int := if s = 0 then 0 else if s = 1 then 20 else if s = 2 then 10 else if s = 3 then 500 else if s = 4 then 20 else if s = 5 then 15 else if s = 6 then 5 else if s = 7 then 20 else if s = 8 then 2 else -1
def nameZ (s : Int) : ByteArray := if s = 0 then ⟨#[110, 111, 110, 101]⟩ else if s = 1 then ⟨#[115, 101, 110, 116]⟩ else if s = 2 then ⟨#[114, 101, 99, 118]⟩ else if s = 3 then ⟨#[111, 112, 101, 110]⟩ else if s = 4 then ⟨#[102, 105, 110]⟩ else if s = 5 then ⟨#[104, 97, 108, 102]⟩ else if s = 6 then ⟨#[108, 97, 115, 116]⟩ else if s = 7 then ⟨#[119, 97, 105, 116]⟩ else if s = 8 then ⟨#[115, 104, 117, 116]⟩ else ⟨#[]⟩
theorem life_no {s : Int} (h : stB s = false) : lifeZ s = -1 := by
  have : ¬ (0 ≤ s ∧ s ≤ 8) := fun k => by rw [stB_iff.2 k] at h; cases h
  unfold lifeZ
  iterate 9 (rw [if_neg (by omega)])
theorem name_no {s : Int} (h : stB s = false) : nameZ s = ⟨#[]⟩ := by
  have : ¬ (0 ≤ s ∧ s ≤ 8) := fun k => by rw [stB_iff.2 k] at h; cases h
  unfold nameZ
  iterate 9 (rw [if_neg (by omega)])
theorem next_no {s : Int} (b : Bool) (g : Int) (h : stB s = false) : nextZ s b g = -1 := by unfold nextZ; rw [h]; rfl
theorem next_at {s : Int} (b : Bool) (g : Int) (h : stB s = true) : nextZ s b g = if g = 5 then rstZ s else if g = 1 then synZ s b else if g = 2 then bothZ s b else if g = 3 then finZ s else if g = 4 then ackZ s b else -1 := by unfold nextZ; rw [if_pos h]
end Go.Proofs.YtbhemimhmkgfiaaDoor
end
