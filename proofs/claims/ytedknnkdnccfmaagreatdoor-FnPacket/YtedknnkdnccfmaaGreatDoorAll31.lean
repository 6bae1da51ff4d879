/- Proved here: an answer of a packet held against itself as a whole is the same (no program walked). · Proved here: an answer of a number held against itself as a whole is the same (no program walked). · Proved here: impl.partOf answers what stands behind a packet's head, by its Proto; all old memory stays (no conditions). · Proved here: two cells of a new block (no program of its own). · Proved here: nothing of a program: what a right tuple is, a packet's tuple, a tuple turned round, which is ahead, as plain functions. · Proved here: impl.isEcho answers whether a Kind is an ask or a reply, and leaves memory alone (no conditions). -/
import Derived.Test.YtedknnkdnccfmaaGreatDoorAll1
import Derived.Test.YtedknnkdnccfmaaGreatDoorWords
section
namespace Go.Proofs.YtedknnkdnccfmaaGreatDoor
open Go.ChangeShapes Go.WideShapes Go.ChangeAt Go.RowKit
set_option linter.unusedVariables false
set_option linter.unusedSimpArgs false
set_option maxRecDepth 100000

theorem eqlIn_pk (d : Nat) (p : Pk) (W : World) : (Op.equalIn (d + 3) 24 (.agg #[.int .i64 p.src, .int .i64 p.dst, .int .i64 p.proto, .int .i64 p.a, .int .i64 p.b, .int .i64 p.kind, .int .i64 p.flags, .int .i64 p.seq, .int .i64 p.ack, .string p.body]) (.agg #[.int .i64 p.src, .int .i64 p.dst, .int .i64 p.proto, .int .i64 p.a, .int .i64 p.b, .int .i64 p.kind, .int .i64 p.flags, .int .i64 p.seq, .int .i64 p.ack, .string p.body])).run Tryz.prog W = .ok true W := by
  rw [show d + 3 = (d + 2) + 1 from rfl, run_equalIn_struct W (d + 2) 24 _ _ (by kernel_rfl) (by kernel_rfl)]
  unfold Program.fieldsOf
  rw [Tryz.underlying24]
  have hi : ∀ (d : Nat) (x y : Int) (V : World), (Op.equalIn (d + 1) 2 (.int .i64 x) (.int .i64 y)).run Tryz.prog V = .ok (x == y) V := fun d x y V => run_equalIn_int V d 2 .i64 .i64 x y Tryz.underlying2
  have hs : ∀ (d : Nat) (x y : ByteArray) (V : World), (Op.equalIn (d + 1) 9 (.string x) (.string y)).run Tryz.prog V = .ok (x.toList == y.toList) V := fun d x y V => run_equalIn_string V d 9 x y Tryz.underlying9
  rw [show d + 2 = (d + 1) + 1 from rfl]
  have q0 : ∀ V : World, (part 2 #[.int .i64 p.src, .int .i64 p.dst, .int .i64 p.proto, .int .i64 p.a, .int .i64 p.b, .int .i64 p.kind, .int .i64 p.flags, .int .i64 p.seq, .int .i64 p.ack, .string p.body] 0).run Tryz.prog V = .ok (.int .i64 p.src) V := fun _ => by kernel_rfl
  have q1 : ∀ V : World, (part 2 #[.int .i64 p.src, .int .i64 p.dst, .int .i64 p.proto, .int .i64 p.a, .int .i64 p.b, .int .i64 p.kind, .int .i64 p.flags, .int .i64 p.seq, .int .i64 p.ack, .string p.body] 1).run Tryz.prog V = .ok (.int .i64 p.dst) V := fun _ => by kernel_rfl
  have q2 : ∀ V : World, (part 2 #[.int .i64 p.src, .int .i64 p.dst, .int .i64 p.proto, .int .i64 p.a, .int .i64 p.b, .int .i64 p.kind, .int .i64 p.flags, .int .i64 p.seq, .int .i64 p.ack, .string p.body] 2).run Tryz.prog V = .ok (.int .i64 p.proto) V := fun _ => by kernel_rfl
  have q3 : ∀ V : World, (part 2 #[.int .i64 p.src, .int .i64 p.dst, .int .i64 p.proto, .int .i64 p.a, .int .i64 p.b, .int .i64 p.kind, .int .i64 p.flags, .int .i64 p.seq, .int .i64 p.ack, .string p.body] 3).run Tryz.prog V = .ok (.int .i64 p.a) V := fun _ => by kernel_rfl
  have q4 : ∀ V : World, (part 2 #[.int .i64 p.src, .int .i64 p.dst, .int .i64 p.proto, .int .i64 p.a, .int .i64 p.b, .int .i64 p.kind, .int .i64 p.flags, .int .i64 p.seq, .int .i64 p.ack, .string p.body] 4).run Tryz.prog V = .ok (.int .i64 p.b) V := fun _ => by kernel_rfl
  have q5 : ∀ V : World, (part 2 #[.int .i64 p.src, .int .i64 p.dst, .int .i64 p.proto, .int .i64 p.a, .int .i64 p.b, .int .i64 p.kind, .int .i64 p.flags, .int .i64 p.seq, .int .i64 p.ack, .string p.body] 5).run Tryz.prog V = .ok (.int .i64 p.kind) V := fun _ => by kernel_rfl
  have q6 : ∀ V : World, (part 2 #[.int .i64 p.src, .int .i64 p.dst, .int .i64 p.proto, .int .i64 p.a, .int .i64 p.b, .int .i64 p.kind, .int .i64 p.flags, .int .i64 p.seq, .int .i64 p.ack, .string p.body] 6).run Tryz.prog V = .ok (.int .i64 p.flags) V := fun _ => by kernel_rfl
  have q7 : ∀ V : World, (part 2 #[.int .i64 p.src, .int .i64 p.dst, .int .i64 p.proto, .int .i64 p.a, .int .i64 p.b, .int .i64 p.kind, .int .i64 p.flags, .int .i64 p.seq, .int .i64 p.ack, .string p.body] 7).run Tryz.prog V = .ok (.int .i64 p.seq) V := fun _ => by kernel_rfl
  have q8 : ∀ V : World, (part 2 #[.int .i64 p.src, .int .i64 p.dst, .int .i64 p.proto, .int .i64 p.a, .int .i64 p.b, .int .i64 p.kind, .int .i64 p.flags, .int .i64 p.seq, .int .i64 p.ack, .string p.body] 8).run Tryz.prog V = .ok (.int .i64 p.ack) V := fun _ => by kernel_rfl
  have q9 : ∀ V : World, (part 9 #[.int .i64 p.src, .int .i64 p.dst, .int .i64 p.proto, .int .i64 p.a, .int .i64 p.b, .int .i64 p.kind, .int .i64 p.flags, .int .i64 p.seq, .int .i64 p.ack, .string p.body] 9).run Tryz.prog V = .ok (.string p.body) V := fun _ => by kernel_rfl
  simp only [Op.eqFields, q0, q1, q2, q3, q4, q5, q6, q7, q8, q9, hi, hs, beq_self_eq_true, Sem.run_ite, Sem.run_bind, Result.andThen_ok, Sem.run_pure, ne_eq, String.reduceEq, not_false_eq_true, if_true, Bool.not_false, Bool.not_true, Bool.false_eq_true, if_false, Bool.and_true, Bool.and_false]
theorem eqlIn_pko (p : Pk) (c : Int) (W : World) : (Op.equalIn 10000 29 (.agg #[.int .i64 p.src, .int .i64 p.dst, .int .i64 p.proto, .int .i64 p.a, .int .i64 p.b, .int .i64 p.kind, .int .i64 p.flags, .int .i64 p.seq, .int .i64 p.ack, .string p.body, .int .i64 (c)]) (.agg #[.int .i64 p.src, .int .i64 p.dst, .int .i64 p.proto, .int .i64 p.a, .int .i64 p.b, .int .i64 p.kind, .int .i64 p.flags, .int .i64 p.seq, .int .i64 p.ack, .string p.body, .int .i64 (c)])).run Tryz.prog W = .ok true W := by
  rw [show (10000 : Nat) = 9999 + 1 from rfl, run_equalIn_struct W 9999 29 _ _ (by kernel_rfl) (by kernel_rfl)]
  unfold Program.fieldsOf
  rw [Tryz.underlying29]
  have hi : ∀ (d : Nat) (x y : Int) (V : World), (Op.equalIn (d + 1) 2 (.int .i64 x) (.int .i64 y)).run Tryz.prog V = .ok (x == y) V := fun d x y V => run_equalIn_int V d 2 .i64 .i64 x y Tryz.underlying2
  have hk := fun V => eqlIn_pk 9996 p V
  rw [show (9996 + 3 : Nat) = 9998 + 1 from rfl] at hk
  rw [show (9999 : Nat) = 9998 + 1 from rfl]
  generalize (9998 : Nat) = D at *
  have q0 : ∀ V : World, (part 24 #[.int .i64 p.src, .int .i64 p.dst, .int .i64 p.proto, .int .i64 p.a, .int .i64 p.b, .int .i64 p.kind, .int .i64 p.flags, .int .i64 p.seq, .int .i64 p.ack, .string p.body, .int .i64 c] 0).run Tryz.prog V = .ok (.agg #[.int .i64 p.src, .int .i64 p.dst, .int .i64 p.proto, .int .i64 p.a, .int .i64 p.b, .int .i64 p.kind, .int .i64 p.flags, .int .i64 p.seq, .int .i64 p.ack, .string p.body]) V := fun _ => by kernel_rfl
  have q1 : ∀ V : World, (part 2 #[.int .i64 p.src, .int .i64 p.dst, .int .i64 p.proto, .int .i64 p.a, .int .i64 p.b, .int .i64 p.kind, .int .i64 p.flags, .int .i64 p.seq, .int .i64 p.ack, .string p.body, .int .i64 c] 10).run Tryz.prog V = .ok (.int .i64 c) V := fun _ => by kernel_rfl
  simp only [Op.eqFields, q0, q1, hi, hk, beq_self_eq_true, Sem.run_ite, Sem.run_bind, Result.andThen_ok, Sem.run_pure, ne_eq, String.reduceEq, not_false_eq_true, if_true, Bool.not_false, Bool.not_true, Bool.false_eq_true, if_false, Bool.and_true, Bool.and_false]
theorem eql_pko (p : Pk) (c : Int) (W : World) : (binOp .eql 29 (.agg #[.int .i64 p.src, .int .i64 p.dst, .int .i64 p.proto, .int .i64 p.a, .int .i64 p.b, .int .i64 p.kind, .int .i64 p.flags, .int .i64 p.seq, .int .i64 p.ack, .string p.body, .int .i64 (c)]) (.agg #[.int .i64 p.src, .int .i64 p.dst, .int .i64 p.proto, .int .i64 p.a, .int .i64 p.b, .int .i64 p.kind, .int .i64 p.flags, .int .i64 p.seq, .int .i64 p.ack, .string p.body, .int .i64 (c)])).run Tryz.prog W = .ok (.bool true) W := by
  rw [run_eql_struct, eqlIn_pko]; rfl
theorem neq_pko (p : Pk) (c : Int) (W : World) : (binOp .neq 29 (.agg #[.int .i64 p.src, .int .i64 p.dst, .int .i64 p.proto, .int .i64 p.a, .int .i64 p.b, .int .i64 p.kind, .int .i64 p.flags, .int .i64 p.seq, .int .i64 p.ack, .string p.body, .int .i64 (c)]) (.agg #[.int .i64 p.src, .int .i64 p.dst, .int .i64 p.proto, .int .i64 p.a, .int .i64 p.b, .int .i64 p.kind, .int .i64 p.flags, .int .i64 p.seq, .int .i64 p.ack, .string p.body, .int .i64 (c)])).run Tryz.prog W = .ok (.bool false) W := by
  rw [run_neq_struct, eqlIn_pko]; rfl
end Go.Proofs.YtedknnkdnccfmaaGreatDoor
end

section
namespace Go.Proofs.YtedknnkdnccfmaaGreatDoor
open Go.ChangeShapes Go.WideShapes Go.ChangeAt Go.RowKit
set_option linter.unusedVariables false
set_option linter.unusedSimpArgs false
set_option maxRecDepth 100000

theorem eqlIn_num (n a c : Int) (W : World) : (Op.equalIn 10000 34 (.agg #[.int .i64 n, .int .i64 a, .int .i64 c]) (.agg #[.int .i64 n, .int .i64 a, .int .i64 c])).run Tryz.prog W = .ok true W := by
  rw [show (10000 : Nat) = 9999 + 1 from rfl, run_equalIn_struct W 9999 34 _ _ (by kernel_rfl) (by kernel_rfl)]
  unfold Program.fieldsOf
  rw [Tryz.underlying34]
  have hi : ∀ (d : Nat) (x y : Int) (V : World), (Op.equalIn (d + 1) 2 (.int .i64 x) (.int .i64 y)).run Tryz.prog V = .ok (x == y) V := fun d x y V => run_equalIn_int V d 2 .i64 .i64 x y Tryz.underlying2
  rw [show (9999 : Nat) = 9998 + 1 from rfl]
  generalize (9998 : Nat) = D at *
  have q0 : ∀ V : World, (part 2 #[.int .i64 n, .int .i64 a, .int .i64 c] 0).run Tryz.prog V = .ok (.int .i64 n) V := fun _ => by kernel_rfl
  have q1 : ∀ V : World, (part 2 #[.int .i64 n, .int .i64 a, .int .i64 c] 1).run Tryz.prog V = .ok (.int .i64 a) V := fun _ => by kernel_rfl
  have q2 : ∀ V : World, (part 2 #[.int .i64 n, .int .i64 a, .int .i64 c] 2).run Tryz.prog V = .ok (.int .i64 c) V := fun _ => by kernel_rfl
  simp only [Op.eqFields, q0, q1, q2, hi, beq_self_eq_true, Sem.run_ite, Sem.run_bind, Result.andThen_ok, Sem.run_pure, ne_eq, String.reduceEq, not_false_eq_true, if_true, Bool.not_false, Bool.not_true, Bool.false_eq_true, if_false, Bool.and_true, Bool.and_false]
theorem eql_num (n a c : Int) (W : World) : (binOp .eql 34 (.agg #[.int .i64 n, .int .i64 a, .int .i64 c]) (.agg #[.int .i64 n, .int .i64 a, .int .i64 c])).run Tryz.prog W = .ok (.bool true) W := by
  rw [run_eql_struct, eqlIn_num]; rfl
theorem neq_num (n a c : Int) (W : World) : (binOp .neq 34 (.agg #[.int .i64 n, .int .i64 a, .int .i64 c]) (.agg #[.int .i64 n, .int .i64 a, .int .i64 c])).run Tryz.prog W = .ok (.bool false) W := by
  rw [run_neq_struct, eqlIn_num]; rfl
end Go.Proofs.YtedknnkdnccfmaaGreatDoor
end

section
namespace Go.Proofs.YtedknnkdnccfmaaGreatDoor
open Go.ChangeShapes Go.WideShapes Go.ChangeAt Go.RowKit
open Go.ChangeMaps (open_string shut_string)
set_option linter.unusedVariables false

/-- what partOf answers -/
def tcpV (p : Pk) : Value := .iface 109 (.agg #[.int .i64 p.a, .int .i64 p.b, .int .i64 p.seq, .int .i64 p.ack, .int .i64 p.flags, .string p.body])
def udpV (p : Pk) : Value := .iface 111 (.agg #[.int .i64 p.a, .int .i64 p.b, .string p.body])
def errV (p : Pk) : Value := .iface 113 (.agg #[.string p.body])
def echoV (p : Pk) : Value := .iface 115 (.agg #[.int .i64 p.kind, .int .i64 p.a, .int .i64 p.seq, .string p.body])

theorem partOf_tcp (p : Pk) (w : World) (h6 : p.proto = 6) :
    Calls Tryz.prog 41 #[.agg #[.int .i64 p.src, .int .i64 p.dst, .int .i64 p.proto, .int .i64 p.a, .int .i64 p.b, .int .i64 p.kind, .int .i64 p.flags, .int .i64 p.seq, .int .i64 p.ack, .string p.body]] w fun e w' => e = .returned (tcpV p) ∧ Below w.heap.size w w' := by
  have HB := fun o => hidS ((Below.refl w.heap.size w).alloc (Nat.le_refl _) o)
  go_enter Tryz.func41, Tryz.ntmps41
  go_wp2
  go_ret
  exact ⟨rfl, (HB _).out⟩
theorem partOf_udp (p : Pk) (w : World) (h17 : p.proto = 17) :
    Calls Tryz.prog 41 #[.agg #[.int .i64 p.src, .int .i64 p.dst, .int .i64 p.proto, .int .i64 p.a, .int .i64 p.b, .int .i64 p.kind, .int .i64 p.flags, .int .i64 p.seq, .int .i64 p.ack, .string p.body]] w fun e w' => e = .returned (udpV p) ∧ Below w.heap.size w w' := by
  have HB := fun o => hidS ((Below.refl w.heap.size w).alloc (Nat.le_refl _) o)
  go_enter Tryz.func41, Tryz.ntmps41
  go_wp2
  go_ret
  exact ⟨rfl, (HB _).out⟩
theorem partOf_err (p : Pk) (w : World) (h1 : p.proto = 1) (h3 : p.kind = 3) :
    Calls Tryz.prog 41 #[.agg #[.int .i64 p.src, .int .i64 p.dst, .int .i64 p.proto, .int .i64 p.a, .int .i64 p.b, .int .i64 p.kind, .int .i64 p.flags, .int .i64 p.seq, .int .i64 p.ack, .string p.body]] w fun e w' => e = .returned (errV p) ∧ Below w.heap.size w w' := by
  have HB := fun o => hidS ((Below.refl w.heap.size w).alloc (Nat.le_refl _) o)
  go_enter Tryz.func41, Tryz.ntmps41
  go_wp2
  go_ret
  exact ⟨rfl, (HB _).out⟩
theorem partOf_echo (p : Pk) (w : World) (h1 : p.proto = 1) (h3 : p.kind ≠ 3) :
    Calls Tryz.prog 41 #[.agg #[.int .i64 p.src, .int .i64 p.dst, .int .i64 p.proto, .int .i64 p.a, .int .i64 p.b, .int .i64 p.kind, .int .i64 p.flags, .int .i64 p.seq, .int .i64 p.ack, .string p.body]] w fun e w' => e = .returned (echoV p) ∧ Below w.heap.size w w' := by
  have HB := fun o => hidS ((Below.refl w.heap.size w).alloc (Nat.le_refl _) o)
  go_enter Tryz.func41, Tryz.ntmps41
  go_wp2
  go_ret
  exact ⟨rfl, (HB _).out⟩
theorem partOf_none (p : Pk) (w : World) (h6 : p.proto ≠ 6) (h17 : p.proto ≠ 17) (h1 : p.proto ≠ 1) :
    Calls Tryz.prog 41 #[.agg #[.int .i64 p.src, .int .i64 p.dst, .int .i64 p.proto, .int .i64 p.a, .int .i64 p.b, .int .i64 p.kind, .int .i64 p.flags, .int .i64 p.seq, .int .i64 p.ack, .string p.body]] w fun e w' => e = .returned (.nilIface) ∧ Below w.heap.size w w' := by
  have HB := fun o => hidS ((Below.refl w.heap.size w).alloc (Nat.le_refl _) o)
  go_enter Tryz.func41, Tryz.ntmps41
  go_wp2
  go_ret
  exact ⟨rfl, (HB _).out⟩
end Go.Proofs.YtedknnkdnccfmaaGreatDoor
end

section
namespace Go.Proofs.YtedknnkdnccfmaaGreatDoor
open Go.ChangeShapes Go.WideShapes Go.ChangeAt Go.RowKit
set_option linter.unusedVariables false

theorem two_cells1 (W : World) (o : Obj) (a b : Int) (t : TypeId) : ∀ j, (h : j < [a, b].length) → ((W.alloc o).alloc (.cells #[.int .i64 a, .int .i64 b] t)).cell? ⟨W.heap.size + 1, j, none⟩ = some (.int .i64 [a, b][j]) := by
  have := two_cells (W.alloc o) a b t
  simpa using this
theorem two_cells2 (W : World) (o o2 : Obj) (a b : Int) (t : TypeId) : ∀ j, (h : j < [a, b].length) → (((W.alloc o).alloc o2).alloc (.cells #[.int .i64 a, .int .i64 b] t)).cell? ⟨W.heap.size + 2, j, none⟩ = some (.int .i64 [a, b][j]) := by
  have := two_cells ((W.alloc o).alloc o2) a b t
  simpa using this
end Go.Proofs.YtedknnkdnccfmaaGreatDoor
end

section
namespace Go.Proofs.YtedknnkdnccfmaaGreatDoor
set_option linter.unusedVariables false

/-- a tuple -/
structure Tp where
  proto : Int
  src : Int
  sport : Int
  dst : Int
  dport : Int
  kind : Int
def zeroTp : Tp := ⟨0, 0, 0, 0, 0, 0⟩
/-- an ask or a reply -/
def echoB (k : Int) : Bool := decide (k = 8) || decide (k = 0)
/-- is it right? -/
def rightT (t : Tp) : Bool := addrB t.src && addrB t.dst && wordB t.sport && wordB t.dport &&
  (if t.proto = 1 then echoB t.kind && decide (t.sport = t.dport) else (decide (t.proto = 6) || decide (t.proto = 17)) && decide (t.kind = 0))
/-- does it tell an error? -/
def errorB (p : Pk) : Bool := p.proto == 1 && p.kind == 3
/-- a right packet's tuple -/
def ofP (p : Pk) : Tp := ⟨p.proto, p.src, p.a, p.dst, if p.proto = 1 then p.a else p.b, p.kind⟩
def ofAns (p : Pk) : Tp := if (rightB p && !errorB p) = true then ofP p else zeroTp
/-- turned round -/
def invT (t : Tp) : Tp := ⟨t.proto, t.dst, t.dport, t.src, t.sport, if t.proto = 1 then 8 - t.kind else 0⟩
def invAns (t : Tp) : Tp := if rightT t = true then invT t else zeroTp
/-- is a ahead of b? -/
def lessT (a b : Tp) : Bool :=
  if a.proto = b.proto then if a.src = b.src then if a.sport = b.sport then if a.dst = b.dst then if a.dport = b.dport then decide (a.kind < b.kind) else decide (a.dport < b.dport) else decide (a.dst < b.dst) else decide (a.sport < b.sport) else decide (a.src < b.src) else decide (a.proto < b.proto)
def lessAns (a b : Tp) : Bool := rightT a && rightT b && lessT a b
/-- a packet with a tuple's ends -/
def withT (p : Pk) (t : Tp) : Pk := ⟨t.src, t.dst, p.proto, t.sport, if p.proto = 1 then p.b else t.dport, p.kind, p.flags, p.seq, p.ack, p.body⟩
def withB (p : Pk) (t : Tp) : Bool := rightB p && !errorB p && rightT t && decide (t.proto = p.proto) && decide (t.kind = p.kind)
end Go.Proofs.YtedknnkdnccfmaaGreatDoor
end

section
namespace Go.Proofs.YtedknnkdnccfmaaGreatDoor
open Go.ChangeShapes Go.WideShapes Go.ChangeAt Go.RowKit
set_option linter.unusedVariables false

theorem isEcho_any (k : Int) (w : World) :
    Calls Tryz.prog 76 #[.int .i64 k] w fun e w' => e = .returned (.bool (echoB k)) ∧ w' = w := by
  by_cases h8 : k = 8
  · subst h8
    go_enter Tryz.func76, Tryz.ntmps76
    go_wp2
    go_ret
    exact ⟨rfl, rfl⟩
  · have h8' : (k == 8) = false := beq_eq_false_iff_ne.2 h8
    have e : Hid (echoB k = (k == 0)) := by show _ = _; unfold echoB; rw [decide_eq_false h8]; simp [BEq.beq]
    go_enter Tryz.func76, Tryz.ntmps76
    go_wp2
    go_ret
    exact ⟨by rw [e.out]; rfl, rfl⟩
end Go.Proofs.YtedknnkdnccfmaaGreatDoor
end
