/- Proved here: two tuples held against each other as wholes are the same just if all their numbers are (no program walked). -/
import Derived.Test.YtpcflfhblomcoaaAll4
import Derived.Test.YtpcflfhblomcoaaAll10
namespace Go.Proofs.Ytpcflfhblomcoaa
open Go.ChangeShapes Go.WideShapes Go.ChangeAt Go.RowKit
set_option linter.unusedVariables false
set_option linter.unusedSimpArgs false
set_option maxRecDepth 100000

/-- are they the same? -/
def sameT (a b : Tp) : Bool := a.proto == b.proto && a.src == b.src && a.sport == b.sport && a.dst == b.dst && a.dport == b.dport && a.kind == b.kind
theorem sameT_iff {a b : Tp} : sameT a b = true ↔ a = b := by
  obtain ⟨a1, a2, a3, a4, a5, a6⟩ := a
  obtain ⟨b1, b2, b3, b4, b5, b6⟩ := b
  simp [sameT, and_assoc]
theorem eqlIn_tup (a b : Tp) (W : World) : (Op.equalIn 10000 52 (.agg #[.int .i64 a.proto, .int .i64 a.src, .int .i64 a.sport, .int .i64 a.dst, .int .i64 a.dport, .int .i64 a.kind]) (.agg #[.int .i64 b.proto, .int .i64 b.src, .int .i64 b.sport, .int .i64 b.dst, .int .i64 b.dport, .int .i64 b.kind])).run Try.prog W = .ok (sameT a b) W := by
  unfold sameT
  rw [show (10000 : Nat) = 9999 + 1 from rfl, run_equalIn_struct W 9999 52 _ _ (by kernel_rfl) (by kernel_rfl)]
  unfold Program.fieldsOf
  rw [Try.underlying52]
  have hi : ∀ (d : Nat) (x y : Int) (V : World), (Op.equalIn (d + 1) 2 (.int .i64 x) (.int .i64 y)).run Try.prog V = .ok (x == y) V := fun d x y V => run_equalIn_int V d 2 .i64 .i64 x y Try.underlying2
  rw [show (9999 : Nat) = 9998 + 1 from rfl]
  have q0 : ∀ (t : Tp) (V : World), (part 2 #[.int .i64 t.proto, .int .i64 t.src, .int .i64 t.sport, .int .i64 t.dst, .int .i64 t.dport, .int .i64 t.kind] 0).run Try.prog V = .ok (.int .i64 t.proto) V := fun _ _ => by kernel_rfl
  have q1 : ∀ (t : Tp) (V : World), (part 2 #[.int .i64 t.proto, .int .i64 t.src, .int .i64 t.sport, .int .i64 t.dst, .int .i64 t.dport, .int .i64 t.kind] 1).run Try.prog V = .ok (.int .i64 t.src) V := fun _ _ => by kernel_rfl
  have q2 : ∀ (t : Tp) (V : World), (part 2 #[.int .i64 t.proto, .int .i64 t.src, .int .i64 t.sport, .int .i64 t.dst, .int .i64 t.dport, .int .i64 t.kind] 2).run Try.prog V = .ok (.int .i64 t.sport) V := fun _ _ => by kernel_rfl
  have q3 : ∀ (t : Tp) (V : World), (part 2 #[.int .i64 t.proto, .int .i64 t.src, .int .i64 t.sport, .int .i64 t.dst, .int .i64 t.dport, .int .i64 t.kind] 3).run Try.prog V = .ok (.int .i64 t.dst) V := fun _ _ => by kernel_rfl
  have q4 : ∀ (t : Tp) (V : World), (part 2 #[.int .i64 t.proto, .int .i64 t.src, .int .i64 t.sport, .int .i64 t.dst, .int .i64 t.dport, .int .i64 t.kind] 4).run Try.prog V = .ok (.int .i64 t.dport) V := fun _ _ => by kernel_rfl
  have q5 : ∀ (t : Tp) (V : World), (part 2 #[.int .i64 t.proto, .int .i64 t.src, .int .i64 t.sport, .int .i64 t.dst, .int .i64 t.dport, .int .i64 t.kind] 5).run Try.prog V = .ok (.int .i64 t.kind) V := fun _ _ => by kernel_rfl
  generalize (9998 : Nat) = D at *
  cases h0 : (a.proto == b.proto) <;> cases h1 : (a.src == b.src) <;> cases h2 : (a.sport == b.sport) <;> cases h3 : (a.dst == b.dst) <;> cases h4 : (a.dport == b.dport) <;> cases h5 : (a.kind == b.kind) <;>
    simp only [Op.eqFields, q0, q1, q2, q3, q4, q5, hi, h0, h1, h2, h3, h4, h5, Sem.run_ite, Sem.run_bind, Result.andThen_ok, Sem.run_pure, ne_eq, String.reduceEq, not_false_eq_true, if_true, Bool.not_false, Bool.not_true, Bool.false_eq_true, if_false, Bool.and_true, Bool.and_false]
theorem eql_tup (a b : Tp) (W : World) : (binOp .eql 52 (.agg #[.int .i64 a.proto, .int .i64 a.src, .int .i64 a.sport, .int .i64 a.dst, .int .i64 a.dport, .int .i64 a.kind]) (.agg #[.int .i64 b.proto, .int .i64 b.src, .int .i64 b.sport, .int .i64 b.dst, .int .i64 b.dport, .int .i64 b.kind])).run Try.prog W = .ok (.bool (sameT a b)) W := by
  rw [run_eql_struct, eqlIn_tup]; rfl
theorem neq_tup (a b : Tp) (W : World) : (binOp .neq 52 (.agg #[.int .i64 a.proto, .int .i64 a.src, .int .i64 a.sport, .int .i64 a.dst, .int .i64 a.dport, .int .i64 a.kind]) (.agg #[.int .i64 b.proto, .int .i64 b.src, .int .i64 b.sport, .int .i64 b.dst, .int .i64 b.dport, .int .i64 b.kind])).run Try.prog W = .ok (.bool (!sameT a b)) W := by
  rw [run_neq_struct, eqlIn_tup]; rfl
end Go.Proofs.Ytpcflfhblomcoaa
