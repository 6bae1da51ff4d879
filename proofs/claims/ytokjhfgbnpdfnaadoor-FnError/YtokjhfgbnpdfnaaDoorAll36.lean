/- Proved here: two tuples held against each other as wholes are the same just if all their numbers are (no program walked). · Proved here: impl.isError answers whether a packet tells an error; all old memory stays (no conditions). · Proved here: errors.Is of errors of errors.New's make: the same one, none, another one; nothing changes (conditions: both lie in memory as a new one does). · Proved here: impl.codeOf answers the code of each of the package's errors; nothing changes (condition: the four package variables hold four errors of errors.New's make). -/
import Derived.Test.YtokjhfgbnpdfnaaDoorAll24
import Derived.Test.YtokjhfgbnpdfnaaDoorAll1
import Derived.Test.YtokjhfgbnpdfnaaDoorAll2
import Derived.Test.YtokjhfgbnpdfnaaDoorRows
import Derived.WalkKit
import Derived.WalkSpells
import Derived.ProofKit
import Derived.LaidEql
import Derived.Stop.Asserts
import Derived.RowKitTokens
import Derived.Test.YtokjhfgbnpdfnaaDoorAll4
section
namespace Go.Proofs.YtokjhfgbnpdfnaaDoor
open Go.ChangeShapes Go.WideShapes Go.ChangeAt Go.RowKit
set_option linter.unusedVariables false
set_option linter.unusedSimpArgs false
set_option maxRecDepth 100000

/-- are they the same? -/
def sameT (a b : Tp) : Bool := a.proto == b.proto && a.src == b.src && a.sport == b.sport && a.dst == b.dst && a.dport == b.dport && a.kind == b.kind
theorem sameT_iff {a b : Tp} : sameT a b = true ↔ a = b := by
  obtain ⟨a1, a2, a3, a4, a5, a6⟩ := a
  obtain ⟨b1, b2, b3, b4, b5, b6⟩ := b
  simp [sameT, and_assoc]
theorem eqlIn_tup (a b : Tp) (W : World) : (Op.equalIn 10000 45 (.agg #[.int .i64 a.proto, .int .i64 a.src, .int .i64 a.sport, .int .i64 a.dst, .int .i64 a.dport, .int .i64 a.kind]) (.agg #[.int .i64 b.proto, .int .i64 b.src, .int .i64 b.sport, .int .i64 b.dst, .int .i64 b.dport, .int .i64 b.kind])).run Tryd.prog W = .ok (sameT a b) W := by
  unfold sameT
  rw [show (10000 : Nat) = 9999 + 1 from rfl, run_equalIn_struct W 9999 45 _ _ (by kernel_rfl) (by kernel_rfl)]
  unfold Program.fieldsOf
  rw [Tryd.underlying45]
  have hi : ∀ (d : Nat) (x y : Int) (V : World), (Op.equalIn (d + 1) 2 (.int .i64 x) (.int .i64 y)).run Tryd.prog V = .ok (x == y) V := fun d x y V => run_equalIn_int V d 2 .i64 .i64 x y Tryd.underlying2
  rw [show (9999 : Nat) = 9998 + 1 from rfl]
  have q0 : ∀ (t : Tp) (V : World), (part 2 #[.int .i64 t.proto, .int .i64 t.src, .int .i64 t.sport, .int .i64 t.dst, .int .i64 t.dport, .int .i64 t.kind] 0).run Tryd.prog V = .ok (.int .i64 t.proto) V := fun _ _ => by kernel_rfl
  have q1 : ∀ (t : Tp) (V : World), (part 2 #[.int .i64 t.proto, .int .i64 t.src, .int .i64 t.sport, .int .i64 t.dst, .int .i64 t.dport, .int .i64 t.kind] 1).run Tryd.prog V = .ok (.int .i64 t.src) V := fun _ _ => by kernel_rfl
  have q2 : ∀ (t : Tp) (V : World), (part 2 #[.int .i64 t.proto, .int .i64 t.src, .int .i64 t.sport, .int .i64 t.dst, .int .i64 t.dport, .int .i64 t.kind] 2).run Tryd.prog V = .ok (.int .i64 t.sport) V := fun _ _ => by kernel_rfl
  have q3 : ∀ (t : Tp) (V : World), (part 2 #[.int .i64 t.proto, .int .i64 t.src, .int .i64 t.sport, .int .i64 t.dst, .int .i64 t.dport, .int .i64 t.kind] 3).run Tryd.prog V = .ok (.int .i64 t.dst) V := fun _ _ => by kernel_rfl
  have q4 : ∀ (t : Tp) (V : World), (part 2 #[.int .i64 t.proto, .int .i64 t.src, .int .i64 t.sport, .int .i64 t.dst, .int .i64 t.dport, .int .i64 t.kind] 4).run Tryd.prog V = .ok (.int .i64 t.dport) V := fun _ _ => by kernel_rfl
  have q5 : ∀ (t : Tp) (V : World), (part 2 #[.int .i64 t.proto, .int .i64 t.src, .int .i64 t.sport, .int .i64 t.dst, .int .i64 t.dport, .int .i64 t.kind] 5).run Tryd.prog V = .ok (.int .i64 t.kind) V := fun _ _ => by kernel_rfl
  generalize (9998 : Nat) = D at *
  cases h0 : (a.proto == b.proto) <;> cases h1 : (a.src == b.src) <;> cases h2 : (a.sport == b.sport) <;> cases h3 : (a.dst == b.dst) <;> cases h4 : (a.dport == b.dport) <;> cases h5 : (a.kind == b.kind) <;>
    simp only [Op.eqFields, q0, q1, q2, q3, q4, q5, hi, h0, h1, h2, h3, h4, h5, Sem.run_ite, Sem.run_bind, Result.andThen_ok, Sem.run_pure, ne_eq, String.reduceEq, not_false_eq_true, if_true, Bool.not_false, Bool.not_true, Bool.false_eq_true, if_false, Bool.and_true, Bool.and_false]
theorem eql_tup (a b : Tp) (W : World) : (binOp .eql 45 (.agg #[.int .i64 a.proto, .int .i64 a.src, .int .i64 a.sport, .int .i64 a.dst, .int .i64 a.dport, .int .i64 a.kind]) (.agg #[.int .i64 b.proto, .int .i64 b.src, .int .i64 b.sport, .int .i64 b.dst, .int .i64 b.dport, .int .i64 b.kind])).run Tryd.prog W = .ok (.bool (sameT a b)) W := by
  rw [run_eql_struct, eqlIn_tup]; rfl
theorem neq_tup (a b : Tp) (W : World) : (binOp .neq 45 (.agg #[.int .i64 a.proto, .int .i64 a.src, .int .i64 a.sport, .int .i64 a.dst, .int .i64 a.dport, .int .i64 a.kind]) (.agg #[.int .i64 b.proto, .int .i64 b.src, .int .i64 b.sport, .int .i64 b.dst, .int .i64 b.dport, .int .i64 b.kind])).run Tryd.prog W = .ok (.bool (!sameT a b)) W := by
  rw [run_neq_struct, eqlIn_tup]; rfl
end Go.Proofs.YtokjhfgbnpdfnaaDoor
end

section
namespace Go.Proofs.YtokjhfgbnpdfnaaDoor
open Go.ChangeShapes Go.WideShapes Go.ChangeAt Go.RowKit
set_option linter.unusedVariables false

theorem isError_any (p : Pk) (w : World) :
    Calls Tryd.prog 46 #[.agg #[.int .i64 p.src, .int .i64 p.dst, .int .i64 p.proto, .int .i64 p.a, .int .i64 p.b, .int .i64 p.kind, .int .i64 p.flags, .int .i64 p.seq, .int .i64 p.ack, .string p.body]] w fun e w' => e = .returned (.bool (p.proto == 1 && p.kind == 3)) ∧ Below w.heap.size w w' := by
  have HB := fun o => hidS ((Below.refl w.heap.size w).alloc (Nat.le_refl _) o)
  cases h1 : (p.proto == 1)
  · go_enter Tryd.func46, Tryd.ntmps46
    go_wp2
    go_ret
    exact ⟨rfl, (HB _).out⟩
  · go_enter Tryd.func46, Tryd.ntmps46
    go_wp2
    go_ret
    exact ⟨rfl, (HB _).out⟩

end Go.Proofs.YtokjhfgbnpdfnaaDoor
end

section
namespace Go.Proofs.YtokjhfgbnpdfnaaDoor
open Go.RowKit Go.Extern.Stop Go.Stop Go.Extern
set_option linter.unusedVariables false

theorem isTypeOf (v : Value) (w : World) : (callFunc 70 #[.iface 141 v]).run Tryd.prog w = .ok (.value (.iface 105 (.agg #[typeHandle Tryd.prog 141]))) w := by kernel_rfl
theorem isComparable (w : World) : (callFunc 113 #[.agg #[typeHandle Tryd.prog 141]]).run Tryd.prog w = .ok (.value (.bool true)) w := by kernel_rfl
theorem isMethodComparable (v : Value) (w : World) : (Go.method 273 105 v "Comparable").run Tryd.prog w = .ok (113, v) w := by kernel_rfl
theorem isComp : (Tryd.prog.info? 141).map (·.comparable) = some true := by kernel_rfl
theorem isSize : (Tryd.prog.info? 161).map (·.size) = some 1 := by kernel_rfl
theorem noIsE (v : Value) (xT : TypeId) (w : World) : (Instr.typeAssert (.iface 141 v) xT 137 true).run Tryd.prog w = .ok (.tuple #[.nilIface, .bool false]) w := run_typeAssert_lacksB Tryd.underlying137 (by kernel_rfl) (by kernel_rfl) v xT w
theorem noUnwrapE (v : Value) (xT : TypeId) (w : World) : (Instr.typeAssert (.iface 141 v) xT 113 true).run Tryd.prog w = .ok (.tuple #[.nilIface, .bool false]) w := run_typeAssert_lacksB Tryd.underlying113 (by kernel_rfl) (by kernel_rfl) v xT w
theorem noUnwrapsE (v : Value) (xT : TypeId) (w : World) : (Instr.typeAssert (.iface 141 v) xT 115 true).run Tryd.prog w = .ok (.tuple #[.nilIface, .bool false]) w := run_typeAssert_lacksB Tryd.underlying115 (by kernel_rfl) (by kernel_rfl) v xT w

theorem is_same (a : Addr) (w : World) :
    Calls Tryd.prog 73 #[.iface 141 (.pointer (some a)), .iface 141 (.pointer (some a))] w fun e w' => e = .returned (.bool true) ∧ w' = w := by
  obtain ⟨i, hi, hcmp⟩ := Option.map_eq_some_iff.1 isComp
  obtain ⟨j, hj, hjs⟩ := Option.map_eq_some_iff.1 isSize
  have tT := isTypeOf
  have cT := isComparable
  have mR := isMethodComparable
  have heq := run_eql_iface_ptr_same (P := Tryd.prog) w a Tryd.underlying54 Tryd.underlying141 hi hcmp hj
  go_enter Tryd.func73, Tryd.ntmps73
  go_wp2
  refine wp_loop_rounds 1 ?_
  rw [rounds_succ]
  go_wp2
  go_ret
  exact ⟨rfl, rfl⟩

theorem is_nil (b : Addr) (w : World) :
    Calls Tryd.prog 73 #[.nilIface, .iface 141 (.pointer (some b))] w fun e w' => e = .returned (.bool false) ∧ w' = w := by
  have hn := run_eql_iface_nil_left (P := Tryd.prog) w 141 (.pointer (some b)) Tryd.underlying54
  go_enter Tryd.func73, Tryd.ntmps73
  go_wp2
  go_ret
  exact ⟨rfl, rfl⟩

theorem is_other (a b : Addr) (ca cb : Array Value) (ta tb : TypeId) (w : World) (hne : a ≠ b) (ha : w.heap[a.block]? = some (.cells ca ta (0, 0))) (hb : w.heap[b.block]? = some (.cells cb tb (0, 0))) :
    Calls Tryd.prog 73 #[.iface 141 (.pointer (some a)), .iface 141 (.pointer (some b))] w fun e w' => e = .returned (.bool false) ∧ w' = w := by
  obtain ⟨i, hi, hcmp⟩ := Option.map_eq_some_iff.1 isComp
  obtain ⟨j, hj, hjs⟩ := Option.map_eq_some_iff.1 isSize
  have tT := isTypeOf
  have cT := isComparable
  have mR := isMethodComparable
  have nE := noIsE
  have uE := noUnwrapE
  have vE := noUnwrapsE
  have heq := run_eql_iface_ptr_other (P := Tryd.prog) w Tryd.underlying54 Tryd.underlying141 hi hcmp hj (by rw [hjs]; decide) hne ha hb
  go_enter Tryd.func73, Tryd.ntmps73
  go_wp2
  refine wp_loop_rounds 1 ?_
  rw [rounds_succ]
  go_wp2
  go_ret
  exact ⟨rfl, rfl⟩
end Go.Proofs.YtokjhfgbnpdfnaaDoor
end

section
namespace Go.Proofs.YtokjhfgbnpdfnaaDoor
open Go.ChangeShapes Go.WideShapes Go.ChangeAt Go.RowKit
set_option linter.unusedVariables false
set_option maxRecDepth 100000

/-- an error of errors.New's make lies there -/
def ErrAt (a : Addr) (w : World) : Prop := ∃ c t, w.heap[a.block]? = some (.cells c t (0, 0))
theorem ErrAt.later {a : Addr} {w w' : World} (h : ErrAt a w) (hb : Below w.heap.size w w') : ErrAt a w' := by
  obtain ⟨c, t, h⟩ := h
  exact ⟨c, t, (hb.block a.block (Array.getElem?_eq_some_iff.1 h).1).trans h⟩
/-- the four package variables -/
structure Sent (aF aS aY aM : Addr) (w : World) : Prop where
  cF : w.cell? ⟨1, 0, none⟩ = some (.iface 141 (.pointer (some aF)))
  cS : w.cell? ⟨3, 0, none⟩ = some (.iface 141 (.pointer (some aS)))
  cY : w.cell? ⟨2, 0, none⟩ = some (.iface 141 (.pointer (some aY)))
  cM : w.cell? ⟨4, 0, none⟩ = some (.iface 141 (.pointer (some aM)))
  bF : ErrAt aF w
  bS : ErrAt aS w
  bY : ErrAt aY w
  bM : ErrAt aM w
  nFS : aF ≠ aS
  nFY : aF ≠ aY
  nFM : aF ≠ aM
  nSY : aS ≠ aY
  nSM : aS ≠ aM
  nYM : aY ≠ aM
theorem Sent.later {aF aS aY aM : Addr} {w w' : World} (h : Sent aF aS aY aM w) (hb : Below w.heap.size w w') : Sent aF aS aY aM w' :=
  ⟨(hb.cell (World.block_lt_of_cell? w _ h.cF)).trans h.cF, (hb.cell (World.block_lt_of_cell? w _ h.cS)).trans h.cS, (hb.cell (World.block_lt_of_cell? w _ h.cY)).trans h.cY, (hb.cell (World.block_lt_of_cell? w _ h.cM)).trans h.cM, h.bF.later hb, h.bS.later hb, h.bY.later hb, h.bM.later hb, h.nFS, h.nFY, h.nFM, h.nSY, h.nSM, h.nYM⟩
theorem codeOf_nil {aF aS aY aM : Addr} (w : World) (h : Sent aF aS aY aM w) :
    Calls Tryd.prog 54 #[.nilIface] w fun e w' => e = .returned (.int .i64 0) ∧ Below w.heap.size w w' := by
  have cF := h.cF
  have cS := h.cS
  have cY := h.cY
  have cM := h.cM
  obtain ⟨kF, tF, bF⟩ := h.bF
  obtain ⟨kS, tS, bS⟩ := h.bS
  obtain ⟨kY, tY, bY⟩ := h.bY
  obtain ⟨kM, tM, bM⟩ := h.bM
  clear h
  go_enter Tryd.func54, Tryd.ntmps54
  go_wp2_with fail
  refine (is_nil aF _).mono ?_
  rintro _ w1 ⟨rfl, rfl⟩
  go_wp2_with fail
  refine (is_nil aS _).mono ?_
  rintro _ w1 ⟨rfl, rfl⟩
  go_wp2_with fail
  refine (is_nil aY _).mono ?_
  rintro _ w1 ⟨rfl, rfl⟩
  go_wp2_with fail
  refine (is_nil aM _).mono ?_
  rintro _ w1 ⟨rfl, rfl⟩
  go_wp2_with fail
  go_ret
  exact ⟨rfl, Below.refl _ _⟩
theorem codeOf_errForm {aF aS aY aM : Addr} (w : World) (h : Sent aF aS aY aM w) :
    Calls Tryd.prog 54 #[.iface 141 (.pointer (some aF))] w fun e w' => e = .returned (.int .i64 1) ∧ Below w.heap.size w w' := by
  have cF := h.cF
  have cS := h.cS
  have cY := h.cY
  have cM := h.cM
  obtain ⟨kF, tF, bF⟩ := h.bF
  obtain ⟨kS, tS, bS⟩ := h.bS
  obtain ⟨kY, tY, bY⟩ := h.bY
  obtain ⟨kM, tM, bM⟩ := h.bM
  clear h
  go_enter Tryd.func54, Tryd.ntmps54
  go_wp2_with fail
  refine (is_same aF _).mono ?_
  rintro _ w1 ⟨rfl, rfl⟩
  go_wp2_with fail
  go_ret
  exact ⟨rfl, Below.refl _ _⟩
theorem codeOf_errShort {aF aS aY aM : Addr} (w : World) (h : Sent aF aS aY aM w) :
    Calls Tryd.prog 54 #[.iface 141 (.pointer (some aS))] w fun e w' => e = .returned (.int .i64 4) ∧ Below w.heap.size w w' := by
  have cF := h.cF
  have cS := h.cS
  have cY := h.cY
  have cM := h.cM
  obtain ⟨kF, tF, bF⟩ := h.bF
  obtain ⟨kS, tS, bS⟩ := h.bS
  obtain ⟨kY, tY, bY⟩ := h.bY
  obtain ⟨kM, tM, bM⟩ := h.bM
  have NF := hidS (h.nFS.symm)
  clear h
  go_enter Tryd.func54, Tryd.ntmps54
  go_wp2_with fail
  refine (is_other aS aF kS kF tS tF _ NF.out bS bF).mono ?_
  rintro _ w1 ⟨rfl, rfl⟩
  go_wp2_with fail
  refine (is_same aS _).mono ?_
  rintro _ w1 ⟨rfl, rfl⟩
  go_wp2_with fail
  go_ret
  exact ⟨rfl, Below.refl _ _⟩
theorem codeOf_errSyntax {aF aS aY aM : Addr} (w : World) (h : Sent aF aS aY aM w) :
    Calls Tryd.prog 54 #[.iface 141 (.pointer (some aY))] w fun e w' => e = .returned (.int .i64 3) ∧ Below w.heap.size w w' := by
  have cF := h.cF
  have cS := h.cS
  have cY := h.cY
  have cM := h.cM
  obtain ⟨kF, tF, bF⟩ := h.bF
  obtain ⟨kS, tS, bS⟩ := h.bS
  obtain ⟨kY, tY, bY⟩ := h.bY
  obtain ⟨kM, tM, bM⟩ := h.bM
  have NF := hidS (h.nFY.symm)
  have NS := hidS (h.nSY.symm)
  clear h
  go_enter Tryd.func54, Tryd.ntmps54
  go_wp2_with fail
  refine (is_other aY aF kY kF tY tF _ NF.out bY bF).mono ?_
  rintro _ w1 ⟨rfl, rfl⟩
  go_wp2_with fail
  refine (is_other aY aS kY kS tY tS _ NS.out bY bS).mono ?_
  rintro _ w1 ⟨rfl, rfl⟩
  go_wp2_with fail
  refine (is_same aY _).mono ?_
  rintro _ w1 ⟨rfl, rfl⟩
  go_wp2_with fail
  go_ret
  exact ⟨rfl, Below.refl _ _⟩
theorem codeOf_errSum {aF aS aY aM : Addr} (w : World) (h : Sent aF aS aY aM w) :
    Calls Tryd.prog 54 #[.iface 141 (.pointer (some aM))] w fun e w' => e = .returned (.int .i64 5) ∧ Below w.heap.size w w' := by
  have cF := h.cF
  have cS := h.cS
  have cY := h.cY
  have cM := h.cM
  obtain ⟨kF, tF, bF⟩ := h.bF
  obtain ⟨kS, tS, bS⟩ := h.bS
  obtain ⟨kY, tY, bY⟩ := h.bY
  obtain ⟨kM, tM, bM⟩ := h.bM
  have NF := hidS (h.nFM.symm)
  have NS := hidS (h.nSM.symm)
  have NY := hidS (h.nYM.symm)
  clear h
  go_enter Tryd.func54, Tryd.ntmps54
  go_wp2_with fail
  refine (is_other aM aF kM kF tM tF _ NF.out bM bF).mono ?_
  rintro _ w1 ⟨rfl, rfl⟩
  go_wp2_with fail
  refine (is_other aM aS kM kS tM tS _ NS.out bM bS).mono ?_
  rintro _ w1 ⟨rfl, rfl⟩
  go_wp2_with fail
  refine (is_other aM aY kM kY tM tY _ NY.out bM bY).mono ?_
  rintro _ w1 ⟨rfl, rfl⟩
  go_wp2_with fail
  refine (is_same aM _).mono ?_
  rintro _ w1 ⟨rfl, rfl⟩
  go_wp2_with fail
  go_ret
  exact ⟨rfl, Below.refl _ _⟩
end Go.Proofs.YtokjhfgbnpdfnaaDoor
end
