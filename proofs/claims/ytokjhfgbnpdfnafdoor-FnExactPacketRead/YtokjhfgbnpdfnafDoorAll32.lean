/- Proved here: errors.Is of errors of errors.New's make: the same one, none, another one; nothing changes (conditions: both lie in memory as a new one does). · Proved here: impl.codeOf answers the code of each of the package's errors; nothing changes (condition: the four package variables hold four errors of errors.New's make). -/
import Derived.Test.YtokjhfgbnpdfnafDoorRows
import Derived.WalkKit
import Derived.WalkSpells
import Derived.ProofKit
import Derived.LaidEql
import Derived.Stop.Asserts
import Derived.RowKitTokens
import Derived.Test.YtokjhfgbnpdfnafDoorAll0
import Derived.Test.YtokjhfgbnpdfnafDoorBlk
section
namespace Go.Proofs.YtokjhfgbnpdfnafDoor
open Go.RowKit Go.Extern.Stop Go.Stop Go.Extern
set_option linter.unusedVariables false

theorem isTypeOf (v : Value) (w : World) : (callFunc 59 #[.iface 128 v]).run Tryd.prog w = .ok (.value (.iface 114 (.agg #[typeHandle Tryd.prog 128]))) w := by kernel_rfl
theorem isComparable (w : World) : (callFunc 112 #[.agg #[typeHandle Tryd.prog 128]]).run Tryd.prog w = .ok (.value (.bool true)) w := by kernel_rfl
theorem isMethodComparable (v : Value) (w : World) : (Go.method 262 114 v "Comparable").run Tryd.prog w = .ok (112, v) w := by kernel_rfl
theorem isComp : (Tryd.prog.info? 128).map (·.comparable) = some true := by kernel_rfl
theorem isSize : (Tryd.prog.info? 151).map (·.size) = some 1 := by kernel_rfl
theorem noIsE (v : Value) (xT : TypeId) (w : World) : (Instr.typeAssert (.iface 128 v) xT 116 true).run Tryd.prog w = .ok (.tuple #[.nilIface, .bool false]) w := run_typeAssert_lacksB Tryd.underlying116 (by kernel_rfl) (by kernel_rfl) v xT w
theorem noUnwrapE (v : Value) (xT : TypeId) (w : World) : (Instr.typeAssert (.iface 128 v) xT 119 true).run Tryd.prog w = .ok (.tuple #[.nilIface, .bool false]) w := run_typeAssert_lacksB Tryd.underlying119 (by kernel_rfl) (by kernel_rfl) v xT w
theorem noUnwrapsE (v : Value) (xT : TypeId) (w : World) : (Instr.typeAssert (.iface 128 v) xT 121 true).run Tryd.prog w = .ok (.tuple #[.nilIface, .bool false]) w := run_typeAssert_lacksB Tryd.underlying121 (by kernel_rfl) (by kernel_rfl) v xT w

theorem is_same (a : Addr) (w : World) :
    Calls Tryd.prog 44 #[.iface 128 (.pointer (some a)), .iface 128 (.pointer (some a))] w fun e w' => e = .returned (.bool true) ∧ w' = w := by
  obtain ⟨i, hi, hcmp⟩ := Option.map_eq_some_iff.1 isComp
  obtain ⟨j, hj, hjs⟩ := Option.map_eq_some_iff.1 isSize
  have tT := isTypeOf
  have cT := isComparable
  have mR := isMethodComparable
  have heq := run_eql_iface_ptr_same (P := Tryd.prog) w a Tryd.underlying37 Tryd.underlying128 hi hcmp hj
  go_enter Tryd.func44, Tryd.ntmps44
  go_wp2
  refine wp_loop_rounds 1 ?_
  rw [rounds_succ]
  go_wp2
  go_ret
  exact ⟨rfl, rfl⟩

theorem is_nil (b : Addr) (w : World) :
    Calls Tryd.prog 44 #[.nilIface, .iface 128 (.pointer (some b))] w fun e w' => e = .returned (.bool false) ∧ w' = w := by
  have hn := run_eql_iface_nil_left (P := Tryd.prog) w 128 (.pointer (some b)) Tryd.underlying37
  go_enter Tryd.func44, Tryd.ntmps44
  go_wp2
  go_ret
  exact ⟨rfl, rfl⟩

theorem is_other (a b : Addr) (ca cb : Array Value) (ta tb : TypeId) (w : World) (hne : a ≠ b) (ha : w.heap[a.block]? = some (.cells ca ta (0, 0))) (hb : w.heap[b.block]? = some (.cells cb tb (0, 0))) :
    Calls Tryd.prog 44 #[.iface 128 (.pointer (some a)), .iface 128 (.pointer (some b))] w fun e w' => e = .returned (.bool false) ∧ w' = w := by
  obtain ⟨i, hi, hcmp⟩ := Option.map_eq_some_iff.1 isComp
  obtain ⟨j, hj, hjs⟩ := Option.map_eq_some_iff.1 isSize
  have tT := isTypeOf
  have cT := isComparable
  have mR := isMethodComparable
  have nE := noIsE
  have uE := noUnwrapE
  have vE := noUnwrapsE
  have heq := run_eql_iface_ptr_other (P := Tryd.prog) w Tryd.underlying37 Tryd.underlying128 hi hcmp hj (by rw [hjs]; decide) hne ha hb
  go_enter Tryd.func44, Tryd.ntmps44
  go_wp2
  refine wp_loop_rounds 1 ?_
  rw [rounds_succ]
  go_wp2
  go_ret
  exact ⟨rfl, rfl⟩
end Go.Proofs.YtokjhfgbnpdfnafDoor
end

section
namespace Go.Proofs.YtokjhfgbnpdfnafDoor
open Go.ChangeShapes Go.WideShapes Go.ChangeAt Go.RowKit
set_option linter.unusedVariables false
set_option maxRecDepth 100000

/-- an error of errors.New's make lies there -/
def ErrAt (a : Addr) (w : World) : Prop := ∃ c t, w.heap[a.block]? = some (.cells c t (0, 0))
theorem ErrAt.later {a : Addr} {w w' : World} (h : ErrAt a w) (hb : Below w.heap.size w w') : ErrAt a w' := by
  obtain ⟨c, t, h⟩ := h
  exact ⟨c, t, (hb.block a.block (Array.getElem?_eq_some_iff.1 h).1).trans h⟩
/-- the four package variables -/
structure Sent (aF aS aY aM : Addr) (w : World) : Prop where
  cF : w.cell? ⟨3, 0, none⟩ = some (.iface 128 (.pointer (some aF)))
  cS : w.cell? ⟨0, 0, none⟩ = some (.iface 128 (.pointer (some aS)))
  cY : w.cell? ⟨1, 0, none⟩ = some (.iface 128 (.pointer (some aY)))
  cM : w.cell? ⟨2, 0, none⟩ = some (.iface 128 (.pointer (some aM)))
  bF : ErrAt aF w
  bS : ErrAt aS w
  bY : ErrAt aY w
  bM : ErrAt aM w
  nFS : aF ≠ aS
  nFY : aF ≠ aY
  nFM : aF ≠ aM
  nSY : aS ≠ aY
  nSM : aS ≠ aM
  nYM : aY ≠ aM
theorem Sent.later {aF aS aY aM : Addr} {w w' : World} (h : Sent aF aS aY aM w) (hb : Below w.heap.size w w') : Sent aF aS aY aM w' :=
  ⟨(hb.cell (World.block_lt_of_cell? w _ h.cF)).trans h.cF, (hb.cell (World.block_lt_of_cell? w _ h.cS)).trans h.cS, (hb.cell (World.block_lt_of_cell? w _ h.cY)).trans h.cY, (hb.cell (World.block_lt_of_cell? w _ h.cM)).trans h.cM, h.bF.later hb, h.bS.later hb, h.bY.later hb, h.bM.later hb, h.nFS, h.nFY, h.nFM, h.nSY, h.nSM, h.nYM⟩
theorem codeOf_nil {aF aS aY aM : Addr} (w : World) (h : Sent aF aS aY aM w) :
    Calls Tryd.prog 31 #[.nilIface] w fun e w' => e = .returned (.int .i64 0) ∧ Below w.heap.size w w' := by
  have cF := h.cF
  have cS := h.cS
  have cY := h.cY
  have cM := h.cM
  obtain ⟨kF, tF, bF⟩ := h.bF
  obtain ⟨kS, tS, bS⟩ := h.bS
  obtain ⟨kY, tY, bY⟩ := h.bY
  obtain ⟨kM, tM, bM⟩ := h.bM
  clear h
  go_enter Tryd.func31, Tryd.ntmps31
  go_wp2_with fail
  refine (is_nil aF _).mono ?_
  rintro _ w1 ⟨rfl, rfl⟩
  go_wp2_with fail
  refine (is_nil aS _).mono ?_
  rintro _ w1 ⟨rfl, rfl⟩
  go_wp2_with fail
  refine (is_nil aY _).mono ?_
  rintro _ w1 ⟨rfl, rfl⟩
  go_wp2_with fail
  refine (is_nil aM _).mono ?_
  rintro _ w1 ⟨rfl, rfl⟩
  go_wp2_with fail
  go_ret
  exact ⟨rfl, Below.refl _ _⟩
theorem codeOf_errForm {aF aS aY aM : Addr} (w : World) (h : Sent aF aS aY aM w) :
    Calls Tryd.prog 31 #[.iface 128 (.pointer (some aF))] w fun e w' => e = .returned (.int .i64 1) ∧ Below w.heap.size w w' := by
  have cF := h.cF
  have cS := h.cS
  have cY := h.cY
  have cM := h.cM
  obtain ⟨kF, tF, bF⟩ := h.bF
  obtain ⟨kS, tS, bS⟩ := h.bS
  obtain ⟨kY, tY, bY⟩ := h.bY
  obtain ⟨kM, tM, bM⟩ := h.bM
  clear h
  go_enter Tryd.func31, Tryd.ntmps31
  go_wp2_with fail
  refine (is_same aF _).mono ?_
  rintro _ w1 ⟨rfl, rfl⟩
  go_wp2_with fail
  go_ret
  exact ⟨rfl, Below.refl _ _⟩
theorem codeOf_errShort {aF aS aY aM : Addr} (w : World) (h : Sent aF aS aY aM w) :
    Calls Tryd.prog 31 #[.iface 128 (.pointer (some aS))] w fun e w' => e = .returned (.int .i64 4) ∧ Below w.heap.size w w' := by
  have cF := h.cF
  have cS := h.cS
  have cY := h.cY
  have cM := h.cM
  obtain ⟨kF, tF, bF⟩ := h.bF
  obtain ⟨kS, tS, bS⟩ := h.bS
  obtain ⟨kY, tY, bY⟩ := h.bY
  obtain ⟨kM, tM, bM⟩ := h.bM
  have NF := hidS (h.nFS.symm)
  clear h
  go_enter Tryd.func31, Tryd.ntmps31
  go_wp2_with fail
  refine (is_other aS aF kS kF tS tF _ NF.out bS bF).mono ?_
  rintro _ w1 ⟨rfl, rfl⟩
  go_wp2_with fail
  refine (is_same aS _).mono ?_
  rintro _ w1 ⟨rfl, rfl⟩
  go_wp2_with fail
  go_ret
  exact ⟨rfl, Below.refl _ _⟩
theorem codeOf_errSyntax {aF aS aY aM : Addr} (w : World) (h : Sent aF aS aY aM w) :
    Calls Tryd.prog 31 #[.iface 128 (.pointer (some aY))] w fun e w' => e = .returned (.int .i64 3) ∧ Below w.heap.size w w' := by
  have cF := h.cF
  have cS := h.cS
  have cY := h.cY
  have cM := h.cM
  obtain ⟨kF, tF, bF⟩ := h.bF
  obtain ⟨kS, tS, bS⟩ := h.bS
  obtain ⟨kY, tY, bY⟩ := h.bY
  obtain ⟨kM, tM, bM⟩ := h.bM
  have NF := hidS (h.nFY.symm)
  have NS := hidS (h.nSY.symm)
  clear h
  go_enter Tryd.func31, Tryd.ntmps31
  go_wp2_with fail
  refine (is_other aY aF kY kF tY tF _ NF.out bY bF).mono ?_
  rintro _ w1 ⟨rfl, rfl⟩
  go_wp2_with fail
  refine (is_other aY aS kY kS tY tS _ NS.out bY bS).mono ?_
  rintro _ w1 ⟨rfl, rfl⟩
  go_wp2_with fail
  refine (is_same aY _).mono ?_
  rintro _ w1 ⟨rfl, rfl⟩
  go_wp2_with fail
  go_ret
  exact ⟨rfl, Below.refl _ _⟩
theorem codeOf_errSum {aF aS aY aM : Addr} (w : World) (h : Sent aF aS aY aM w) :
    Calls Tryd.prog 31 #[.iface 128 (.pointer (some aM))] w fun e w' => e = .returned (.int .i64 5) ∧ Below w.heap.size w w' := by
  have cF := h.cF
  have cS := h.cS
  have cY := h.cY
  have cM := h.cM
  obtain ⟨kF, tF, bF⟩ := h.bF
  obtain ⟨kS, tS, bS⟩ := h.bS
  obtain ⟨kY, tY, bY⟩ := h.bY
  obtain ⟨kM, tM, bM⟩ := h.bM
  have NF := hidS (h.nFM.symm)
  have NS := hidS (h.nSM.symm)
  have NY := hidS (h.nYM.symm)
  clear h
  go_enter Tryd.func31, Tryd.ntmps31
  go_wp2_with fail
  refine (is_other aM aF kM kF tM tF _ NF.out bM bF).mono ?_
  rintro _ w1 ⟨rfl, rfl⟩
  go_wp2_with fail
  refine (is_other aM aS kM kS tM tS _ NS.out bM bS).mono ?_
  rintro _ w1 ⟨rfl, rfl⟩
  go_wp2_with fail
  refine (is_other aM aY kM kY tM tY _ NY.out bM bY).mono ?_
  rintro _ w1 ⟨rfl, rfl⟩
  go_wp2_with fail
  refine (is_same aM _).mono ?_
  rintro _ w1 ⟨rfl, rfl⟩
  go_wp2_with fail
  go_ret
  exact ⟨rfl, Below.refl _ _⟩
end Go.Proofs.YtokjhfgbnpdfnafDoor
end
