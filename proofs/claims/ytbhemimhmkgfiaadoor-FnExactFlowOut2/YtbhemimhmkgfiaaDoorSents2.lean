/- Proved here: where the four package variables read as four errors of errors.New's make with four texts, they hold four different ones (no program walked). -/
import Derived.Test.YtbhemimhmkgfiaaDoorSents
import Derived.LaidLaws
import Derived.Stop.LaidErr
import Derived.ChangeVars
namespace Go.Proofs.YtbhemimhmkgfiaaDoor
open Go.ChangeShapes Go.WideShapes Go.ChangeAt Go.RowKit
set_option linter.unusedVariables false

theorem sent_one {P : Program} {n nm : String} {text : List UInt8} {r : List (String × DataW Unit)} {W : World} {g : Nat} {ti tp te ts : TypeId} {ms : Array (String × TypeId)} {f : Field}
    (h : laidMet P ((n, .iface nm (.ptr (.agg [.lit (.string text)]))) :: r) W)
    (hg : P.globalNamed n = some g) (ht : (P.globals[g]?).map (·.type) = some ti) (hi : P.underlying ti = some (.interface ms)) (hrow : ∀ u, P.typeName? 3 u = some nm → u = tp)
    (hp : P.underlying tp = some (.pointer te)) (he : P.underlying te = some (.struct #[f])) (hft : f.type = ts) (hfo : f.offset = 0) (hs : P.underlying ts = some .string) (hc : P.cellsOf te = 1) (hcs : P.cellsOf ts = 1) :
    ∃ (a : Addr) (s : ByteArray), W.cell? ⟨g, 0, none⟩ = some (.iface tp (.pointer (some a))) ∧ W.cell? a = some (.string s) ∧ s.data.toList = text ∧ ErrAt a W := by
  obtain ⟨ps, ⟨g0, t0, cs0, f0, p0, q0, hg0, ht0, hv0, hd0, _, e0⟩, _, hrows⟩ := h
  obtain rfl := Option.some.inj (hg.symm.trans hg0)
  obtain rfl := Option.some.inj (ht.symm.trans ht0)
  subst e0
  obtain ⟨l0⟩ := cs0
  have ok0 : ∀ u v, l0 = [.iface u v] → Value.okWide P W .any 0 u v := fun u v e => by
    subst e
    exact (hrows g 0 (by simp [MemPlace.row])).2 u v (by simpa using World.var?_cell hg0 hv0 0)
  obtain ⟨a0, s0, rfl, hc0, hs0, hz0, hp0⟩ := errorString_of_trod hi hrow hp he hft hfo hs hc hcs hd0 ok0
  subst hp0
  exact ⟨a0, s0, by simpa using World.var?_cell hg0 hv0 0, hc0, hs0, (hrows a0.block a0.off (by simp [MemPlace.row])).1⟩
theorem sent_ne {W : World} {a b : Addr} {s t : ByteArray} {l m : List UInt8} (ha : W.cell? a = some (.string s)) (hs : s.data.toList = l) (hb : W.cell? b = some (.string t)) (ht : t.data.toList = m) (h : l ≠ m) : a ≠ b := by
  rintro rfl
  rw [ha] at hb
  injection hb with hb
  injection hb with hb
  subst hb
  exact h (hs.symm.trans ht)
theorem star_err : "*" ++ "errors.errorString" = "*errors.errorString" := by decide
theorem row_err (u : TypeId) (h : Tryd.prog.typeName? 3 u = some "*errors.errorString") : u = 139 :=
  typeName_ptr_named (nm := "errors.errorString") (by rw [star_err]; kernel_rfl) (by kernel_rfl) (by decide) u (by rw [star_err]; exact h)
theorem cells_es : Tryd.prog.cellsOf 162 = 1 := by kernel_rfl
theorem cells_st : Tryd.prog.cellsOf 9 = 1 := by kernel_rfl

theorem sents_more {r : List (String × DataW Unit)} {W : World} (h : laidMet Tryd.prog (("loop.example/g00542/impl.errForm", Rows.laid_loop_example_g00542_impl_errForm):: ("loop.example/g00542/impl.errShort", Rows.laid_loop_example_g00542_impl_errShort):: ("loop.example/g00542/impl.errSyntax", Rows.laid_loop_example_g00542_impl_errSyntax):: ("loop.example/g00542/impl.errSum", Rows.laid_loop_example_g00542_impl_errSum) :: r) W) :
    ∃ aF aS aY aM, Sent aF aS aY aM W := by
  have h2 := h.tail
  have h3 := h2.tail
  have h4 := h3.tail
  obtain ⟨aF, sF, cF, dF, tF, bF⟩ := sent_one h (show Tryd.prog.globalNamed "loop.example/g00542/impl.errForm" = some 0 by kernel_rfl) (show (Tryd.prog.globals[0]?).map (·.type) = some 69 by kernel_rfl) Tryd.underlying69 row_err Tryd.underlying139 Tryd.underlying162 rfl rfl Tryd.underlying9 cells_es cells_st
  obtain ⟨aS, sS, cS, dS, tS, bS⟩ := sent_one h2 (show Tryd.prog.globalNamed "loop.example/g00542/impl.errShort" = some 1 by kernel_rfl) (show (Tryd.prog.globals[1]?).map (·.type) = some 69 by kernel_rfl) Tryd.underlying69 row_err Tryd.underlying139 Tryd.underlying162 rfl rfl Tryd.underlying9 cells_es cells_st
  obtain ⟨aY, sY, cY, dY, tY, bY⟩ := sent_one h3 (show Tryd.prog.globalNamed "loop.example/g00542/impl.errSyntax" = some 2 by kernel_rfl) (show (Tryd.prog.globals[2]?).map (·.type) = some 69 by kernel_rfl) Tryd.underlying69 row_err Tryd.underlying139 Tryd.underlying162 rfl rfl Tryd.underlying9 cells_es cells_st
  obtain ⟨aM, sM, cM, dM, tM, bM⟩ := sent_one h4 (show Tryd.prog.globalNamed "loop.example/g00542/impl.errSum" = some 3 by kernel_rfl) (show (Tryd.prog.globals[3]?).map (·.type) = some 69 by kernel_rfl) Tryd.underlying69 row_err Tryd.underlying139 Tryd.underlying162 rfl rfl Tryd.underlying9 cells_es cells_st
  exact ⟨aF, aS, aY, aM, cF, cS, cY, cM, bF, bS, bY, bM, sent_ne dF tF dS tS (by decide), sent_ne dF tF dY tY (by decide), sent_ne dF tF dM tM (by decide), sent_ne dS tS dY tY (by decide), sent_ne dS tS dM tM (by decide), sent_ne dY tY dM tM (by decide)⟩
theorem sents_of {W : World} (h : laidMet Tryd.prog [("loop.example/g00542/impl.errForm", Rows.laid_loop_example_g00542_impl_errForm), ("loop.example/g00542/impl.errShort", Rows.laid_loop_example_g00542_impl_errShort), ("loop.example/g00542/impl.errSyntax", Rows.laid_loop_example_g00542_impl_errSyntax), ("loop.example/g00542/impl.errSum", Rows.laid_loop_example_g00542_impl_errSum)] W) :
    ∃ aF aS aY aM, Sent aF aS aY aM W := sents_more (r := []) h
end Go.Proofs.YtbhemimhmkgfiaaDoor
