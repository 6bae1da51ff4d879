/- Proved here: impl.AddrRead answers the address whose text this is, or why it is none, at every text; where the library's variables read as the row lists them they hold what it asks; all old memory stays. -/
import Derived.Test.YtokjhfgbnpdfnagDoorAddrK
import Derived.Test.YtokjhfgbnpdfnagDoorSents2
import Derived.Lib.LaidTab
import Derived.Shelf.Vars
namespace Go.Proofs.YtokjhfgbnpdfnagDoor
open Go.ChangeShapes Go.WideShapes Go.ChangeAt Go.RowKit
set_option linter.unusedVariables false
set_option maxRecDepth 100000

theorem implAddrRead_any (s : ByteArray) (w : World) (hs : s.size ≤ maxLen) (hok : LibOk w) :
    Calls Tryd.prog 7 #[.string s] w fun e w' => e = .returned (.agg #[.int .i64 (readAN s), .int .i64 0, .int .i64 (readAC s)]) ∧ Below w.heap.size w w' := by
  have hs' : s.size ≤ 2 ^ 63 - 1 := hs
  by_cases h1 : 8000 < s.size
  · have e1 : readAC s = 2 := if_pos h1
    have e2 : readAN s = 0 := if_pos h1
    rw [e1, e2]
    clear e1 e2
    go_enter Tryd.func7, Tryd.ntmps7
    go_wp2
    go_returns
    exact ⟨rfl, by go_grown⟩
  · have e1 : readAC s = codeA s := if_neg h1
    have e2 : readAN s = numA s := if_neg h1
    rw [e1, e2]
    exact addrRead_in s w (by omega) hok
theorem libOk_of {W : World} (h : laidMet Tryd.prog [("math/bits.deBruijn32tab", Rows.laid_math_bits_deBruijn32tab), ("math/bits.deBruijn64tab", Rows.laid_math_bits_deBruijn64tab), ("internal/strconv.uint64pow10", Rows.laid_internal_strconv_uint64pow10), ("unicode/utf8.acceptRanges", Rows.laid_unicode_utf8_acceptRanges), ("strconv.ErrRange", Rows.laid_strconv_ErrRange), ("strconv.ErrSyntax", Rows.laid_strconv_ErrSyntax), ("unicode/utf8.first", Rows.laid_unicode_utf8_first)] W) (hsh : W.ShapedOpen Tryd.prog) : LibOk W := by
  have h3 := h.tail.tail
  have h5 := h3.tail.tail
  have h6 := h5.tail
  have e : (Rows.laid_internal_strconv_uint64pow10 : DataW Unit) = DataW.agg (Lib.pow10Tab.map fun z => DataW.lit (.int .u64 z)) := by kernel_rfl
  rw [e] at h3
  obtain ⟨aR, sR, cR, _⟩ := sent_one h5 (show Tryd.prog.globalNamed "strconv.ErrRange" = some 5 by kernel_rfl) (show (Tryd.prog.globals[5]?).map (·.type) = some 45 by kernel_rfl) Tryd.underlying45 row_err Tryd.underlying134 Tryd.underlying136 rfl rfl Tryd.underlying9 cells_es cells_st
  obtain ⟨aY, sY, cY, _⟩ := sent_one h6 (show Tryd.prog.globalNamed "strconv.ErrSyntax" = some 4 by kernel_rfl) (show (Tryd.prog.globals[4]?).map (·.type) = some 45 by kernel_rfl) Tryd.underlying45 row_err Tryd.underlying134 Tryd.underlying136 rfl rfl Tryd.underlying9 cells_es cells_st
  exact ⟨Lib.tabIs_of_head (show Tryd.prog.globalNamed "internal/strconv.uint64pow10" = some 7 by kernel_rfl) (by kernel_rfl) Tryd.underlying138 Tryd.underlying43 (by kernel_rfl) (by kernel_rfl) h3,
    Go.Proofs.cell_of_shapedOpen_int (zero := #[.int .i64 0]) (t := 3) hsh (of_decide_eq_true (by kernel_rfl)) (by kernel_rfl) rfl (by kernel_rfl) (by kernel_rfl) Tryd.underlying3, ⟨_, _, cY⟩, ⟨_, _, cR⟩⟩
end Go.Proofs.YtokjhfgbnpdfnagDoor
