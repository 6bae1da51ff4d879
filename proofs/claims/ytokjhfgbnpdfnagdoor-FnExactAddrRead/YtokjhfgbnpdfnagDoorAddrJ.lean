/- Proved here: impl.AddrRead answers as it is to; all old memory stays (conditions: the library's variables that it reads hold what they are to). -/
import Derived.Test.YtokjhfgbnpdfnagDoorAddrI
import Derived.Test.YtokjhfgbnpdfnagDoorAddrMath2
import Derived.Lib.AtoiErrMem
namespace Go.Proofs.YtokjhfgbnpdfnagDoor
open Go.ChangeShapes Go.WideShapes Go.ChangeAt Go.RowKit
set_option linter.unusedVariables false
set_option maxRecDepth 100000

/-- the library's variables -/
structure LibOk (w : World) : Prop where
  tab : Lib.TabIs Tryd.prog w "internal/strconv.uint64pow10" .u64 Lib.pow10Tab
  max : ∃ m, w.cell? ⟨6, 0, none⟩ = some (.int .i64 m)
  syn : ∃ te pe, w.cell? ⟨4, 0, none⟩ = some (.iface te pe)
  rng : ∃ te pe, w.cell? ⟨5, 0, none⟩ = some (.iface te pe)
theorem LibOk.later {w w' : World} (h : LibOk w) (hb : Below w.heap.size w w') : LibOk w' := by
  obtain ⟨m, hm⟩ := h.max
  obtain ⟨t1, p1, h1⟩ := h.syn
  obtain ⟨t2, p2, h2⟩ := h.rng
  exact ⟨tab_later h.tab hb, ⟨m, (hb.cell (World.block_lt_of_cell? w _ hm)).trans hm⟩, ⟨t1, p1, (hb.cell (World.block_lt_of_cell? w _ h1)).trans h1⟩, ⟨t2, p2, (hb.cell (World.block_lt_of_cell? w _ h2)).trans h2⟩⟩
/-- what a part spells -/
def valB (s : ByteArray) : Option Nat := match Lib.parseUintB 8 s.data.toList with | .ok u => some u | _ => none
theorem parse_some (s : ByteArray) (u : Nat) (w : World) (hs : s.size ≤ 8000) (h : valB s = some u) :
    Calls Tryd.prog 19 #[.string s, .int .i64 10, .int .i64 8] w fun e w' => e = .returned (.tuple #[.int .u64 (u : Int), .nilIface]) ∧ Below w.heap.size w w' := by
  have h' : Lib.parseUintB 8 s.data.toList = .ok u := by
    unfold valB at h
    cases hq : Lib.parseUintB 8 s.data.toList <;> rw [hq] at h <;> simp at h
    subst h; rfl
  refine (Tryd.strconv_ParseUint_10_at8_ok s (by omega) u h' w).mono ?_
  rintro e w' ⟨rfl, rfl | rfl⟩
  · exact ⟨rfl, Below.refl _ _⟩
  · exact ⟨rfl, Lib.bytesWorld_below w _ s⟩
theorem parse_none (s : ByteArray) (w : World) (hs : s.size ≤ 8000) (hok : LibOk w) (h : valB s = none) :
    Calls Tryd.prog 19 #[.string s, .int .i64 10, .int .i64 8] w fun e w' => (∃ x N, e = .returned (.tuple #[.int .u64 x, .iface 84 (.pointer (some ⟨N, 0, none⟩))])) ∧ Below w.heap.size w w' := by
  obtain ⟨t1, p1, h1⟩ := hok.syn
  obtain ⟨t2, p2, h2⟩ := hok.rng
  unfold valB at h
  cases hq : Lib.parseUintB 8 s.data.toList with
  | ok u => rw [hq] at h; simp at h
  | «syntax» =>
    refine (Tryd.strconv_ParseUint_10_at8_syntax s (by omega) hq _ w h1 (.inr ⟨_, _, rfl⟩)).mono ?_
    rintro e w' ⟨N, rfl, _, _, hb⟩
    exact ⟨⟨_, N, rfl⟩, hb⟩
  | range =>
    refine (Tryd.strconv_ParseUint_10_at8_range s (by omega) hq _ w h2 (.inr ⟨_, _, rfl⟩)).mono ?_
    rintro e w' ⟨N, rfl, _, _, hb⟩
    exact ⟨⟨_, N, rfl⟩, hb⟩
end Go.Proofs.YtokjhfgbnpdfnagDoor
