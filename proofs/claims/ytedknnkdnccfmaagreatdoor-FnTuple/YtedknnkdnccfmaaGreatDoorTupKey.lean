/- Proved here: a tuple as a map's key: what it reads as, and that two tuples that are not the same read as two keys (no program walked). -/
import Derived.Test.YtedknnkdnccfmaaGreatDoorTupMath
import Derived.Test.YtedknnkdnccfmaaGreatDoorAll1
import Derived.Maps.OwnSet
import Derived.DeepKeys5
namespace Go.Proofs.YtedknnkdnccfmaaGreatDoor
open Go.ChangeShapes Go.WideShapes Go.ChangeAt Go.RowKit
open Go.Maps (Keyed)
set_option linter.unusedVariables false
set_option maxRecDepth 100000

/-- the key that a tuple reads as -/
def klT (t : Tp) : Lit := .string (keyBytes [.int .i64 t.proto, .int .i64 t.src, .int .i64 t.sport, .int .i64 t.dst, .int .i64 t.dport, .int .i64 t.kind])
theorem tup_laid : laidOutB Tryz.prog = true := by kernel_rfl
theorem tup_wide : (match Tryz.prog.underlying 40 with | some (.array _ _) | some (.struct _) => true | _ => false) = true := by kernel_rfl
theorem tup_law : WideMaps.KeyLaw Tryz.prog 40 := deep_law_laid tup_laid (m := 2) (by omega) (of_decide_eq_true (by kernel_rfl)) (by kernel_rfl) tup_wide
theorem tup_keyed : Keyed Tryz.prog 40 := Keyed.of_law tup_law
theorem tup_cells : Tryz.prog.cellsOf 40 = 6 := by kernel_rfl
theorem int_cells : Tryz.prog.cellsOf 2 = 1 := by kernel_rfl
theorem tup_keyType : Tryz.prog.keyType 40 = true := by kernel_rfl
theorem tup_size : ∃ m, Tryz.prog.types.size = m + 1 := ⟨Tryz.prog.types.size - 1, by have : 0 < Tryz.prog.types.size := of_decide_eq_true (by kernel_rfl); omega⟩
theorem tup_key (t : Tp) (h1 : (Lit.int .i64 t.proto).wf = true) (h2 : (Lit.int .i64 t.src).wf = true) (h3 : (Lit.int .i64 t.sport).wf = true) (h4 : (Lit.int .i64 t.dst).wf = true) (h5 : (Lit.int .i64 t.dport).wf = true) (h6 : (Lit.int .i64 t.kind).wf = true) :
    keyOf Tryz.prog 40 (.agg #[.int .i64 t.proto, .int .i64 t.src, .int .i64 t.sport, .int .i64 t.dst, .int .i64 t.dport, .int .i64 t.kind]) = some (klT t) := by
  obtain ⟨m, hm⟩ := tup_size
  unfold keyOf
  simp only [Tryz.underlying40]
  rw [if_pos (by simp [tup_keyType, Value.formed, Tryz.underlying40, tup_cells]), hm]
  unfold Program.keyLits
  simp only [Tryz.underlying40, Value.cells]
  simp [tup_cells, int_cells, Program.keyLits, Tryz.underlying2, h1, h2, h3, h4, h5, h6, klT]
theorem klT_ne {a b : Tp} (hne : a ≠ b) (ka : keyOf Tryz.prog 40 (.agg #[.int .i64 a.proto, .int .i64 a.src, .int .i64 a.sport, .int .i64 a.dst, .int .i64 a.dport, .int .i64 a.kind]) = some (klT a)) (kb : keyOf Tryz.prog 40 (.agg #[.int .i64 b.proto, .int .i64 b.src, .int .i64 b.sport, .int .i64 b.dst, .int .i64 b.dport, .int .i64 b.kind]) = some (klT b)) : klT a ≠ klT b := by
  intro e
  rw [e] at ka
  have := tup_law.inj ka kb
  apply hne
  obtain ⟨a1, a2, a3, a4, a5, a6⟩ := a
  obtain ⟨b1, b2, b3, b4, b5, b6⟩ := b
  simp at this
  obtain ⟨rfl, rfl, rfl, rfl, rfl, rfl⟩ := this
  rfl
theorem right_wf {t : Tp} (h : rightT t = true) : (Lit.int .i64 t.proto).wf = true ∧ (Lit.int .i64 t.src).wf = true ∧ (Lit.int .i64 t.sport).wf = true ∧ (Lit.int .i64 t.dst).wf = true ∧ (Lit.int .i64 t.dport).wf = true ∧ (Lit.int .i64 t.kind).wf = true := by
  have hp : t.proto = 1 ∨ t.proto = 6 ∨ t.proto = 17 := by unfold rightT at h; by_cases h1 : t.proto = 1 <;> simp [h1] at h <;> omega
  have hk : t.kind = 8 ∨ t.kind = 0 := by unfold rightT echoB at h; by_cases h1 : t.proto = 1 <;> simp [h1] at h <;> omega
  unfold rightT at h
  simp only [Bool.and_eq_true] at h
  obtain ⟨⟨⟨⟨h1, h2⟩, h3⟩, h4⟩, _⟩ := h
  have := addrB_iff.1 h1
  have := addrB_iff.1 h2
  have := wordB_iff.1 h3
  have := wordB_iff.1 h4
  refine ⟨?_, ?_, ?_, ?_, ?_, ?_⟩ <;> exact WalkArith.wf_i64 (by omega)
theorem right_key {t : Tp} (h : rightT t = true) : keyOf Tryz.prog 40 (.agg #[.int .i64 t.proto, .int .i64 t.src, .int .i64 t.sport, .int .i64 t.dst, .int .i64 t.dport, .int .i64 t.kind]) = some (klT t) := by
  obtain ⟨h1, h2, h3, h4, h5, h6⟩ := right_wf h
  exact tup_key t h1 h2 h3 h4 h5 h6
end Go.Proofs.YtedknnkdnccfmaaGreatDoor
