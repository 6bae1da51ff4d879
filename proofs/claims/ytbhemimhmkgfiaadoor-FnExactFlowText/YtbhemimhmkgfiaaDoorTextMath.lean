/- Proved here: nothing of a program: a tuple's text, as a plain function. -/
import Derived.Test.YtbhemimhmkgfiaaDoorTupMath
import Derived.Test.YtbhemimhmkgfiaaDoorAddrSpec
namespace Go.Proofs.YtbhemimhmkgfiaaDoor
open Go.ChangeShapes Go.WideShapes Go.ChangeAt Go.RowKit
set_option linter.unusedVariables false
set_option maxRecDepth 100000
set_option linter.unusedSimpArgs false

def nameL (t : Tp) : ByteArray := if t.proto = 17 then ⟨#[117, 100, 112]⟩ else if t.proto = 1 then ⟨#[112, 105, 110, 103]⟩ else ⟨#[116, 99, 112]⟩
def nameS (t : Tp) : ByteArray := if t.proto = 17 then ⟨#[117, 100, 112, 32]⟩ else if t.proto = 1 then ⟨#[112, 105, 110, 103, 32]⟩ else ⟨#[116, 99, 112, 32]⟩
def markL (t : Tp) : ByteArray := if t.proto = 1 then (if t.kind = 8 then ⟨#[63]⟩ else ⟨#[33]⟩) else ⟨#[]⟩
/-- the text of a right tuple -/
def tupT (t : Tp) : ByteArray := nameS t ++ addrAns t.src ++ ⟨#[58]⟩ ++ decT t.sport.toNat ++ ⟨#[62]⟩ ++ addrAns t.dst ++ ⟨#[58]⟩ ++ decT t.dport.toNat ++ markL t
def textAns (t : Tp) : ByteArray := if rightT t = true then tupT t else ⟨#[]⟩
theorem nameS_name (t : Tp) : nameS t = nameL t ++ ⟨#[32]⟩ := by
  unfold nameS nameL
  by_cases h17 : t.proto = 17
  · rw [if_pos h17, if_pos h17]; rfl
  · by_cases h1 : t.proto = 1
    · rw [if_neg h17, if_neg h17, if_pos h1, if_pos h1]; rfl
    · rw [if_neg h17, if_neg h17, if_neg h1, if_neg h1]; rfl
theorem addrAns_size (n : Int) : (addrAns n).size ≤ 83 := by
  unfold addrAns
  split
  · unfold addrT dotT
    have z1 := decT_size (n.toNat / 16777216)
    have z2 := decT_size (n.toNat / 65536 % 256)
    have z3 := decT_size (n.toNat / 256 % 256)
    have z4 := decT_size (n.toNat % 256)
    simp only [ByteArray.size_append]
    have : (⟨#[46]⟩ : ByteArray).size = 1 := rfl
    omega
  · show 0 ≤ 83; omega
theorem nameS_size (t : Tp) : (nameS t).size ≤ 5 := by unfold nameS; split; decide; split <;> decide
theorem nameL_size (t : Tp) : (nameL t).size ≤ 5 := by unfold nameL; split; decide; split <;> decide
theorem markL_size (t : Tp) : (markL t).size ≤ 1 := by unfold markL; split; split <;> decide; decide
theorem tupT_size (t : Tp) : (tupT t).size ≤ 300 := by
  unfold tupT
  simp only [ByteArray.size_append]
  have h1 := nameS_size t
  have h2 := addrAns_size t.src
  have h3 := addrAns_size t.dst
  have h4 := decT_size t.sport.toNat
  have h5 := decT_size t.dport.toNat
  have h6 := markL_size t
  have : (⟨#[58]⟩ : ByteArray).size = 1 := rfl
  have : (⟨#[62]⟩ : ByteArray).size = 1 := rfl
  omega
theorem right_ports {t : Tp} (h : rightT t = true) : (0 ≤ t.sport ∧ t.sport ≤ 65535) ∧ (0 ≤ t.dport ∧ t.dport ≤ 65535) := by
  unfold rightT at h
  simp only [Bool.and_eq_true] at h
  exact ⟨wordB_iff.1 h.1.1.2, wordB_iff.1 h.1.2⟩
end Go.Proofs.YtbhemimhmkgfiaaDoor
