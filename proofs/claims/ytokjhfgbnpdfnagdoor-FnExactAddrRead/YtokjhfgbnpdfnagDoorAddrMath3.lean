/- Proved here: nothing of a program: what is read of an address's text part by part is the address. -/
import Derived.Test.YtokjhfgbnpdfnagDoorAddrJ
import Derived.Lib.ParseIntBCases
namespace Go.Proofs.YtokjhfgbnpdfnagDoor
open Go.ChangeShapes Go.WideShapes Go.ChangeAt Go.RowKit
set_option linter.unusedVariables false
set_option maxRecDepth 100000

/-- the number that the first k parts spell -/
def accN (ps : List ByteArray) : Nat → Option Nat
  | 0 => some 0
  | k + 1 => (accN ps k).bind fun a => (valB (ps.getD k ⟨#[]⟩)).map fun u => a * 256 + u
theorem accN_succ {ps : List ByteArray} {k a : Nat} (h : accN ps k = some a) : accN ps (k + 1) = (valB (ps.getD k ⟨#[]⟩)).map fun u => a * 256 + u := by
  show (accN ps k).bind _ = _
  rw [h]; rfl
theorem accN_none {ps : List ByteArray} {k : Nat} (h : accN ps k = none) : accN ps (k + 1) = none := by
  show (accN ps k).bind _ = _
  rw [h]; rfl
theorem accN_stop {ps : List ByteArray} : ∀ {j k : Nat}, j ≤ k → accN ps j = none → accN ps k = none
  | j, 0, hj, h => by obtain rfl : j = 0 := by omega
                      exact h
  | j, k + 1, hj, h => by
    by_cases e : j = k + 1
    · subst e; exact h
    · exact accN_none (accN_stop (by omega) h)
theorem valB_lt {s : ByteArray} {u : Nat} (h : valB s = some u) : u < 256 := by
  unfold valB at h
  cases hq : Lib.parseUintB 8 s.data.toList <;> rw [hq] at h <;> simp at h
  subst h
  have := Lib.parseUintB_le hq
  omega
def partsB (s : ByteArray) : List ByteArray := Lib.splitB ⟨#[46]⟩ 0 (Lib.countB s ⟨#[46]⟩) s
theorem partsB_len (s : ByteArray) : (partsB s).length = Lib.countB s ⟨#[46]⟩ + 1 := Lib.splitB_all ⟨#[46]⟩ (by decide) 0 _ s rfl
/-- what impl.AddrRead answers -/
def implOk (s : ByteArray) (n : Nat) : Prop := (partsB s).length = 4 ∧ accN (partsB s) 4 = some n ∧ addrT n = s
theorem splitB_sizes (sep : ByteArray) : ∀ (k : Nat) (s : ByteArray), ∀ p ∈ Lib.splitB sep 0 k s, p.size ≤ s.size
  | 0, s, p, hp => by
    rw [Lib.splitB_zero] at hp
    simp at hp
    rw [hp]; exact Nat.le_refl _
  | k + 1, s, p, hp => by
    unfold Lib.splitB at hp
    split at hp
    · simp at hp; rw [hp]; exact Nat.le_refl _
    · rcases List.mem_cons.1 hp with rfl | h
      · rw [ByteArray.size_extract]; omega
      · have := splitB_sizes sep k _ p h
        rw [ByteArray.size_extract] at this
        omega
theorem partsB_sizes (s : ByteArray) (hs : s.size ≤ 8000) : ∀ p ∈ partsB s, p.size ≤ 8000 := fun p hp => Nat.le_trans (splitB_sizes _ _ _ p hp) hs
theorem valB_dec (n : Nat) (h : n < 256) : valB (decT n) = some n := by
  unfold valB
  have := parse_byte n h
  show (match Lib.parseUintB 8 (decL n).toArray.toList with | .ok u => some u | _ => none) = some n
  rw [show (decL n).toArray.toList = decL n from by simp, this]
theorem implOk_addr (n : Nat) (hn : n ≤ 4294967295) : implOk (addrT n) n := by
  have e : partsB (addrT n) = [decT (n / 16777216), decT (n / 65536 % 256), decT (n / 256 % 256), decT (n % 256)] := by
    unfold partsB; rw [count_dot n hn]; exact libSplit_addr n hn
  refine ⟨by rw [e]; rfl, ?_, rfl⟩
  rw [e]
  have h0 := valB_dec (n / 16777216) (by omega)
  have h1 := valB_dec (n / 65536 % 256) (by omega)
  have h2 := valB_dec (n / 256 % 256) (by omega)
  have h3 := valB_dec (n % 256) (by omega)
  simp [accN, h0, h1, h2, h3]
  omega
theorem toList_data (s : ByteArray) : s.toList = s.data.toList := ByteArray.toList_eq s
theorem addrT_pos (n : Nat) (hn : n ≤ 4294967295) : (addrT n).toList.isEmpty = false := by
  rw [toList_data, addrT_list]
  cases h : decL (n / 16777216) <;> simp
theorem code_yes (n : Nat) (hn : n ≤ 4294967295) : codeA (addrT n) = 0 ∧ numA (addrT n) = (n : Int) := by
  have hb : addrB (n : Int) = true := addrB_iff.2 (by omega)
  have e : addrAns (addrN (addrT n)) = addrT n := by
    rw [addrN_addr n hn]; unfold addrAns; rw [if_pos hb]; rfl
  have h0 : codeA (addrT n) = 0 := by
    unfold codeA
    rw [if_neg]
    rw [e, addrT_pos n hn]
    simp
  exact ⟨h0, by unfold numA; rw [if_pos h0, addrN_addr n hn]⟩
theorem code_no {s : ByteArray} (h : ∀ n, n ≤ 4294967295 → addrT n ≠ s) : codeA s = 3 ∧ numA s = 0 := by
  have h3 : codeA s = 3 := by
    unfold codeA
    by_cases hc : s.toList.isEmpty = true ∨ ((addrAns (addrN s)).toList == s.toList) = false
    · rw [if_pos hc]
    · exfalso
      have h1 : ((addrAns (addrN s)).toList == s.toList) = true := by
        cases hq : ((addrAns (addrN s)).toList == s.toList)
        · exact absurd (.inr hq) hc
        · rfl
      have h2 : s.toList.isEmpty = false := by
        cases hq : s.toList.isEmpty
        · rfl
        · exact absurd (.inl hq) hc
      have e : (addrAns (addrN s)) = s := by
        have := beq_iff_eq.1 h1
        rw [toList_data, toList_data] at this
        exact ByteArray.ext (Array.toList_inj.1 this)
      unfold addrAns at e
      by_cases hb : addrB (addrN s) = true
      · rw [if_pos hb] at e
        have := addrB_iff.1 hb
        exact h _ (by omega) e
      · rw [if_neg hb] at e
        rw [← e, toList_data] at h2
        simp at h2
  exact ⟨h3, by unfold numA; rw [if_neg (by rw [h3]; decide)]⟩
end Go.Proofs.YtokjhfgbnpdfnagDoor
