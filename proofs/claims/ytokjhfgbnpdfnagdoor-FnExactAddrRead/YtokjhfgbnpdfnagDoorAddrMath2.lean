/- Proved here: nothing of a program: how the library's Split cuts the text of an address. -/
import Derived.Test.YtokjhfgbnpdfnagDoorAddrMath
import Derived.Lib.Split
import Derived.Lib.SplitLaws
namespace Go.Proofs.YtokjhfgbnpdfnagDoor
open Go.ChangeShapes Go.WideShapes Go.ChangeAt Go.RowKit
set_option linter.unusedVariables false

theorem idx_dot : ∀ (a r : List UInt8), (∀ b ∈ a, b ≠ 46) → Lib.index (a ++ 46 :: r) [46] = (a.length : Int)
  | [], r, _ => by simp [Lib.index]
  | b :: a, r, h => by
    have hb : b ≠ 46 := h b List.mem_cons_self
    have ih := idx_dot a r (fun x hx => h x (List.mem_cons_of_mem _ hx))
    rw [List.cons_append, Lib.index, ih]
    have hp : ([46] : List UInt8).isPrefixOf (b :: (a ++ 46 :: r)) = false := by simp [List.isPrefixOf]; exact fun e => hb e.symm
    rw [hp]
    simp
theorem splitK_dot (k : Nat) (a r : List UInt8) (h : ∀ b ∈ a, b ≠ 46) : Lib.splitK [46] 0 (k + 1) (a ++ 46 :: r) = a :: Lib.splitK [46] 0 k r := by
  have hi := idx_dot a r h
  rw [Lib.splitK, hi]
  have hn : ¬ (((a.length : Int) == -1) = true) := by simp
  rw [if_neg hn]
  simp
theorem addrT_list (n : Nat) : (addrT n).data.toList = decL (n / 16777216) ++ 46 :: (decL (n / 65536 % 256) ++ 46 :: (decL (n / 256 % 256) ++ 46 :: decL (n % 256))) := by
  unfold addrT dotT decT
  simp
theorem libSplit_addr (n : Nat) (hn : n ≤ 4294967295) : Lib.splitB ⟨#[46]⟩ 0 3 (addrT n) = [decT (n / 16777216), decT (n / 65536 % 256), decT (n / 256 % 256), decT (n % 256)] := by
  apply bytes_inj
  have h0 := dec_nodot (n / 16777216) (by omega)
  have h1 := dec_nodot (n / 65536 % 256) (by omega)
  have h2 := dec_nodot (n / 256 % 256) (by omega)
  rw [Lib.splitB_data, addrT_list]
  show Lib.splitK [46] 0 (2 + 1) _ = _
  rw [splitK_dot _ _ _ h0, splitK_dot 1 _ _ h1, splitK_dot 0 _ _ h2]
  rfl
theorem count_dot (n : Nat) (hn : n ≤ 4294967295) : Lib.countB (addrT n) ⟨#[46]⟩ = 3 := by
  have hz : ∀ l : List UInt8, (∀ b ∈ l, b ≠ 46) → l.count 46 = 0 := fun l h => List.count_eq_zero.2 (fun hm => h 46 hm rfl)
  have h0 := hz _ (dec_nodot (n / 16777216) (by omega))
  have h1 := hz _ (dec_nodot (n / 65536 % 256) (by omega))
  have h2 := hz _ (dec_nodot (n / 256 % 256) (by omega))
  have h3 := hz _ (dec_nodot (n % 256) (by omega))
  have e : Lib.countB (addrT n) ⟨#[46]⟩ = (addrT n).data.toList.count 46 := by
    show Lib.count _ _ = _
    exact Lib.count_one 46 _
  rw [e, addrT_list]
  simp [List.count_append, h0, h1, h2, h3]
end Go.Proofs.YtokjhfgbnpdfnagDoor
