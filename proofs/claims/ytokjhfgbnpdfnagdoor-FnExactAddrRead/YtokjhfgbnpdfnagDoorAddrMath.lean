/- Proved here: nothing of a program: what is read of the numerals below 256. -/
import Derived.Test.YtokjhfgbnpdfnagDoorAddrReadSpec
import Derived.Lib.ParseIntB
namespace Go.Proofs.YtokjhfgbnpdfnagDoor
open Go.ChangeShapes Go.WideShapes Go.ChangeAt Go.RowKit
set_option linter.unusedVariables false
set_option maxRecDepth 100000

theorem parse_byte : ∀ n, n < 256 → Lib.parseUintB 8 (decL n) = .ok n := by decide +kernel
theorem part_byte : ∀ n, n < 256 → partN (decT n) = (n : Int) := by decide +kernel
theorem dec_nodot : ∀ n, n < 256 → ∀ b ∈ decL n, b ≠ 46 := by decide +kernel

/-- parts at each point, as lists -/
def stepD (p : List (List UInt8) × List UInt8) (b : UInt8) : List (List UInt8) × List UInt8 := if b = 46 then (p.1 ++ [p.2], []) else (p.1, p.2 ++ [b])
theorem step_nodot (d : List (List UInt8)) : ∀ (a c : List UInt8), (∀ b ∈ a, b ≠ 46) → a.foldl stepD (d, c) = (d, c ++ a)
  | [], c, _ => by simp
  | b :: a, c, h => by
    have hb : b ≠ 46 := h b List.mem_cons_self
    rw [List.foldl_cons, show stepD (d, c) b = (d, c ++ [b]) from if_neg hb, step_nodot d a (c ++ [b]) (fun x hx => h x (List.mem_cons_of_mem _ hx))]
    simp
theorem cuts_fold (s : ByteArray) : ∀ k, k ≤ s.size → (s.data.toList.take k).foldl stepD ([], []) = ((cuts s 46 k).1.map (·.data.toList), (s.data.toList.take k).drop (cuts s 46 k).2)
  | 0, _ => by simp [cuts]
  | k + 1, hk => by
    have hlt : k < s.size := by omega
    have hl : k < s.data.toList.length := by simpa using hlt
    have ih := cuts_fold s k (by omega)
    have hle := (cuts_le s 46 k).1
    have hb : s.data.toList[k] = s[k] := rfl
    rw [List.take_succ_eq_append_getElem hl, List.foldl_append, ih, hb, List.foldl_cons, List.foldl_nil]
    have hlen : (s.data.toList.take k).length = k := by rw [List.length_take]; omega
    by_cases h : s[k].toNat = 46
    · have hc : s[k] = 46 := UInt8.toNat_inj.1 h
      rw [cuts_yes hlt h, show stepD _ s[k] = _ from if_pos hc]
      have e1 : (s.extract (cuts s 46 k).2 k).data.toList = (s.data.toList.take k).drop (cuts s 46 k).2 := by
        rw [ByteArray.data_extract, Array.toList_extract, List.extract_eq_take_drop, List.drop_take]
      have e2 : (s.data.toList.take k ++ [s[k]]).drop (k + 1) = [] := List.drop_eq_nil_of_le (by simp [hlen])
      simp only [List.map_append, List.map_cons, List.map_nil, e1, e2]
    · have hc : s[k] ≠ 46 := fun e => h (by rw [e]; rfl)
      rw [cuts_no hlt h, show stepD _ s[k] = _ from if_neg hc, List.drop_append_of_le_length (by omega)]
theorem split_fold (s : ByteArray) : (splitT s 46).map (·.data.toList) = (s.data.toList.foldl stepD ([], [])).1 ++ [(s.data.toList.foldl stepD ([], [])).2] := by
  have h := cuts_fold s s.size (Nat.le_refl _)
  have hall : s.data.toList.take s.size = s.data.toList := List.take_of_length_le (by simp)
  rw [hall] at h
  unfold splitT
  rw [h]
  have e1 : (s.extract (cuts s 46 s.size).2 s.size).data.toList = s.data.toList.drop (cuts s 46 s.size).2 := by
    rw [ByteArray.data_extract, Array.toList_extract, List.extract_eq_take_drop]
    exact List.take_of_length_le (by simp)
  simp only [List.map_append, List.map_cons, List.map_nil, e1]
theorem bytes_inj : ∀ {l m : List ByteArray}, l.map (·.data.toList) = m.map (·.data.toList) → l = m
  | [], [], _ => rfl
  | [], _ :: _, h => by simp at h
  | _ :: _, [], h => by simp at h
  | a :: l, b :: m, h => by
    simp only [List.map_cons, List.cons.injEq] at h
    rw [show a = b from ByteArray.ext (Array.toList_inj.1 h.1), bytes_inj h.2]
theorem split_addr (n : Nat) (hn : n ≤ 4294967295) : splitT (addrT n) 46 = [decT (n / 16777216), decT (n / 65536 % 256), decT (n / 256 % 256), decT (n % 256)] := by
  apply bytes_inj
  rw [split_fold]
  have h0 := dec_nodot (n / 16777216) (by omega)
  have h1 := dec_nodot (n / 65536 % 256) (by omega)
  have h2 := dec_nodot (n / 256 % 256) (by omega)
  have h3 := dec_nodot (n % 256) (by omega)
  have e : (addrT n).data.toList = decL (n / 16777216) ++ ([46] ++ (decL (n / 65536 % 256) ++ ([46] ++ (decL (n / 256 % 256) ++ ([46] ++ decL (n % 256)))))) := by
    unfold addrT dotT decT
    simp
  have dot : ∀ p : List (List UInt8) × List UInt8, [46].foldl stepD p = (p.1 ++ [p.2], []) := fun p => rfl
  rw [e, List.foldl_append, step_nodot _ _ _ h0, List.foldl_append, dot, List.foldl_append, step_nodot _ _ _ h1, List.foldl_append, dot, List.foldl_append, step_nodot _ _ _ h2, List.foldl_append, dot, step_nodot _ _ _ h3]
  simp [decT]
theorem addrN_addr (n : Nat) (hn : n ≤ 4294967295) : addrN (addrT n) = (n : Int) := by
  unfold addrN
  rw [split_addr n hn]
  have h0 := part_byte (n / 16777216) (by omega)
  have h1 := part_byte (n / 65536 % 256) (by omega)
  have h2 := part_byte (n / 256 % 256) (by omega)
  have h3 := part_byte (n % 256) (by omega)
  simp [addrTo, h0, h1, h2, h3]
  omega
end Go.Proofs.YtokjhfgbnpdfnagDoor
