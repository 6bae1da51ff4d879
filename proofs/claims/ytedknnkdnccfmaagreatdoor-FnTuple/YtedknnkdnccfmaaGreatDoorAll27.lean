/- Proved here: nothing of a program: what is read of the numerals below 256. · Proved here: nothing of a program: how the library's Split cuts the text of an address. · Proved here: impl.AddrRead answers as it is to; all old memory stays (conditions: the library's variables that it reads hold what they are to). · Proved here: nothing of a program: what is read of an address's text part by part is the address. · Proved here: nothing of a program: a right packet with a right tuple's ends is right, and its tuple is that one just if Proto and Kind are. -/
import Derived.Test.YtedknnkdnccfmaaGreatDoorAll26
import Derived.Lib.ParseIntB
import Derived.Lib.Split
import Derived.Lib.SplitLaws
import Derived.Test.YtedknnkdnccfmaaGreatDoorAll25
import Derived.Lib.AtoiErrMem
import Derived.Lib.ParseIntBCases
import Derived.Test.YtedknnkdnccfmaaGreatDoorTupMath
section
namespace Go.Proofs.YtedknnkdnccfmaaGreatDoor
open Go.ChangeShapes Go.WideShapes Go.ChangeAt Go.RowKit
set_option linter.unusedVariables false
set_option maxRecDepth 100000

theorem parse_byte : ∀ n, n < 256 → Lib.parseUintB 8 (decL n) = .ok n := by decide +kernel
theorem part_byte : ∀ n, n < 256 → partN (decT n) = (n : Int) := by decide +kernel
theorem dec_nodot : ∀ n, n < 256 → ∀ b ∈ decL n, b ≠ 46 := by decide +kernel

/-- parts at each point, as lists -/
def stepD (p : List (List UInt8) × List UInt8) (b : UInt8) : List (List UInt8) × List UInt8 := if b = 46 then (p.1 ++ [p.2], []) else (p.1, p.2 ++ [b])
theorem step_nodot (d : List (List UInt8)) : ∀ (a c : List UInt8), (∀ b ∈ a, b ≠ 46) → a.foldl stepD (d, c) = (d, c ++ a)
  | [], c, _ => by simp
  | b :: a, c, h => by
    have hb : b ≠ 46 := h b List.mem_cons_self
    rw [List.foldl_cons, show stepD (d, c) b = (d, c ++ [b]) from if_neg hb, step_nodot d a (c ++ [b]) (fun x hx => h x (List.mem_cons_of_mem _ hx))]
    simp
theorem cuts_fold (s : ByteArray) : ∀ k, k ≤ s.size → (s.data.toList.take k).foldl stepD ([], []) = ((cuts s 46 k).1.map (·.data.toList), (s.data.toList.take k).drop (cuts s 46 k).2)
  | 0, _ => by simp [cuts]
  | k + 1, hk => by
    have hlt : k < s.size := by omega
    have hl : k < s.data.toList.length := by simpa using hlt
    have ih := cuts_fold s k (by omega)
    have hle := (cuts_le s 46 k).1
    have hb : s.data.toList[k] = s[k] := rfl
    rw [List.take_succ_eq_append_getElem hl, List.foldl_append, ih, hb, List.foldl_cons, List.foldl_nil]
    have hlen : (s.data.toList.take k).length = k := by rw [List.length_take]; omega
    by_cases h : s[k].toNat = 46
    · have hc : s[k] = 46 := UInt8.toNat_inj.1 h
      rw [cuts_yes hlt h, show stepD _ s[k] = _ from if_pos hc]
      have e1 : (s.extract (cuts s 46 k).2 k).data.toList = (s.data.toList.take k).drop (cuts s 46 k).2 := by
        rw [ByteArray.data_extract, Array.toList_extract, List.extract_eq_take_drop, List.drop_take]
      have e2 : (s.data.toList.take k ++ [s[k]]).drop (k + 1) = [] := List.drop_eq_nil_of_le (by simp [hlen])
      simp only [List.map_append, List.map_cons, List.map_nil, e1, e2]
    · have hc : s[k] ≠ 46 := fun e => h (by rw [e]; rfl)
      rw [cuts_no hlt h, show stepD _ s[k] = _ from if_neg hc, List.drop_append_of_le_length (by omega)]
theorem split_fold (s : ByteArray) : (splitT s 46).map (·.data.toList) = (s.data.toList.foldl stepD ([], [])).1 ++ [(s.data.toList.foldl stepD ([], [])).2] := by
  have h := cuts_fold s s.size (Nat.le_refl _)
  have hall : s.data.toList.take s.size = s.data.toList := List.take_of_length_le (by simp)
  rw [hall] at h
  unfold splitT
  rw [h]
  have e1 : (s.extract (cuts s 46 s.size).2 s.size).data.toList = s.data.toList.drop (cuts s 46 s.size).2 := by
    rw [ByteArray.data_extract, Array.toList_extract, List.extract_eq_take_drop]
    exact List.take_of_length_le (by simp)
  simp only [List.map_append, List.map_cons, List.map_nil, e1]
theorem bytes_inj : ∀ {l m : List ByteArray}, l.map (·.data.toList) = m.map (·.data.toList) → l = m
  | [], [], _ => rfl
  | [], _ :: _, h => by simp at h
  | _ :: _, [], h => by simp at h
  | a :: l, b :: m, h => by
    simp only [List.map_cons, List.cons.injEq] at h
    rw [show a = b from ByteArray.ext (Array.toList_inj.1 h.1), bytes_inj h.2]
theorem split_addr (n : Nat) (hn : n ≤ 4294967295) : splitT (addrT n) 46 = [decT (n / 16777216), decT (n / 65536 % 256), decT (n / 256 % 256), decT (n % 256)] := by
  apply bytes_inj
  rw [split_fold]
  have h0 := dec_nodot (n / 16777216) (by omega)
  have h1 := dec_nodot (n / 65536 % 256) (by omega)
  have h2 := dec_nodot (n / 256 % 256) (by omega)
  have h3 := dec_nodot (n % 256) (by omega)
  have e : (addrT n).data.toList = decL (n / 16777216) ++ ([46] ++ (decL (n / 65536 % 256) ++ ([46] ++ (decL (n / 256 % 256) ++ ([46] ++ decL (n % 256)))))) := by
    unfold addrT dotT decT
    simp
  have dot : ∀ p : List (List UInt8) × List UInt8, [46].foldl stepD p = (p.1 ++ [p.2], []) := fun p => rfl
  rw [e, List.foldl_append, step_nodot _ _ _ h0, List.foldl_append, dot, List.foldl_append, step_nodot _ _ _ h1, List.foldl_append, dot, List.foldl_append, step_nodot _ _ _ h2, List.foldl_append, dot, step_nodot _ _ _ h3]
  simp [decT]
theorem addrN_addr (n : Nat) (hn : n ≤ 4294967295) : addrN (addrT n) = (n : Int) := by
  unfold addrN
  rw [split_addr n hn]
  have h0 := part_byte (n / 16777216) (by omega)
  have h1 := part_byte (n / 65536 % 256) (by omega)
  have h2 := part_byte (n / 256 % 256) (by omega)
  have h3 := part_byte (n % 256) (by omega)
  simp [addrTo, h0, h1, h2, h3]
  omega
end Go.Proofs.YtedknnkdnccfmaaGreatDoor
end

section
namespace Go.Proofs.YtedknnkdnccfmaaGreatDoor
open Go.ChangeShapes Go.WideShapes Go.ChangeAt Go.RowKit
set_option linter.unusedVariables false

theorem idx_dot : ∀ (a r : List UInt8), (∀ b ∈ a, b ≠ 46) → Lib.index (a ++ 46 :: r) [46] = (a.length : Int)
  | [], r, _ => by simp [Lib.index]
  | b :: a, r, h => by
    have hb : b ≠ 46 := h b List.mem_cons_self
    have ih := idx_dot a r (fun x hx => h x (List.mem_cons_of_mem _ hx))
    rw [List.cons_append, Lib.index, ih]
    have hp : ([46] : List UInt8).isPrefixOf (b :: (a ++ 46 :: r)) = false := by simp [List.isPrefixOf]; exact fun e => hb e.symm
    rw [hp]
    simp
theorem splitK_dot (k : Nat) (a r : List UInt8) (h : ∀ b ∈ a, b ≠ 46) : Lib.splitK [46] 0 (k + 1) (a ++ 46 :: r) = a :: Lib.splitK [46] 0 k r := by
  have hi := idx_dot a r h
  rw [Lib.splitK, hi]
  have hn : ¬ (((a.length : Int) == -1) = true) := by simp
  rw [if_neg hn]
  simp
theorem addrT_list (n : Nat) : (addrT n).data.toList = decL (n / 16777216) ++ 46 :: (decL (n / 65536 % 256) ++ 46 :: (decL (n / 256 % 256) ++ 46 :: decL (n % 256))) := by
  unfold addrT dotT decT
  simp
theorem libSplit_addr (n : Nat) (hn : n ≤ 4294967295) : Lib.splitB ⟨#[46]⟩ 0 3 (addrT n) = [decT (n / 16777216), decT (n / 65536 % 256), decT (n / 256 % 256), decT (n % 256)] := by
  apply bytes_inj
  have h0 := dec_nodot (n / 16777216) (by omega)
  have h1 := dec_nodot (n / 65536 % 256) (by omega)
  have h2 := dec_nodot (n / 256 % 256) (by omega)
  rw [Lib.splitB_data, addrT_list]
  show Lib.splitK [46] 0 (2 + 1) _ = _
  rw [splitK_dot _ _ _ h0, splitK_dot 1 _ _ h1, splitK_dot 0 _ _ h2]
  rfl
theorem count_dot (n : Nat) (hn : n ≤ 4294967295) : Lib.countB (addrT n) ⟨#[46]⟩ = 3 := by
  have hz : ∀ l : List UInt8, (∀ b ∈ l, b ≠ 46) → l.count 46 = 0 := fun l h => List.count_eq_zero.2 (fun hm => h 46 hm rfl)
  have h0 := hz _ (dec_nodot (n / 16777216) (by omega))
  have h1 := hz _ (dec_nodot (n / 65536 % 256) (by omega))
  have h2 := hz _ (dec_nodot (n / 256 % 256) (by omega))
  have h3 := hz _ (dec_nodot (n % 256) (by omega))
  have e : Lib.countB (addrT n) ⟨#[46]⟩ = (addrT n).data.toList.count 46 := by
    show Lib.count _ _ = _
    exact Lib.count_one 46 _
  rw [e, addrT_list]
  simp [List.count_append, h0, h1, h2, h3]
end Go.Proofs.YtedknnkdnccfmaaGreatDoor
end

section
namespace Go.Proofs.YtedknnkdnccfmaaGreatDoor
open Go.ChangeShapes Go.WideShapes Go.ChangeAt Go.RowKit
set_option linter.unusedVariables false
set_option maxRecDepth 100000

/-- the library's variables -/
structure LibOk (w : World) : Prop where
  tab : Lib.TabIs Tryz.prog w "internal/strconv.uint64pow10" .u64 Lib.pow10Tab
  max : ∃ m, w.cell? ⟨7, 0, none⟩ = some (.int .i64 m)
  syn : ∃ te pe, w.cell? ⟨5, 0, none⟩ = some (.iface te pe)
  rng : ∃ te pe, w.cell? ⟨6, 0, none⟩ = some (.iface te pe)
theorem LibOk.later {w w' : World} (h : LibOk w) (hb : Below w.heap.size w w') : LibOk w' := by
  obtain ⟨m, hm⟩ := h.max
  obtain ⟨t1, p1, h1⟩ := h.syn
  obtain ⟨t2, p2, h2⟩ := h.rng
  exact ⟨tab_later h.tab hb, ⟨m, (hb.cell (World.block_lt_of_cell? w _ hm)).trans hm⟩, ⟨t1, p1, (hb.cell (World.block_lt_of_cell? w _ h1)).trans h1⟩, ⟨t2, p2, (hb.cell (World.block_lt_of_cell? w _ h2)).trans h2⟩⟩
/-- what a part spells -/
def valB (s : ByteArray) : Option Nat := match Lib.parseUintB 8 s.data.toList with | .ok u => some u | _ => none
theorem parse_some (s : ByteArray) (u : Nat) (w : World) (hs : s.size ≤ 8000) (h : valB s = some u) :
    Calls Tryz.prog 57 #[.string s, .int .i64 10, .int .i64 8] w fun e w' => e = .returned (.tuple #[.int .u64 (u : Int), .nilIface]) ∧ Below w.heap.size w w' := by
  have h' : Lib.parseUintB 8 s.data.toList = .ok u := by
    unfold valB at h
    cases hq : Lib.parseUintB 8 s.data.toList <;> rw [hq] at h <;> simp at h
    subst h; rfl
  refine (Tryz.strconv_ParseUint_10_at8_ok s (by omega) u h' w).mono ?_
  rintro e w' ⟨rfl, rfl | rfl⟩
  · exact ⟨rfl, Below.refl _ _⟩
  · exact ⟨rfl, Lib.bytesWorld_below w _ s⟩
theorem parse_none (s : ByteArray) (w : World) (hs : s.size ≤ 8000) (hok : LibOk w) (h : valB s = none) :
    Calls Tryz.prog 57 #[.string s, .int .i64 10, .int .i64 8] w fun e w' => (∃ x N, e = .returned (.tuple #[.int .u64 x, .iface 151 (.pointer (some ⟨N, 0, none⟩))])) ∧ Below w.heap.size w w' := by
  obtain ⟨t1, p1, h1⟩ := hok.syn
  obtain ⟨t2, p2, h2⟩ := hok.rng
  unfold valB at h
  cases hq : Lib.parseUintB 8 s.data.toList with
  | ok u => rw [hq] at h; simp at h
  | «syntax» =>
    refine (Tryz.strconv_ParseUint_10_at8_syntax s (by omega) hq _ w h1 (.inr ⟨_, _, rfl⟩)).mono ?_
    rintro e w' ⟨N, rfl, _, _, hb⟩
    exact ⟨⟨_, N, rfl⟩, hb⟩
  | range =>
    refine (Tryz.strconv_ParseUint_10_at8_range s (by omega) hq _ w h2 (.inr ⟨_, _, rfl⟩)).mono ?_
    rintro e w' ⟨N, rfl, _, _, hb⟩
    exact ⟨⟨_, N, rfl⟩, hb⟩
end Go.Proofs.YtedknnkdnccfmaaGreatDoor
end

section
namespace Go.Proofs.YtedknnkdnccfmaaGreatDoor
open Go.ChangeShapes Go.WideShapes Go.ChangeAt Go.RowKit
set_option linter.unusedVariables false
set_option maxRecDepth 100000

/-- the number that the first k parts spell -/
def accN (ps : List ByteArray) : Nat → Option Nat
  | 0 => some 0
  | k + 1 => (accN ps k).bind fun a => (valB (ps.getD k ⟨#[]⟩)).map fun u => a * 256 + u
theorem accN_succ {ps : List ByteArray} {k a : Nat} (h : accN ps k = some a) : accN ps (k + 1) = (valB (ps.getD k ⟨#[]⟩)).map fun u => a * 256 + u := by
  show (accN ps k).bind _ = _
  rw [h]; rfl
theorem accN_none {ps : List ByteArray} {k : Nat} (h : accN ps k = none) : accN ps (k + 1) = none := by
  show (accN ps k).bind _ = _
  rw [h]; rfl
theorem accN_stop {ps : List ByteArray} : ∀ {j k : Nat}, j ≤ k → accN ps j = none → accN ps k = none
  | j, 0, hj, h => by obtain rfl : j = 0 := by omega
                      exact h
  | j, k + 1, hj, h => by
    by_cases e : j = k + 1
    · subst e; exact h
    · exact accN_none (accN_stop (by omega) h)
theorem valB_lt {s : ByteArray} {u : Nat} (h : valB s = some u) : u < 256 := by
  unfold valB at h
  cases hq : Lib.parseUintB 8 s.data.toList <;> rw [hq] at h <;> simp at h
  subst h
  have := Lib.parseUintB_le hq
  omega
def partsB (s : ByteArray) : List ByteArray := Lib.splitB ⟨#[46]⟩ 0 (Lib.countB s ⟨#[46]⟩) s
theorem partsB_len (s : ByteArray) : (partsB s).length = Lib.countB s ⟨#[46]⟩ + 1 := Lib.splitB_all ⟨#[46]⟩ (by decide) 0 _ s rfl
/-- what impl.AddrRead answers -/
def implOk (s : ByteArray) (n : Nat) : Prop := (partsB s).length = 4 ∧ accN (partsB s) 4 = some n ∧ addrT n = s
theorem splitB_sizes (sep : ByteArray) : ∀ (k : Nat) (s : ByteArray), ∀ p ∈ Lib.splitB sep 0 k s, p.size ≤ s.size
  | 0, s, p, hp => by
    rw [Lib.splitB_zero] at hp
    simp at hp
    rw [hp]; exact Nat.le_refl _
  | k + 1, s, p, hp => by
    unfold Lib.splitB at hp
    split at hp
    · simp at hp; rw [hp]; exact Nat.le_refl _
    · rcases List.mem_cons.1 hp with rfl | h
      · rw [ByteArray.size_extract]; omega
      · have := splitB_sizes sep k _ p h
        rw [ByteArray.size_extract] at this
        omega
theorem partsB_sizes (s : ByteArray) (hs : s.size ≤ 8000) : ∀ p ∈ partsB s, p.size ≤ 8000 := fun p hp => Nat.le_trans (splitB_sizes _ _ _ p hp) hs
theorem valB_dec (n : Nat) (h : n < 256) : valB (decT n) = some n := by
  unfold valB
  have := parse_byte n h
  show (match Lib.parseUintB 8 (decL n).toArray.toList with | .ok u => some u | _ => none) = some n
  rw [show (decL n).toArray.toList = decL n from by simp, this]
theorem implOk_addr (n : Nat) (hn : n ≤ 4294967295) : implOk (addrT n) n := by
  have e : partsB (addrT n) = [decT (n / 16777216), decT (n / 65536 % 256), decT (n / 256 % 256), decT (n % 256)] := by
    unfold partsB; rw [count_dot n hn]; exact libSplit_addr n hn
  refine ⟨by rw [e]; rfl, ?_, rfl⟩
  rw [e]
  have h0 := valB_dec (n / 16777216) (by omega)
  have h1 := valB_dec (n / 65536 % 256) (by omega)
  have h2 := valB_dec (n / 256 % 256) (by omega)
  have h3 := valB_dec (n % 256) (by omega)
  simp [accN, h0, h1, h2, h3]
  omega
theorem toList_data (s : ByteArray) : s.toList = s.data.toList := ByteArray.toList_eq s
theorem addrT_pos (n : Nat) (hn : n ≤ 4294967295) : (addrT n).toList.isEmpty = false := by
  rw [toList_data, addrT_list]
  cases h : decL (n / 16777216) <;> simp
theorem code_yes (n : Nat) (hn : n ≤ 4294967295) : codeA (addrT n) = 0 ∧ numA (addrT n) = (n : Int) := by
  have hb : addrB (n : Int) = true := addrB_iff.2 (by omega)
  have e : addrAns (addrN (addrT n)) = addrT n := by
    rw [addrN_addr n hn]; unfold addrAns; rw [if_pos hb]; rfl
  have h0 : codeA (addrT n) = 0 := by
    unfold codeA
    rw [if_neg]
    rw [e, addrT_pos n hn]
    simp
  exact ⟨h0, by unfold numA; rw [if_pos h0, addrN_addr n hn]⟩
theorem code_no {s : ByteArray} (h : ∀ n, n ≤ 4294967295 → addrT n ≠ s) : codeA s = 3 ∧ numA s = 0 := by
  have h3 : codeA s = 3 := by
    unfold codeA
    by_cases hc : s.toList.isEmpty = true ∨ ((addrAns (addrN s)).toList == s.toList) = false
    · rw [if_pos hc]
    · exfalso
      have h1 : ((addrAns (addrN s)).toList == s.toList) = true := by
        cases hq : ((addrAns (addrN s)).toList == s.toList)
        · exact absurd (.inr hq) hc
        · rfl
      have h2 : s.toList.isEmpty = false := by
        cases hq : s.toList.isEmpty
        · rfl
        · exact absurd (.inl hq) hc
      have e : (addrAns (addrN s)) = s := by
        have := beq_iff_eq.1 h1
        rw [toList_data, toList_data] at this
        exact ByteArray.ext (Array.toList_inj.1 this)
      unfold addrAns at e
      by_cases hb : addrB (addrN s) = true
      · rw [if_pos hb] at e
        have := addrB_iff.1 hb
        exact h _ (by omega) e
      · rw [if_neg hb] at e
        rw [← e, toList_data] at h2
        simp at h2
  exact ⟨h3, by unfold numA; rw [if_neg (by rw [h3]; decide)]⟩
end Go.Proofs.YtedknnkdnccfmaaGreatDoor
end

section
namespace Go.Proofs.YtedknnkdnccfmaaGreatDoor
set_option linter.unusedVariables false

theorem errorB_with (p : Pk) (t : Tp) : errorB (withT p t) = errorB p := rfl
theorem with_right {p : Pk} {t : Tp} (hr : rightB p = true) (he : errorB p = false) (ht : rightT t = true) : rightB (withT p t) = true := by
  unfold rightT at ht
  unfold errorB at he
  unfold rightB tcpB udpB pingB at *
  simp only [withT]
  by_cases h6 : p.proto = 6
  · simp [h6] at hr he ⊢; simp at ht; grind
  · by_cases h17 : p.proto = 17
    · simp [h17] at hr he ⊢; simp at ht; grind
    · by_cases h1 : p.proto = 1
      · simp [h1] at hr he ⊢; simp at ht; grind
      · simp [h6, h17, h1] at hr
/-- the tuple of the packet with another tuple's ends -/
def given (p : Pk) (t : Tp) : Tp := ⟨p.proto, t.src, t.sport, t.dst, if p.proto = 1 then t.sport else t.dport, p.kind⟩
theorem ofAns_with {p : Pk} {t : Tp} (hr : rightB p = true) (he : errorB p = false) (ht : rightT t = true) : ofAns (withT p t) = given p t := by
  unfold ofAns
  rw [errorB_with, he, with_right hr he ht]
  unfold ofP withT given
  by_cases h1 : p.proto = 1 <;> simp [h1]
theorem given_yes {p : Pk} {t : Tp} (ht : rightT t = true) (hp : t.proto = p.proto) (hk : t.kind = p.kind) : given p t = t := by
  unfold given
  unfold rightT at ht
  obtain ⟨pr, s, sp, d, dp, k⟩ := t
  simp only at hp hk ht ⊢
  subst hp hk
  by_cases h1 : p.proto = 1
  · simp [h1] at ht ⊢; omega
  · simp [h1]
/-- what WithTuple answers -/
def withP (p : Pk) (t : Tp) : Pk := if withB p t = true then withT p t else zeroPk
def withC (p : Pk) (t : Tp) : Int := if withB p t = true then 0 else 1
end Go.Proofs.YtedknnkdnccfmaaGreatDoor
end
