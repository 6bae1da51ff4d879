/- Proved here: impl.AddrText answers the text of an address (else the empty text); all old memory stays (condition: the library's table of the powers of ten holds them). -/
import Derived.Test.YtbhemimhmkgfiaaDoorShelf
import Derived.Lib.AppendIntMem
import Derived.Test.YtbhemimhmkgfiaaDoorAddrSpec
import Derived.Test.YtbhemimhmkgfiaaDoorAddrs
import Derived.Test.YtbhemimhmkgfiaaDoorBlk
namespace Go.Proofs.YtbhemimhmkgfiaaDoor
open Go.ChangeShapes Go.WideShapes Go.ChangeAt Go.RowKit
set_option linter.unusedVariables false
set_option maxRecDepth 100000

theorem tab_later {P : Program} {w w' : World} {n : String} {k : IntKind} {zs : List Int} (h : Lib.TabIs P w n k zs) (hb : Below w.heap.size w w') : Lib.TabIs P w' n k zs := by
  unfold Lib.TabIs World.var? at h ⊢
  cases hg : P.globalNamed n with
  | none => rw [hg] at h; cases h
  | some g =>
    rw [hg] at h
    simp only [Option.bind_some] at h ⊢
    have hlt : g < w.heap.size := by
      cases hh : w.heap[g]? with
      | none => rw [hh] at h; cases h
      | some o => exact (Array.getElem?_eq_some_iff.1 hh).1
    rw [hb.block g hlt]; exact h
theorem decR_zero (f : Nat) : decR f 0 = [] := by cases f <;> rfl
theorem dec_all : ∀ f u, u ≠ 0 → u < 10 ^ f → decR f u = Lib.decDigits u
  | 0, u, h0, h => by simp at h; omega
  | f + 1, u, h0, h => by
    rw [decR_succ h0]
    by_cases h10 : u < 10
    · rw [show u / 10 = 0 by omega, decR_zero, Lib.decDigits_one h10, show u % 10 = u by omega]; rfl
    · rw [dec_all f (u / 10) (by omega) (by rw [Nat.pow_succ] at h; omega)]
      conv => rhs; rw [Lib.decDigits, dif_neg h10]
theorem dec_byte (n : Nat) (h : n < 256) : Lib.decDigits n = decL n := by
  unfold decL
  by_cases h0 : n = 0
  · subst h0; rw [if_pos rfl, Lib.decDigits_one (by omega)]; rfl
  · rw [if_neg h0]; exact (dec_all 20 n h0 (by omega)).symm
theorem grow_bel (w : World) (k : Nat) (os : Array Obj) : Below w.heap.size w (Go.Sort.grow (w.drewN k) os) := Lib.below_grow _ _ (Nat.le_refl _) k os
theorem formatB (m : Nat) (x : Int) (w : World) (hx : x = (m : Int)) (hm : m < 256) (htab : Lib.TabIs Tryd.prog w "internal/strconv.uint64pow10" .u64 Lib.pow10Tab) :
    Calls Tryd.prog 70 #[.int .i64 x, .int .i64 10] w fun e w' => e = .returned (.string (decT m)) ∧ Below w.heap.size w w' := by
  subst hx
  refine (Tryd.strconv_FormatInt_10 (m : Int) (by omega) (by omega) w htab).mono ?_
  rintro e w' ⟨rfl, k, os, rfl⟩
  refine ⟨?_, grow_bel w k os⟩
  have : Lib.itoa (m : Int) = decL m := by
    unfold Lib.itoa
    rw [if_neg (by omega), Int.toNat_natCast, dec_byte m hm]
  rw [this]; rfl

theorem and255 (n : Nat) (h : n < 9223372036854775808) : bits BinOp.and IntKind.i64 (n : Int) 255 = ((n % 256 : Nat) : Int) := by
  have := i64_and_nat n 255 h (by omega)
  rw [show n &&& 255 = n % 256 from Nat.and_two_pow_sub_one_eq_mod n 8] at this
  exact this
theorem join_addr (m : Nat) (hm : m ≤ 4294967295) : (⟨(Lib.join ([decT (m / 16777216 % 256), decT (m / 65536 % 256), decT (m / 256 % 256), decT (m % 256)].map (·.data.toList)) [46]).toArray⟩ : ByteArray) = addrT m := by
  have e : m / 16777216 % 256 = m / 16777216 := by omega
  rw [e]
  refine ByteArray.ext ?_
  apply Array.toList_inj.1
  unfold addrT dotT Lib.join
  simp [List.intercalate, List.intersperse]
theorem join_short (m : Nat) : (Lib.join ([decT (m / 16777216 % 256), decT (m / 65536 % 256), decT (m / 256 % 256), decT (m % 256)].map (·.data.toList)) (⟨#[46]⟩ : ByteArray).data.toList).length ≤ 140737488355328 := by
  have z1 := decT_size (m / 16777216 % 256)
  have z2 := decT_size (m / 65536 % 256)
  have z3 := decT_size (m / 256 % 256)
  have z4 := decT_size (m % 256)
  unfold Lib.join
  simp [List.intercalate, List.intersperse]
  omega
set_option maxHeartbeats 2000000 in
theorem addrI_yes (m : Nat) (w : World) (hm : m ≤ 4294967295) (htab : Lib.TabIs Tryd.prog w "internal/strconv.uint64pow10" .u64 Lib.pow10Tab) :
    Calls Tryd.prog 69 #[.int .i64 (m : Int)] w fun e w' => e = .returned (.string ⟨(Lib.join ([decT (m / 16777216 % 256), decT (m / 65536 % 256), decT (m / 256 % 256), decT (m % 256)].map (·.data.toList)) [46]).toArray⟩) ∧ Below w.heap.size w w' := by
  have ha : allA [(m : Int)] = true := by simp [allA, addrB]; omega
  have HT := hidS (fun W (hW : Below w.heap.size w W) => tab_later htab hW)
  clear htab
  have e0 : Hid (bits BinOp.and IntKind.i64 ((m : Int) / 16777216) 255 = ((m / 16777216 % 256 : Nat) : Int)) := by
    show _ = _
    have h : (m : Int) / 16777216 = ((m / 16777216 : Nat) : Int) := by omega
    rw [h]; exact and255 _ (by omega)
  have e1 : Hid (bits BinOp.and IntKind.i64 ((m : Int) / 65536) 255 = ((m / 65536 % 256 : Nat) : Int)) := by
    show _ = _
    have h : (m : Int) / 65536 = ((m / 65536 : Nat) : Int) := by omega
    rw [h]; exact and255 _ (by omega)
  have e2 : Hid (bits BinOp.and IntKind.i64 ((m : Int) / 256) 255 = ((m / 256 % 256 : Nat) : Int)) := by
    show _ = _
    have h : (m : Int) / 256 = ((m / 256 : Nat) : Int) := by omega
    rw [h]; exact and255 _ (by omega)
  have e3 : Hid (bits BinOp.and IntKind.i64 ((m : Int)) 255 = ((m % 256 : Nat) : Int)) := by
    show _ = _
    have h : (m : Int) = ((m : Nat) : Int) := by omega
    rw [h]; exact and255 _ (by omega)
  have hL0 := hidS (((Below.refl w.heap.size w).alloc (Nat.le_refl _) (.cells #[.int .i64 (m : Int)] 2)).alloc (by simp) (.cells #[.string ⟨#[]⟩, .string ⟨#[]⟩, .string ⟨#[]⟩, .string ⟨#[]⟩] 99))
  have hG' : ((w.alloc (.cells #[.int .i64 (m : Int)] 2)).alloc (.cells #[.string ⟨#[]⟩, .string ⟨#[]⟩, .string ⟨#[]⟩, .string ⟨#[]⟩] 99)).heap[w.heap.size + 1]? = some (.cells #[.string ⟨#[]⟩, .string ⟨#[]⟩, .string ⟨#[]⟩, .string ⟨#[]⟩] 99) := by
    have := heap_newG (w.alloc (.cells #[.int .i64 (m : Int)] 2)) (.cells #[.string ⟨#[]⟩, .string ⟨#[]⟩, .string ⟨#[]⟩, .string ⟨#[]⟩] 99)
    simpa using this
  have hG0 := hidS hG'
  clear hG'
  go_enter Tryd.func69, Tryd.ntmps69
  go_wp2_with fail
  refine (areAddrs_any w.heap.size [(m : Int)] _ (one_cell _ _ _) (by simp)).mono ?_
  rintro _ w1 ⟨rfl, rfl⟩
  rw [ha]
  go_wp2_with fail
  refine wp_loop_rounds 5 ?_
  rw [rounds_succ]
  go_wp2_with fail
  refine (formatB (m / 16777216 % 256) _ _ e0.out (by omega) (HT.out _ hL0.out)).mono ?_
  rintro _ v0 ⟨rfl, hb⟩
  have hk := blk_later hG0.out hb
  have c0 := blk_cell hk 0
  have c1 := blk_cell hk 1
  have c2 := blk_cell hk 2
  have c3 := blk_cell hk 3
  simp at c0 c1 c2 c3
  have f0 := blk_free hk 0
  have hL1 := hidS (below_at (k := 0) (b := w.heap.size + 1) (v := .string (decT (m / 16777216 % 256))) (hL0.out.trans (hb.mono hL0.out.size)) (by omega))
  have hG1 : Hid ((v0.setCell ⟨w.heap.size + 1, 0, none⟩ (.string (decT (m / 16777216 % 256)))).heap[w.heap.size + 1]? = some (.cells #[.string (decT (m / 16777216 % 256)), .string ⟨#[]⟩, .string ⟨#[]⟩, .string ⟨#[]⟩] 99)) := by
    have := blk_set hk 0 (.string (decT (m / 16777216 % 256)))
    exact this
  clear hb hk hL0 hG0
  go_wp2_with fail
  clear c0 c1 c2 c3 f0
  generalize v0.setCell ⟨w.heap.size + 1, 0, none⟩ (.string (decT (m / 16777216 % 256))) = z0 at hL1 hG1 ⊢
  rw [rounds_succ]
  go_wp2_with fail
  refine (formatB (m / 65536 % 256) _ _ e1.out (by omega) (HT.out _ hL1.out)).mono ?_
  rintro _ v1 ⟨rfl, hb⟩
  have hk := blk_later hG1.out hb
  have c0 := blk_cell hk 0
  have c1 := blk_cell hk 1
  have c2 := blk_cell hk 2
  have c3 := blk_cell hk 3
  simp at c0 c1 c2 c3
  have f0 := blk_free hk 1
  have hL2 := hidS (below_at (k := 1) (b := w.heap.size + 1) (v := .string (decT (m / 65536 % 256))) (hL1.out.trans (hb.mono hL1.out.size)) (by omega))
  have hG2 : Hid ((v1.setCell ⟨w.heap.size + 1, 1, none⟩ (.string (decT (m / 65536 % 256)))).heap[w.heap.size + 1]? = some (.cells #[.string (decT (m / 16777216 % 256)), .string (decT (m / 65536 % 256)), .string ⟨#[]⟩, .string ⟨#[]⟩] 99)) := by
    have := blk_set hk 1 (.string (decT (m / 65536 % 256)))
    exact this
  clear hb hk hL1 hG1
  go_wp2_with fail
  clear c0 c1 c2 c3 f0
  generalize v1.setCell ⟨w.heap.size + 1, 1, none⟩ (.string (decT (m / 65536 % 256))) = z1 at hL2 hG2 ⊢
  rw [rounds_succ]
  go_wp2_with fail
  refine (formatB (m / 256 % 256) _ _ e2.out (by omega) (HT.out _ hL2.out)).mono ?_
  rintro _ v2 ⟨rfl, hb⟩
  have hk := blk_later hG2.out hb
  have c0 := blk_cell hk 0
  have c1 := blk_cell hk 1
  have c2 := blk_cell hk 2
  have c3 := blk_cell hk 3
  simp at c0 c1 c2 c3
  have f0 := blk_free hk 2
  have hL3 := hidS (below_at (k := 2) (b := w.heap.size + 1) (v := .string (decT (m / 256 % 256))) (hL2.out.trans (hb.mono hL2.out.size)) (by omega))
  have hG3 : Hid ((v2.setCell ⟨w.heap.size + 1, 2, none⟩ (.string (decT (m / 256 % 256)))).heap[w.heap.size + 1]? = some (.cells #[.string (decT (m / 16777216 % 256)), .string (decT (m / 65536 % 256)), .string (decT (m / 256 % 256)), .string ⟨#[]⟩] 99)) := by
    have := blk_set hk 2 (.string (decT (m / 256 % 256)))
    exact this
  clear hb hk hL2 hG2
  go_wp2_with fail
  clear c0 c1 c2 c3 f0
  generalize v2.setCell ⟨w.heap.size + 1, 2, none⟩ (.string (decT (m / 256 % 256))) = z2 at hL3 hG3 ⊢
  rw [rounds_succ]
  go_wp2_with fail
  refine (formatB (m % 256) _ _ e3.out (by omega) (HT.out _ hL3.out)).mono ?_
  rintro _ v3 ⟨rfl, hb⟩
  have hk := blk_later hG3.out hb
  have c0 := blk_cell hk 0
  have c1 := blk_cell hk 1
  have c2 := blk_cell hk 2
  have c3 := blk_cell hk 3
  simp at c0 c1 c2 c3
  have f0 := blk_free hk 3
  have hL4 := hidS (below_at (k := 3) (b := w.heap.size + 1) (v := .string (decT (m % 256))) (hL3.out.trans (hb.mono hL3.out.size)) (by omega))
  have hG4 : Hid ((v3.setCell ⟨w.heap.size + 1, 3, none⟩ (.string (decT (m % 256)))).heap[w.heap.size + 1]? = some (.cells #[.string (decT (m / 16777216 % 256)), .string (decT (m / 65536 % 256)), .string (decT (m / 256 % 256)), .string (decT (m % 256))] 99)) := by
    have := blk_set hk 3 (.string (decT (m % 256)))
    exact this
  clear hb hk hL3 hG3
  go_wp2_with fail
  clear c0 c1 c2 c3 f0
  generalize v3.setCell ⟨w.heap.size + 1, 3, none⟩ (.string (decT (m % 256))) = z3 at hL4 hG4 ⊢
  rw [rounds_succ]
  have hxs : ∀ (j : Nat) x, [decT (m / 16777216 % 256), decT (m / 65536 % 256), decT (m / 256 % 256), decT (m % 256)][j]? = some x → z3.cell? ⟨w.heap.size + 1, 0 + j, none⟩ = some (.string x) := by
    intro j x hx
    rw [Nat.zero_add, blk_cell hG4.out j]
    match j, hx with
    | 0, h => simp at h; subst h; rfl
    | 1, h => simp at h; subst h; rfl
    | 2, h => simp at h; subst h; rfl
    | 3, h => simp at h; subst h; rfl
    | j + 4, h => simp at h
  have HJ := hidS (Tryd.strings_Join (w.heap.size + 1) 0 4 [decT (m / 16777216 % 256), decT (m / 65536 % 256), decT (m / 256 % 256), decT (m % 256)] ⟨#[46]⟩ z3 hxs (blk_lt hG4.out) (by simp) (by simp) (join_short m))
  clear hxs HT e0 e1 e2 e3
  go_wp2_with fail
  refine HJ.out.mono ?_
  rintro _ w9 ⟨rfl, hb9⟩
  have hE := hidS (hL4.out.trans (hb9.mono hL4.out.size))
  clear hb9 hL4 hG4 HJ
  go_wp2_with fail
  go_ret
  exact ⟨rfl, hE.out⟩
theorem addrI_any (n : Int) (w : World) (htab : Lib.TabIs Tryd.prog w "internal/strconv.uint64pow10" .u64 Lib.pow10Tab) :
    Calls Tryd.prog 69 #[.int .i64 n] w fun e w' => e = .returned (.string (addrAns n)) ∧ Below w.heap.size w w' := by
  cases h : addrB n
  · have e : Hid (addrAns n = ⟨#[]⟩) := if_neg (by rw [h]; simp)
    have hal : allA [n] = false := by simp [allA, h]
    have hB := fun o => hidS ((Below.refl w.heap.size w).alloc (Nat.le_refl _) o)
    go_enter Tryd.func69, Tryd.ntmps69
    go_wp2_with fail
    refine (areAddrs_any w.heap.size [n] _ (one_cell _ _ _) (by simp)).mono ?_
    rintro _ w1 ⟨rfl, rfl⟩
    rw [hal]
    go_wp2_with fail
    go_ret
    exact ⟨by rw [e.out]; rfl, (hB _).out⟩
  · obtain ⟨m, rfl⟩ : ∃ m : Nat, n = m := ⟨n.toNat, by have := addrB_iff.1 h; omega⟩
    have hm := (addrB_iff.1 h).2
    have e : addrAns (m : Int) = addrT m := if_pos h
    rw [e, ← join_addr m (by omega)]
    exact addrI_yes m w (by omega) htab
end Go.Proofs.YtbhemimhmkgfiaaDoor
