/- Proved here: impl's small answers on nets and kinds: netOf, areBits, isRuleKind, isRuleProto, isNet (conditions: netOf of an address and 0 to 32 bits). -/
import Derived.Test.YtpcflfhblomcoaaRuleMath
import Derived.Test.YtpcflfhblomcoaaAddrs
import Derived.Test.YtpcflfhblomcoaaBlk
namespace Go.Proofs.Ytpcflfhblomcoaa
open Go.ChangeShapes Go.WideShapes Go.ChangeAt Go.RowKit
set_option linter.unusedVariables false
set_option linter.unusedSimpArgs false

set_option maxHeartbeats 1000000 in
theorem netOf_any (a b : Int) (ha : 0 ≤ a) (ha2 : a ≤ 4294967295) (h0 : 0 ≤ b) (h1 : b ≤ 32) (w : World) :
    Calls Try.prog 86 #[.int .i64 a, .int .i64 b] w fun e w' => e = .returned (.int .i64 (headN a b)) ∧ w' = w := by
  have hh := head_bd (b := b) ha
  have hH : Hid (headN a b = a / 2 ^ (32 - b).toNat * 2 ^ (32 - b).toNat) := rfl
  have hW : IntKind.i64.wrap (headN a b) = headN a b := IntWalk.i64_in _ (by omega)
  rw [hH.out] at hW
  go_enter Try.func86, Try.ntmps86
  go_wp2
  go_ret
  exact ⟨by rw [hH.out]; first | rfl | (rw [← hW]; rfl), rfl⟩
theorem areBits_any (b : Int) (w : World) :
    Calls Try.prog 85 #[.int .i64 b] w fun e w' => e = .returned (.bool (bitsB b)) ∧ w' = w := by
  by_cases h1 : 0 ≤ b
  · by_cases h2 : b ≤ 32
    · have e : Hid (bitsB b = true) := bits_iff.2 ⟨h1, h2⟩
      go_enter Try.func85, Try.ntmps85
      go_wp2
      go_ret
      exact ⟨by rw [e.out]; rfl, rfl⟩
    · have e : Hid (bitsB b = false) := by unfold Hid bitsB; simp; omega
      go_enter Try.func85, Try.ntmps85
      go_wp2
      go_ret
      exact ⟨by rw [e.out]; rfl, rfl⟩
  · have e : Hid (bitsB b = false) := by unfold Hid bitsB; simp; omega
    go_enter Try.func85, Try.ntmps85
    go_wp2
    go_ret
    exact ⟨by rw [e.out]; rfl, rfl⟩
theorem isRuleKind_any (k : Int) (w : World) :
    Calls Try.prog 89 #[.int .i64 k] w fun e w' => e = .returned (.bool (kindB k)) ∧ w' = w := by
  cases h1 : (k == 1)
  · cases h2 : (k == 2)
    · have e : Hid (kindB k = false) := by unfold Hid kindB; rw [h1, h2]; rfl
      go_enter Try.func89, Try.ntmps89
      go_wp2
      go_ret
      exact ⟨by rw [e.out]; rfl, rfl⟩
    · have e : Hid (kindB k = true) := by unfold Hid kindB; rw [h1, h2]; rfl
      go_enter Try.func89, Try.ntmps89
      go_wp2
      go_ret
      exact ⟨by rw [e.out]; rfl, rfl⟩
  · have e : Hid (kindB k = true) := by unfold Hid kindB; rw [h1]; rfl
    go_enter Try.func89, Try.ntmps89
    go_wp2
    go_ret
    exact ⟨by rw [e.out]; rfl, rfl⟩
set_option maxHeartbeats 1000000 in
theorem isRuleProto_any (p : Int) (w : World) :
    Calls Try.prog 94 #[.int .i64 p] w fun e w' => e = .returned (.bool (protoB p)) ∧ w' = w := by
  have e : Hid (protoB p = (p == 0 || p == 6 || p == 17 || p == 1)) := rfl
  cases h1 : (p == 0)
  · cases h2 : (p == 6)
    · cases h3 : (p == 17)
      · cases h4 : (p == 1)
        all_goals
          have e2 := hidS (e.out.trans (by rw [h1, h2, h3, h4]))
          clear e
          go_enter Try.func94, Try.ntmps94
          go_wp2
          go_ret
          exact ⟨by rw [e2.out]; rfl, rfl⟩
      · have e2 := hidS (e.out.trans (by rw [h1, h2, h3]))
        clear e
        go_enter Try.func94, Try.ntmps94
        go_wp2
        go_ret
        exact ⟨by rw [e2.out]; rfl, rfl⟩
    · have e2 := hidS (e.out.trans (by rw [h1, h2]))
      clear e
      go_enter Try.func94, Try.ntmps94
      go_wp2
      go_ret
      exact ⟨by rw [e2.out]; rfl, rfl⟩
  · have e2 := hidS (e.out.trans (by rw [h1]))
    clear e
    go_enter Try.func94, Try.ntmps94
    go_wp2
    go_ret
    exact ⟨by rw [e2.out]; rfl, rfl⟩
theorem areAddrs_one (g : Nat) (a : Int) (w : World) (hc : w.cell? ⟨g, 0, none⟩ = some (.int .i64 a)) :
    Calls Try.prog 84 #[.slice (some ⟨g, 0, none⟩) 1 1] w fun e w' => e = .returned (.bool (addrB a)) ∧ w' = w := by
  have := areAddrs_any g [a] w (fun j h => by obtain rfl : j = 0 := by simp at h; omega
                                              exact hc) (by simp)
  have e : allA [a] = addrB a := by simp [allA]
  rw [e] at this
  exact this
set_option maxHeartbeats 1000000 in
theorem isNet_any (n b : Int) (w : World) :
    Calls Try.prog 95 #[.int .i64 n, .int .i64 b] w fun e w' => e = .returned (.bool (netB n b)) ∧ Below w.heap.size w w' := by
  have HB := hidS ((Below.refl w.heap.size w).alloc (Nat.le_refl _) (.cells #[.int .i64 n] 2))
  have HC := blk_cell (heap_newG w (.cells #[.int .i64 n] 2)) 0
  have HA := hidS (areAddrs_one w.heap.size n _ HC)
  clear HC
  have hN : Hid (netB n b = (addrB n && bitsB b && headN n b == n)) := rfl
  cases h1 : addrB n
  · have e := hidS (hN.out.trans (by rw [h1]))
    rw [h1] at HA
    clear hN
    go_enter Try.func95, Try.ntmps95
    go_wp2_with fail
    refine HA.out.mono ?_
    rintro _ w1 ⟨rfl, rfl⟩
    go_wp2_with fail
    go_ret
    exact ⟨by rw [e.out]; rfl, HB.out⟩
  rw [h1] at HA
  cases h2 : bitsB b
  · have e := hidS (hN.out.trans (by rw [h1, h2]))
    have H2 := hidS (fun w => areBits_any b w)
    rw [h2] at H2
    clear hN h1 h2
    go_enter Try.func95, Try.ntmps95
    go_wp2_with fail
    refine HA.out.mono ?_
    rintro _ w1 ⟨rfl, rfl⟩
    go_wp2_with fail
    refine (H2.out _).mono ?_
    rintro _ w1 ⟨rfl, rfl⟩
    go_wp2_with fail
    go_ret
    exact ⟨by rw [e.out]; rfl, HB.out⟩
  · have e := hidS (hN.out.trans (by rw [h1, h2, Bool.true_and, Bool.true_and]))
    have H2 := hidS (fun w => areBits_any b w)
    rw [h2] at H2
    have H3 := hidS (fun w => netOf_any n b (addr_iff.1 h1).1 (addr_iff.1 h1).2 (bits_iff.1 h2).1 (bits_iff.1 h2).2 w)
    clear hN h1 h2
    go_enter Try.func95, Try.ntmps95
    go_wp2_with fail
    refine HA.out.mono ?_
    rintro _ w1 ⟨rfl, rfl⟩
    go_wp2_with fail
    refine (H2.out _).mono ?_
    rintro _ w1 ⟨rfl, rfl⟩
    go_wp2_with fail
    refine (H3.out _).mono ?_
    rintro _ w1 ⟨rfl, rfl⟩
    go_wp2_with fail
    go_ret
    exact ⟨by rw [e.out]; rfl, HB.out⟩
end Go.Proofs.Ytpcflfhblomcoaa
