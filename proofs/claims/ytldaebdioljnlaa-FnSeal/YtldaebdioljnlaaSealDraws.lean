/- Proved here: laws.lwAt answers a number below 'most', or 0; spec.DrawSeal and spec.DrawCrcMore answer some text of at most 20000 bytes, some number and some text of at most 8 bytes; all old memory stays (condition: the bytes that are drawn from can be read, at most 2^20 of them). -/
import Derived.Test.YtldaebdioljnlaaSrc2
import Derived.Test.YtldaebdioljnlaaCrcSpec
import Derived.Deep.OwnRows
namespace Go.Proofs.Ytldaebdioljnlaa
open Go.ChangeShapes Go.WideShapes Go.ChangeAt Go.RowKit
open Go.ChangeMaps (open_string shut_string)
set_option linter.unusedVariables false

/-- what lwAt answers -/
def AtOf (most : Int) (w : World) (e : Ending) (w' : World) : Prop := ∃ r : Int, e = .returned (.int .i64 r) ∧ 0 ≤ r ∧ (r < most ∨ r = 0) ∧ w' = w

set_option maxRecDepth 100000 in
theorem lwAt_any (B : Nat) (a : Option Addr) (len cap : Nat) (i most : Int) (w : World) (hR : RowAt B a len w) (hl : len ≤ 1048576) (hi : 0 ≤ i) (hi2 : i ≤ 1000) (hm : most ≤ 4611686018427387904) :
    Calls Try.prog 7 #[.slice a len cap, .int .i64 i, .int .i64 most] w fun e w' => AtOf most w e w' := by
  by_cases h1 : most ≤ 1
  · go_enter Try.func7, Try.ntmps7
    go_wp2
    go_ret
    exact ⟨0, rfl, by omega, Or.inr rfl, rfl⟩
  by_cases h0 : len = 0
  · subst h0
    go_enter Try.func7, Try.ntmps7
    go_wp2
    go_ret
    exact ⟨0, rfl, by omega, Or.inr rfl, rfl⟩
  · have hne : ((len : Int) == 0) = false := beq_eq_false_iff_ne.2 (by omega)
    have hp : 0 < (len : Int) := by omega
    have hl' : (len : Int) ≤ 1048576 := by omega
    have hj1 : 0 ≤ i % (len : Int) := Int.emod_nonneg _ (by omega)
    have hj2 : i % (len : Int) < (len : Int) := Int.emod_lt_of_pos _ hp
    obtain ⟨b, o, rfl, hbB, z, hz1, hz2, hc⟩ := hR (i % (len : Int)).toNat (by omega)
    have h1' : 1 < most := by omega
    clear hR h1
    go_enter Try.func7, Try.ntmps7
    go_wp2
    go_ret
    exact ⟨z % most, rfl, Int.emod_nonneg _ (by omega), Or.inl (Int.emod_lt_of_pos _ (by omega)), rfl⟩

theorem made_own (w : World) (B N : Nat) (hB : B ≤ w.heap.size) (hN : N ≤ 100000) : (w.alloc (.cells (madeCells #[.int .u8 0] N) 5)).ownsRow B 5 1 (.slice (some ⟨w.heap.size, 0, none⟩) (List.replicate N (0 : UInt8)).length N) (List.replicate N (0 : UInt8)).length (bytesV (List.replicate N 0)) := by
  have hl : (List.replicate N (0 : UInt8)).length = N := List.length_replicate
  rw [hl]
  refine ⟨by simp [bytesV], Or.inr ⟨w.heap.size, N, madeCells #[.int .u8 0] N, rfl, hB, heap_new _ _, Nat.le_refl _, by unfold maxLen; omega, by rw [size_madeCells]; omega, ?_⟩⟩
  rw [List.take_of_length_le (by rw [Array.length_toList, size_madeCells]; omega)]
  apply List.ext_getElem
  · simp [size_madeCells, bytesV]
  · intro i h1 h2
    simp only [bytesV, madeCells, Array.getElem_toList, List.getElem_map, List.getElem_replicate, Array.getElem_map, Array.getElem_range]
    simp [Nat.mod_one]

/-- what DrawSeal answers -/
def SomeText (most : Nat) (w : World) (e : Ending) (w' : World) : Prop := ∃ t : ByteArray, e = .returned (.string t) ∧ t.size ≤ most ∧ Below w.heap.size w w'

set_option maxRecDepth 100000 in
set_option maxHeartbeats 2000000 in
theorem drawSeal_any (a : Option Addr) (len cap : Nat) (w : World) (hR : RowAt w.heap.size a len w) (hl : len ≤ 1048576) :
    Calls Try.prog 4 #[.slice a len cap] w fun e w' => SomeText 20000 w e w' := by
  go_enter Try.func4, Try.ntmps4
  go_wp2_with fail
  refine (source_any a len cap w hR hl).mono ?_
  rintro e w1 ⟨rfl, hS1, hb1⟩
  go_wp2_with fail
  refine (srcOne_any _ a len cap 30 w1 hS1 (by omega)).mono ?_
  rintro e w2 ⟨c, rfl, hS2, hO2⟩
  have hb2 := hb1.trans hO2.below
  clear hR hS1 hO2 hb1
  cases c
  · go_wp2_with fail
    refine (srcN_any _ a len cap 20 w2 hS2 (by omega)).mono ?_
    rintro e w3 ⟨r, rfl, hr1, hr2, hS3, hO3⟩
    have hb3 := hb2.trans hO3.below
    have hr3 : r ≤ 19 := by omega
    clear hS2 hO3 hb2 hr2
    go_wp2_with fail
    refine (srcBytes_any _ a len cap r w3 hS3 (by omega)).mono ?_
    rintro e w4 ⟨t, rfl, ht, hS4, hb4⟩
    have hb5 := hb3.trans hb4
    have ht2 : t.size ≤ 20000 := by omega
    clear hS3 hb3 hb4 hS4 ht
    go_wp2
    go_ret
    exact ⟨t, rfl, ht2, hb5⟩
  · go_wp2_with fail
    refine (srcN_any _ a len cap 3 w2 hS2 (by omega)).mono ?_
    rintro e w3 ⟨r, rfl, hr1, hr2, hS3, hO3⟩
    have hb3 := hb2.trans hO3.below
    have hr3 : r ≤ 2 := by omega
    have hlt := hS3.lt
    clear hS2 hO3 hb2 hr2 hS3
    obtain ⟨N, hN⟩ : ∃ N : Nat, (N : Int) = 19995 + r := ⟨(19995 + r).toNat, by omega⟩
    have hmk := run_make_row' (P := Try.prog) 22 5 (.int .u8 0) 1 Try.underlying22 Try.infoU8 rfl .i64 .i64 N (by omega) (by omega) w3
    rw [hN] at hmk
    have hcv := conv_own (made_own w3 w3.heap.size N (Nat.le_refl _) (by omega))
    have hl2 : (List.replicate N (0 : UInt8)).length = N := List.length_replicate
    rw [hl2] at hcv
    obtain ⟨s, hs, hsz⟩ : ∃ s : ByteArray, s = ⟨(List.replicate N (0 : UInt8)).toArray⟩ ∧ s.size ≤ 20000 := ⟨_, rfl, by show (List.replicate N (0 : UInt8)).toArray.size ≤ _; simp; omega⟩
    rw [← hs] at hcv
    clear hs hl2 hN
    go_wp2
    go_ret
    exact ⟨s, rfl, hsz, (hb3.alloc (by have := hb3.size; omega) _)⟩

/-- what DrawCrcMore answers -/
def SomeCrc (w : World) (e : Ending) (w' : World) : Prop := ∃ (c : Int) (t : ByteArray), e = .returned (.tuple #[.int .i64 c, .string t]) ∧ t.size ≤ 8 ∧ Below w.heap.size w w'

set_option maxRecDepth 100000 in
set_option maxHeartbeats 2000000 in
theorem drawCrcMore_any (a : Option Addr) (len cap : Nat) (w : World) (hR : RowAt w.heap.size a len w) (hl : len ≤ 1048576) :
    Calls Try.prog 9 #[.slice a len cap] w fun e w' => SomeCrc w e w' := by
  go_enter Try.func9, Try.ntmps9
  go_wp2_with fail
  refine (source_any a len cap w hR hl).mono ?_
  rintro e w1 ⟨rfl, hS1, hb1⟩
  go_wp2_with fail
  refine (srcN_any _ a len cap 9 w1 hS1 (by omega)).mono ?_
  rintro e w2 ⟨r, rfl, hr1, hr2, hS2, hO2⟩
  have hb2 := hb1.trans hO2.below
  have hr3 : r ≤ 8 := by omega
  clear hR hS1 hO2 hb1 hr2
  go_wp2_with fail
  refine (srcBytes_any _ a len cap r w2 hS2 (by omega)).mono ?_
  rintro e w3 ⟨t, rfl, ht, hS3, hb3⟩
  have hb4 := hb2.trans hb3
  have ht2 : t.size ≤ 8 := by omega
  clear hS2 hb2 hb3 ht
  go_wp2_with fail
  refine (srcOne_any _ a len cap 5 w3 hS3 (by omega)).mono ?_
  rintro e w4 ⟨c, rfl, hS4, hO4⟩
  have hb5 := hb4.trans hO4.below
  clear hS3 hO4 hb4 hr1 hr3
  cases c
  · go_wp2_with fail
    refine (srcN_any _ a len cap 9 w4 hS4 (by omega)).mono ?_
    rintro e w5 ⟨r2, rfl, hr1, hr2, hS5, hO5⟩
    have hb6 := hb5.trans hO5.below
    have hr3 : r2 ≤ 8 := by omega
    clear hS4 hO5 hb5 hr2
    go_wp2_with fail
    refine (srcBytes_any _ a len cap r2 w5 hS5 (by omega)).mono ?_
    rintro e w6 ⟨u, rfl, hu, hS6, hb7⟩
    have hb8 := hb6.trans hb7
    clear hS5 hb6 hb7
    go_wp2_with fail
    refine (specCrc_any u w6 (by unfold maxLen; omega)).mono ?_
    rintro e w7 ⟨rfl, hw⟩
    subst hw
    go_wp2
    go_ret2
    exact ⟨_, t, rfl, ht2, hb8⟩
  · go_wp2_with fail
    refine (srcEdge_any _ a len cap w4 hS4).mono ?_
    rintro e w5 ⟨r2, rfl, hr1, hr2, hS5, hb6⟩
    have hb7 := hb5.trans hb6
    clear hS4 hb5 hb6 hr1 hr2
    go_wp2
    go_ret2
    exact ⟨r2, t, rfl, ht2, hb7⟩
end Go.Proofs.Ytldaebdioljnlaa
