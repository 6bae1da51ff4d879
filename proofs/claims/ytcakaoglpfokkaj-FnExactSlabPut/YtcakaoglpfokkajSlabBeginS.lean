/- Proved here: spec.l06Begin answers the code of a slot of a slab; all old memory stays (conditions: the slab's rows can be read; at most 2^20 numbers). -/
import Derived.Test.YtcakaoglpfokkajSlabLeads
namespace Go.Proofs.Ytcakaoglpfokkaj
open Go.ChangeShapes Go.WideShapes Go.ChangeAt Go.RowKit
set_option linter.unusedVariables false
set_option linter.unusedSimpArgs false
set_option maxRecDepth 100000

/-- a right slab and one of its slots -/
def atB (s : Slb) (n : Int) : Bool := rightSl s && (decide (0 ≤ n) && decide (n ≤ (s.slots.length : Int) - 1))
/-- what l06Begin answers -/
def beginAns (s : Slb) (n : Int) : Int := if atB s n = true then (if (slotN s n).refs = 0 then 6 else 0) else 1
theorem begin_at {s : Slb} {n : Int} (h : beginAns s n = 0) : rightSl s = true ∧ 0 ≤ n ∧ n < s.slots.length := by
  unfold beginAns at h
  cases hb : atB s n
  · rw [hb] at h; simp at h
  · unfold atB at hb; simp at hb; exact ⟨hb.1, hb.2.1, by omega⟩
set_option maxHeartbeats 2000000 in
theorem l06Begin_any (aS aH : Option Addr) (cS cH : Nat) (s : Slb) (c : Int) (w : World) (hR : SlabZ aS aH s w) (h1 : s.slots.length ≤ 1048576) (h2 : s.heads.length ≤ 1048576) :
    Calls Try.prog 45 #[.agg #[.slice aS s.slots.length cS, .slice aH s.heads.length cH], .int .i64 c] w fun e w' => e = .returned (.int .i64 (beginAns s c)) ∧ Below w.heap.size w w' := by
  have HS := hidS (fun W (h : Below w.heap.size w W) => specSlabRight_any aS aH cS cH s W (hR.later h) h1 h2)
  have HK := hidS (fun W => l02Is_any c 0 ((s.slots.length : Int) - 1) W)
  cases hr : rightSl s
  · have EZ : Hid (beginAns s c = 1) := by show _ = _; unfold beginAns atB; rw [hr]; rfl
    rw [hr] at HS
    clear hr hR
    have hGA0 : Hid ((w.alloc (.cells #[.slice aS s.slots.length cS, .slice aH s.heads.length cH] 29)).heap[w.heap.size]? = some (.cells #[.slice aS s.slots.length cS, .slice aH s.heads.length cH] 29)) := by
      show _ = _
      have := heap_newG w (.cells #[.slice aS s.slots.length cS, .slice aH s.heads.length cH] 29)
      simpa using this
    have hL0 := hidS ((Below.refl w.heap.size w).alloc (Nat.le_refl _) (.cells #[.slice aS s.slots.length cS, .slice aH s.heads.length cH] 29))
    go_enter Try.func45, Try.ntmps45
    go_wp2_with fail
    refine (HS.out _ hL0.out).mono ?_
    rintro _ w1 ⟨rfl, hb1⟩
    have hGA1 := hidS (blk_later hGA0.out hb1)
    have hL1 := hidS (hL0.out.trans (hb1.mono hL0.out.size))
    clear hb1 hL0 hGA0
    have cA0 := blk_cell hGA1.out 0
    have cA1 := blk_cell hGA1.out 1
    simp at cA0 cA1
    go_wp2_with fail
    go_ret
    exact ⟨by rw [EZ.out]; rfl, hL1.out⟩
  rw [hr] at HS
  cases hk : (decide (0 ≤ c) && decide (c ≤ (s.slots.length : Int) - 1))
  · have EZ : Hid (beginAns s c = 1) := by show _ = _; unfold beginAns atB; rw [hr, hk]; rfl
    rw [hk] at HK
    clear hr hk hR
    have hGA0 : Hid ((w.alloc (.cells #[.slice aS s.slots.length cS, .slice aH s.heads.length cH] 29)).heap[w.heap.size]? = some (.cells #[.slice aS s.slots.length cS, .slice aH s.heads.length cH] 29)) := by
      show _ = _
      have := heap_newG w (.cells #[.slice aS s.slots.length cS, .slice aH s.heads.length cH] 29)
      simpa using this
    have hL0 := hidS ((Below.refl w.heap.size w).alloc (Nat.le_refl _) (.cells #[.slice aS s.slots.length cS, .slice aH s.heads.length cH] 29))
    go_enter Try.func45, Try.ntmps45
    go_wp2_with fail
    refine (HS.out _ hL0.out).mono ?_
    rintro _ w1 ⟨rfl, hb1⟩
    have hGA1 := hidS (blk_later hGA0.out hb1)
    have hL1 := hidS (hL0.out.trans (hb1.mono hL0.out.size))
    clear hb1 hL0 hGA0
    have cA0 := blk_cell hGA1.out 0
    have cA1 := blk_cell hGA1.out 1
    simp at cA0 cA1
    go_wp2_with fail
    refine (HK.out _).mono ?_
    rintro _ v ⟨rfl, hv⟩
    rw [hv]
    clear hv v
    go_wp2_with fail
    go_ret
    exact ⟨by rw [EZ.out]; rfl, hL1.out⟩
  · have EZ : Hid (beginAns s c = if (slotN s c).refs = 0 then 6 else 0) := by show _ = _; unfold beginAns atB; rw [hr, hk]; rfl
    rw [hk] at HK
    have hk' : 0 ≤ c ∧ c ≤ (s.slots.length : Int) - 1 := by simpa using hk
    obtain ⟨C, rfl⟩ : ∃ C : Nat, c = C := ⟨c.toNat, by omega⟩
    have hC : C < s.slots.length := by omega
    have hCC : (0 : Int) ≤ (C : Int) ∧ (C : Int) < (s.slots.length : Int) := by omega
    have HR := hidS hR
    clear hr hk hR hk'
    have hGA0 : Hid ((w.alloc (.cells #[.slice aS s.slots.length cS, .slice aH s.heads.length cH] 29)).heap[w.heap.size]? = some (.cells #[.slice aS s.slots.length cS, .slice aH s.heads.length cH] 29)) := by
      show _ = _
      have := heap_newG w (.cells #[.slice aS s.slots.length cS, .slice aH s.heads.length cH] 29)
      simpa using this
    have hL0 := hidS ((Below.refl w.heap.size w).alloc (Nat.le_refl _) (.cells #[.slice aS s.slots.length cS, .slice aH s.heads.length cH] 29))
    go_enter Try.func45, Try.ntmps45
    go_wp2_with fail
    refine (HS.out _ hL0.out).mono ?_
    rintro _ w1 ⟨rfl, hb1⟩
    have hGA1 := hidS (blk_later hGA0.out hb1)
    have hL1 := hidS (hL0.out.trans (hb1.mono hL0.out.size))
    clear hb1 hL0 hGA0
    have cA0 := blk_cell hGA1.out 0
    have cA1 := blk_cell hGA1.out 1
    simp at cA0 cA1
    go_wp2_with fail
    refine (HK.out _).mono ?_
    rintro _ v ⟨rfl, hv⟩
    rw [hv]
    clear hv v
    obtain ⟨bS, oS, eS, lS, c0, c1, c2, c3⟩ := (HR.out.slots.later hL1.out).slot hC
    obtain ⟨x, hx⟩ : ∃ x, s.slots.getD C zeroSlt = x := ⟨_, rfl⟩
    have EX : Hid (slotN s (C : Int) = x) := by show _ = _; rw [slot_nat]; exact hx
    rw [hx] at c2
    rw [eS] at cA0
    clear hx c0 c1 c3
    by_cases hz : x.refs = 0
    · have EY : Hid (beginAns s (C : Int) = 6) := by show _ = _; rw [EZ.out, EX.out, if_pos hz]
      rw [hz] at c2
      clear hz
      go_wp2_with fail
      go_ret
      exact ⟨by rw [EY.out]; rfl, hL1.out⟩
    · have EY : Hid (beginAns s (C : Int) = 0) := by show _ = _; rw [EZ.out, EX.out, if_neg hz]
      have hzb : (x.refs == 0) = false := beq_eq_false_iff_ne.2 hz
      go_wp2_with fail
      go_ret
      exact ⟨by rw [EY.out]; rfl, hL1.out⟩
end Go.Proofs.Ytcakaoglpfokkaj
