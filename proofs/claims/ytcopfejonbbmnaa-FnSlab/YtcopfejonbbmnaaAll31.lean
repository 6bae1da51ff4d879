/- Proved here: spec.ChainOf answers the slots of a chain of a right slab, in memory of its own; all old memory stays (conditions: the slab's rows can be read; at most 2^20 numbers). · Proved here: nothing of a program: a right slab stays right; what is added is found, what is cut is not, all others are. -/
import Derived.Test.YtcopfejonbbmnaaAll15
import Derived.Test.YtcopfejonbbmnaaAll22
import Derived.Test.YtcopfejonbbmnaaSlabFactsA
import Derived.Test.YtcopfejonbbmnaaSlabAddS
import Derived.Test.YtcopfejonbbmnaaSlabPutS
import Derived.Test.YtcopfejonbbmnaaSlabGetS
import Derived.Test.YtcopfejonbbmnaaSlabNewS
section
namespace Go.Proofs.Ytcopfejonbbmnaa
open Go.ChangeShapes Go.WideShapes Go.ChangeAt Go.RowKit
set_option linter.unusedVariables false
set_option linter.unusedSimpArgs false
set_option maxRecDepth 100000

def chainB (s : Slb) (c : Int) : Bool := rightSl s && (decide (0 ≤ c) && decide (c ≤ (s.heads.length : Int) - 1))
/-- what ChainOf answers -/
def chainAns (s : Slb) (c : Int) : List Int := if chainB s c = true then (chainOf s c).1 else []
/-- numbers handed back, a row of their own -/
def NumsAns (l : List Int) (w : World) (e : Ending) (w' : World) : Prop := ∃ a cap, e = .returned (.slice a l.length cap) ∧ OwnR w.heap.size w'.heap.size a l w' ∧ Below w.heap.size w w'
set_option maxHeartbeats 2000000 in
theorem specChainOf_any (aS aH : Option Addr) (cS cH : Nat) (s : Slb) (c : Int) (w : World) (hR : SlabZ aS aH s w) (h1 : s.slots.length ≤ 1048576) (h2 : s.heads.length ≤ 1048576) :
    Calls Try.prog 22 #[.agg #[.slice aS s.slots.length cS, .slice aH s.heads.length cH], .int .i64 c] w fun e w' => NumsAns (chainAns s c) w e w' := by
  have HS := hidS (fun W (h : Below w.heap.size w W) => specSlabRight_any aS aH cS cH s W (hR.later h) h1 h2)
  have HK := hidS (fun W => l02Is_any c 0 ((s.heads.length : Int) - 1) W)
  cases hr : rightSl s
  · have EZ : Hid (chainAns s c = []) := by show _ = _; unfold chainAns chainB; rw [hr]; rfl
    rw [hr] at HS
    clear hr hR
    have hGA0 : Hid ((w.alloc (.cells #[.slice aS s.slots.length cS, .slice aH s.heads.length cH] 26)).heap[w.heap.size]? = some (.cells #[.slice aS s.slots.length cS, .slice aH s.heads.length cH] 26)) := by
      show _ = _
      have := heap_newG w (.cells #[.slice aS s.slots.length cS, .slice aH s.heads.length cH] 26)
      simpa using this
    have hL0 := hidS ((Below.refl w.heap.size w).alloc (Nat.le_refl _) (.cells #[.slice aS s.slots.length cS, .slice aH s.heads.length cH] 26))
    go_enter Try.func22, Try.ntmps22
    go_wp2_with fail
    refine (HS.out _ hL0.out).mono ?_
    rintro _ w1 ⟨rfl, hb1⟩
    have hGA1 := hidS (blk_later hGA0.out hb1)
    have hL1 := hidS (hL0.out.trans (hb1.mono hL0.out.size))
    clear hb1 hL0 hGA0
    have cA0 := blk_cell hGA1.out 0
    have cA1 := blk_cell hGA1.out 1
    simp at cA0 cA1
    go_wp2_with fail
    go_ret
    rw [EZ.out]
    exact ⟨_, _, rfl, .inl rfl, hL1.out.alloc hL1.out.size _⟩
  rw [hr] at HS
  cases hk : (decide (0 ≤ c) && decide (c ≤ (s.heads.length : Int) - 1))
  · have EZ : Hid (chainAns s c = []) := by show _ = _; unfold chainAns chainB; rw [hr, hk]; rfl
    rw [hk] at HK
    clear hr hk hR
    have hGA0 : Hid ((w.alloc (.cells #[.slice aS s.slots.length cS, .slice aH s.heads.length cH] 26)).heap[w.heap.size]? = some (.cells #[.slice aS s.slots.length cS, .slice aH s.heads.length cH] 26)) := by
      show _ = _
      have := heap_newG w (.cells #[.slice aS s.slots.length cS, .slice aH s.heads.length cH] 26)
      simpa using this
    have hL0 := hidS ((Below.refl w.heap.size w).alloc (Nat.le_refl _) (.cells #[.slice aS s.slots.length cS, .slice aH s.heads.length cH] 26))
    go_enter Try.func22, Try.ntmps22
    go_wp2_with fail
    refine (HS.out _ hL0.out).mono ?_
    rintro _ w1 ⟨rfl, hb1⟩
    have hGA1 := hidS (blk_later hGA0.out hb1)
    have hL1 := hidS (hL0.out.trans (hb1.mono hL0.out.size))
    clear hb1 hL0 hGA0
    have cA0 := blk_cell hGA1.out 0
    have cA1 := blk_cell hGA1.out 1
    simp at cA0 cA1
    go_wp2_with fail
    refine (HK.out _).mono ?_
    rintro _ v ⟨rfl, hv⟩
    rw [hv]
    clear hv v
    go_wp2_with fail
    go_ret
    rw [EZ.out]
    exact ⟨_, _, rfl, .inl rfl, hL1.out.alloc hL1.out.size _⟩
  · have EZ : Hid (chainAns s c = (chainOf s c).1) := by show _ = _; unfold chainAns chainB; rw [hr, hk]; rfl
    rw [hk] at HK
    obtain ⟨hLe, n1, n2, n3, n4⟩ := right_leads hr
    have hk' : 0 ≤ c ∧ c ≤ (s.heads.length : Int) - 1 := by simpa using hk
    obtain ⟨C, rfl⟩ : ∃ C : Nat, c = C := ⟨c.toNat, by omega⟩
    have HF := hidS (fun W (h : Below w.heap.size w W) => l06Chain_any aS aH cS cH s C W (hR.later h) hLe (by omega) (by omega) (by omega))
    generalize chainOf s (C : Int) = ch at EZ HF
    obtain ⟨l, en⟩ := ch
    clear hr hk hR hLe n1 n2 n3 n4 hk'
    have hGA0 : Hid ((w.alloc (.cells #[.slice aS s.slots.length cS, .slice aH s.heads.length cH] 26)).heap[w.heap.size]? = some (.cells #[.slice aS s.slots.length cS, .slice aH s.heads.length cH] 26)) := by
      show _ = _
      have := heap_newG w (.cells #[.slice aS s.slots.length cS, .slice aH s.heads.length cH] 26)
      simpa using this
    have hL0 := hidS ((Below.refl w.heap.size w).alloc (Nat.le_refl _) (.cells #[.slice aS s.slots.length cS, .slice aH s.heads.length cH] 26))
    go_enter Try.func22, Try.ntmps22
    go_wp2_with fail
    refine (HS.out _ hL0.out).mono ?_
    rintro _ w1 ⟨rfl, hb1⟩
    have hGA1 := hidS (blk_later hGA0.out hb1)
    have hL1 := hidS (hL0.out.trans (hb1.mono hL0.out.size))
    clear hb1 hL0 hGA0
    have cA0 := blk_cell hGA1.out 0
    have cA1 := blk_cell hGA1.out 1
    simp at cA0 cA1
    go_wp2_with fail
    refine (HK.out _).mono ?_
    rintro _ v ⟨rfl, hv⟩
    rw [hv]
    clear hv v
    go_wp2_with fail
    refine (HF.out _ hL1.out).mono ?_
    rintro _ w2 ⟨a, cap, rfl, ho, hb2⟩
    have hL2 := hidS (hL1.out.trans (hb2.mono hL1.out.size))
    have HO : Hid (OwnR w.heap.size w2.heap.size a l w2) := by
      show OwnR _ _ _ _ _
      rcases ho with e | ⟨b, p, e, q1, q2, q3⟩
      · exact .inl e
      · exact .inr ⟨b, p, e, Nat.le_trans hL1.out.size q1, q2, q3⟩
    clear ho hb2
    go_wp2_with fail
    go_ret
    rw [EZ.out]
    exact ⟨a, cap, rfl, HO.out, hL2.out⟩
end Go.Proofs.Ytcopfejonbbmnaa
end

section
namespace Go.Proofs.Ytcopfejonbbmnaa
open Go.ChangeShapes Go.WideShapes Go.ChangeAt Go.RowKit
set_option linter.unusedVariables false
set_option linter.unusedSimpArgs false
set_option maxRecDepth 100000

theorem free_at : ∀ ss : List Slt, freeK ss < ss.length → ¬ 0 < (ss.getD (freeK ss) zeroSlt).refs
  | [], h => by simp [freeK] at h
  | x :: ss, h => by
    unfold freeK at h ⊢
    by_cases hx : 0 < x.refs
    · rw [if_pos hx] at h ⊢
      simp only [List.length_cons] at h
      simpa using free_at ss (by omega)
    · rw [if_neg hx]
      simpa using hx
theorem new_right {n m : Int} (h : newB n m = true) : rightSl (newSl n m) = true := by
  have e : newSl n m = ⟨zeroSlots n.toNat, ends m.toNat⟩ := by unfold newSl; rw [if_pos h]
  unfold newB at h
  simp only [Bool.and_eq_true, decide_eq_true_eq] at h
  rw [e]
  refine of_rt ⟨?_, ?_, ?_⟩
  · unfold sizesB; simp [zeroSlots, ends]; omega
  · refine List.all_eq_true.2 fun x hx => ?_
    have : x = ⟨0, 0, 0, -1⟩ := by
      have := (List.mem_replicate.1 (show x ∈ List.replicate n.toNat (⟨0, 0, 0, -1⟩ : Slt) from hx)).2
      exact this
    subst this
    simp [okS, keyB, timeB, nextB, endB, zeroSlots, ends]
    omega
  · intro c hc
    refine ⟨[], ?_, fun y hy => by simp at hy, List.nodup_nil⟩
    have hc : c < m.toNat := by simpa [ends] using hc
    show (ends m.toNat).getD c 0 = -1 - (c : Int)
    simp [ends, hc]
end Go.Proofs.Ytcopfejonbbmnaa
end
