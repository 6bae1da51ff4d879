/- Proved here: the law on regions that draw their order, for operations that also draw from a source: the source's block alone may turn (no program of its own). -/
import Derived.Test.YtedknnkdnccfmaaGreatDoorGrow
import Derived.Test.YtedknnkdnccfmaaGreatDoorAll4
namespace Go.Proofs.YtedknnkdnccfmaaGreatDoor
open Go.ChangeShapes Go.WideShapes Go.ChangeAt Go.RowKit
set_option linter.unusedVariables false
set_option linter.unusedSimpArgs false

section
variable {P : Program} {ops : Array Oper} {Q : Exit → Act → World → Prop} {a0 : Act}

/-- a kind of value: what is said of it in a world -/
def Kp : Type := Value → World → Prop
def isP (x : Value) : Kp := fun v _ => v = x
def numP (lo hi : Int) : Kp := fun v _ => ∃ n : Int, v = .int .i64 n ∧ lo ≤ n ∧ n ≤ hi
def strP (m : Nat) : Kp := fun v _ => ∃ s : ByteArray, v = .string s ∧ s.size ≤ m
/-- a block of cells, not the source's; a slice over it; a pointer to one of its cells -/
def rowP (B : Nat) (cs : Array Value) (t : TypeId) : Kp := fun v w => ∃ g, v = .slice (some ⟨g, 0, none⟩) cs.size cs.size ∧ g ≠ B ∧ w.heap[g]? = some (.cells cs t)
def ptrP (B : Nat) (cs : Array Value) (t : TypeId) : Kp := fun v w => ∃ g k, v = .pointer (some ⟨g, k, none⟩) ∧ k < cs.size ∧ g ≠ B ∧ w.heap[g]? = some (.cells cs t)
def blkP (B n : Nat) (cs : Array Value) (t : TypeId) : Kp := fun v w => ∃ g, v = .pointer (some ⟨g, 0, none⟩) ∧ n ≤ g ∧ g ≠ B ∧ w.heap[g]? = some (.cells cs t)
def anyP : Kp := fun _ _ => True
/-- it lasts while the source's block alone turns -/
def Lasts (B : Nat) (k : Kp) : Prop := ∀ v w w', k v w → w.grownBy w' (some B) → k v w'
theorem heap_last {B g : Nat} {o : Obj} {w w' : World} (h : w.heap[g]? = some o) (hne : g ≠ B) (hg : w.grownBy w' (some B)) : w'.heap[g]? = some o :=
  (hg.block g (Array.getElem?_eq_some_iff.1 h).1 (fun e => by injection e with e; exact hne e)).trans h
theorem isP_last (B : Nat) (x : Value) : Lasts B (isP x) := fun _ _ _ h _ => h
theorem numP_last (B : Nat) (lo hi : Int) : Lasts B (numP lo hi) := fun _ _ _ h _ => h
theorem strP_last (B m : Nat) : Lasts B (strP m) := fun _ _ _ h _ => h
theorem anyP_last (B : Nat) : Lasts B anyP := fun _ _ _ h _ => h
theorem rowP_last (B : Nat) (cs : Array Value) (t : TypeId) : Lasts B (rowP B cs t) := fun v w w' h hg => by
  obtain ⟨g, e, hne, hh⟩ := h; exact ⟨g, e, hne, heap_last hh hne hg⟩
theorem ptrP_last (B : Nat) (cs : Array Value) (t : TypeId) : Lasts B (ptrP B cs t) := fun v w w' h hg => by
  obtain ⟨g, k, e, hk, hne, hh⟩ := h; exact ⟨g, k, e, hk, hne, heap_last hh hne hg⟩
theorem blkP_last (B n : Nat) (cs : Array Value) (t : TypeId) : Lasts B (blkP B n cs t) := fun v w w' h hg => by
  obtain ⟨g, e, hn, hne, hh⟩ := h; exact ⟨g, e, hn, hne, heap_last hh hne hg⟩
def kpOf (ks : List Kp) (i : Nat) (v : Value) (w : World) : Prop := (ks.getD i anyP) v w
def AllLast (B : Nat) : List Kp → Prop
  | [] => True
  | k :: ks => Lasts B k ∧ AllLast B ks
theorem all_last {B : Nat} : ∀ (ks : List Kp), AllLast B ks → ∀ i v w w', kpOf ks i v w → w.grownBy w' (some B) → kpOf ks i v w'
  | [], _, i, v, w, w', h, hg => by simp [kpOf, anyP]
  | k :: ks, hl, 0, v, w, w', h, hg => hl.1 v w w' h hg
  | k :: ks, hl, i + 1, v, w, w', h, hg => all_last ks hl.2 i v w w' h hg

/-- a struct that was built is stored last into a block that was made, in a region that draws from a source -/
theorem grow_src {id : Nat} {w0 : World} (B : Nat) (a : Option Addr) (len cap : Nat) (m : Nat) (last : Oper) (ks : List Kp) (jx jy : Nat) (dx dy : Tmp) (ty t : TypeId) (old : Array Value) (N : Array Value → Prop)
    (hS : Src B a len cap w0)
    (hsz : ops.size = m + 1) (hl : ops[m]? = some last) (hlg : last.guard = none) (hlB : lastB ops m = true) (hm : P.follows .mixedOrders = true) (hT : tidyB ops a0.tmps.size = true)
    (ho : last.op = .store ty (.tmp dx) (.tmp dy)) (hdl : last.dst = none) (hx : (ops[jx]?).bind (·.dst) = some dx) (hy : (ops[jy]?).bind (·.dst) = some dy) (hjx : jx < m) (hjy : jy < m)
    (hkx : ks.getD jx anyP = blkP B w0.heap.size old t) (hky : ks.getD jy anyP = fun v _ => ∃ new, v = .agg new ∧ N new) (hN : ∀ new, N new → old.size = new.size ∧ new.all (·.oneCell') = true ∧ (P.info? ty).map (·.size) = some new.size)
    (hlast : AllLast B ks)
    (hstep : StepsFrom (StepU P ops (fun W => Src B a len cap W ∧ w0.grownBy W (some B)) (fun w w' => w.grownBy w' (some B)) (kpOf ks) a0) 0 (ops.toList.take m))
    (hend : ∀ (v : Nat → Value) (w : World) (g : Nat) (new : Array Value), Src B a len cap w → w0.grownBy w (some B) → v jx = .pointer (some ⟨g, 0, none⟩) → w0.heap.size ≤ g → N new → w.heap[g]? = some (.cells new t) → Q .normal (upto ops v a0 m) w) :
    (Code.region id ops true).wp P Q a0 w0 := by
  refine wp_region_noPanic (wp_region_any hm ?_)
  have T := tidy_of hT
  have hrep : ∀ i, (Array.replicate ops.size false).getD i false = true → False := by
    intro i h
    rw [Array.getD_eq_getD_getElem?] at h
    by_cases hi : i < ops.size
    · simp [hi] at h
    · simp [Array.getElem?_eq_none (show (Array.replicate ops.size false).size ≤ i by simp; omega)] at h
  refine grow_last_any (C := fun W => Src B a len cap W ∧ w0.grownBy W (some B)) (R := fun w w' => w.grownBy w' (some B)) (A := kpOf ks) T hsz hl hlg (fun j hj => ?_) (all_last ks hlast) (fun i o hi ho => step_of_u T ho ?_) (fun v w hC hall => ?_) ops.size _ a0 _ (fun _ => undef) (by simp) ?_ ?_ ⟨rfl, rfl, fun i _ _ _ _ h => (hrep i h).elim, fun _ _ => rfl⟩ (fun j _ _ h => (hrep j h).elim) (fun i _ h => (hrep i h).elim) ⟨hS, ⟨rfl, rfl, rfl, Nat.le_refl _, fun _ _ _ => rfl⟩⟩
  · have := List.all_eq_true.1 hlB j (List.mem_range.2 hj)
    obtain ⟨i, hi, h3⟩ := List.any_eq_true.1 this
    simp only [Bool.and_eq_true, decide_eq_true_eq] at h3
    obtain ⟨h4, h5⟩ := h3
    cases hoi : ops[i]? with
    | none => rw [hoi] at h5; cases h5
    | some oi =>
      rw [hoi] at h5
      obtain ⟨e, he, h6⟩ := Array.any_eq_true'.1 h5
      simp only [Bool.and_eq_true, beq_iff_eq] at h6
      exact ⟨i, oi, h4, by have := List.mem_range.1 hi; omega, hoi, e, he, h6.1, h6.2⟩
  · have := steps_from (ops.toList.take m) 0 hstep i o (by rw [List.getElem?_take, if_pos hi]; simpa using ho)
    rwa [Nat.zero_add] at this
  · have hU := InF.upto (v := v) T m (by omega)
    have hxk := hall jx hjx
    have hyk := hall jy hjy
    unfold kpOf at hxk hyk
    rw [hkx] at hxk
    rw [hky] at hyk
    obtain ⟨g, e, hn, hne, hB⟩ := hxk
    obtain ⟨new, e2, hNew⟩ := hyk
    obtain ⟨hon, h1, hi⟩ := hN new hNew
    have ev : ∀ j d, j < m → (ops[j]?).bind (·.dst) = some d → (upto ops v a0 m).eval (.tmp d) = v j := fun j d hj hjd => by
      obtain ⟨oj, hoj, hdj⟩ := Option.bind_eq_some_iff.1 hjd
      simp only [Act.eval, Array.getD_eq_getD_getElem?, hU.done j oj d hoj hdj hj, Option.getD_some]
    have hth : w.there g 0 new.size := fun j hj => by
      refine ⟨?_, by simp [World.frozen?, hB]⟩
      have : j < old.size := by omega
      simp [World.cell?, hB, this]
    refine wp_store_mid ty (.tmp dx) (.tmp dy) ho g 0 new ((ev jx dx hjx hx).trans e) ((ev jy dy hjy hy).trans e2) hth hi h1 ?_
    have hheap := setCells_heap new.toList w g 0 old t hB (by simpa using hon.symm)
    simp only [List.take_zero, List.nil_append, Array.toArray_toList] at hheap
    rw [hdl]
    have hb : ∀ D, D ≤ g → Below D w (w.setCells g 0 new.toList) := fun D hD => Go.below_setCells hD _ _ _ (Below.refl _ _)
    have hbg := hb g (Nat.le_refl _)
    have hBl : B < w0.heap.size := hS.lt
    have hgr : w0.grownBy (w.setCells g 0 new.toList) (some B) := ⟨hbg.os.trans hC.2.os, hbg.tape.trans hC.2.tape, hbg.output.trans hC.2.output, Nat.le_trans hC.2.size hbg.size, fun i hi hne => (hbg.block i (by omega)).trans (hC.2.block i hi hne)⟩
    exact hend v _ g new (hC.1.kept fun k hk => hbg.block k (by omega)) hgr e hn hNew hheap
  · unfold left
    exact Nat.le_trans (List.length_filter_le _ _) (by simp)
  · cases hq : (Array.replicate ops.size false).getD m false with
    | false => rfl
    | true => exact (hrep m hq).elim
end
end Go.Proofs.YtedknnkdnccfmaaGreatDoor
