/- Proved here: plain facts and words: the answers of SlabGet and SlabPut, and whether a slot is linked. · Proved here: spec.l06Ill answers the empty slab, the place 0 and the code; old memory stays. · Proved here: nothing of a program: a slab with a link that leads elsewhere; what SlabCut answers. -/
import Derived.Test.YtcopfejonbbmnaaAll17
import Derived.Test.YtcopfejonbbmnaaAll18
import Derived.Test.YtcopfejonbbmnaaAll15
import Derived.Test.YtcopfejonbbmnaaSlabCopyI
section
namespace Go.Proofs.Ytcopfejonbbmnaa
open Go.ChangeShapes Go.WideShapes Go.ChangeAt Go.RowKit
set_option linter.unusedVariables false
set_option linter.unusedSimpArgs false
set_option maxRecDepth 100000

/-- an answer that hands a slab back, with a place and a code -/
def OutAns (s : Slb) (at_ code : Int) (w : World) (e : Ending) (w' : World) : Prop :=
  ∃ aS cS aH cH, e = .returned (.agg #[.slice aS s.slots.length cS, .slice aH s.heads.length cH, .int .i64 at_, .int .i64 code]) ∧ SlabO w.heap.size w'.heap.size aS aH s w' ∧ Below w.heap.size w w'
theorem ill_out {c : Int} {w w' : World} {e : Ending} (h : e = .returned (.agg #[.slice none 0 0, .slice none 0 0, .int .i64 0, .int .i64 c]) ∧ Below w.heap.size w w') : OutAns ⟨[], []⟩ 0 c w e w' :=
  ⟨none, 0, none, 0, h.1, ⟨.inl rfl, .inl rfl, fun _ _ _ _ e => by cases e⟩, h.2⟩
/-- a right slab and one of its slots -/
def atB (s : Slb) (n : Int) : Bool := rightSl s && (decide (0 ≤ n) && decide (n ≤ (s.slots.length : Int) - 1))
/-- what l06Begin answers -/
def beginAns (s : Slb) (n : Int) : Int := if atB s n = true then (if (slotN s n).refs = 0 then 6 else 0) else 1
theorem begin_at {s : Slb} {n : Int} (h : beginAns s n = 0) : rightSl s = true ∧ 0 ≤ n ∧ n < s.slots.length := by
  unfold beginAns at h
  cases hb : atB s n
  · rw [hb] at h; simp at h
  · unfold atB at hb; simp at hb; exact ⟨hb.1, hb.2.1, by omega⟩
/-- the code of SlabGet -/
def getC (s : Slb) (n : Int) : Int := if beginAns s n = 0 then (if 1000000 ≤ (slotN s n).refs then 9 else 0) else beginAns s n
/-- what SlabGet answers -/
def getS (s : Slb) (n : Int) : Slb := if getC s n = 0 then refS s n ((slotN s n).refs + 1) else ⟨[], []⟩
def getA (s : Slb) (n : Int) : Int := if getC s n = 0 then n else 0
/-- is the slot linked? -/
def linkedB (s : Slb) (n : Int) : Bool := findSl s (slotN s n).key == n
theorem key_nat {s : Slb} (h : rightSl s = true) {i : Nat} (hi : i < s.slots.length) : 0 ≤ (s.slots.getD i zeroSlt).key := by
  unfold rightSl slotsB at h
  simp only [Bool.and_eq_true, List.all_eq_true] at h
  have := h.1.2.1 (s.slots.getD i zeroSlt) (by rw [List.getD_eq_getElem?_getD, List.getElem?_eq_getElem hi]; exact List.getElem_mem _)
  unfold okS keyB at this
  simp only [Bool.and_eq_true, decide_eq_true_eq] at this
  exact this.1.1.1.1
/-- the code of SlabPut -/
def putC (s : Slb) (n : Int) : Int := if beginAns s n = 0 then (if (slotN s n).refs = 1 ∧ linkedB s n = true then 10 else 0) else beginAns s n
/-- what SlabPut answers -/
def putS (s : Slb) (n : Int) : Slb := if putC s n = 0 then refS s n ((slotN s n).refs - 1) else ⟨[], []⟩
def putA (s : Slb) (n : Int) : Int := if putC s n = 0 then n else 0
end Go.Proofs.Ytcopfejonbbmnaa
end

section
namespace Go.Proofs.Ytcopfejonbbmnaa
open Go.ChangeShapes Go.WideShapes Go.ChangeAt Go.RowKit
set_option linter.unusedVariables false
set_option linter.unusedSimpArgs false
set_option maxRecDepth 100000
set_option maxHeartbeats 2000000 in
theorem l06Ill_any (c : Int) (w : World) :
    Calls Try.prog 44 #[.int .i64 c] w fun e w' => e = .returned (.agg #[.slice none 0 0, .slice none 0 0, .int .i64 0, .int .i64 c]) ∧ Below w.heap.size w w' := by
  have hR0 := heap_newG w (.cells #[.slice none 0 0, .slice none 0 0, .int .i64 0, .int .i64 0] 30)
  have HB0 := hidS ((Below.refl w.heap.size w).alloc (Nat.le_refl _) (.cells #[.slice none 0 0, .slice none 0 0, .int .i64 0, .int .i64 0] 30))
  go_enter Try.func44, Try.ntmps44
  go_wp2_with fail
  have hR1 := heap_newG w (.cells #[.slice none 0 0, .slice none 0 0, .int .i64 0, .int .i64 c] 30)
  have HB1 := hidS ((Below.refl w.heap.size w).alloc (Nat.le_refl _) (.cells #[.slice none 0 0, .slice none 0 0, .int .i64 0, .int .i64 c] 30))
  have k0 := blk_cell hR1 0
  have k1 := blk_cell hR1 1
  have k2 := blk_cell hR1 2
  have k3 := blk_cell hR1 3
  simp at k0 k1 k2 k3
  exact bodyPost_ret (v := .agg #[.slice none 0 0, .slice none 0 0, .int .i64 0, .int .i64 c]) (by simp [results, Try.results44, go_sem, *]) rfl ⟨rfl, HB1.out⟩
end Go.Proofs.Ytcopfejonbbmnaa
end

section
namespace Go.Proofs.Ytcopfejonbbmnaa
open Go.ChangeShapes Go.WideShapes Go.ChangeAt Go.RowKit
set_option linter.unusedVariables false
set_option linter.unusedSimpArgs false
set_option maxRecDepth 100000

/-- a link that leads elsewhere -/
def setLink (s : Slb) (c : Nat) (v : Int) : Option Int → Slb
  | none => ⟨s.slots, s.heads.set c v⟩
  | some y => ⟨s.slots.set y.toNat { slotN s y with next := v }, s.heads⟩
theorem flat_next : ∀ (ss : List Slt) (i : Nat) (r : Int), i < ss.length → (flat ss).set (4 * i + 3) r = flat (ss.set i { ss.getD i zeroSlt with next := r })
  | [], i, r, h => by simp at h
  | x :: ss, 0, r, h => by simp [flat]
  | x :: ss, i + 1, r, h => by
    have := flat_next ss i r (by simpa using h)
    simp only [flat, show 4 * (i + 1) + 3 = 4 * i + 3 + 4 by omega, List.set_cons_succ, List.getD_cons_succ]
    rw [this]
theorem setLink_len {s : Slb} {c : Nat} {v : Int} : ∀ {p : Option Int}, (setLink s c v p).slots.length = s.slots.length ∧ (setLink s c v p).heads.length = s.heads.length
  | none => by simp [setLink]
  | some y => by simp [setLink]
theorem setLink_refs {s : Slb} {c : Nat} {v : Int} (n : Nat) : ∀ {p : Option Int}, LinkOk s p → ((setLink s c v p).slots.getD n zeroSlt).refs = (s.slots.getD n zeroSlt).refs
  | none, _ => rfl
  | some y, hp => by
    have hy : y.toNat < s.slots.length := by have := hp.1; have := hp.2; omega
    unfold setLink
    by_cases e : y.toNat = n
    · subst e
      simp [hy, slotN]
    · simp [List.getElem?_set_ne e]
theorem adr_in {bS oS bH oH c : Nat} : ∀ {p : Option Int}, (adrL bS oS bH oH c p).1 = bS ∨ (adrL bS oS bH oH c p).1 = bH
  | none => .inr rfl
  | some _ => .inl rfl
theorem link_own {b2 o2 b3 o3 : Nat} {s : Slb} {W : World} (P : RowB b2 o2 (flat s.slots) W) (Q : RowB b3 o3 s.heads W) {c : Nat} (hc : c < s.heads.length) : ∀ {p : Option Int}, LinkOk s p → W.frozen? ⟨(adrL b2 o2 b3 o3 c p).1, (adrL b2 o2 b3 o3 c p).2, none⟩ = false
  | none, _ => (rowB_cells Q c hc).2
  | some y, hp => by
    have hy : y.toNat < s.slots.length := by have := hp.1; have := hp.2; omega
    have := (rowB_cells P (4 * y.toNat + 3) (by rw [flat_len]; omega)).2
    rw [show o2 + (4 * y.toNat + 3) = o2 + y.toNat * 4 + 3 by omega] at this
    exact this
theorem link_store {b2 o2 b3 o3 : Nat} {s : Slb} {W : World} (P : RowB b2 o2 (flat s.slots) W) (Q : RowB b3 o3 s.heads W) (hne : b2 ≠ b3) {c : Nat} (hc : c < s.heads.length) (v : Int) : ∀ {p : Option Int}, LinkOk s p →
    RowB b2 o2 (flat (setLink s c v p).slots) (W.setCell ⟨(adrL b2 o2 b3 o3 c p).1, (adrL b2 o2 b3 o3 c p).2, none⟩ (.int .i64 v)) ∧ RowB b3 o3 (setLink s c v p).heads (W.setCell ⟨(adrL b2 o2 b3 o3 c p).1, (adrL b2 o2 b3 o3 c p).2, none⟩ (.int .i64 v))
  | none, _ => ⟨RowB.other (g := b3) (k := o3 + c) P hne, Q.set c v hc⟩
  | some y, hp => by
    have hy : y.toNat < s.slots.length := by have := hp.1; have := hp.2; omega
    refine ⟨?_, RowB.other (g := b2) (k := o2 + y.toNat * 4 + 3) Q (Ne.symm hne)⟩
    have h := P.set (4 * y.toNat + 3) v (by rw [flat_len]; omega)
    rw [flat_next _ _ _ hy, show o2 + (4 * y.toNat + 3) = o2 + y.toNat * 4 + 3 by omega] at h
    exact h
/-- the code of SlabCut -/
def cutC (s : Slb) (key : Int) : Int := if (rightSl s && keyB key) = true then (if findSl s key < 0 then 6 else 0) else 1
/-- with that key cut -/
def cutIn (s : Slb) (key : Int) : Slb := refS (setLink s (chN s key) (nx s (findSl s key)) (linkP s key)) (findSl s key) ((slotN s (findSl s key)).refs - 1)
/-- what SlabCut answers -/
def cutS (s : Slb) (key : Int) : Slb := if cutC s key = 0 then cutIn s key else ⟨[], []⟩
def cutA (s : Slb) (key : Int) : Int := if cutC s key = 0 then findSl s key else 0
theorem cut_ill {s : Slb} {key c : Int} (h : cutC s key = c) (hc : c ≠ 0) : cutS s key = ⟨[], []⟩ ∧ cutA s key = 0 := by
  unfold cutS cutA; rw [h, if_neg hc, if_neg hc]; exact ⟨rfl, rfl⟩
theorem cutIn_len {s : Slb} {key : Int} : (cutIn s key).slots.length = s.slots.length ∧ (cutIn s key).heads.length = s.heads.length := by
  unfold cutIn refS
  simp [setLink_len]
/-- two rows of a slab that is cut, its holder counted down -/
theorem cut_refs {b2 o2 : Nat} {s : Slb} {W : World} {n : Nat} {c : Nat} {v r : Int} {p : Option Int} (hp : LinkOk s p) (hn : n < s.slots.length) (P : RowB b2 o2 (flat (setLink s c v p).slots) W) : RowB b2 o2 (flat (refS (setLink s c v p) (n : Int) r).slots) (W.setCell ⟨b2, o2 + n * 4 + 2, none⟩ (.int .i64 r)) := by
  have hn' : n < (setLink s c v p).slots.length := by rw [setLink_len.1]; exact hn
  have h := P.set (4 * n + 2) r (by rw [flat_len]; omega)
  rw [flat_refs _ _ _ hn', show o2 + (4 * n + 2) = o2 + n * 4 + 2 by omega] at h
  unfold refS
  rw [slot_nat, Int.toNat_natCast]
  exact h
end Go.Proofs.Ytcopfejonbbmnaa
end
