/- Proved here: small facts on drawing beside result blocks of the call's own (no program of its own). -/
import Derived.Test.YtedknnkdnccfmaaGreatDoorAll18
import Derived.Test.YtedknnkdnccfmaaGreatDoorGrowSrc
import Derived.Test.YtedknnkdnccfmaaGreatDoorAll1
import Derived.Test.YtedknnkdnccfmaaGreatDoorAll4
import Derived.Deep.MidRow
namespace Go.Proofs.YtedknnkdnccfmaaGreatDoor
open Go.ChangeShapes Go.WideShapes Go.ChangeAt Go.RowKit
set_option linter.unusedVariables false
set_option linter.unusedSimpArgs false

theorem setCells_other : ∀ (l : List Value) (w : World) (b o i : Nat), i ≠ b → (w.setCells b o l).heap[i]? = w.heap[i]?
  | [], w, b, o, i, _ => rfl
  | v :: l, w, b, o, i, h => by
    have := setCells_other l (w.setCell ⟨b, o, none⟩ v) b (o + 1) i h
    have h2 := Below.heap_setCell w ⟨b, o, none⟩ v i h
    exact (show ((w.setCell ⟨b, o, none⟩ v).setCells b (o + 1) l).heap[i]? = _ from this).trans h2
theorem below_cells {B : Nat} {w0 : World} (b : Nat) (hb : B ≤ b) : ∀ (l : List Value) (w : World) (o : Nat), Below B w0 w → Below B w0 (w.setCells b o l)
  | [], w, o, h => h
  | v :: l, w, o, h => below_cells b hb l (w.setCell ⟨b, o, none⟩ v) (o + 1) (h.setCell (p := ⟨b, o, none⟩) hb v)
/-- a source in block B, made by this call; blocks that stay (fx); result blocks (rs) that hold cells of their kind -/
structure DrC (B : Nat) (a : Option Addr) (len cap : Nat) (w : World) (fx : List (Nat × Obj)) (rs : List (Nat × TypeId × (Array Value → Prop))) (W : World) : Prop where
  src : Src B a len cap W
  bel : Below w.heap.size w W
  fix : ∀ x ∈ fx, W.heap[x.1]? = some x.2
  res : ∀ x ∈ rs, ∃ cs, x.2.2 cs ∧ W.heap[x.1]? = some (.cells cs x.2.1)
/-- what else must be so -/
structure DrOk (B : Nat) (a : Option Addr) (len : Nat) (w : World) (fx : List (Nat × Obj)) (rs : List (Nat × TypeId × (Array Value → Prop))) : Prop where
  row : RowAt w.heap.size a len w
  new : w.heap.size ≤ B
  fxB : ∀ x ∈ fx, x.1 ≠ B
  rsB : ∀ x ∈ rs, w.heap.size ≤ x.1 ∧ x.1 ≠ B
  two : ∀ x ∈ fx, ∀ y ∈ rs, x.1 ≠ y.1
def DrR (B : Nat) (rs : List (Nat × TypeId × (Array Value → Prop))) (W W' : World) : Prop := ∀ i, i < W.heap.size → i ≠ B → (∀ x ∈ rs, i ≠ x.1) → W'.heap[i]? = W.heap[i]?
variable {B : Nat} {a : Option Addr} {len cap : Nat} {w W W' : World} {fx : List (Nat × Obj)} {rs : List (Nat × TypeId × (Array Value → Prop))}
theorem DrR.refl (W : World) : DrR B rs W W := fun _ _ _ _ => rfl
theorem DrC.grown (k : DrOk B a len w fx rs) (h : DrC B a len cap w fx rs W) (hS : Src B a len cap W') (hg : W.grownBy W' (some B)) : DrC B a len cap w fx rs W' ∧ DrR B rs W W' :=
  ⟨⟨hS, h.bel.grown hg h.bel.size (fun i e => by cases e; exact k.new), fun x hx => (hg.block _ (blk_lt (h.fix x hx)) (fun e => by injection e with e; exact k.fxB x hx e)).trans (h.fix x hx),
    fun x hx => by obtain ⟨cs, h1, h2⟩ := h.res x hx; exact ⟨cs, h1, (hg.block _ (blk_lt h2) (fun e => by injection e with e; exact (k.rsB x hx).2 e)).trans h2⟩⟩,
    fun i hi hB _ => hg.block i hi (fun e => by injection e with e; exact hB e)⟩
theorem DrC.alloc (k : DrOk B a len w fx rs) (h : DrC B a len cap w fx rs W) (o : Obj) : DrC B a len cap w fx rs (W.alloc o) ∧ DrR B rs W (W.alloc o) :=
  h.grown k (h.src.kept fun i hi => Below.heap_alloc _ _ _ (by have := h.src.lt; omega)) (World.grownBy_alloc _ _ _)
theorem DrC.store (k : DrOk B a len w fx rs) (h : DrC B a len cap w fx rs W) (r : Nat) (t : TypeId) (K : Array Value → Prop) (new : Array Value) (hr : (r, t, K) ∈ rs) (hu : ∀ y ∈ rs, y.1 = r → y = (r, t, K)) (hK : K new) (hz : ∀ cs, K cs → cs.size = new.size) :
    DrC B a len cap w fx rs (W.setCells r 0 new.toList) ∧ DrR B rs W (W.setCells r 0 new.toList) := by
  have hoth := fun i hi => setCells_other new.toList W r 0 i hi
  obtain ⟨h1, h2⟩ := k.rsB _ hr
  have hnew := below_cells r h1 new.toList W 0 h.bel
  obtain ⟨cs, hcs, hW⟩ := h.res _ hr
  have hheap := setCells_heap new.toList W r 0 cs t hW (by simp [hz cs hcs])
  obtain ⟨s1, ⟨x1, x2, x3, sb, sr⟩, s3⟩ := h.src
  refine ⟨⟨⟨s1, ⟨x1, x2, x3, (hoth B (fun e => h2 e.symm)).trans sb, sr⟩, (k.row.below fun i hi => hnew.block i hi).mono k.new⟩, hnew, fun x hx => (hoth _ (k.two x hx _ hr)).trans (h.fix x hx), fun x hx => ?_⟩, fun i _ _ hi => hoth i (hi _ hr)⟩
  by_cases e : x.1 = r
  · obtain rfl := hu x hx e
    exact ⟨new, hK, by simpa using hheap⟩
  · obtain ⟨c2, h3, h4⟩ := h.res x hx
    exact ⟨c2, h3, (hoth _ e).trans h4⟩
theorem DrC.there (h : DrC B a len cap w fx rs W) (r : Nat) (t : TypeId) (K : Array Value → Prop) (n : Nat) (hr : (r, t, K) ∈ rs) (hz : ∀ cs, K cs → cs.size = n) : W.there r 0 n := by
  obtain ⟨cs, hcs, hW⟩ := h.res _ hr
  have := hz cs hcs
  exact fun j hj => ⟨by simp [World.cell?, hW]; omega, by simp [World.frozen?, hW]⟩
/-- kinds of values that last -/
def rowR (B : Nat) (rs : List (Nat × TypeId × (Array Value → Prop))) (cs : Array Value) (t : TypeId) : Kp := fun v W => ∃ g, v = .slice (some ⟨g, 0, none⟩) cs.size cs.size ∧ g ≠ B ∧ (∀ x ∈ rs, g ≠ x.1) ∧ W.heap[g]? = some (.cells cs t)
def ptrR (B : Nat) (rs : List (Nat × TypeId × (Array Value → Prop))) (cs : Array Value) (t : TypeId) : Kp := fun v W => ∃ g k, v = .pointer (some ⟨g, k, none⟩) ∧ k < cs.size ∧ g ≠ B ∧ (∀ x ∈ rs, g ≠ x.1) ∧ W.heap[g]? = some (.cells cs t)
def LastsR (B : Nat) (rs : List (Nat × TypeId × (Array Value → Prop))) (k : Kp) : Prop := ∀ v W W', k v W → DrR B rs W W' → k v W'
theorem rowR_last (cs : Array Value) (t : TypeId) : LastsR B rs (rowR B rs cs t) := fun v W W' h hR => by
  obtain ⟨g, e, h1, h2, h3⟩ := h; exact ⟨g, e, h1, h2, (hR g (blk_lt h3) h1 h2).trans h3⟩
theorem ptrR_last (cs : Array Value) (t : TypeId) : LastsR B rs (ptrR B rs cs t) := fun v W W' h hR => by
  obtain ⟨g, k, e, hk, h1, h2, h3⟩ := h; exact ⟨g, k, e, hk, h1, h2, (hR g (blk_lt h3) h1 h2).trans h3⟩
theorem pure_last {k : Value → Prop} : LastsR B rs (fun v _ => k v) := fun _ _ _ h _ => h
def AllLastR (B : Nat) (rs : List (Nat × TypeId × (Array Value → Prop))) : List Kp → Prop
  | [] => True
  | k :: ks => LastsR B rs k ∧ AllLastR B rs ks
theorem all_lastR : ∀ (ks : List Kp), AllLastR B rs ks → ∀ i v W W', kpOf ks i v W → DrR B rs W W' → kpOf ks i v W'
  | [], _, i, v, W, W', h, hg => by simp [kpOf, anyP]
  | k :: ks, hl, 0, v, W, W', h, hg => hl.1 v W W' h hg
  | k :: ks, hl, i + 1, v, W, W', h, hg => all_lastR ks hl.2 i v W W' h hg
theorem fresh_not (k : DrOk B a len w fx rs) (h : DrC B a len cap w fx rs W) : W.heap.size ≠ B ∧ ∀ x ∈ rs, W.heap.size ≠ x.1 := by
  refine ⟨by have := h.src.lt; omega, fun x hx => ?_⟩
  obtain ⟨cs, _, h2⟩ := h.res x hx
  have := blk_lt h2
  omega
end Go.Proofs.YtedknnkdnccfmaaGreatDoor
