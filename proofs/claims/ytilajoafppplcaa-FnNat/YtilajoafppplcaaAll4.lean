/- Proved here: the draws of a text, of an address, of a word leave every old block but the source's as it was (condition: the source lies in its block). · Proved here: the law on regions that draw their order, for operations that also draw from a source: the source's block alone may turn (no program of its own). · Proved here: bytes that came in as an argument can be drawn from (a bridge; no program of its own). · Proved here: small facts on drawing beside result blocks of the call's own (no program of its own). -/
import Derived.Test.YtilajoafppplcaaAll3
import Derived.Test.YtilajoafppplcaaAll1
import Derived.Test.YtilajoafppplcaaGrow
import Derived.Test.YtilajoafppplcaaSrc
import Derived.ChangeOld
import Derived.Deep.MidRow
section
namespace Go.Proofs.Ytilajoafppplcaa
open Go.ChangeShapes Go.WideShapes Go.ChangeAt Go.RowKit
open Go.ChangeMaps (open_string shut_string)
set_option linter.unusedVariables false
set_option linter.unusedSimpArgs false

theorem own_onlyG {B D : Nat} {w w' : World} {v : Value} {n : Nat} {xs : List Value} (hO : Only B w w') (hD : B < D) (hown : w.ownsRow D 5 1 v n xs) : w'.ownsRow D 5 1 v n xs :=
  hown.kept hO.grown (by
    cases hv : v.ownBlock with
    | none => exact Or.inl rfl
    | some g => exact Or.inr (fun e => by have := (hown.lt g hv).1; injection e with e; omega))
/-- what a drawn text answers, and what stays -/
def DrawnTG (B : Nat) (a : Option Addr) (len cap : Nat) (n : Int) (w : World) (e : Ending) (w' : World) : Prop :=
  ∃ s : ByteArray, e = .returned (.string s) ∧ s.size = n.toNat ∧ Src B a len cap w' ∧ w.grownBy w' (some B)

set_option maxRecDepth 100000 in
set_option maxHeartbeats 2000000 in
theorem srcBytes_g (B : Nat) (a : Option Addr) (len cap : Nat) (n : Int) (w : World) (hS : Src B a len cap w) (hn : n ≤ 1048576) :
    Calls Try.prog 131 #[.pointer (some ⟨B, 0, none⟩), .int .i64 n] w fun e w' => DrawnTG B a len cap n w e w' := by
  obtain ⟨i0, hi, hz0, hz1, hz2⟩ := info_parts Try.infoU8
  have hlt := hS.lt
  go_enter Try.func131, Try.ntmps131
  go_wp2
  go_loopw [5, 6] (fun v i wr => ∃ l : List UInt8, i = .int .i64 (l.length : Int) ∧ ((l.length : Int) ≤ n ∨ l.length = 0) ∧ wr.ownsRow w.heap.size 5 1 v l.length (bytesV l) ∧ Src B a len cap wr ∧ w.grownBy wr (some B) ∧ w.heap.size ≤ wr.heap.size) (fun _ i _ => (n - intOf i).toNat)
  case atStart =>
    exact ⟨[], rfl, Or.inr rfl, ⟨rfl, Or.inr ⟨w.heap.size, 0, #[], rfl, Nat.le_refl _, heap_new _ _, Nat.le_refl _, by simp [maxLen], rfl, rfl⟩⟩, hS.kept fun k hk => Below.heap_alloc _ _ _ (by omega), World.grownBy_alloc _ _ _, by simp⟩
  case round =>
    obtain ⟨l, rfl, hle, hown, hSr, hgr, hB⟩ := hrel
    by_cases hlt2 : (l.length : Int) < n
    · go_wp2_with fail
      refine (srcN_any B a len cap 256 wr hSr (by omega)).mono ?_
      rintro e w1 ⟨r, rfl, hr1, hr2, hS1, hO1⟩
      have hr3 : r ≤ 255 := by omega
      have hown1 := own_onlyG hO1 hlt hown
      have hg1 := hidS (grown_trans hgr hO1.grown)
      have hsz1 : w1.heap.size = wr.heap.size := hO1.size
      have hB1 : w.heap.size ≤ w1.heap.size := by omega
      have hlen : (l.length : Int) < 1048576 := by omega
      clear hown hSr hgr hr2 hsz1 hO1
      go_wp2_with (at_builtin; refine wpList_append_own _ rfl _ _ 22 rfl w.heap.size 5 i0 (.int .u8 0) 1 1 Try.underlying22 hi hz0 hz1 hz2 rfl (by decide) _ _ _ rfl (hown1.alloc _) ⟨w1.heap.size, 0, none⟩ 1 1 [.int .u8 r] rfl rfl (cell_one_new _ _ _) ?c2 ?c3 ?c4 ?c5 ?_)
      case c2 => intro x hx; simp at hx; subst hx; rfl
      case c3 => unfold maxLen; omega
      case c4 => omega
      case c5 => simp; omega
      intro v' w2 hown' hgrow _
      have hown2 := own_snoc (c := UInt8.ofNat r.toNat) (by simp; omega) hown'
      have hS2 : Src B a len cap w2 := hS1.kept fun k hk => by
        rw [hgrow.block k (by simp; omega) (fun e => by have := (hown1.lt k e.symm).1; omega)]
        exact Below.heap_alloc _ _ _ (by omega)
      have hg2 : w.grownBy w2 (some B) := grown_then (grown_trans hg1.out (World.grownBy_alloc _ _ _)) hgrow (fun k hk => (hown1.lt k hk).1)
      have hB2 : w.heap.size ≤ w2.heap.size := hg2.size
      clear hown' hgrow hown1 hS1 hg1
      go_wp2
      go_roundw
      case rel => exact ⟨_, by simp, by simp; omega, hown2, hS2, hg2, hB2⟩
      case measure => simp [intOf]; omega
    · have hcv := conv_own hown
      have hsz : l.length = n.toNat := by omega
      clear hown
      go_wp2
      go_ret
      exact ⟨_, rfl, by simpa [ByteArray.size] using hsz, hSr, hgr⟩
end Go.Proofs.Ytilajoafppplcaa
end

section
namespace Go.Proofs.Ytilajoafppplcaa
open Go.ChangeShapes Go.WideShapes Go.ChangeAt Go.RowKit
set_option linter.unusedVariables false
set_option linter.unusedSimpArgs false

section
variable {P : Program} {ops : Array Oper} {Q : Exit → Act → World → Prop} {a0 : Act}

def numP (lo hi : Int) : Kp := fun v _ => ∃ n : Int, v = .int .i64 n ∧ lo ≤ n ∧ n ≤ hi
def strP (m : Nat) : Kp := fun v _ => ∃ s : ByteArray, v = .string s ∧ s.size ≤ m
/-- a block of cells, not the source's; a slice over it; a pointer to one of its cells -/
def rowP (B : Nat) (cs : Array Value) (t : TypeId) : Kp := fun v w => ∃ g, v = .slice (some ⟨g, 0, none⟩) cs.size cs.size ∧ g ≠ B ∧ w.heap[g]? = some (.cells cs t)
def ptrP (B : Nat) (cs : Array Value) (t : TypeId) : Kp := fun v w => ∃ g k, v = .pointer (some ⟨g, k, none⟩) ∧ k < cs.size ∧ g ≠ B ∧ w.heap[g]? = some (.cells cs t)
def blkP (B n : Nat) (cs : Array Value) (t : TypeId) : Kp := fun v w => ∃ g, v = .pointer (some ⟨g, 0, none⟩) ∧ n ≤ g ∧ g ≠ B ∧ w.heap[g]? = some (.cells cs t)
/-- it lasts while the source's block alone turns -/
def Lasts (B : Nat) (k : Kp) : Prop := ∀ v w w', k v w → w.grownBy w' (some B) → k v w'
theorem heap_last {B g : Nat} {o : Obj} {w w' : World} (h : w.heap[g]? = some o) (hne : g ≠ B) (hg : w.grownBy w' (some B)) : w'.heap[g]? = some o :=
  (hg.block g (Array.getElem?_eq_some_iff.1 h).1 (fun e => by injection e with e; exact hne e)).trans h
theorem isP_last (B : Nat) (x : Value) : Lasts B (isP x) := fun _ _ _ h _ => h
theorem numP_last (B : Nat) (lo hi : Int) : Lasts B (numP lo hi) := fun _ _ _ h _ => h
theorem strP_last (B m : Nat) : Lasts B (strP m) := fun _ _ _ h _ => h
theorem anyP_last (B : Nat) : Lasts B anyP := fun _ _ _ h _ => h
theorem rowP_last (B : Nat) (cs : Array Value) (t : TypeId) : Lasts B (rowP B cs t) := fun v w w' h hg => by
  obtain ⟨g, e, hne, hh⟩ := h; exact ⟨g, e, hne, heap_last hh hne hg⟩
theorem ptrP_last (B : Nat) (cs : Array Value) (t : TypeId) : Lasts B (ptrP B cs t) := fun v w w' h hg => by
  obtain ⟨g, k, e, hk, hne, hh⟩ := h; exact ⟨g, k, e, hk, hne, heap_last hh hne hg⟩
theorem blkP_last (B n : Nat) (cs : Array Value) (t : TypeId) : Lasts B (blkP B n cs t) := fun v w w' h hg => by
  obtain ⟨g, e, hn, hne, hh⟩ := h; exact ⟨g, e, hn, hne, heap_last hh hne hg⟩
def AllLast (B : Nat) : List Kp → Prop
  | [] => True
  | k :: ks => Lasts B k ∧ AllLast B ks
theorem all_last {B : Nat} : ∀ (ks : List Kp), AllLast B ks → ∀ i v w w', kpOf ks i v w → w.grownBy w' (some B) → kpOf ks i v w'
  | [], _, i, v, w, w', h, hg => by simp [kpOf, anyP]
  | k :: ks, hl, 0, v, w, w', h, hg => hl.1 v w w' h hg
  | k :: ks, hl, i + 1, v, w, w', h, hg => all_last ks hl.2 i v w w' h hg

/-- a struct that was built is stored last into a block that was made, in a region that draws from a source -/
theorem grow_src {id : Nat} {w0 : World} (B : Nat) (a : Option Addr) (len cap : Nat) (m : Nat) (last : Oper) (ks : List Kp) (jx jy : Nat) (dx dy : Tmp) (ty t : TypeId) (old : Array Value) (N : Array Value → Prop)
    (hS : Src B a len cap w0)
    (hsz : ops.size = m + 1) (hl : ops[m]? = some last) (hlg : last.guard = none) (hlB : lastB ops m = true) (hm : P.follows .mixedOrders = true) (hT : tidyB ops a0.tmps.size = true)
    (ho : last.op = .store ty (.tmp dx) (.tmp dy)) (hdl : last.dst = none) (hx : (ops[jx]?).bind (·.dst) = some dx) (hy : (ops[jy]?).bind (·.dst) = some dy) (hjx : jx < m) (hjy : jy < m)
    (hkx : ks.getD jx anyP = blkP B w0.heap.size old t) (hky : ks.getD jy anyP = fun v _ => ∃ new, v = .agg new ∧ N new) (hN : ∀ new, N new → old.size = new.size ∧ new.all (·.oneCell') = true ∧ (P.info? ty).map (·.size) = some new.size)
    (hlast : AllLast B ks)
    (hstep : StepsFrom (StepU P ops (fun W => Src B a len cap W ∧ w0.grownBy W (some B)) (fun w w' => w.grownBy w' (some B)) (kpOf ks) a0) 0 (ops.toList.take m))
    (hend : ∀ (v : Nat → Value) (w : World) (g : Nat) (new : Array Value), Src B a len cap w → w0.grownBy w (some B) → v jx = .pointer (some ⟨g, 0, none⟩) → w0.heap.size ≤ g → N new → w.heap[g]? = some (.cells new t) → Q .normal (upto ops v a0 m) w) :
    (Code.region id ops true).wp P Q a0 w0 := by
  refine wp_region_noPanic (wp_region_any hm ?_)
  have T := tidy_of hT
  have hrep : ∀ i, (Array.replicate ops.size false).getD i false = true → False := by
    intro i h
    rw [Array.getD_eq_getD_getElem?] at h
    by_cases hi : i < ops.size
    · simp [hi] at h
    · simp [Array.getElem?_eq_none (show (Array.replicate ops.size false).size ≤ i by simp; omega)] at h
  refine grow_last_any (C := fun W => Src B a len cap W ∧ w0.grownBy W (some B)) (R := fun w w' => w.grownBy w' (some B)) (A := kpOf ks) T hsz hl hlg (fun j hj => ?_) (all_last ks hlast) (fun i o hi ho => step_of_u T ho ?_) (fun v w hC hall => ?_) ops.size _ a0 _ (fun _ => undef) (by simp) ?_ ?_ ⟨rfl, rfl, fun i _ _ _ _ h => (hrep i h).elim, fun _ _ => rfl⟩ (fun j _ _ h => (hrep j h).elim) (fun i _ h => (hrep i h).elim) ⟨hS, ⟨rfl, rfl, rfl, Nat.le_refl _, fun _ _ _ => rfl⟩⟩
  · have := List.all_eq_true.1 hlB j (List.mem_range.2 hj)
    obtain ⟨i, hi, h3⟩ := List.any_eq_true.1 this
    simp only [Bool.and_eq_true, decide_eq_true_eq] at h3
    obtain ⟨h4, h5⟩ := h3
    cases hoi : ops[i]? with
    | none => rw [hoi] at h5; cases h5
    | some oi =>
      rw [hoi] at h5
      obtain ⟨e, he, h6⟩ := Array.any_eq_true'.1 h5
      simp only [Bool.and_eq_true, beq_iff_eq] at h6
      exact ⟨i, oi, h4, by have := List.mem_range.1 hi; omega, hoi, e, he, h6.1, h6.2⟩
  · have := steps_from (ops.toList.take m) 0 hstep i o (by rw [List.getElem?_take, if_pos hi]; simpa using ho)
    rwa [Nat.zero_add] at this
  · have hU := InF.upto (v := v) T m (by omega)
    have hxk := hall jx hjx
    have hyk := hall jy hjy
    unfold kpOf at hxk hyk
    rw [hkx] at hxk
    rw [hky] at hyk
    obtain ⟨g, e, hn, hne, hB⟩ := hxk
    obtain ⟨new, e2, hNew⟩ := hyk
    obtain ⟨hon, h1, hi⟩ := hN new hNew
    have ev : ∀ j d, j < m → (ops[j]?).bind (·.dst) = some d → (upto ops v a0 m).eval (.tmp d) = v j := fun j d hj hjd => by
      obtain ⟨oj, hoj, hdj⟩ := Option.bind_eq_some_iff.1 hjd
      simp only [Act.eval, Array.getD_eq_getD_getElem?, hU.done j oj d hoj hdj hj, Option.getD_some]
    have hth : w.there g 0 new.size := fun j hj => by
      refine ⟨?_, by simp [World.frozen?, hB]⟩
      have : j < old.size := by omega
      simp [World.cell?, hB, this]
    refine wp_store_mid ty (.tmp dx) (.tmp dy) ho g 0 new ((ev jx dx hjx hx).trans e) ((ev jy dy hjy hy).trans e2) hth hi h1 ?_
    have hheap := setCells_heap new.toList w g 0 old t hB (by simpa using hon.symm)
    simp only [List.take_zero, List.nil_append, Array.toArray_toList] at hheap
    rw [hdl]
    have hb : ∀ D, D ≤ g → Below D w (w.setCells g 0 new.toList) := fun D hD => Go.below_setCells hD _ _ _ (Below.refl _ _)
    have hbg := hb g (Nat.le_refl _)
    have hBl : B < w0.heap.size := hS.lt
    have hgr : w0.grownBy (w.setCells g 0 new.toList) (some B) := ⟨hbg.os.trans hC.2.os, hbg.tape.trans hC.2.tape, hbg.output.trans hC.2.output, Nat.le_trans hC.2.size hbg.size, fun i hi hne => (hbg.block i (by omega)).trans (hC.2.block i hi hne)⟩
    exact hend v _ g new (hC.1.kept fun k hk => hbg.block k (by omega)) hgr e hn hNew hheap
  · unfold left
    exact Nat.le_trans (List.length_filter_le _ _) (by simp)
  · cases hq : (Array.replicate ops.size false).getD m false with
    | false => rfl
    | true => exact (hrep m hq).elim
end
end Go.Proofs.Ytilajoafppplcaa
end

section
namespace Go.Proofs.Ytilajoafppplcaa
open Go.RowKit

/-- what a walk is told of bytes that came in: nil; or a row of 'cap' numbers zs, the first 'len' its elements -/
def IsRow (k : IntKind) (w : World) (a : Option Addr) (len cap : Nat) (zs : List Int) : Prop :=
  (a = none ∧ len = 0 ∧ cap = 0 ∧ zs = []) ∨
  ∃ x, a = some x ∧ len ≤ cap ∧ cap ≤ maxLen ∧ zs.length = cap ∧ (∀ i, i < zs.length → w.cell? (x.add i) = some (.int k (zs.getD i 0))) ∧ ∀ n ∈ zs, (Lit.int k n).wf = true

theorem rowAt_of {w : World} {a : Option Addr} {len cap : Nat} {zs : List Int} (h : IsRow .u8 w a len cap zs) : RowAt w.heap.size a len w := by
  intro j hj
  rcases h with ⟨rfl, rfl, rfl, rfl⟩ | ⟨x, rfl, hl, hm, hz, hcell, hwz⟩
  · omega
  · have hc0 := hcell j (by omega)
    have hspot : x.spot = none := by simpa [Addr.add] using World.cell?_spot (hcell 0 (by omega))
    obtain ⟨b, o, sp⟩ := x
    simp only at hspot
    subst hspot
    have hmem : zs.getD j 0 ∈ zs := by
      rw [List.getD_eq_getElem?_getD, List.getElem?_eq_getElem (by omega)]
      exact List.getElem_mem _
    have hb := bounds_u8 (hwz _ hmem)
    have hc : w.cell? ⟨b, o + j, none⟩ = some (.int .u8 (zs.getD j 0)) := by rw [Addr.add_lit] at hc0; exact hc0
    exact ⟨b, o, rfl, World.block_lt_of_cell? w ⟨b, o + j, none⟩ hc, zs.getD j 0, hb.1, by omega, hc⟩
theorem isRow_len {w : World} {a : Option Addr} {len cap : Nat} {zs : List Int} (h : IsRow .u8 w a len cap zs) : len ≤ maxLen := by
  rcases h with ⟨rfl, rfl, rfl, rfl⟩ | ⟨x, rfl, hl, hm, _⟩
  · exact Nat.zero_le _
  · omega
theorem RowAt.mono {B B' : Nat} {a : Option Addr} {len : Nat} {w : World} (h : RowAt B a len w) (hB : B ≤ B') : RowAt B' a len w := by
  intro j hj
  obtain ⟨b, o, e, hlt, r⟩ := h j hj
  exact ⟨b, o, e, by omega, r⟩
/-- .. and later on too -/
theorem RowAt.later {a : Option Addr} {len : Nat} {w w' : World} (h : RowAt w.heap.size a len w) (hb : Below w.heap.size w w') : RowAt w'.heap.size a len w' :=
  (h.below fun k hk => hb.block k hk).mono hb.size
end Go.Proofs.Ytilajoafppplcaa
end

section
namespace Go.Proofs.Ytilajoafppplcaa
open Go.ChangeShapes Go.WideShapes Go.ChangeAt Go.RowKit
set_option linter.unusedVariables false
set_option linter.unusedSimpArgs false

theorem setCells_other : ∀ (l : List Value) (w : World) (b o i : Nat), i ≠ b → (w.setCells b o l).heap[i]? = w.heap[i]?
  | [], w, b, o, i, _ => rfl
  | v :: l, w, b, o, i, h => by
    have := setCells_other l (w.setCell ⟨b, o, none⟩ v) b (o + 1) i h
    have h2 := Below.heap_setCell w ⟨b, o, none⟩ v i h
    exact (show ((w.setCell ⟨b, o, none⟩ v).setCells b (o + 1) l).heap[i]? = _ from this).trans h2
theorem below_cells {B : Nat} {w0 : World} (b : Nat) (hb : B ≤ b) : ∀ (l : List Value) (w : World) (o : Nat), Below B w0 w → Below B w0 (w.setCells b o l)
  | [], w, o, h => h
  | v :: l, w, o, h => below_cells b hb l (w.setCell ⟨b, o, none⟩ v) (o + 1) (h.setCell (p := ⟨b, o, none⟩) hb v)
/-- a source in block B, made by this call; blocks that stay (fx); result blocks (rs) that hold cells of their kind -/
structure DrC (B : Nat) (a : Option Addr) (len cap : Nat) (w : World) (fx : List (Nat × Obj)) (rs : List (Nat × TypeId × (Array Value → Prop))) (W : World) : Prop where
  src : Src B a len cap W
  bel : Below w.heap.size w W
  fix : ∀ x ∈ fx, W.heap[x.1]? = some x.2
  res : ∀ x ∈ rs, ∃ cs, x.2.2 cs ∧ W.heap[x.1]? = some (.cells cs x.2.1)
/-- what else must be so -/
structure DrOk (B : Nat) (a : Option Addr) (len : Nat) (w : World) (fx : List (Nat × Obj)) (rs : List (Nat × TypeId × (Array Value → Prop))) : Prop where
  row : RowAt w.heap.size a len w
  new : w.heap.size ≤ B
  fxB : ∀ x ∈ fx, x.1 ≠ B
  rsB : ∀ x ∈ rs, w.heap.size ≤ x.1 ∧ x.1 ≠ B
  two : ∀ x ∈ fx, ∀ y ∈ rs, x.1 ≠ y.1
def DrR (B : Nat) (rs : List (Nat × TypeId × (Array Value → Prop))) (W W' : World) : Prop := ∀ i, i < W.heap.size → i ≠ B → (∀ x ∈ rs, i ≠ x.1) → W'.heap[i]? = W.heap[i]?
variable {B : Nat} {a : Option Addr} {len cap : Nat} {w W W' : World} {fx : List (Nat × Obj)} {rs : List (Nat × TypeId × (Array Value → Prop))}
theorem DrR.refl (W : World) : DrR B rs W W := fun _ _ _ _ => rfl
theorem DrC.grown (k : DrOk B a len w fx rs) (h : DrC B a len cap w fx rs W) (hS : Src B a len cap W') (hg : W.grownBy W' (some B)) : DrC B a len cap w fx rs W' ∧ DrR B rs W W' :=
  ⟨⟨hS, h.bel.grown hg h.bel.size (fun i e => by cases e; exact k.new), fun x hx => (hg.block _ (blk_lt (h.fix x hx)) (fun e => by injection e with e; exact k.fxB x hx e)).trans (h.fix x hx),
    fun x hx => by obtain ⟨cs, h1, h2⟩ := h.res x hx; exact ⟨cs, h1, (hg.block _ (blk_lt h2) (fun e => by injection e with e; exact (k.rsB x hx).2 e)).trans h2⟩⟩,
    fun i hi hB _ => hg.block i hi (fun e => by injection e with e; exact hB e)⟩
theorem DrC.alloc (k : DrOk B a len w fx rs) (h : DrC B a len cap w fx rs W) (o : Obj) : DrC B a len cap w fx rs (W.alloc o) ∧ DrR B rs W (W.alloc o) :=
  h.grown k (h.src.kept fun i hi => Below.heap_alloc _ _ _ (by have := h.src.lt; omega)) (World.grownBy_alloc _ _ _)
theorem DrC.store (k : DrOk B a len w fx rs) (h : DrC B a len cap w fx rs W) (r : Nat) (t : TypeId) (K : Array Value → Prop) (new : Array Value) (hr : (r, t, K) ∈ rs) (hu : ∀ y ∈ rs, y.1 = r → y = (r, t, K)) (hK : K new) (hz : ∀ cs, K cs → cs.size = new.size) :
    DrC B a len cap w fx rs (W.setCells r 0 new.toList) ∧ DrR B rs W (W.setCells r 0 new.toList) := by
  have hoth := fun i hi => setCells_other new.toList W r 0 i hi
  obtain ⟨h1, h2⟩ := k.rsB _ hr
  have hnew := below_cells r h1 new.toList W 0 h.bel
  obtain ⟨cs, hcs, hW⟩ := h.res _ hr
  have hheap := setCells_heap new.toList W r 0 cs t hW (by simp [hz cs hcs])
  obtain ⟨s1, ⟨x1, x2, x3, sb, sr⟩, s3⟩ := h.src
  refine ⟨⟨⟨s1, ⟨x1, x2, x3, (hoth B (fun e => h2 e.symm)).trans sb, sr⟩, (k.row.below fun i hi => hnew.block i hi).mono k.new⟩, hnew, fun x hx => (hoth _ (k.two x hx _ hr)).trans (h.fix x hx), fun x hx => ?_⟩, fun i _ _ hi => hoth i (hi _ hr)⟩
  by_cases e : x.1 = r
  · obtain rfl := hu x hx e
    exact ⟨new, hK, by simpa using hheap⟩
  · obtain ⟨c2, h3, h4⟩ := h.res x hx
    exact ⟨c2, h3, (hoth _ e).trans h4⟩
theorem DrC.there (h : DrC B a len cap w fx rs W) (r : Nat) (t : TypeId) (K : Array Value → Prop) (n : Nat) (hr : (r, t, K) ∈ rs) (hz : ∀ cs, K cs → cs.size = n) : W.there r 0 n := by
  obtain ⟨cs, hcs, hW⟩ := h.res _ hr
  have := hz cs hcs
  exact fun j hj => ⟨by simp [World.cell?, hW]; omega, by simp [World.frozen?, hW]⟩
/-- kinds of values that last -/
def rowR (B : Nat) (rs : List (Nat × TypeId × (Array Value → Prop))) (cs : Array Value) (t : TypeId) : Kp := fun v W => ∃ g, v = .slice (some ⟨g, 0, none⟩) cs.size cs.size ∧ g ≠ B ∧ (∀ x ∈ rs, g ≠ x.1) ∧ W.heap[g]? = some (.cells cs t)
def ptrR (B : Nat) (rs : List (Nat × TypeId × (Array Value → Prop))) (cs : Array Value) (t : TypeId) : Kp := fun v W => ∃ g k, v = .pointer (some ⟨g, k, none⟩) ∧ k < cs.size ∧ g ≠ B ∧ (∀ x ∈ rs, g ≠ x.1) ∧ W.heap[g]? = some (.cells cs t)
def LastsR (B : Nat) (rs : List (Nat × TypeId × (Array Value → Prop))) (k : Kp) : Prop := ∀ v W W', k v W → DrR B rs W W' → k v W'
theorem rowR_last (cs : Array Value) (t : TypeId) : LastsR B rs (rowR B rs cs t) := fun v W W' h hR => by
  obtain ⟨g, e, h1, h2, h3⟩ := h; exact ⟨g, e, h1, h2, (hR g (blk_lt h3) h1 h2).trans h3⟩
theorem ptrR_last (cs : Array Value) (t : TypeId) : LastsR B rs (ptrR B rs cs t) := fun v W W' h hR => by
  obtain ⟨g, k, e, hk, h1, h2, h3⟩ := h; exact ⟨g, k, e, hk, h1, h2, (hR g (blk_lt h3) h1 h2).trans h3⟩
theorem pure_last {k : Value → Prop} : LastsR B rs (fun v _ => k v) := fun _ _ _ h _ => h
def AllLastR (B : Nat) (rs : List (Nat × TypeId × (Array Value → Prop))) : List Kp → Prop
  | [] => True
  | k :: ks => LastsR B rs k ∧ AllLastR B rs ks
theorem all_lastR : ∀ (ks : List Kp), AllLastR B rs ks → ∀ i v W W', kpOf ks i v W → DrR B rs W W' → kpOf ks i v W'
  | [], _, i, v, W, W', h, hg => by simp [kpOf, anyP]
  | k :: ks, hl, 0, v, W, W', h, hg => hl.1 v W W' h hg
  | k :: ks, hl, i + 1, v, W, W', h, hg => all_lastR ks hl.2 i v W W' h hg
theorem fresh_not (k : DrOk B a len w fx rs) (h : DrC B a len cap w fx rs W) : W.heap.size ≠ B ∧ ∀ x ∈ rs, W.heap.size ≠ x.1 := by
  refine ⟨by have := h.src.lt; omega, fun x hx => ?_⟩
  obtain ⟨cs, _, h2⟩ := h.res x hx
  have := blk_lt h2
  omega
end Go.Proofs.Ytilajoafppplcaa
end
