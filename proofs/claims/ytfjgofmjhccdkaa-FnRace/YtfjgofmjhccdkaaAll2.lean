/- Proved here: nothing of a program: slabs in memory, read and of one's own. · Proved here: spec.l06Next and spec.l06Chain answer as the plain functions; all old memory stays (conditions: the slab's rows can be read; few chains, few slots; each number in a slot or head is a slot or an end). · Proved here: a region whose cases go on alike (a bridge; no program of its own). -/
import Derived.Test.YtfjgofmjhccdkaaAll1
import Derived.BigRegion
import Derived.BigQuiet
import Derived.Deep.QuietTactic
import Derived.Deep.OwnRows
import Derived.Deep.Cut
import Derived.Deep.DeepCutAuto
import Derived.Deep.CutBlock
import Derived.Test.YtfjgofmjhccdkaaGrow
section
namespace Go.Proofs.Ytfjgofmjhccdkaa
open Go.ChangeShapes Go.WideShapes Go.ChangeAt Go.RowKit
set_option linter.unusedVariables false
set_option linter.unusedSimpArgs false
set_option maxRecDepth 100000

theorem below_drewN {B : Nat} {w w' : World} (h : Below B w w') (n : Nat) : Below B w (w'.drewN n) := ⟨h.os, h.tape, h.output, h.size, h.block⟩
theorem make_ints (n : Nat) (hn : n ≤ 1048576) (W : World) : (Instr.makeSlice 24 (.int .i64 (n : Int)) (.int .i64 (n : Int))).run Try.prog W = .ok (.slice (some ⟨W.heap.size, 0, none⟩) n n) (W.alloc (.cells (intCells (List.replicate n 0)) 2)) := by
  rw [← made_ints]
  exact run_make_row' (P := Try.prog) 24 2 (.int .i64 0) 8 Try.underlying24 (by kernel_rfl) rfl .i64 .i64 n (by omega) (by omega) W
theorem make_slots (n : Nat) (hn : n ≤ 1048576) (W : World) : (Instr.makeSlice 23 (.int .i64 (n : Int)) (.int .i64 (n : Int))).run Try.prog W = .ok (.slice (some ⟨W.heap.size, 0, none⟩) n n) (W.alloc (.cells (intCells (List.replicate (4 * n) 0)) 45)) := by
  obtain ⟨i, hi, hz⟩ := Option.map_eq_some_iff.1 (show (Try.prog.info? 45).map (fun i => (i.zero, i.size, i.bytes)) = some (some (.agg #[.int .i64 0, .int .i64 0, .int .i64 0, .int .i64 0]), 4, 32) by kernel_rfl)
  simp only [Prod.mk.injEq] at hz
  obtain ⟨h1, h2, h3⟩ := hz
  have h := run_makeSlice (P := Try.prog) W 23 45 i _ Try.underlying23 hi h1 .i64 .i64 (n : Int) (n : Int) (by omega) (by omega) (by rw [h2]; omega) (by rw [h3]; omega) (by omega)
  rw [h2] at h
  have e : (Value.agg #[.int .i64 0, .int .i64 0, .int .i64 0, .int .i64 0]).cells = #[.int .i64 0, .int .i64 0, .int .i64 0, .int .i64 0] := rfl
  rw [e, made_slots, Int.toNat_natCast, Nat.mul_comm n 4] at h
  exact h
theorem rowB_cells {b o : Nat} {zs : List Int} {W : World} (h : RowB b o zs W) (j : Nat) (hj : j < zs.length) : (∃ z, W.cell? ⟨b, o + j, none⟩ = some (.int .i64 z)) ∧ W.frozen? ⟨b, o + j, none⟩ = false := by
  obtain ⟨cs, t, h1, h2⟩ := h
  exact ⟨⟨_, (blk_cell h1 _).trans (h2 j hj)⟩, blk_free h1 _⟩
/-- of all blocks that are there, those from lo to below hi alone may have turned -/
structure Mid (lo hi : Nat) (w w' : World) : Prop where
  os : w'.os = w.os
  tape : w'.tape = w.tape
  output : w'.output = w.output
  size : w.heap.size ≤ w'.heap.size
  block : ∀ k, k < w.heap.size → (k < lo ∨ hi ≤ k) → w'.heap[k]? = w.heap[k]?
theorem Mid.refl (lo hi : Nat) (w : World) : Mid lo hi w w := ⟨rfl, rfl, rfl, Nat.le_refl _, fun _ _ _ => rfl⟩
theorem Mid.trans {lo hi : Nat} {a b c : World} (h : Mid lo hi a b) (k : Mid lo hi b c) : Mid lo hi a c :=
  ⟨k.os.trans h.os, k.tape.trans h.tape, k.output.trans h.output, Nat.le_trans h.size k.size, fun i hi ho => (k.block i (Nat.lt_of_lt_of_le hi h.size) ho).trans (h.block i hi ho)⟩
theorem Tch.mid {b lo hi : Nat} {w w' : World} (h : Tch b w w') (h1 : lo ≤ b) (h2 : b < hi) : Mid lo hi w w' := ⟨h.os, h.tape, h.output, h.size, fun k hk ho => h.block k hk (by omega)⟩
theorem Below.mid {lo hi : Nat} {w w' : World} (h : Below w.heap.size w w') : Mid lo hi w w' := ⟨h.os, h.tape, h.output, h.size, fun k hk _ => h.block k hk⟩
theorem Mid.below {lo hi B : Nat} {w w' : World} (h : Mid lo hi w w') (h1 : B ≤ lo) (h2 : B ≤ w.heap.size) : Below B w w' := ⟨h.os, h.tape, h.output, h.size, fun k hk => h.block k (by omega) (.inl (by omega))⟩
/-- a row of one's own, in a block from lo to below hi (or empty) -/
def OwnR (lo hi : Nat) (a : Option Addr) (zs : List Int) (W : World) : Prop := zs = [] ∨ ∃ b o, a = some ⟨b, o, none⟩ ∧ lo ≤ b ∧ b < hi ∧ RowB b o zs W
theorem OwnR.read {lo hi : Nat} {a : Option Addr} {zs : List Int} {W : World} (h : OwnR lo hi a zs W) : RowZ a zs W := by
  rcases h with rfl | ⟨b, o, rfl, _, _, hr⟩
  · intro j hj; simp at hj
  · exact hr.read
theorem OwnR.later {lo hi : Nat} {a : Option Addr} {zs : List Int} {W W' : World} (h : OwnR lo hi a zs W) (hb : Below W.heap.size W W') : OwnR lo hi a zs W' := by
  rcases h with rfl | ⟨b, o, e, h1, h2, hr⟩
  · exact .inl rfl
  · exact .inr ⟨b, o, e, h1, h2, hr.later hb⟩
/-- rows elsewhere stay -/
theorem OwnR.apart {lo hi lo' hi' : Nat} {a : Option Addr} {zs : List Int} {W W' : World} (h : OwnR lo hi a zs W) (hm : Mid lo' hi' W W') (hd : hi ≤ lo' ∨ hi' ≤ lo) : OwnR lo hi a zs W' := by
  rcases h with rfl | ⟨b, o, e, h1, h2, hr⟩
  · exact .inl rfl
  · exact .inr ⟨b, o, e, h1, h2, hr.keep (hm.block b hr.lt (by omega))⟩
theorem own_new {lo hi b : Nat} {zs : List Int} {W : World} {t : TypeId} (h : W.heap[b]? = some (.cells (intCells zs) t)) (h1 : lo ≤ b) (h2 : b < hi) : OwnR lo hi (some ⟨b, 0, none⟩) zs W := .inr ⟨b, 0, rfl, h1, h2, rowB_new h⟩
/-- a slab's rows can be read -/
structure SlabZ (aS aH : Option Addr) (s : Slb) (W : World) : Prop where
  slots : RowZ aS (flat s.slots) W
  heads : RowZ aH s.heads W
theorem SlabZ.later {aS aH : Option Addr} {s : Slb} {W W' : World} (h : SlabZ aS aH s W) (hb : Below W.heap.size W W') : SlabZ aS aH s W' := ⟨h.slots.later hb, h.heads.later hb⟩
/-- a slab's rows are its own, in two blocks -/
structure SlabO (lo hi : Nat) (aS aH : Option Addr) (s : Slb) (W : World) : Prop where
  slots : OwnR lo hi aS (flat s.slots) W
  heads : OwnR lo hi aH s.heads W
  two : ∀ b o c p, aS = some ⟨b, o, none⟩ → aH = some ⟨c, p, none⟩ → s.slots ≠ [] → s.heads ≠ [] → b ≠ c
theorem SlabO.read {lo hi : Nat} {aS aH : Option Addr} {s : Slb} {W : World} (h : SlabO lo hi aS aH s W) : SlabZ aS aH s W := ⟨h.slots.read, h.heads.read⟩
theorem SlabO.later {lo hi : Nat} {aS aH : Option Addr} {s : Slb} {W W' : World} (h : SlabO lo hi aS aH s W) (hb : Below W.heap.size W W') : SlabO lo hi aS aH s W' := ⟨h.slots.later hb, h.heads.later hb, h.two⟩
theorem SlabO.apart {lo hi lo' hi' : Nat} {aS aH : Option Addr} {s : Slb} {W W' : World} (h : SlabO lo hi aS aH s W) (hm : Mid lo' hi' W W') (hd : hi ≤ lo' ∨ hi' ≤ lo) : SlabO lo hi aS aH s W' := ⟨h.slots.apart hm hd, h.heads.apart hm hd, h.two⟩

/-- numbers of int64 -/
def fitZ (z : Int) : Prop := -9223372036854775808 ≤ z ∧ z ≤ 9223372036854775807
def fitS (s : Slt) : Prop := fitZ s.key ∧ fitZ s.gen ∧ fitZ s.refs ∧ fitZ s.next
/-- a slab of numbers of int64 -/
structure SlabFit (s : Slb) : Prop where
  slots : ∀ x ∈ s.slots, fitS x
  heads : ∀ z ∈ s.heads, fitZ z
end Go.Proofs.Ytfjgofmjhccdkaa
end

section
namespace Go.Proofs.Ytfjgofmjhccdkaa
open Go.ChangeShapes Go.WideShapes Go.ChangeAt Go.RowKit
set_option linter.unusedVariables false
set_option linter.unusedSimpArgs false
set_option maxRecDepth 100000

set_option maxHeartbeats 1000000 in
theorem l06Next_any (aS aH : Option Addr) (nS cS nH cH : Nat) (n : Int) (w : World) (hS : nS ≤ 1048576) (hH : nH ≤ 1048576) :
    Calls Try.prog 114 #[.agg #[.slice aS nS cS, .slice aH nH cH], .int .i64 n] w fun e w' => e = .returned (.bool (nextB nS nH n)) ∧ Below w.heap.size w w' := by
  have HE := hidS (fun W => l06End_any aS aH nS cS nH cH n W hH)
  cases h : endB nH n
  · have e : Hid (nextB nS nH n = (decide (0 ≤ n) && decide (n ≤ (nS : Int) - 1))) := by show _ = _; unfold nextB; rw [h]; rfl
    rw [h] at HE
    have HI := hidS (fun W => l02Is_any n 0 ((nS : Int) - 1) W)
    have hGA0 : Hid ((w.alloc (.cells #[.slice aS nS cS, .slice aH nH cH] 26)).heap[w.heap.size]? = some (.cells #[.slice aS nS cS, .slice aH nH cH] 26)) := by
      show _ = _
      have := heap_newG w (.cells #[.slice aS nS cS, .slice aH nH cH] 26)
      simpa using this
    have hL0 := hidS ((Below.refl w.heap.size w).alloc (Nat.le_refl _) (.cells #[.slice aS nS cS, .slice aH nH cH] 26))
    go_enter Try.func114, Try.ntmps114
    go_wp2_with fail
    refine (HE.out _).mono ?_
    rintro _ w1 ⟨rfl, hb1⟩
    have hGA1 := hidS (blk_later hGA0.out hb1)
    have hL1 := hidS (hL0.out.trans (hb1.mono hL0.out.size))
    clear hb1 hL0 hGA0
    have cA0 := blk_cell hGA1.out 0
    have cA1 := blk_cell hGA1.out 1
    simp at cA0 cA1
    go_wp2_with fail
    refine (HI.out _).mono ?_
    rintro _ v ⟨rfl, hv⟩
    rw [hv]
    clear hv v
    go_wp2_with fail
    go_ret
    exact ⟨by rw [e.out]; rfl, hL1.out⟩
  · have e : Hid (nextB nS nH n = true) := by show _ = _; unfold nextB; rw [h]; rfl
    rw [h] at HE
    have hGA0 : Hid ((w.alloc (.cells #[.slice aS nS cS, .slice aH nH cH] 26)).heap[w.heap.size]? = some (.cells #[.slice aS nS cS, .slice aH nH cH] 26)) := by
      show _ = _
      have := heap_newG w (.cells #[.slice aS nS cS, .slice aH nH cH] 26)
      simpa using this
    have hL0 := hidS ((Below.refl w.heap.size w).alloc (Nat.le_refl _) (.cells #[.slice aS nS cS, .slice aH nH cH] 26))
    go_enter Try.func114, Try.ntmps114
    go_wp2_with fail
    refine (HE.out _).mono ?_
    rintro _ w1 ⟨rfl, hb1⟩
    have hGA1 := hidS (blk_later hGA0.out hb1)
    have hL1 := hidS (hL0.out.trans (hb1.mono hL0.out.size))
    clear hb1 hL0 hGA0
    have cA0 := blk_cell hGA1.out 0
    have cA1 := blk_cell hGA1.out 1
    simp at cA0 cA1
    go_wp2_with fail
    go_ret
    exact ⟨by rw [e.out]; rfl, hL1.out⟩
def lenV : Value → Nat
  | .slice _ n _ => n
  | _ => 0
theorem own_form {W : World} {B : Nat} {t : TypeId} {v : Value} {n : Nat} {xs : List Value} (h : W.ownsRow B t 1 v n xs) : ∃ a cap, v = .slice a n cap := by
  rcases h.2 with ⟨rfl, rfl⟩ | ⟨g, cap, cur, rfl, _⟩
  · exact ⟨none, 0, rfl⟩
  · exact ⟨_, cap, rfl⟩
theorem own_of_row {W : World} {B lo : Nat} {t : TypeId} {a : Option Addr} {n cap : Nat} {zs : List Int} (h : W.ownsRow B t 1 (.slice a n cap) n (zs.map (.int .i64))) (hB : lo ≤ B) : OwnR lo W.heap.size a zs W := by
  obtain ⟨hl, h⟩ := h
  simp at hl
  rcases h with ⟨e, rfl⟩ | ⟨g, cap', cur, e, hg, hh, hn, _, hs, ht⟩
  · left; exact List.length_eq_zero_iff.1 hl
  · injection e with e _ _
    subst e
    refine .inr ⟨g, 0, rfl, by omega, blk_lt hh, cur, t, hh, fun j hj => ?_⟩
    rw [Nat.zero_add]
    have h1 : (zs.map (Value.int .i64))[j]? = some (.int .i64 (zs.getD j 0)) := by simp [hj]
    rw [← ht, List.getElem?_take, if_pos (by omega)] at h1
    simpa using h1
theorem infoI64 : (Try.prog.info? 2).map (fun i => (i.zero, i.size, i.bytes)) = some (some (.int .i64 0), 1, 8) := by kernel_rfl
/-- where a slot leads -/
def nx (s : Slb) (at1 : Int) : Int := (s.slots.getD at1.toNat zeroSlt).next
/-- the slots from one on, so many at most, and where it ends -/
def chainL (s : Slb) : Nat → Int → List Int × Int
  | 0, x => ([], x)
  | f + 1, x => if 0 ≤ x then (x :: (chainL s f (nx s x)).1, (chainL s f (nx s x)).2) else ([], x)
def chainOf (s : Slb) (c : Int) : List Int × Int := chainL s (s.slots.length + 1) (s.heads.getD c.toNat 0)
/-- each number in a slot or head is a slot or an end -/
structure Leads (s : Slb) : Prop where
  slots : ∀ i, i < s.slots.length → (s.slots.getD i zeroSlt).next < s.slots.length
  heads : ∀ i, i < s.heads.length → s.heads.getD i 0 < s.slots.length
theorem chainL_snoc (s : Slb) : ∀ (f : Nat) (x : Int), (chainL s f x).2 = (if (chainL s f x).1.length = f then (chainL s f x).2 else (chainL s f x).2) := fun f x => by split <;> rfl
/-- as many rounds of the loop as have gone -/
def stepsC (s : Slb) : Nat → Int → Int
  | 0, x => x
  | k + 1, x => nx s (stepsC s k x)
def walkC (s : Slb) : Nat → Int → List Int
  | 0, x => []
  | k + 1, x => walkC s k x ++ [stepsC s k x]
theorem walkC_len (s : Slb) (k : Nat) (x : Int) : (walkC s k x).length = k := by
  induction k with
  | zero => rfl
  | succ k ih => simp [walkC, ih]
theorem stepsC_first (s : Slb) (k : Nat) (x : Int) : stepsC s (k + 1) x = stepsC s k (nx s x) := by
  induction k with
  | zero => rfl
  | succ k ih => show nx s (stepsC s (k + 1) x) = nx s (stepsC s k (nx s x)); rw [ih]
theorem walkC_first (s : Slb) (k : Nat) (x : Int) : walkC s (k + 1) x = x :: walkC s k (nx s x) := by
  induction k with
  | zero => rfl
  | succ k ih =>
    show walkC s (k + 1) x ++ [stepsC s (k + 1) x] = x :: (walkC s k (nx s x) ++ [stepsC s k (nx s x)])
    rw [ih, stepsC_first]; rfl
/-- where the loop ends it is the chain -/
theorem chain_end (s : Slb) : ∀ (f k : Nat) (x : Int), k ≤ f → (∀ i, i < k → 0 ≤ stepsC s i x) → (k = f ∨ stepsC s k x < 0) → chainL s f x = (walkC s k x, stepsC s k x)
  | 0, k, x, hk, h1, h2 => by
    have : k = 0 := by omega
    subst this; rfl
  | f + 1, 0, x, hk, h1, h2 => by
    have hx : x < 0 := by
      rcases h2 with h | h
      · omega
      · exact h
    unfold chainL
    rw [if_neg (by omega)]; rfl
  | f + 1, k + 1, x, hk, h1, h2 => by
    have hx : 0 ≤ x := h1 0 (by omega)
    have ih := chain_end s f k (nx s x) (by omega) (fun i hi => by rw [← stepsC_first]; exact h1 (i + 1) (by omega)) (by
      rcases h2 with h | h
      · exact .inl (by omega)
      · rw [stepsC_first] at h; exact .inr h)
    unfold chainL
    rw [if_pos hx, ih, walkC_first, stepsC_first]
/-- a chain handed back as a row of its own, and where it ends -/
def ChainAns (r : List Int × Int) (w : World) (e : Ending) (w' : World) : Prop := ∃ a cap, e = .returned (.tuple #[.slice a r.1.length cap, .int .i64 r.2]) ∧ OwnR w.heap.size w'.heap.size a r.1 w' ∧ Below w.heap.size w w'
set_option maxHeartbeats 2000000 in
theorem l06Chain_any (aS aH : Option Addr) (cS cH : Nat) (s : Slb) (c : Nat) (w : World) (hR : SlabZ aS aH s w) (hL : Leads s) (h1 : s.slots.length ≤ 1000) (hc : c < s.heads.length) (h2 : s.heads.length ≤ 1000) :
    Calls Try.prog 112 #[.agg #[.slice aS s.slots.length cS, .slice aH s.heads.length cH], .int .i64 (c : Int)] w fun e w' => ChainAns (chainOf s c) w e w' := by
  have HR := hidS hR
  have HL := hidS hL
  clear hR hL
  obtain ⟨i0, hi, hz0, hz1, hz2⟩ := info_parts infoI64
  have hA0 : Hid (((w.alloc (.cells #[.slice aS s.slots.length cS, .slice aH s.heads.length cH] 26)).alloc (.cells #[] 2)).heap[w.heap.size]? = some (.cells #[.slice aS s.slots.length cS, .slice aH s.heads.length cH] 26)) := hidS (blk_alloc (heap_newG w (.cells #[.slice aS s.slots.length cS, .slice aH s.heads.length cH] 26)) (.cells #[] 2))
  have hE0 : Hid (((w.alloc (.cells #[.slice aS s.slots.length cS, .slice aH s.heads.length cH] 26)).alloc (.cells #[] 2)).heap[w.heap.size + 1]? = some (.cells #[] 2)) := by
    show _ = _
    have := heap_newG (w.alloc (.cells #[.slice aS s.slots.length cS, .slice aH s.heads.length cH] 26)) (.cells #[] 2)
    simpa using this
  have hb0 : Hid (Below w.heap.size w ((w.alloc (.cells #[.slice aS s.slots.length cS, .slice aH s.heads.length cH] 26)).alloc (.cells #[] 2))) := hidS (((Below.refl w.heap.size w).alloc (Nat.le_refl _) (.cells #[.slice aS s.slots.length cS, .slice aH s.heads.length cH] 26)).alloc (by simp) (.cells #[] 2))
  go_enter Try.func112, Try.ntmps112
  go_upto_region 2 with fail
  generalize ((w.alloc (.cells #[.slice aS s.slots.length cS, .slice aH s.heads.length cH] 26)).alloc (.cells #[] 2)) = w1 at hA0 hE0 hb0 ⊢
  obtain ⟨bH, oH, eH, lH, cHd⟩ := HR.out.heads.later hb0.out c hc
  have HX := hidS (HL.out.heads c hc)
  obtain ⟨x, hx⟩ : ∃ x, s.heads.getD c 0 = x := ⟨_, rfl⟩
  have EX := hidS hx
  rw [hx] at cHd HX
  clear hx
  have hc' : (0 : Int) ≤ (c : Int) ∧ (c : Int) < (s.heads.length : Int) := by omega
  have a1 := blk_cell hA0.out 1
  simp at a1
  rw [eH] at a1
  have HE := hidS eH
  clear eH
  go_wp2
  clear a1 cHd
  go_loopw [6, 7] (fun v at1 wr => ∃ k : Nat, at1 = .int .i64 (stepsC s k x) ∧ k ≤ s.slots.length + 1 ∧ (∀ i, i < k → 0 ≤ stepsC s i x) ∧ stepsC s k x < s.slots.length ∧ wr.ownsRow (w.heap.size + 1) 2 1 v k ((walkC s k x).map (.int .i64)) ∧ wr.heap[w.heap.size]? = some (.cells #[.slice aS s.slots.length cS, .slice aH s.heads.length cH] 26) ∧ Below w.heap.size w wr ∧ w.heap.size + 1 < wr.heap.size) (fun v _ _ => s.slots.length + 2 - lenV v)
  case atStart =>
    exact ⟨0, rfl, by omega, fun i hi => by omega, HX.out, ⟨rfl, Or.inr ⟨w.heap.size + 1, 0, #[], rfl, Nat.le_refl _, hE0.out, Nat.le_refl _, by simp [maxLen], rfl, rfl⟩⟩, hA0.out, hb0.out, blk_lt hE0.out⟩
  case round =>
    obtain ⟨k, rfl, hk, hpos, hlt, hown, hA, hb, hsz⟩ := hrel
    obtain ⟨a, cap, rfl⟩ := own_form hown
    have a0 := blk_cell hA 0
    simp at a0
    have HA := hidS hA
    have HB := hidS hb
    have HO := hidS hown
    have HP := hidS hpos
    have HT := hidS hlt
    clear hA hb hown hpos hlt
    by_cases h0 : 0 ≤ stepsC s k x
    · by_cases hkn : k ≤ s.slots.length
      · obtain ⟨j, hj⟩ : ∃ j : Nat, stepsC s k x = (j : Int) := ⟨(stepsC s k x).toNat, by omega⟩
        have hjl : j < s.slots.length := by have := HT.out; omega
        have hn1 : Hid (stepsC s (k + 1) x = (s.slots.getD j zeroSlt).next) := by
          show nx s (stepsC s k x) = _
          rw [hj]; rfl
        have hn2 : Hid ((s.slots.getD j zeroSlt).next < s.slots.length) := hidS (HL.out.slots j hjl)
        have hW : Hid (walkC s (k + 1) x = walkC s k x ++ [(j : Int)]) := by show walkC s k x ++ [stepsC s k x] = _; rw [hj]
        have hkn' : (k : Int) ≤ (s.slots.length : Int) := by omega
        have hj0 : (0 : Int) ≤ (j : Int) := by omega
        rw [hj]
        have HJ := hidS hj
        clear h0 hj
        go_wp2_with (at_builtin; refine wpList_append_own _ rfl _ _ 24 rfl (w.heap.size + 1) 2 i0 (.int .i64 0) 1 8 Try.underlying24 hi hz0 hz1 hz2 rfl (by decide) _ _ _ rfl (HO.out.alloc _) ⟨wr.heap.size, 0, none⟩ 1 1 [.int .i64 j] rfl rfl (cell_one_new _ _ _) ?c2 ?c3 ?c4 ?c5 ?_)
        case c2 => intro x hx; simp at hx; subst hx; rfl
        case c3 => unfold maxLen; omega
        case c4 => omega
        case c5 => simp; omega
        intro v' w2 hown' hgrow _
        have hB2 : Hid (Below w.heap.size w w2) := hidS ((HB.out.alloc (by omega) _).grown hgrow (by simp; omega) (fun q hq => by have := (HO.out.lt q hq).1; omega))
        have hA2 : Hid (w2.heap[w.heap.size]? = some (.cells #[.slice aS s.slots.length cS, .slice aH s.heads.length cH] 26)) := hidS ((hgrow.block w.heap.size (by simp; omega) (fun e => by have := (HO.out.lt w.heap.size e.symm).1; omega)).trans (blk_alloc HA.out _))
        have hz2' : w.heap.size + 1 < w2.heap.size := by have := hgrow.size; simp at this; omega
        have hO2 : Hid (w2.ownsRow (w.heap.size + 1) 2 1 v' (k + 1) ((walkC s (k + 1) x).map (.int .i64))) := by
          show World.ownsRow _ _ _ _ _ _ _
          rw [hW.out]
          simpa using hown'
        obtain ⟨a', cap', rfl⟩ := own_form hown'
        obtain ⟨bS, oS, eS, lS, c0, c1, c2, c3⟩ := (HR.out.slots.later hB2.out).slot hjl
        have b0 := blk_cell hA2.out 0
        simp at b0
        rw [eS] at b0
        obtain ⟨nxt, hnx⟩ : ∃ z, (s.slots.getD j zeroSlt).next = z := ⟨_, rfl⟩
        rw [hnx] at c3 hn1 hn2
        have hj' : (0 : Int) ≤ (j : Int) ∧ (j : Int) < (s.slots.length : Int) := by omega
        clear hown' hgrow c0 c1 c2 hnx HO HA HB a0
        go_wp2
        go_roundw
        case rel =>
          refine ⟨k + 1, by rw [hn1.out], by omega, fun i hi => ?_, by rw [hn1.out]; exact hn2.out, hO2.out, hA2.out, hB2.out, hz2'⟩
          by_cases e : i < k
          · exact HP.out i e
          · have : i = k := by omega
            subst this
            rw [HJ.out]; omega
        case measure => simp [lenV]; omega
      · have hk1 : k = s.slots.length + 1 := by omega
        have hkn' : ¬ (k : Int) ≤ (s.slots.length : Int) := by omega
        have hE : Hid (chainOf s c = (walkC s k x, stepsC s k x)) := by
          show chainL s (s.slots.length + 1) (s.heads.getD ((c : Int)).toNat 0) = _
          rw [Int.toNat_natCast, EX.out]
          exact chain_end s _ k x (by omega) HP.out (.inl hk1)
        clear HA HT hk1 hkn hk
        go_wp2
        refine bodyPost_ret (v := .tuple #[.slice a k cap, .int .i64 (stepsC s k x)]) (by simp [results, Try.results112, go_sem]) rfl ⟨a, cap, by rw [hE.out]; simp [walkC_len], by rw [hE.out]; exact own_of_row HO.out (by omega), HB.out⟩
    · have hneg : stepsC s k x < 0 := by omega
      have hE : Hid (chainOf s c = (walkC s k x, stepsC s k x)) := by
        show chainL s (s.slots.length + 1) (s.heads.getD ((c : Int)).toNat 0) = _
        rw [Int.toNat_natCast, EX.out]
        exact chain_end s _ k x (by omega) HP.out (.inr hneg)
      clear HA a0 HT h0
      go_wp2
      refine bodyPost_ret (v := .tuple #[.slice a k cap, .int .i64 (stepsC s k x)]) (by simp [results, Try.results112, go_sem]) rfl ⟨a, cap, by rw [hE.out]; simp [walkC_len], by rw [hE.out]; exact own_of_row HO.out (by omega), HB.out⟩
end Go.Proofs.Ytfjgofmjhccdkaa
end

section
namespace Go.Proofs.Ytfjgofmjhccdkaa
open Go.ChangeShapes Go.WideShapes Go.ChangeAt Go.RowKit
set_option linter.unusedVariables false

/-- what an operation waits for is known -/
theorem kdj {A : Nat → Value → World → Prop} {v : Nat → Value} {w : World} {l : Array Edge} (kd : ∀ e ∈ l, Region.binds .any e = true → A e.on (v e.on) w) (j : Nat) (h : (l.toList.any fun e => Region.binds .any e && e.on == j) = true) : A j (v j) w := by
  obtain ⟨e, he, hq⟩ := List.any_eq_true.1 h
  rw [Bool.and_eq_true] at hq
  have ej : e.on = j := by simpa using hq.2
  have := kd e (by simpa using he) hq.1
  rwa [ej] at this
theorem mem0 {α : Type} {a : Array α} {x : α} (h : a[0]? = some x) : x ∈ a := Array.mem_of_getElem? h
theorem mem1 {α : Type} {a : Array α} {x : α} (h : a[1]? = some x) : x ∈ a := Array.mem_of_getElem? h
theorem mem2 {α : Type} {a : Array α} {x : α} (h : a[2]? = some x) : x ∈ a := Array.mem_of_getElem? h
theorem mem3 {α : Type} {a : Array α} {x : α} (h : a[3]? = some x) : x ∈ a := Array.mem_of_getElem? h
theorem mem4 {α : Type} {a : Array α} {x : α} (h : a[4]? = some x) : x ∈ a := Array.mem_of_getElem? h
theorem mem5 {α : Type} {a : Array α} {x : α} (h : a[5]? = some x) : x ∈ a := Array.mem_of_getElem? h
/-- what follows a region is shown once, for all values but the last, and the cases of the region then -/
theorem grow_cases {P : Program} {ops : Array Oper} {Q : Exit → Act → World → Prop} {a0 : Act} {id : Nat} {w0 : World} (n : Nat) (b : Value)
    (fin : ∀ (v : Nat → Value) (w : World), Below w0.heap.size w0 w → v (n - 1) = b → Q .normal (upto ops v a0 n) w)
    (h : (∀ (v : Nat → Value) (w : World), Below w0.heap.size w0 w → v (n - 1) = b → Q .normal (upto ops v a0 n) w) → (Code.region id ops true).wp P Q a0 w0) :
    (Code.region id ops true).wp P Q a0 w0 := h fin
end Go.Proofs.Ytfjgofmjhccdkaa
end
