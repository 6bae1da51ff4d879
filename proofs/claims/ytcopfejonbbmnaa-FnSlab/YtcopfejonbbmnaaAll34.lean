/- Proved here: nothing of a program: what is known of memory while a slab is drawn. · Proved here: a region of spec's draw of slabs: a key is added to the slab that is drawn, the answer stands in a new block (conditions: a source, a right slab). -/
import Derived.Test.YtcopfejonbbmnaaAll3
import Derived.Test.YtcopfejonbbmnaaSlabFacts2
import Derived.Test.YtcopfejonbbmnaaAll18
import Derived.Test.YtcopfejonbbmnaaSlabCutS
import Derived.Test.YtcopfejonbbmnaaGrowRes
import Derived.Test.YtcopfejonbbmnaaGrowCases
import Derived.Test.YtcopfejonbbmnaaKinds
import Derived.Deep.MidRow
section
namespace Go.Proofs.Ytcopfejonbbmnaa
open Go.ChangeShapes Go.WideShapes Go.ChangeAt Go.RowKit
set_option linter.unusedVariables false
set_option linter.unusedSimpArgs false
set_option maxRecDepth 100000

/-- an answer with a code; where there is none its slab is right -/
def OutR (w : World) (e : Ending) (w' : World) : Prop := ∃ u a c, OutAns u a c w e w' ∧ (c = 0 → rightSl u = true)
/-- such an answer as a value, its rows from lo to below hi -/
def OutV (lo hi : Nat) (v : Value) (W : World) : Prop := ∃ (u : Slb) (a c : Int) (aS aH : Option Addr) (cS cH : Nat), v = .agg #[.slice aS u.slots.length cS, .slice aH u.heads.length cH, .int .i64 a, .int .i64 c] ∧ SlabO lo hi aS aH u W ∧ hi ≤ W.heap.size ∧ (c = 0 → rightSl u = true)
/-- all but these two stays -/
structure Ex2 (B Y : Nat) (w w' : World) : Prop where
  os : w'.os = w.os
  tape : w'.tape = w.tape
  output : w'.output = w.output
  size : w.heap.size ≤ w'.heap.size
  block : ∀ k, k < w.heap.size → k ≠ B → k ≠ Y → w'.heap[k]? = w.heap[k]?
theorem Ex2.refl (B Y : Nat) (w : World) : Ex2 B Y w w := ⟨rfl, rfl, rfl, Nat.le_refl _, fun _ _ _ _ => rfl⟩
theorem Ex2.trans {B Y : Nat} {a b c : World} (h : Ex2 B Y a b) (k : Ex2 B Y b c) : Ex2 B Y a c :=
  ⟨k.os.trans h.os, k.tape.trans h.tape, k.output.trans h.output, Nat.le_trans h.size k.size, fun i hi h1 h2 => (k.block i (Nat.lt_of_lt_of_le hi h.size) h1 h2).trans (h.block i hi h1 h2)⟩
theorem Ex2.of_grown {B Y : Nat} {w w' : World} (h : w.grownBy w' (some B)) : Ex2 B Y w w' := ⟨h.os, h.tape, h.output, h.size, fun k hk h1 _ => h.block k hk (fun e => h1 (Option.some.inj e))⟩
theorem Ex2.drew {B Y : Nat} {w w' : World} (h : Ex2 B Y w w') : Ex2 B Y w w'.drew := ⟨h.os, h.tape, h.output, h.size, h.block⟩
theorem Ex2.cells {B Y : Nat} {w w' : World} (h : Ex2 B Y w w') (o : Nat) (v : Value) : Ex2 B Y w (w'.setCell ⟨Y, o, none⟩ v) :=
  ⟨h.os, h.tape, h.output, by simp only [World.setCell, Array.size_modify]; exact h.size, fun k hk h1 h2 => (Below.heap_setCell w' ⟨Y, o, none⟩ v k h2).trans (h.block k hk h1 h2)⟩
theorem own_ex {B Y lo hi : Nat} {W W' : World} {a : Option Addr} {l : List Int} (h : OwnR lo hi a l W) (hr : Ex2 B Y W W') (hB : B < lo ∨ hi ≤ B) (hY : Y < lo ∨ hi ≤ Y) : OwnR lo hi a l W' := by
  rcases h with e | ⟨b, o, e, q1, q2, q3⟩
  · exact .inl e
  · exact .inr ⟨b, o, e, q1, q2, q3.keep (hr.block b q3.lt (by omega) (by omega))⟩
theorem slabO_ex {B Y lo hi : Nat} {W W' : World} {aS aH : Option Addr} {u : Slb} (h : SlabO lo hi aS aH u W) (hr : Ex2 B Y W W') (hB : B < lo ∨ hi ≤ B) (hY : Y < lo ∨ hi ≤ Y) : SlabO lo hi aS aH u W' := ⟨own_ex h.slots hr hB hY, own_ex h.heads hr hB hY, h.two⟩
theorem OutV.ex {B Y lo hi : Nat} {W W' : World} {v : Value} (h : OutV lo hi v W) (hr : Ex2 B Y W W') (hB : B < lo ∨ hi ≤ B) (hY : Y < lo ∨ hi ≤ Y) : OutV lo hi v W' := by
  obtain ⟨u, a, c, aS, aH, cS, cH, e, h1, h2, h3⟩ := h
  exact ⟨u, a, c, aS, aH, cS, cH, e, slabO_ex h1 hr hB hY, Nat.le_trans h2 hr.size, h3⟩
/-- the answer as a call handed it back -/
theorem out_val {w w' : World} {e : Ending} (h : OutR w e w') : ∃ v, e = .returned v ∧ OutV w.heap.size w'.heap.size v w' ∧ Below w.heap.size w w' := by
  obtain ⟨u, a, c, ⟨aS, cS, aH, cH, e1, h1, h2⟩, h3⟩ := h
  exact ⟨_, e1, ⟨u, a, c, aS, aH, cS, cH, rfl, h1, Nat.le_refl _, h3⟩, h2⟩
/-- the slab that is drawn: a block with two rows elsewhere -/
structure XSt (X lo b2 o2 cS b3 o3 cH : Nat) (t : Slb) (W : World) : Prop where
  blk : W.heap[X]? = some (.cells #[.slice (some ⟨b2, o2, none⟩) t.slots.length cS, .slice (some ⟨b3, o3, none⟩) t.heads.length cH] 26)
  ne : b2 ≠ b3
  lo2 : lo ≤ b2
  lo3 : lo ≤ b3
  x2 : b2 ≠ X
  x3 : b3 ≠ X
  slots : RowB b2 o2 (flat t.slots) W
  heads : RowB b3 o3 t.heads W
theorem XSt.keep {X lo b2 o2 cS b3 o3 cH : Nat} {t : Slb} {W W' : World} (h : XSt X lo b2 o2 cS b3 o3 cH t W) (hk : ∀ k, k < W.heap.size → k = X ∨ k = b2 ∨ k = b3 → W'.heap[k]? = W.heap[k]?) : XSt X lo b2 o2 cS b3 o3 cH t W' :=
  ⟨(hk X (blk_lt h.blk) (.inl rfl)).trans h.blk, h.ne, h.lo2, h.lo3, h.x2, h.x3, h.slots.keep (hk b2 h.slots.lt (.inr (.inl rfl))), h.heads.keep (hk b3 h.heads.lt (.inr (.inr rfl)))⟩
theorem XSt.grown {B X lo b2 o2 cS b3 o3 cH : Nat} {t : Slb} {W W' : World} (h : XSt X lo b2 o2 cS b3 o3 cH t W) (hg : W.grownBy W' (some B)) (hB : B < lo) (hX : B ≠ X) : XSt X lo b2 o2 cS b3 o3 cH t W' := by
  refine h.keep fun k hk hc => hg.block k hk (fun e => ?_)
  injection e with e
  have := h.lo2
  have := h.lo3
  omega
theorem XSt.read {X lo b2 o2 cS b3 o3 cH : Nat} {t : Slb} {W : World} (h : XSt X lo b2 o2 cS b3 o3 cH t W) : SlabZ (some ⟨b2, o2, none⟩) (some ⟨b3, o3, none⟩) t W := ⟨h.slots.read, h.heads.read⟩
/-- what is known while a first answer is laid, in whatever order -/
structure DrA (B : Nat) (a : Option Addr) (len cap : Nat) (w0 : World) (xv : Value) (L : Nat → Prop) (v : Nat → Value) (W : World) : Prop where
  src : Src B a len cap W
  gr : w0.grownBy W (some B)
  p0 : L 0 → v 0 = xv
  p1 : L 1 → v 1 = .pointer (some ⟨B, 0, none⟩)
  k2 : L 2 → ∃ r : Int, v 2 = .int .i64 r ∧ -1 ≤ r ∧ r ≤ 1000
  r3 : L 3 → ∃ lo hi, w0.heap.size ≤ lo ∧ lo ≤ hi ∧ OutV lo hi (v 3) W ∧ (L 4 → ∀ g, v 4 = .pointer (some ⟨g, 0, none⟩) → g < lo ∨ hi ≤ g)
  z4 : L 4 → ¬ L 5 → ∃ g, v 4 = .pointer (some ⟨g, 0, none⟩) ∧ w0.heap.size ≤ g ∧ W.heap[g]? = some (.cells #[.slice none 0 0, .slice none 0 0, .int .i64 0, .int .i64 0] 30)
  c5 : L 5 → L 3 ∧ L 4
  s5 : L 5 → ∃ g cs, v 4 = .pointer (some ⟨g, 0, none⟩) ∧ w0.heap.size ≤ g ∧ v 3 = .agg cs ∧ W.heap[g]? = some (.cells cs 30)
/-- an answer that stands in a block -/
def YSt (Y lo : Nat) (W : World) : Prop := ∃ cs hi, W.heap[Y]? = some (.cells cs 30) ∧ OutV lo hi (.agg cs) W ∧ (Y < lo ∨ hi ≤ Y)
theorem agg_four {lo hi : Nat} {cs : Array Value} {W : World} (h : OutV lo hi (.agg cs) W) : ∃ (u : Slb) (a c : Int) (aS aH : Option Addr) (cS cH : Nat), cs = #[.slice aS u.slots.length cS, .slice aH u.heads.length cH, .int .i64 a, .int .i64 c] ∧ SlabO lo hi aS aH u W ∧ hi ≤ W.heap.size ∧ (c = 0 → rightSl u = true) := by
  obtain ⟨u, a, c, aS, aH, cS, cH, e, h1, h2, h3⟩ := h
  injection e with e
  exact ⟨u, a, c, aS, aH, cS, cH, e, h1, h2, h3⟩
theorem addR {aS aH : Option Addr} {cS cH : Nat} {s : Slb} (key : Int) (W : World) (hR : SlabZ aS aH s W) (h1 : s.slots.length ≤ 24) (h2 : s.heads.length ≤ 4) :
    Calls Try.prog 15 #[.agg #[.slice aS s.slots.length cS, .slice aH s.heads.length cH], .int .i64 key] W fun e w' => OutR W e w' :=
  (specSlabAdd_any aS aH cS cH s key W hR (by omega) (by omega)).mono fun e w' h => ⟨_, _, _, h, fun hc => by unfold addS; rw [if_pos hc]; exact (add_facts hc).1⟩
theorem cutR {aS aH : Option Addr} {cS cH : Nat} {s : Slb} (key : Int) (W : World) (hR : SlabZ aS aH s W) (h1 : s.slots.length ≤ 24) (h2 : s.heads.length ≤ 4) :
    Calls Try.prog 16 #[.agg #[.slice aS s.slots.length cS, .slice aH s.heads.length cH], .int .i64 key] W fun e w' => OutR W e w' :=
  (specSlabCut_any aS aH cS cH s key W hR (by omega) (by omega)).mono fun e w' h => ⟨_, _, _, h, fun hc => by unfold cutS; rw [if_pos hc]; exact (cut_facts hc).1⟩
theorem getR {aS aH : Option Addr} {cS cH : Nat} {s : Slb} (key : Int) (W : World) (hR : SlabZ aS aH s W) (h1 : s.slots.length ≤ 24) (h2 : s.heads.length ≤ 4) :
    Calls Try.prog 17 #[.agg #[.slice aS s.slots.length cS, .slice aH s.heads.length cH], .int .i64 key] W fun e w' => OutR W e w' :=
  (specSlabGet_any aS aH cS cH s key W hR (by omega) (by omega)).mono fun e w' h => ⟨_, _, _, h, fun hc => get_right hc⟩
theorem putR {aS aH : Option Addr} {cS cH : Nat} {s : Slb} (key : Int) (W : World) (hR : SlabZ aS aH s W) (h1 : s.slots.length ≤ 24) (h2 : s.heads.length ≤ 4) :
    Calls Try.prog 19 #[.agg #[.slice aS s.slots.length cS, .slice aH s.heads.length cH], .int .i64 key] W fun e w' => OutR W e w' :=
  (specSlabPut_any aS aH cS cH s key W hR (by omega) (by omega)).mono fun e w' h => ⟨_, _, _, h, fun hc => put_right hc⟩
end Go.Proofs.Ytcopfejonbbmnaa
end

section
namespace Go.Proofs.Ytcopfejonbbmnaa
open Go.ChangeShapes Go.WideShapes Go.ChangeAt Go.RowKit
set_option linter.unusedVariables false
set_option linter.unusedSimpArgs false
set_option maxRecDepth 100000

theorem OutV.hi_le {lo hi : Nat} {v : Value} {W : World} (h : OutV lo hi v W) : hi ≤ W.heap.size := by
  obtain ⟨_, _, _, _, _, _, _, _, _, h2, _⟩ := h
  exact h2
theorem grown_ex {B Y : Nat} {w W W' : World} (h : w.grownBy W (some B)) (hr : Ex2 B Y W W') (hY : w.heap.size ≤ Y) : w.grownBy W' (some B) :=
  ⟨hr.os.trans h.os, hr.tape.trans h.tape, hr.output.trans h.output, Nat.le_trans h.size hr.size, fun k hk hb => (hr.block k (Nat.lt_of_lt_of_le hk h.size) (fun e => hb (by rw [e])) (by omega)).trans (h.block k hk hb)⟩
theorem DrA.later {B : Nat} {a : Option Addr} {len cap : Nat} {w0 : World} {xv : Value} {L : Nat → Prop} {v : Nat → Value} {W W' : World} (h : DrA B a len cap w0 xv L v W) (hS : Src B a len cap W') (hg : W.grownBy W' (some B)) (hB : B < w0.heap.size) : DrA B a len cap w0 xv L v W' := by
  refine ⟨hS, grown_then h.gr hg, h.p0, h.p1, h.k2, fun l => ?_, fun l n => ?_, h.c5, fun l => ?_⟩
  · obtain ⟨lo, hi, a1, a2, a3, a4⟩ := h.r3 l
    exact ⟨lo, hi, a1, a2, a3.ex (B := B) (Y := B) (Ex2.of_grown hg) (.inl (by omega)) (.inl (by omega)), a4⟩
  · obtain ⟨g, e, h1, h2⟩ := h.z4 l n
    exact ⟨g, e, h1, (hg.block g (blk_lt h2) (fun e => by injection e with e; omega)).trans h2⟩
  · obtain ⟨g, cs, e, h1, h3, h2⟩ := h.s5 l
    exact ⟨g, cs, e, h1, h3, (hg.block g (blk_lt h2) (fun e => by injection e with e; omega)).trans h2⟩
end Go.Proofs.Ytcopfejonbbmnaa
end
