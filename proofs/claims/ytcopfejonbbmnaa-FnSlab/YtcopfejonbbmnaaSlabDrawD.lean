/- Proved here: nothing of a program: a drawn slab of which one number is turned at last. -/
import Derived.Test.YtcopfejonbbmnaaSlabDrawB
namespace Go.Proofs.Ytcopfejonbbmnaa
open Go.ChangeShapes Go.WideShapes Go.ChangeAt Go.RowKit
set_option linter.unusedVariables false
set_option linter.unusedSimpArgs false
set_option maxRecDepth 100000

theorem flat_key : ∀ (ss : List Slt) (i : Nat) (r : Int), i < ss.length → (flat ss).set (4 * i) r = flat (ss.set i { ss.getD i zeroSlt with key := r })
  | [], i, r, h => by simp at h
  | x :: ss, 0, r, h => by simp [flat]
  | x :: ss, i + 1, r, h => by
    have := flat_key ss i r (by simpa using h)
    simp only [flat, show 4 * (i + 1) = 4 * i + 4 by omega, List.set_cons_succ, List.getD_cons_succ]
    rw [this]
theorem flat_gen : ∀ (ss : List Slt) (i : Nat) (r : Int), i < ss.length → (flat ss).set (4 * i + 1) r = flat (ss.set i { ss.getD i zeroSlt with gen := r })
  | [], i, r, h => by simp at h
  | x :: ss, 0, r, h => by simp [flat]
  | x :: ss, i + 1, r, h => by
    have := flat_gen ss i r (by simpa using h)
    simp only [flat, show 4 * (i + 1) + 1 = 4 * i + 1 + 4 by omega, List.set_cons_succ, List.getD_cons_succ]
    rw [this]
/-- a slot with one of its numbers turned -/
def turnF (x : Slt) (f : Nat) (z : Int) : Slt := match f with | 0 => { x with key := z } | 1 => { x with gen := z } | 2 => { x with refs := z } | _ => { x with next := z }
theorem flat_turn (ss : List Slt) (i f : Nat) (z : Int) (hi : i < ss.length) (hf : f < 4) : (flat ss).set (4 * i + f) z = flat (ss.set i (turnF (ss.getD i zeroSlt) f z)) := by
  rcases (by omega : f = 0 ∨ f = 1 ∨ f = 2 ∨ f = 3) with e | e | e | e
  · subst e; exact flat_key ss i z hi
  · subst e; exact flat_gen ss i z hi
  · subst e; exact flat_refs ss i z hi
  · subst e; exact flat_next ss i z hi
theorem fit_turn {x : Slt} {f : Nat} {z : Int} (hx : fitS x) (hz : fitZ z) : fitS (turnF x f z) := by
  obtain ⟨h1, h2, h3, h4⟩ := hx
  unfold turnF
  split
  · exact ⟨hz, h2, h3, h4⟩
  · exact ⟨h1, hz, h3, h4⟩
  · exact ⟨h1, h2, hz, h4⟩
  · exact ⟨h1, h2, h3, hz⟩
theorem fit_of {z : Int} (h1 : -9223372036854775808 ≤ z) (h2 : z ≤ 9223372036854775807) : fitZ z := ⟨h1, h2⟩
theorem next_fit {nS nH : Nat} {z : Int} (h : nextB nS nH z = true) (h1 : nS ≤ 24) (h2 : nH ≤ 4) : fitZ z := by
  unfold nextB endB at h
  simp only [Bool.or_eq_true, Bool.and_eq_true, decide_eq_true_eq] at h
  exact fit_of (by omega) (by omega)
theorem right_fit {s : Slb} (h : rightSl s = true) : SlabFit s := by
  have R := rt_of h
  obtain ⟨n1, n2, n3, n4⟩ := rt_sizes R.sz
  refine ⟨fun x hx => ?_, fun z hz => ?_⟩
  · have := List.all_eq_true.1 R.sl x hx
    unfold okS at this
    simp only [Bool.and_eq_true] at this
    obtain ⟨⟨⟨k1, k2⟩, k3⟩, k4⟩ := this
    have q1 := key_iff.1 k1
    have q2 := (time_iff _).1 k2
    have q3 := (time_iff _).1 k3
    exact ⟨fit_of (by omega) (by omega), fit_of (by omega) (by omega), fit_of (by omega) (by omega), next_fit k4 n2 n4⟩
  · obtain ⟨i, hi, e⟩ := List.getElem_of_mem hz
    have := head_next R hi
    rw [List.getD_eq_getElem?_getD, List.getElem?_eq_getElem hi] at this
    rw [← e]
    exact next_fit this n2 n4
/-- sizes and fits last -/
structure FnSt (B : Nat) (a : Option Addr) (len cap : Nat) (w : World) (X b2 o2 cS b3 o3 cH nS nH : Nat) (W : World) : Prop where
  ex : ∃ t : Slb, t.slots.length = nS ∧ t.heads.length = nH ∧ SlabFit t ∧ XSt X (w.heap.size + 1) b2 o2 cS b3 o3 cH t W
  r : W.heap[w.heap.size]? = some (.cells #[.slice none 0 0, .slice none 0 0] 26)
  src : Src B a len cap W
  gr : w.grownBy W (some B)
  bx : B < w.heap.size ∧ w.heap.size < X
theorem RdSt.fin {B : Nat} {a : Option Addr} {len cap : Nat} {w : World} {X b2 o2 cS b3 o3 cH : Nat} {t : Slb} {W : World} (h : RdSt B a len cap w X b2 o2 cS b3 o3 cH t W) : FnSt B a len cap w X b2 o2 cS b3 o3 cH t.slots.length t.heads.length W :=
  ⟨⟨t, rfl, rfl, right_fit h.rt, h.x⟩, h.r, h.src, h.gr, h.bx⟩
theorem FnSt.grown {B : Nat} {a : Option Addr} {len cap : Nat} {w : World} {X b2 o2 cS b3 o3 cH nS nH : Nat} {W W' : World} (h : FnSt B a len cap w X b2 o2 cS b3 o3 cH nS nH W) (hS : Src B a len cap W') (hg : W.grownBy W' (some B)) : FnSt B a len cap w X b2 o2 cS b3 o3 cH nS nH W' := by
  have hb := h.bx
  obtain ⟨t, h1, h2, h3, h4⟩ := h.ex
  exact ⟨⟨t, h1, h2, h3, h4.grown hg (by omega) (by omega)⟩, (hg.block _ (blk_lt h.r) (fun e => by injection e with e; omega)).trans h.r, hS, grown_then h.gr hg, h.bx⟩
theorem FnSt.cellsX {B : Nat} {a : Option Addr} {len cap : Nat} {w : World} {X b2 o2 cS b3 o3 cH nS nH : Nat} {W : World} (h : FnSt B a len cap w X b2 o2 cS b3 o3 cH nS nH W) : W.cell? ⟨X, 0, none⟩ = some (.slice (some ⟨b2, o2, none⟩) nS cS) ∧ W.cell? ⟨X, 1, none⟩ = some (.slice (some ⟨b3, o3, none⟩) nH cH) := by
  obtain ⟨t, h1, h2, h3, h4⟩ := h.ex
  have e0 := blk_cell h4.blk 0
  have e1 := blk_cell h4.blk 1
  simp at e0 e1
  rw [h1] at e0
  rw [h2] at e1
  exact ⟨e0, e1⟩
theorem FnSt.turn {B : Nat} {a : Option Addr} {len cap : Nat} {w : World} {X b2 o2 cS b3 o3 cH nS nH : Nat} {W : World} (h : FnSt B a len cap w X b2 o2 cS b3 o3 cH nS nH W) {j f : Nat} {z : Int} (hj : j < nS) (hf : f < 4) (hz : fitZ z) :
    (∃ y : Int, W.cell? ⟨b2, o2 + j * 4 + f, none⟩ = some (.int .i64 y)) ∧ W.frozen? ⟨b2, o2 + j * 4 + f, none⟩ = false ∧ FnSt B a len cap w X b2 o2 cS b3 o3 cH nS nH (W.setCell ⟨b2, o2 + j * 4 + f, none⟩ (.int .i64 z)) := by
  have hb := h.bx
  obtain ⟨t, h1, h2, h3, h4⟩ := h.ex
  have hl2 := h4.lo2
  have e : o2 + (4 * j + f) = o2 + j * 4 + f := by omega
  have hc := rowB_cells h4.slots (4 * j + f) (by rw [flat_len]; omega)
  rw [e] at hc
  have h0 : ∀ k, k ≠ b2 → (W.setCell ⟨b2, o2 + j * 4 + f, none⟩ (.int .i64 z)).heap[k]? = W.heap[k]? := fun k hk => Below.heap_setCell W ⟨b2, o2 + j * 4 + f, none⟩ _ k hk
  have hs := h4.slots.set (4 * j + f) z (by rw [flat_len]; omega)
  rw [flat_turn _ _ _ _ (by omega) hf, e] at hs
  refine ⟨hc.1, hc.2, ⟨⟨⟨t.slots.set j (turnF (t.slots.getD j zeroSlt) f z), t.heads⟩, by simp [h1], h2, ⟨fun x hx => ?_, h3.heads⟩, ?_⟩, (h0 _ (by omega)).trans h.r, h.src.kept (fun k hk => h0 k (by omega)), grown_ex h.gr (((Ex2.refl B b2 W).cells _ _)) (by omega), h.bx⟩⟩
  · rcases List.mem_or_eq_of_mem_set hx with q | q
    · exact h3.slots x q
    · rw [q]
      refine fit_turn (h3.slots _ ?_) hz
      rw [List.getD_eq_getElem?_getD, List.getElem?_eq_getElem (show j < t.slots.length by omega)]
      exact List.getElem_mem _
  · refine ⟨?_, h4.ne, h4.lo2, h4.lo3, h4.x2, h4.x3, hs, h4.heads.other (fun e2 => h4.ne e2.symm)⟩
    have := (h0 X (fun e2 => h4.x2 e2.symm)).trans h4.blk
    simpa using this
theorem FnSt.turnH {B : Nat} {a : Option Addr} {len cap : Nat} {w : World} {X b2 o2 cS b3 o3 cH nS nH : Nat} {W : World} (h : FnSt B a len cap w X b2 o2 cS b3 o3 cH nS nH W) {j : Nat} {z : Int} (hj : j < nH) (hz : fitZ z) :
    (∃ y : Int, W.cell? ⟨b3, o3 + j, none⟩ = some (.int .i64 y)) ∧ W.frozen? ⟨b3, o3 + j, none⟩ = false ∧ FnSt B a len cap w X b2 o2 cS b3 o3 cH nS nH (W.setCell ⟨b3, o3 + j, none⟩ (.int .i64 z)) := by
  have hb := h.bx
  obtain ⟨t, h1, h2, h3, h4⟩ := h.ex
  have hl3 := h4.lo3
  have hc := rowB_cells h4.heads j (by omega)
  have h0 : ∀ k, k ≠ b3 → (W.setCell ⟨b3, o3 + j, none⟩ (.int .i64 z)).heap[k]? = W.heap[k]? := fun k hk => Below.heap_setCell W ⟨b3, o3 + j, none⟩ _ k hk
  have hs := h4.heads.set j z (by omega)
  refine ⟨hc.1, hc.2, ⟨⟨⟨t.slots, t.heads.set j z⟩, h1, by simp [h2], ⟨h3.slots, fun x hx => ?_⟩, ?_⟩, (h0 _ (by omega)).trans h.r, h.src.kept (fun k hk => h0 k (by omega)), grown_ex h.gr (((Ex2.refl B b3 W).cells _ _)) (by omega), h.bx⟩⟩
  · rcases List.mem_or_eq_of_mem_set hx with q | q
    · exact h3.heads x q
    · rw [q]; exact hz
  · refine ⟨?_, h4.ne, h4.lo2, h4.lo3, h4.x2, h4.x3, h4.slots.other h4.ne, hs⟩
    have := (h0 X (fun e2 => h4.x3 e2.symm)).trans h4.blk
    simpa using this
/-- a made row beside, and a place in it -/
def rowZ (n : Nat) (zs : List Int) (m : Nat) : Kp := fun v W => ∃ g, v = .slice (some ⟨g, 0, none⟩) n n ∧ m ≤ g ∧ W.heap[g]? = some (.cells (intCells zs) 2)
def ptrZ (n : Nat) (zs : List Int) (m : Nat) : Kp := fun v W => ∃ g j, v = .pointer (some ⟨g, j, none⟩) ∧ j < n ∧ m ≤ g ∧ W.heap[g]? = some (.cells (intCells zs) 2)
/-- what stands from m on stays -/
def Up (m : Nat) (W W' : World) : Prop := ∀ k, k < W.heap.size → m ≤ k → W'.heap[k]? = W.heap[k]?
theorem rowZ_last {n : Nat} {zs : List Int} {m : Nat} {v : Value} {W W' : World} (h : rowZ n zs m v W) (hr : Up m W W') : rowZ n zs m v W' := by
  obtain ⟨g, e, h1, h2⟩ := h
  exact ⟨g, e, h1, (hr g (blk_lt h2) h1).trans h2⟩
theorem ptrZ_last {n : Nat} {zs : List Int} {m : Nat} {v : Value} {W W' : World} (h : ptrZ n zs m v W) (hr : Up m W W') : ptrZ n zs m v W' := by
  obtain ⟨g, j, e, h0, h1, h2⟩ := h
  exact ⟨g, j, e, h0, h1, (hr g (blk_lt h2) h1).trans h2⟩
end Go.Proofs.Ytcopfejonbbmnaa
