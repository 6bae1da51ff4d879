/- Proved here: impl.SlabNew makes a slab of so many zero slots and empty chains, in memory of its own; all old memory stays (no conditions). -/
import Derived.Test.YtfjgofmjhccdkaaAll17
import Derived.Test.YtfjgofmjhccdkaaAll12
import Derived.Test.YtfjgofmjhccdkaaSlabI1
import Derived.Test.YtfjgofmjhccdkaaAll2
import Derived.Test.YtfjgofmjhccdkaaAll1
import Derived.Deep.MidRow
namespace Go.Proofs.Ytfjgofmjhccdkaa
open Go.ChangeShapes Go.WideShapes Go.ChangeAt Go.RowKit
set_option linter.unusedVariables false
set_option linter.unusedSimpArgs false
set_option maxRecDepth 100000

/-- a made row of slots; of heads; a new struct -/
def NwS (lo N : Nat) (v : Value) (W : World) : Prop := ∃ b, v = .slice (some ⟨b, 0, none⟩) N N ∧ lo ≤ b ∧ W.heap[b]? = some (.cells (intCells (List.replicate (4 * N) 0)) 45)
def NwH (lo K : Nat) (v : Value) (W : World) : Prop := ∃ b, v = .slice (some ⟨b, 0, none⟩) K K ∧ lo ≤ b ∧ W.heap[b]? = some (.cells (intCells (List.replicate K 0)) 2)
def NwP (lo : Nat) (cs : Array Value) (v : Value) (W : World) : Prop := ∃ g, v = .pointer (some ⟨g, 0, none⟩) ∧ lo ≤ g ∧ W.heap[g]? = some (.cells cs 26)
theorem NwS.alloc {lo N : Nat} {v : Value} {W : World} (h : NwS lo N v W) (o : Obj) : NwS lo N v (W.alloc o) := by
  obtain ⟨b, e, h1, h2⟩ := h
  exact ⟨b, e, h1, blk_alloc h2 o⟩
theorem NwH.alloc {lo N : Nat} {v : Value} {W : World} (h : NwH lo N v W) (o : Obj) : NwH lo N v (W.alloc o) := by
  obtain ⟨b, e, h1, h2⟩ := h
  exact ⟨b, e, h1, blk_alloc h2 o⟩
theorem NwP.alloc {lo : Nat} {cs : Array Value} {v : Value} {W : World} (h : NwP lo cs v W) (o : Obj) : NwP lo cs v (W.alloc o) := by
  obtain ⟨b, e, h1, h2⟩ := h
  exact ⟨b, e, h1, blk_alloc h2 o⟩
theorem other2 {W : World} {b g : Nat} {cs ds : Array Value} {t u : TypeId} {x y : Value} (h : W.heap[b]? = some (.cells cs t)) (hg : W.heap[g]? = some (.cells ds u)) (ht : t ≠ u) : ((W.setCell ⟨g, 0, none⟩ x).setCell ⟨g, 1, none⟩ y).heap[b]? = some (.cells cs t) := by
  have hne : b ≠ g := by
    intro e
    subst e
    rw [h] at hg
    injection hg with hg
    injection hg with _ hg
    exact ht hg
  exact (Below.heap_setCell _ ⟨g, 1, none⟩ y b hne).trans ((Below.heap_setCell W ⟨g, 0, none⟩ x b hne).trans h)
/-- what is known while a new slab is laid, in whatever order -/
structure NewC (lo N K : Nat) (w0 : World) (L : Nat → Prop) (v : Nat → Value) (W : World) : Prop where
  b : Below lo w0 W
  p0 : L 0 → v 0 = .int .i64 (N : Int)
  p2 : L 2 → v 2 = .int .i64 (K : Int)
  r1 : L 1 → NwS lo N (v 1) W
  r3 : L 3 → NwH lo K (v 3) W
  c4 : L 4 → L 1 ∧ L 3
  p4 : L 4 → v 4 = .agg #[v 1, v 3]
  z5 : L 5 → ¬ L 6 → NwP lo #[.slice none 0 0, .slice none 0 0] (v 5) W
  c6 : L 6 → L 4 ∧ L 5
  s6 : L 6 → NwP lo #[v 1, v 3] (v 5) W
theorem set_zero {zs : List Int} {k : Nat} (h : zs.getD k 0 = 0) : zs.set k 0 = zs := by
  apply List.ext_getElem
  · simp
  · intro i h1 h2
    rw [List.getElem_set]
    split
    · rename_i e
      subst e
      have h3 : k < zs.length := h2
      simp [h3] at h
      exact h.symm
    · rfl
theorem partZ_zero (zs : List Int) (k j : Nat) (h : k ≤ j) : (partZ zs k).getD j 0 = 0 := by
  unfold partZ
  rw [List.getD_eq_getElem?_getD]
  by_cases hj : j < (zs.take k).length
  · simp at hj; omega
  · rw [List.getElem?_append_right (by omega)]
    by_cases h2 : j - (zs.take k).length < zs.length - k
    · rw [List.getElem?_replicate, if_pos h2]; rfl
    · rw [List.getElem?_replicate, if_neg h2]; rfl
theorem zero_step (N k : Nat) (h : k < N) : (partZ (flat (zeroSlots N)) (4 * k)).set (4 * k + 3) (-1) = partZ (flat (zeroSlots N)) (4 * (k + 1)) := by
  have hl : (zeroSlots N).length = N := by simp [zeroSlots]
  have e : (zeroSlots N).getD k zeroSlt = ⟨0, 0, 0, -1⟩ := by simp [zeroSlots, h]
  have hp := flat_part (zeroSlots N) k (by omega)
  rw [e] at hp
  simp only at hp
  rw [set_zero (partZ_zero _ _ _ (by omega)), set_zero (partZ_zero _ _ _ (by omega)), set_zero (partZ_zero _ _ _ (by omega))] at hp
  exact hp
theorem set_same {zs : List Int} {k : Nat} {z : Int} (h : zs.getD k 0 = z) (hk : k < zs.length) : zs.set k z = zs := by
  apply List.ext_getElem
  · simp
  · intro i h1 h2
    rw [List.getElem_set]
    split
    · rename_i e
      subst e
      simp [hk] at h
      exact h.symm
    · rfl
theorem ends_step (K j : Nat) (h : j < K) : (partZ (ends K) (1 * j)).set j (-1 - (j : Int)) = partZ (ends K) (1 * (j + 1)) ∧ (partZ (ends K) (1 * j)).length = K ∧ (partZ (ends K) (1 * (j + 1))).length = K ∧ (partZ (ends K) (1 * (j + 1))).set j (-1 - (j : Int)) = partZ (ends K) (1 * (j + 1)) := by
  have hl : (ends K).length = K := by simp [ends]
  have e : (ends K).getD j 0 = -1 - (j : Int) := by simp [ends, h]
  rw [Nat.one_mul, Nat.one_mul]
  have h1 := partZ_step (ends K) j (by omega)
  rw [e] at h1
  have l1 : (partZ (ends K) j).length = K := by rw [partZ_len _ _ (by omega), hl]
  have l2 : (partZ (ends K) (j + 1)).length = K := by rw [partZ_len _ _ (by omega), hl]
  refine ⟨h1, l1, l2, set_same ?_ (by omega)⟩
  rw [← h1, getD_set _ _ _ _ (by omega), if_pos rfl]
/-- the heads' row alone may turn, from one to the other -/
def ColC (c g : Nat) (w0 : World) (zs zs' : List Int) (W : World) : Prop := Tch c w0 W ∧ (RowB c 0 zs W ∨ RowB c 0 zs' W)
theorem keepK (c : Nat) (zs' : List Int) {a0 a1 a2 a3 a4 a5 : Value} : ∀ i v W W', kpOf [isP a0, isP a1, isP a2, isP a3, isP a4, isP a5, fun _ W => RowB c 0 zs' W] i v W → (Tch c W W' ∧ (RowB c 0 zs' W → RowB c 0 zs' W')) → kpOf [isP a0, isP a1, isP a2, isP a3, isP a4, isP a5, fun _ W => RowB c 0 zs' W] i v W' := by
  intro i v W W' h hr
  match i, h with
  | 0, h => exact h
  | 1, h => exact h
  | 2, h => exact h
  | 3, h => exact h
  | 4, h => exact h
  | 5, h => exact h
  | 6, h => exact hr.2 h
  | n + 7, h => exact (trivial : True)
/-- what lasts while the slots are filled, and the heads -/
def NewI (n : Nat) (row : Nat) (oth : Nat) (zs : List Int) (step : Nat) (os : List Int) (w : World) (R g : Nat) (oR oG : Obj) (ii : Value) (wr : World) : Prop :=
  ∃ k : Nat, ii = .int .i64 (k : Int) ∧ k ≤ n ∧ RowB row 0 (partZ zs (step * k)) wr ∧ RowB oth 0 os wr ∧ wr.heap[R]? = some oR ∧ wr.heap[g]? = some oG ∧ Below w.heap.size w wr
set_option maxHeartbeats 8000000 in
theorem implSlabNew_any (n m : Int) (w : World) :
    Calls Try.prog 21 #[.int .i64 n, .int .i64 m] w fun e w' => SlabAns (newSl n m) w e w' := by
  have hR0 := hidS (heap_newG w (.cells #[.slice none 0 0, .slice none 0 0] 26))
  have hb0 := hidS ((Below.refl w.heap.size w).alloc (Nat.le_refl _) (.cells #[.slice none 0 0, .slice none 0 0] 26))
  by_cases a1 : n < 1
  · have EN : newSl n m = ⟨[], []⟩ := by unfold newSl newB; rw [if_neg (by simp; omega)]
    rw [EN]
    clear EN
    go_enter Try.func21, Try.ntmps21
    have kR := blk_cell hR0.out
    have fR := blk_free hR0.out
    go_wp2_with fail
    refine bodyPost_ret (v := .agg #[.slice none 0 0, .slice none 0 0]) (by simp [results, Try.results21, go_sem, *]) rfl ?_
    refine ⟨none, 0, none, 0, rfl, ⟨.inl rfl, .inl rfl, fun _ _ _ _ e => by cases e⟩, ?_⟩
    repeat (refine below_at ?_ (by omega))
    exact hb0.out
  by_cases a2 : 24 < n
  · have EN : newSl n m = ⟨[], []⟩ := by unfold newSl newB; rw [if_neg (by simp; omega)]
    rw [EN]
    clear EN
    go_enter Try.func21, Try.ntmps21
    have kR := blk_cell hR0.out
    have fR := blk_free hR0.out
    go_wp2_with fail
    refine bodyPost_ret (v := .agg #[.slice none 0 0, .slice none 0 0]) (by simp [results, Try.results21, go_sem, *]) rfl ?_
    refine ⟨none, 0, none, 0, rfl, ⟨.inl rfl, .inl rfl, fun _ _ _ _ e => by cases e⟩, ?_⟩
    repeat (refine below_at ?_ (by omega))
    exact hb0.out
  by_cases a3 : m < 1
  · have EN : newSl n m = ⟨[], []⟩ := by unfold newSl newB; rw [if_neg (by simp; omega)]
    rw [EN]
    clear EN
    go_enter Try.func21, Try.ntmps21
    have kR := blk_cell hR0.out
    have fR := blk_free hR0.out
    go_wp2_with fail
    refine bodyPost_ret (v := .agg #[.slice none 0 0, .slice none 0 0]) (by simp [results, Try.results21, go_sem, *]) rfl ?_
    refine ⟨none, 0, none, 0, rfl, ⟨.inl rfl, .inl rfl, fun _ _ _ _ e => by cases e⟩, ?_⟩
    repeat (refine below_at ?_ (by omega))
    exact hb0.out
  by_cases a4 : 4 < m
  · have EN : newSl n m = ⟨[], []⟩ := by unfold newSl newB; rw [if_neg (by simp; omega)]
    rw [EN]
    clear EN
    go_enter Try.func21, Try.ntmps21
    have kR := blk_cell hR0.out
    have fR := blk_free hR0.out
    go_wp2_with fail
    refine bodyPost_ret (v := .agg #[.slice none 0 0, .slice none 0 0]) (by simp [results, Try.results21, go_sem, *]) rfl ?_
    refine ⟨none, 0, none, 0, rfl, ⟨.inl rfl, .inl rfl, fun _ _ _ _ e => by cases e⟩, ?_⟩
    repeat (refine below_at ?_ (by omega))
    exact hb0.out
  obtain ⟨N, rfl⟩ : ∃ N : Nat, n = (N : Int) := ⟨n.toNat, by omega⟩
  obtain ⟨K, rfl⟩ : ∃ K : Nat, m = (K : Int) := ⟨m.toNat, by omega⟩
  have EN : Hid (newSl (N : Int) (K : Int) = ⟨zeroSlots N, ends K⟩) := by show _ = _; unfold newSl newB; rw [if_pos (by simp; omega)]; simp
  have hN : N ≤ 1048576 := by omega
  have hK : K ≤ 1048576 := by omega
  have hN1 : 1 ≤ N ∧ N ≤ 24 := by omega
  have hK1 : 1 ≤ K ∧ K ≤ 4 := by omega
  go_enter Try.func21, Try.ntmps21
  go_wp2_with fail
  have hs0 : w.heap.size < (w.alloc (.cells #[.slice none 0 0, .slice none 0 0] 26)).heap.size := blk_lt hR0.out
  generalize w.alloc (.cells #[.slice none 0 0, .slice none 0 0] 26) = w0 at hR0 hb0 hs0 ⊢
  refine growS (NewC w0.heap.size N K w0) (by kernel_rfl) (by kernel_rfl) ?start ?steps ?fin
  case start =>
    intro L v hno
    exact ⟨(Below.refl _ _).drew, fun h => (hno _ h).elim, fun h => (hno _ h).elim, fun h => (hno _ h).elim, fun h => (hno _ h).elim, fun h => (hno _ h).elim, fun h => (hno _ h).elim, fun h _ => (hno _ h).elim, fun h => (hno _ h).elim, fun h => (hno _ h).elim⟩
  case steps =>
    refine ⟨?_, ?_, ?_, ?_, ?_, ?_, ?_, trivial⟩
    · refine ⟨rfl, fun L v W ρ hC hn hd kc kf ks ki => ?_⟩
      have t0 : ρ (.tmp 0) = .int .i64 (N : Int) := ki 0 (by decide)
      simp [execOp, go_sem, t0]
      simp only [RanS]
      exact ⟨hC.b, (fun _ => rfl), (fun h => hC.p2 (h.resolve_right (by omega))), (fun h => hC.r1 (h.resolve_right (by omega))), (fun h => hC.r3 (h.resolve_right (by omega))), (fun h => ⟨.inl (hC.c4 (h.resolve_right (by omega))).1, .inl (hC.c4 (h.resolve_right (by omega))).2⟩), (fun h => hC.p4 (h.resolve_right (by omega))), (fun h g => hC.z5 (h.resolve_right (by omega)) (fun x => g (.inl x))), (fun h => ⟨.inl (hC.c6 (h.resolve_right (by omega))).1, .inl (hC.c6 (h.resolve_right (by omega))).2⟩), (fun h => hC.s6 (h.resolve_right (by omega)))⟩
    · refine ⟨rfl, fun L v W ρ hC hn hd kc kf ks ki => ?_⟩
      have L0 : L 0 := hd _ (mem0 rfl) rfl
      have t23 : ρ (.tmp 23) = .int .i64 (N : Int) := (ks 0 23 (by decide) rfl).trans (hC.p0 L0)
      have hmk := make_slots N hN W
      simp only [execOp, t23, Sem.run_bind, hmk, Result.andThen_ok, Sem.run_pure]
      simp only [RanS]
      exact ⟨(hC.b.alloc hC.b.size (.cells (intCells (List.replicate (4 * N) 0)) 45)), (fun h => hC.p0 (h.resolve_right (by omega))), (fun h => hC.p2 (h.resolve_right (by omega))), (fun _ => ⟨W.heap.size, rfl, hC.b.size, heap_newG W (.cells (intCells (List.replicate (4 * N) 0)) 45)⟩), (fun h => (hC.r3 (h.resolve_right (by omega))).alloc (.cells (intCells (List.replicate (4 * N) 0)) 45)), (fun h => (hn (hC.c4 (h.resolve_right (by omega))).1).elim), (fun h => (hn (hC.c4 (h.resolve_right (by omega))).1).elim), (fun h g => (hC.z5 (h.resolve_right (by omega)) (fun x => g (.inl x))).alloc (.cells (intCells (List.replicate (4 * N) 0)) 45)), (fun h => ⟨.inl (hC.c6 (h.resolve_right (by omega))).1, .inl (hC.c6 (h.resolve_right (by omega))).2⟩), (fun h => (hn (hC.c4 (hC.c6 (h.resolve_right (by omega))).1).1).elim)⟩
    · refine ⟨rfl, fun L v W ρ hC hn hd kc kf ks ki => ?_⟩
      have t1 : ρ (.tmp 1) = .int .i64 (K : Int) := ki 1 (by decide)
      simp [execOp, go_sem, t1]
      simp only [RanS]
      exact ⟨hC.b, (fun h => hC.p0 (h.resolve_right (by omega))), (fun _ => rfl), (fun h => hC.r1 (h.resolve_right (by omega))), (fun h => hC.r3 (h.resolve_right (by omega))), (fun h => ⟨.inl (hC.c4 (h.resolve_right (by omega))).1, .inl (hC.c4 (h.resolve_right (by omega))).2⟩), (fun h => hC.p4 (h.resolve_right (by omega))), (fun h g => hC.z5 (h.resolve_right (by omega)) (fun x => g (.inl x))), (fun h => ⟨.inl (hC.c6 (h.resolve_right (by omega))).1, .inl (hC.c6 (h.resolve_right (by omega))).2⟩), (fun h => hC.s6 (h.resolve_right (by omega)))⟩
    · refine ⟨rfl, fun L v W ρ hC hn hd kc kf ks ki => ?_⟩
      have L2 : L 2 := hd _ (mem0 rfl) rfl
      have t25 : ρ (.tmp 25) = .int .i64 (K : Int) := (ks 2 25 (by decide) rfl).trans (hC.p2 L2)
      have hmk := make_ints K hK W
      simp only [execOp, t25, Sem.run_bind, hmk, Result.andThen_ok, Sem.run_pure]
      simp only [RanS]
      exact ⟨(hC.b.alloc hC.b.size (.cells (intCells (List.replicate K 0)) 2)), (fun h => hC.p0 (h.resolve_right (by omega))), (fun h => hC.p2 (h.resolve_right (by omega))), (fun h => (hC.r1 (h.resolve_right (by omega))).alloc (.cells (intCells (List.replicate K 0)) 2)), (fun _ => ⟨W.heap.size, rfl, hC.b.size, heap_newG W (.cells (intCells (List.replicate K 0)) 2)⟩), (fun h => (hn (hC.c4 (h.resolve_right (by omega))).2).elim), (fun h => (hn (hC.c4 (h.resolve_right (by omega))).2).elim), (fun h g => (hC.z5 (h.resolve_right (by omega)) (fun x => g (.inl x))).alloc (.cells (intCells (List.replicate K 0)) 2)), (fun h => ⟨.inl (hC.c6 (h.resolve_right (by omega))).1, .inl (hC.c6 (h.resolve_right (by omega))).2⟩), (fun h => (hn (hC.c4 (hC.c6 (h.resolve_right (by omega))).1).2).elim)⟩
    · refine ⟨rfl, fun L v W ρ hC hn hd kc kf ks ki => ?_⟩
      have L1 : L 1 := by first | exact hd _ (mem0 rfl) rfl | exact hd _ (mem1 rfl) rfl
      have L3 : L 3 := by first | exact hd _ (mem1 rfl) rfl | exact hd _ (mem0 rfl) rfl
      obtain ⟨b1, e1, _, _⟩ := hC.r1 L1
      obtain ⟨b3, e3, _, _⟩ := hC.r3 L3
      have t24 : ρ (.tmp 24) = v 1 := ks 1 24 (by decide) rfl
      have t26 : ρ (.tmp 26) = v 3 := ks 3 26 (by decide) rfl
      simp [execOp, go_sem, t24, t26, e1, e3]
      simp only [RanS]
      exact ⟨hC.b, (fun h => hC.p0 (h.resolve_right (by omega))), (fun h => hC.p2 (h.resolve_right (by omega))), (fun h => hC.r1 (h.resolve_right (by omega))), (fun h => hC.r3 (h.resolve_right (by omega))), (fun _ => ⟨.inl L1, .inl L3⟩), (fun _ => by show Value.agg _ = .agg #[v 1, v 3]; rw [e1, e3]), (fun h g => hC.z5 (h.resolve_right (by omega)) (fun x => g (.inl x))), (fun h => ⟨.inl (hC.c6 (h.resolve_right (by omega))).1, .inl (hC.c6 (h.resolve_right (by omega))).2⟩), (fun h => hC.s6 (h.resolve_right (by omega)))⟩
    · refine ⟨rfl, fun L v W ρ hC hn hd kc kf ks ki => ?_⟩
      simp [execOp, go_sem]
      simp only [RanS]
      exact ⟨(hC.b.alloc hC.b.size (.cells #[.slice none 0 0, .slice none 0 0] 26)), (fun h => hC.p0 (h.resolve_right (by omega))), (fun h => hC.p2 (h.resolve_right (by omega))), (fun h => (hC.r1 (h.resolve_right (by omega))).alloc (.cells #[.slice none 0 0, .slice none 0 0] 26)), (fun h => (hC.r3 (h.resolve_right (by omega))).alloc (.cells #[.slice none 0 0, .slice none 0 0] 26)), (fun h => ⟨.inl (hC.c4 (h.resolve_right (by omega))).1, .inl (hC.c4 (h.resolve_right (by omega))).2⟩), (fun h => hC.p4 (h.resolve_right (by omega))), (fun _ _ => ⟨W.heap.size, rfl, hC.b.size, heap_newG W (.cells #[.slice none 0 0, .slice none 0 0] 26)⟩), (fun h => (hn (hC.c6 (h.resolve_right (by omega))).2).elim), (fun h => (hn (hC.c6 (h.resolve_right (by omega))).2).elim)⟩
    · refine ⟨rfl, fun L v W ρ hC hn hd kc kf ks ki => ?_⟩
      have L4 : L 4 := by first | exact hd _ (mem0 rfl) rfl | exact hd _ (mem1 rfl) rfl | exact hd _ (mem2 rfl) rfl
      have L5 : L 5 := by first | exact hd _ (mem0 rfl) rfl | exact hd _ (mem1 rfl) rfl | exact hd _ (mem2 rfl) rfl
      obtain ⟨L1, L3⟩ := hC.c4 L4
      obtain ⟨b1, e1, h1, q1⟩ := hC.r1 L1
      obtain ⟨b3, e3, h3, q3⟩ := hC.r3 L3
      obtain ⟨g, eg, hg, hgz⟩ := hC.z5 L5 hn
      have t5 : ρ (.tmp 5) = .pointer (some ⟨g, 0, none⟩) := (ks 5 5 (by decide) rfl).trans eg
      have t27 : ρ (.tmp 27) = .agg #[.slice (some ⟨b1, 0, none⟩) N N, .slice (some ⟨b3, 0, none⟩) K K] := (ks 4 27 (by decide) rfl).trans ((hC.p4 L4).trans (by rw [e1, e3]))
      have hth : W.there g 0 2 := fun j hj => ⟨by simp [World.cell?, hgz]; omega, by simp [World.frozen?, hgz]⟩
      have hrun := run_storeAt_mid (P := Try.prog) W g 0 26 #[.slice (some ⟨b1, 0, none⟩) N N, .slice (some ⟨b3, 0, none⟩) K K] hth (by kernel_rfl) (by simp [Value.oneCell'])
      have hset : W.setCells g 0 (#[.slice (some ⟨b1, 0, none⟩) N N, .slice (some ⟨b3, 0, none⟩) K K] : Array Value).toList = (W.setCell ⟨g, 0, none⟩ (.slice (some ⟨b1, 0, none⟩) N N)).setCell ⟨g, 1, none⟩ (.slice (some ⟨b3, 0, none⟩) K K) := rfl
      rw [hset] at hrun
      simp only [execOp, t5, t27, Sem.run_bind, hrun, Result.andThen_ok, Sem.run_pure]
      simp only [RanS]
      exact ⟨(below_at (below_at hC.b hg) hg), (fun h => hC.p0 (h.resolve_right (by omega))), (fun h => hC.p2 (h.resolve_right (by omega))), (fun _ => ⟨b1, e1, h1, other2 q1 hgz (by decide)⟩), (fun _ => ⟨b3, e3, h3, other2 q3 hgz (by decide)⟩), (fun h => ⟨.inl (hC.c4 (h.resolve_right (by omega))).1, .inl (hC.c4 (h.resolve_right (by omega))).2⟩), (fun h => hC.p4 (h.resolve_right (by omega))), (fun _ g => (g (.inr rfl)).elim), (fun _ => ⟨.inl L4, .inl L5⟩), (fun _ => ⟨g, eg, hg, by show _ = some (Obj.cells #[v 1, v 3] 26); rw [e1, e3]; have := blk_set (blk_set hgz 0 (.slice (some ⟨b1, 0, none⟩) N N)) 1 (.slice (some ⟨b3, 0, none⟩) K K); simpa using this⟩)⟩
  case fin =>
    intro L v W hC hall
    obtain ⟨b1, e1, h1, q1⟩ := hC.r1 (hall 1 (by decide))
    obtain ⟨b3, e3, h3, q3⟩ := hC.r3 (hall 3 (by decide))
    obtain ⟨g, eg, hg, hgz⟩ := hC.s6 (hall 6 (by decide))
    rw [e1, e3] at hgz
    have hne : b1 ≠ b3 := by
      intro e
      subst e
      rw [q1] at q3
      injection q3 with q3
      injection q3 with _ q3
      exact absurd q3 (by decide)
    have hn1 : b1 ≠ g := by
      intro e
      subst e
      rw [q1] at hgz
      injection hgz with hgz
      injection hgz with _ hgz
      exact absurd hgz (by decide)
    have hn3 : b3 ≠ g := by
      intro e
      subst e
      rw [q3] at hgz
      injection hgz with hgz
      injection hgz with _ hgz
      exact absurd hgz (by decide)
    have P0 : Hid (RowB b1 0 (partZ (flat (zeroSlots N)) (4 * 0)) W) := by
      show RowB _ _ _ _
      rw [Nat.mul_zero, partZ_none, flat_len, show (zeroSlots N).length = N by simp [zeroSlots]]
      exact rowB_new q1
    have Q0 : Hid (RowB b3 0 (partZ (ends K) (1 * 0)) W) := by
      show RowB _ _ _ _
      rw [Nat.mul_zero, partZ_none, show (ends K).length = K by simp [ends]]
      exact rowB_new q3
    have Q0' : Hid (RowB b3 0 (partZ (ends K) 0) W) := hidS (by have := Q0.out; rwa [Nat.mul_zero] at this)
    have hRW := hidS ((hC.b.block w.heap.size hs0).trans hR0.out)
    have hGW := hidS hgz
    have hLW := hidS (hb0.out.trans (hC.b.mono hb0.out.size))
    have hle : w.heap.size < b1 ∧ w.heap.size < b3 ∧ w.heap.size < g := by omega
    simp [upto, Act.put]
    rw [eg]
    clear hC hall eg hgz q1 q3 h1 h3 hg hR0 hb0 e1 e3 Q0
    have c0 := blk_cell hGW.out 0
    simp at c0
    go_wp2_with fail
    clear c0
    go_loopw [31] (fun ii wr => NewI N b1 b3 (flat (zeroSlots N)) 4 (partZ (ends K) 0) w w.heap.size g (.cells #[.slice none 0 0, .slice none 0 0] 26) (.cells #[.slice (some ⟨b1, 0, none⟩) N N, .slice (some ⟨b3, 0, none⟩) K K] 26) ii wr) (fun ii _ => (N - (intOf ii).toNat))
    case atStart => exact ⟨0, rfl, Nat.zero_le _, P0.out, Q0'.out, hRW.out, hGW.out, hLW.out⟩
    case round =>
      obtain ⟨k, rfl, hk, hP, hQ, hRr, hG, hb⟩ := hrel
      have HP := hidS hP
      have HQ := hidS hQ
      have HR := hidS hRr
      have HG := hidS hG
      have HB := hidS hb
      clear P0 Q0' hRW hGW hLW hP hQ hRr hG hb
      have c0 := blk_cell HG.out 0
      have c1 := blk_cell HG.out 1
      simp at c0 c1
      by_cases hlt : k < N
      · have hkk : (0 : Int) ≤ (k : Int) ∧ (k : Int) < (N : Int) := by omega
        have hpl : (partZ (flat (zeroSlots N)) (4 * k)).length = 4 * N := by
          have hz : (flat (zeroSlots N)).length = 4 * N := by rw [flat_len]; simp [zeroSlots]
          rw [partZ_len _ _ (by omega), hz]
        obtain ⟨z, d3⟩ := (rowB_cells HP.out (4 * k + 3) (by omega)).1
        have f3 := (rowB_cells HP.out (4 * k + 3) (by omega)).2
        rw [show 0 + (4 * k + 3) = k * 4 + 3 by omega] at d3 f3
        have HP2 : Hid (RowB b1 0 (partZ (flat (zeroSlots N)) (4 * (k + 1))) (wr.setCell ⟨b1, k * 4 + 3, none⟩ (.int .i64 (-1)))) := by
          show RowB _ _ _ _
          have h := HP.out.set (4 * k + 3) (-1) (by omega)
          rw [zero_step N k hlt, show 0 + (4 * k + 3) = k * 4 + 3 by omega] at h
          exact h
        have HQ2 := hidS (RowB.other (g := b1) (k := k * 4 + 3) (v := .int .i64 (-1)) HQ.out (fun e => hne e.symm))
        have HR2 := hidS (blk_other (B := b1) HR.out (by omega) (k * 4 + 3) (.int .i64 (-1)))
        have HG2 := hidS (blk_other (B := b1) HG.out (fun e => hn1 e.symm) (k * 4 + 3) (.int .i64 (-1)))
        have HB2 := hidS (below_at (k := k * 4 + 3) (b := b1) (v := .int .i64 (-1)) HB.out (by omega))
        have HPL := hidS hpl
        clear hpl
        go_wp2_with fail
        go_roundw
        case rel => exact ⟨k + 1, by simp, by omega, HP2.out, HQ2.out, HR2.out, HG2.out, HB2.out⟩
        case measure => simp [intOf]; omega
      · have hge : ¬ (k : Int) < (N : Int) := by omega
        have e : k = N := by omega
        have HP2 : Hid (RowB b1 0 (flat (zeroSlots N)) wr) := by
          show RowB _ _ _ _
          have h := HP.out
          rw [e, show 4 * N = (flat (zeroSlots N)).length by rw [flat_len]; simp [zeroSlots], partZ_all] at h
          exact h
        have HQ2 : Hid (RowB b3 0 (partZ (ends K) (1 * 0)) wr) := by show RowB _ _ _ _; rw [Nat.mul_zero]; exact HQ.out
        clear e hlt HP HQ
        go_wp2_with fail
        clear c0 c1
        go_loopw [43] (fun ii wr => NewI K b3 b1 (ends K) 1 (flat (zeroSlots N)) w w.heap.size g (.cells #[.slice none 0 0, .slice none 0 0] 26) (.cells #[.slice (some ⟨b1, 0, none⟩) N N, .slice (some ⟨b3, 0, none⟩) K K] 26) ii wr) (fun ii _ => (K - (intOf ii).toNat))
        case atStart => exact ⟨0, rfl, Nat.zero_le _, HQ2.out, HP2.out, HR.out, HG.out, HB.out⟩
        case round =>
          obtain ⟨j, rfl, hj, hQ, hP, hRr, hG, hb⟩ := hrel
          have HP3 := hidS hP
          have HQ3 := hidS hQ
          have HR3 := hidS hRr
          have HG3 := hidS hG
          have HB3 := hidS hb
          clear HP2 HQ2 HR HG HB hP hQ hRr hG hb
          have c0 := blk_cell HG3.out 0
          have c1 := blk_cell HG3.out 1
          simp at c0 c1
          by_cases hjl : j < K
          · have hjj : (0 : Int) ≤ (j : Int) ∧ (j : Int) < (K : Int) := by omega
            have HE := hidS (fun W => endOf_any (j : Int) W ⟨by omega, by omega⟩)
            obtain ⟨s1, s2, s3, s4⟩ := ends_step K j hjl
            have HQ5 := HQ3
            generalize partZ (ends K) (1 * j) = za at HQ5 s1 s2
            obtain ⟨zb, hzb⟩ : ∃ zb, partZ (ends K) (1 * (j + 1)) = zb := ⟨_, rfl⟩
            rw [hzb] at s1 s3 s4
            have HZB := hidS hzb
            have S1 := hidS s1
            have S2 := hidS s2
            have S3 := hidS s3
            have S4 := hidS s4
            clear hzb s1 s2 s3 s4 HQ3
            go_wp2_with fail
            refine grow_res (fun W => ColC b3 g wr za zb W) (fun W W' => Tch b3 W W' ∧ (RowB b3 0 zb W → RowB b3 0 zb W')) (kpOf [isP (.pointer (some ⟨g, 1, none⟩)), isP (.slice (some ⟨b3, 0, none⟩) K K), isP (.int .i64 (j : Int)), isP (.int .i64 (j : Int)), isP (.int .i64 (-1 - (j : Int))), isP (.pointer (some ⟨b3, j, none⟩)), fun _ W => RowB b3 0 zb W]) (by kernel_rfl) (by kernel_rfl) (keepK _ _) ⟨(Tch.refl b3 wr).drew, .inl HQ5.out⟩ ?stepsn ?finn
            case stepsn =>
              refine ⟨?_, ?_, ?_, ?_, ?_, ?_, ?_, trivial⟩
              · refine ⟨rfl, fun v W ρ hC kc kf ks ki kd => ?_⟩
                have tp : ρ (.tmp 5) = .pointer (some ⟨g, 0, none⟩) := ki 5 (by decide)
                simp [execOp, go_sem, tp]
                simp only [RanS]
                exact ⟨hC, ⟨Tch.refl _ _, id⟩, rfl⟩
              · refine ⟨rfl, fun v W ρ hC kc kf ks ki kd => ?_⟩
                have d0 : v 0 = .pointer (some ⟨g, 1, none⟩) := kd _ (mem0 rfl) rfl
                have t46 : ρ (.tmp 46) = .pointer (some ⟨g, 1, none⟩) := (ks 0 46 (by decide) rfl).trans d0
                have e1 := blk_cell ((hC.1.block g (blk_lt HG3.out) (fun e => hn3 e.symm)).trans HG3.out) 1
                simp at e1
                simp [execOp, go_sem, t46, e1]
                simp only [RanS]
                exact ⟨hC, ⟨Tch.refl _ _, id⟩, rfl⟩
              · refine ⟨rfl, fun v W ρ hC kc kf ks ki kd => ?_⟩
                have t7 : ρ (.tmp 7) = .int .i64 (j : Int) := ki 7 (by decide)
                simp [execOp, go_sem, t7]
                simp only [RanS]
                exact ⟨hC, ⟨Tch.refl _ _, id⟩, rfl⟩
              · refine ⟨rfl, fun v W ρ hC kc kf ks ki kd => ?_⟩
                have t7 : ρ (.tmp 7) = .int .i64 (j : Int) := ki 7 (by decide)
                simp [execOp, go_sem, t7]
                simp only [RanS]
                exact ⟨hC, ⟨Tch.refl _ _, id⟩, rfl⟩
              · refine ⟨rfl, fun v W ρ hC kc kf ks ki kd => ?_⟩
                have d3 : v 3 = .int .i64 (j : Int) := kd _ (mem0 rfl) rfl
                have t49 : ρ (.tmp 49) = .int .i64 (j : Int) := (ks 3 49 (by decide) rfl).trans d3
                simp [execOp, go_sem, t49, kf]
                simp only [RanS]
                exact Calls.mono (HE.out W) (fun e x h => ⟨_, h.1, by rw [h.2]; exact hC, by rw [h.2]; exact ⟨Tch.refl _ _, id⟩, rfl⟩)
              · refine ⟨rfl, fun v W ρ hC kc kf ks ki kd => ?_⟩
                have d1 : v 1 = .slice (some ⟨b3, 0, none⟩) K K := (kdj kd 1 rfl :)
                have d2 : v 2 = .int .i64 (j : Int) := (kdj kd 2 rfl :)
                have t47 : ρ (.tmp 47) = .slice (some ⟨b3, 0, none⟩) K K := (ks 1 47 (by decide) rfl).trans d1
                have t48 : ρ (.tmp 48) = .int .i64 (j : Int) := (ks 2 48 (by decide) rfl).trans d2
                simp [execOp, go_sem, t47, t48, hjj]
                simp only [RanS]
                exact ⟨hC, ⟨Tch.refl _ _, id⟩, rfl⟩
              · refine ⟨rfl, fun v W ρ hC kc kf ks ki kd => ?_⟩
                have d4 : v 4 = .int .i64 (-1 - (j : Int)) := (kdj kd 4 rfl :)
                have d5 : v 5 = .pointer (some ⟨b3, j, none⟩) := (kdj kd 5 rfl :)
                have t50 : ρ (.tmp 50) = .int .i64 (-1 - (j : Int)) := (ks 4 50 (by decide) rfl).trans d4
                have t51 : ρ (.tmp 51) = .pointer (some ⟨b3, j, none⟩) := (ks 5 51 (by decide) rfl).trans d5
                have hcell : (∃ z, W.cell? ⟨b3, j, none⟩ = some (.int .i64 z)) ∧ W.frozen? ⟨b3, j, none⟩ = false := by
                  rcases hC.2 with h | h
                  · have := rowB_cells h j (by rw [S2.out]; exact hjl)
                    rwa [Nat.zero_add] at this
                  · have := rowB_cells h j (by rw [S3.out]; exact hjl)
                    rwa [Nat.zero_add] at this
                obtain ⟨⟨z, y0⟩, f0⟩ := hcell
                have hnew : RowB b3 0 zb (W.setCell ⟨b3, j, none⟩ (.int .i64 (-1 - (j : Int)))) := by
                  rcases hC.2 with h | h
                  · have h2 := h.set j (-1 - (j : Int)) (by rw [S2.out]; exact hjl)
                    rw [S1.out, Nat.zero_add] at h2
                    exact h2
                  · have h2 := h.set j (-1 - (j : Int)) (by rw [S3.out]; exact hjl)
                    rw [S4.out, Nat.zero_add] at h2
                    exact h2
                simp [execOp, go_sem, t50, t51, y0, f0]
                simp only [RanS]
                exact ⟨⟨hC.1.set _ _, .inr hnew⟩, ⟨(Tch.refl _ _).set _ _, fun _ => hnew⟩, hnew⟩
            intro vn wn hCn hall
            have hQn : RowB b3 0 (partZ (ends K) (1 * (j + 1))) wn := by rw [HZB.out]; exact hall 6 (by decide)
            have HQn := hidS hQn
            have HPn := hidS (HP3.out.touch hCn.1 hne)
            have HRn := hidS ((hCn.1.block _ (blk_lt HR3.out) (by omega)).trans HR3.out)
            have HGn := hidS ((hCn.1.block _ (blk_lt HG3.out) (fun e => hn3 e.symm)).trans HG3.out)
            have HBn := hidS (HB3.out.trans (hCn.1.below (by omega) HB3.out.size))
            simp [upto, Act.put]
            clear hCn hall hQn
            go_wp2_with fail
            go_roundw
            case rel => exact ⟨j + 1, by simp, by omega, HQn.out, HPn.out, HRn.out, HGn.out, HBn.out⟩
            case measure => simp [intOf]; omega
          · have hge2 : ¬ (j : Int) < (K : Int) := by omega
            have e : j = K := by omega
            have HQ4 : Hid (RowB b3 0 (ends K) wr) := by
              show RowB _ _ _ _
              have h := HQ3.out
              rw [e, Nat.one_mul] at h
              rw [show partZ (ends K) K = ends K by have := partZ_all (ends K); rwa [show (ends K).length = K by simp [ends]] at this] at h
              exact h
            have kR := blk_cell HR3.out
            have fR := blk_free HR3.out
            clear e hjl HQ3
            go_wp2_with fail
            refine bodyPost_ret (v := .agg #[.slice (some ⟨b1, 0, none⟩) N N, .slice (some ⟨b3, 0, none⟩) K K]) (by simp [results, Try.results21, go_sem, *]) rfl ?_
            rw [EN.out]
            refine ⟨some ⟨b1, 0, none⟩, N, some ⟨b3, 0, none⟩, K, by simp [zeroSlots, ends], rows_own (by omega) (by omega) hne ?_ ?_, ?_⟩
            · repeat (refine RowB.other ?_ (by omega))
              exact HP3.out
            · repeat (refine RowB.other ?_ (by omega))
              exact HQ4.out
            · repeat (refine below_at ?_ (by omega))
              exact HB3.out
end Go.Proofs.Ytfjgofmjhccdkaa
