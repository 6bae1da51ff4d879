/- Proved here: spec.l06Copy copies a slab into memory of its own; all old memory stays (conditions: the slab's rows can be read; a few slots and chains, one at least of each). -/
import Derived.Test.YtfjgofmjhccdkaaAll10
import Derived.Test.YtfjgofmjhccdkaaAll12
import Derived.Test.YtfjgofmjhccdkaaAll2
import Derived.Deep.MidRow
namespace Go.Proofs.Ytfjgofmjhccdkaa
open Go.ChangeShapes Go.WideShapes Go.ChangeAt Go.RowKit
set_option linter.unusedVariables false
set_option linter.unusedSimpArgs false
set_option maxRecDepth 100000

/-- two rows in blocks apart -/
def Apart (x y : Value) : Prop := ∀ q, x.ownBlock = some q → y.ownBlock ≠ some q
theorem Apart.symm {x y : Value} (h : Apart x y) : Apart y x := fun q hq e => h q e hq
theorem apart_new {W : World} {B n cap m : Nat} {t : TypeId} {z : Nat} {y : Value} {xs : List Value} (h : W.ownsRow B t z y m xs) : Apart (.slice (some ⟨W.heap.size, 0, none⟩) n cap) y := fun q hq e => by
  have := (h.lt q e).2
  have e' : W.heap.size = q := by simpa [Value.ownBlock] using hq
  omega
theorem apart_app {W : World} {B m : Nat} {t : TypeId} {z : Nat} {x x' y : Value} {xs : List Value} (h : Apart x y) (ho : x'.ownBlock = x.ownBlock ∨ x'.ownBlock = some W.heap.size) (hy : W.ownsRow B t z y m xs) : Apart x' y := fun q hq e => by
  rcases ho with e2 | e2
  · rw [e2] at hq; exact h q hq e
  · rw [e2] at hq
    injection hq with hq
    have := (hy.lt q e).2
    omega
/-- what is known while a slab is copied, in whatever order -/
structure CopyC (w w0 : World) (s : Slb) (vS vH : Value) (L : Nat → Prop) (v : Nat → Value) (W : World) : Prop where
  b : Below (w.heap.size + 1) w0 W
  p1 : L 1 → v 1 = .pointer (some ⟨w.heap.size, 0, none⟩)
  p2 : L 2 → v 2 = vS
  p5 : L 5 → v 5 = .pointer (some ⟨w.heap.size, 1, none⟩)
  p6 : L 6 → v 6 = vH
  r0 : L 0 → ¬ L 3 → W.ownsRow w0.heap.size 45 4 (v 0) 0 []
  r3 : L 3 → W.ownsRow w0.heap.size 45 4 (v 3) s.slots.length ((flat s.slots).map (.int .i64))
  r4 : L 4 → ¬ L 7 → W.ownsRow w0.heap.size 2 1 (v 4) 0 []
  r7 : L 7 → W.ownsRow w0.heap.size 2 1 (v 7) s.heads.length (s.heads.map (.int .i64))
  a04 : L 0 → ¬ L 3 → L 4 → ¬ L 7 → Apart (v 0) (v 4)
  a07 : L 0 → ¬ L 3 → L 7 → Apart (v 0) (v 7)
  a34 : L 3 → L 4 → ¬ L 7 → Apart (v 3) (v 4)
  a37 : L 3 → L 7 → Apart (v 3) (v 7)
  c8 : L 8 → L 3 ∧ L 7
  p8 : L 8 → v 8 = .agg #[v 3, v 7]
  c9 : L 9 → L 8
  z9 : ¬ L 9 → W.heap[w.heap.size + 1]? = some (.cells #[.slice none 0 0, .slice none 0 0] 26)
  s9 : L 9 → W.heap[w.heap.size + 1]? = some (.cells #[v 3, v 7] 26)
set_option maxHeartbeats 4000000 in
theorem l06Copy_any (bS oS bH oH cS cH : Nat) (s : Slb) (w : World) (hR : SlabZ (some ⟨bS, oS, none⟩) (some ⟨bH, oH, none⟩) s w) (h1 : s.slots.length ≤ 24) (h2 : s.heads.length ≤ 4) :
    Calls Try.prog 57 #[.agg #[.slice (some ⟨bS, oS, none⟩) s.slots.length cS, .slice (some ⟨bH, oH, none⟩) s.heads.length cH]] w fun e w' => SlabAns s w e w' := by
  have HZ := hidS hR
  clear hR
  obtain ⟨i0, hi, hz0, hz1, hz2⟩ := info_parts infoI64
  obtain ⟨i4, gi, gz⟩ := Option.map_eq_some_iff.1 infoSlot
  simp only [Prod.mk.injEq] at gz
  obtain ⟨gz0, gz1, gz2⟩ := gz
  have HA : Hid (((w.alloc (.cells #[.slice (some ⟨bS, oS, none⟩) s.slots.length cS, .slice (some ⟨bH, oH, none⟩) s.heads.length cH] 26)).alloc (.cells #[.slice none 0 0, .slice none 0 0] 26)).heap[w.heap.size]? = some (.cells #[.slice (some ⟨bS, oS, none⟩) s.slots.length cS, .slice (some ⟨bH, oH, none⟩) s.heads.length cH] 26)) := hidS (blk_alloc (heap_newG w (.cells #[.slice (some ⟨bS, oS, none⟩) s.slots.length cS, .slice (some ⟨bH, oH, none⟩) s.heads.length cH] 26)) (.cells #[.slice none 0 0, .slice none 0 0] 26))
  have HRr : Hid (((w.alloc (.cells #[.slice (some ⟨bS, oS, none⟩) s.slots.length cS, .slice (some ⟨bH, oH, none⟩) s.heads.length cH] 26)).alloc (.cells #[.slice none 0 0, .slice none 0 0] 26)).heap[w.heap.size + 1]? = some (.cells #[.slice none 0 0, .slice none 0 0] 26)) := by
    show _ = _
    have := heap_newG (w.alloc (.cells #[.slice (some ⟨bS, oS, none⟩) s.slots.length cS, .slice (some ⟨bH, oH, none⟩) s.heads.length cH] 26)) (.cells #[.slice none 0 0, .slice none 0 0] 26)
    simpa using this
  have HB : Hid (Below w.heap.size w ((w.alloc (.cells #[.slice (some ⟨bS, oS, none⟩) s.slots.length cS, .slice (some ⟨bH, oH, none⟩) s.heads.length cH] 26)).alloc (.cells #[.slice none 0 0, .slice none 0 0] 26))) := hidS (((Below.refl w.heap.size w).alloc (Nat.le_refl _) (.cells #[.slice (some ⟨bS, oS, none⟩) s.slots.length cS, .slice (some ⟨bH, oH, none⟩) s.heads.length cH] 26)).alloc (by simp) (.cells #[.slice none 0 0, .slice none 0 0] 26))
  have hsz : ((w.alloc (.cells #[.slice (some ⟨bS, oS, none⟩) s.slots.length cS, .slice (some ⟨bH, oH, none⟩) s.heads.length cH] 26)).alloc (.cells #[.slice none 0 0, .slice none 0 0] 26)).heap.size = w.heap.size + 2 := by simp
  go_enter Try.func57, Try.ntmps57
  go_wp2_with fail
  generalize ((w.alloc (.cells #[.slice (some ⟨bS, oS, none⟩) s.slots.length cS, .slice (some ⟨bH, oH, none⟩) s.heads.length cH] 26)).alloc (.cells #[.slice none 0 0, .slice none 0 0] 26)) = w0 at HA HRr HB hsz ⊢
  have HSZ := hidS hsz
  have HLT : Hid (w.heap.size + 1 < w0.heap.size) := hidS (by omega)
  have HLE : Hid (w.heap.size + 1 ≤ w0.heap.size) := hidS (by omega)
  clear hsz
  refine growS (CopyC w w0 s (.slice (some ⟨bS, oS, none⟩) s.slots.length cS) (.slice (some ⟨bH, oH, none⟩) s.heads.length cH)) (by kernel_rfl) (by kernel_rfl) ?start ?steps ?fin
  case start =>
    intro L v hno
    exact ⟨(Below.refl _ _).drew, fun h => (hno _ h).elim, fun h => (hno _ h).elim, fun h => (hno _ h).elim, fun h => (hno _ h).elim, fun h => (hno _ h).elim, fun h => (hno _ h).elim, fun h => (hno _ h).elim, fun h => (hno _ h).elim, fun h => (hno _ h).elim, fun h => (hno _ h).elim, fun h => (hno _ h).elim, fun h => (hno _ h).elim, fun h => (hno _ h).elim, fun h => (hno _ h).elim, fun h => (hno _ h).elim, fun _ => HRr.out, fun h => (hno _ h).elim⟩
  case steps =>
    refine ⟨?_, ?_, ?_, ?_, ?_, ?_, ?_, ?_, ?_, ?_, trivial⟩
    · refine ⟨rfl, fun L v W ρ hC hn hd kc kf ks ki => ?_⟩
      simp [execOp, go_sem, kc]
      simp only [RanS]
      exact ⟨(hC.b.alloc (Nat.le_trans HLE.out hC.b.size) (.cells #[] 45)), (fun h => hC.p1 (h.resolve_right (by omega))), (fun h => hC.p2 (h.resolve_right (by omega))), (fun h => hC.p5 (h.resolve_right (by omega))), (fun h => hC.p6 (h.resolve_right (by omega))), (fun _ _ => ⟨rfl, .inr ⟨W.heap.size, 0, #[], rfl, hC.b.size, heap_newG W (.cells #[] 45), Nat.le_refl _, by simp [maxLen], rfl, rfl⟩⟩), (fun h => (hC.r3 (h.resolve_right (by omega))).alloc (.cells #[] 45)), (fun h g => (hC.r4 (h.resolve_right (by omega)) (fun x => g (.inl x))).alloc (.cells #[] 45)), (fun h => (hC.r7 (h.resolve_right (by omega))).alloc (.cells #[] 45)), (fun _ _ k j => apart_new (hC.r4 (k.resolve_right (by omega)) (fun x => j (.inl x)))), (fun _ _ k => apart_new (hC.r7 (k.resolve_right (by omega)))), (fun h k j => hC.a34 (h.resolve_right (by omega)) (k.resolve_right (by omega)) (fun x => j (.inl x))), (fun h k => hC.a37 (h.resolve_right (by omega)) (k.resolve_right (by omega))), (fun h => ⟨.inl (hC.c8 (h.resolve_right (by omega))).1, .inl (hC.c8 (h.resolve_right (by omega))).2⟩), (fun h => hC.p8 (h.resolve_right (by omega))), (fun h => .inl (hC.c9 (h.resolve_right (by omega)))), (fun g => blk_alloc (hC.z9 (fun x => g (.inl x))) (.cells #[] 45)), (fun h => blk_alloc (hC.s9 (h.resolve_right (by omega))) (.cells #[] 45))⟩
    · refine ⟨rfl, fun L v W ρ hC hn hd kc kf ks ki => ?_⟩
      have tp : ρ (.tmp 1) = .pointer (some ⟨w.heap.size, 0, none⟩) := ki 1 (by decide)
      simp [execOp, go_sem, tp]
      simp only [RanS]
      exact ⟨hC.b, (fun _ => rfl), (fun h => hC.p2 (h.resolve_right (by omega))), (fun h => hC.p5 (h.resolve_right (by omega))), (fun h => hC.p6 (h.resolve_right (by omega))), (fun h g => hC.r0 (h.resolve_right (by omega)) (fun x => g (.inl x))), (fun h => hC.r3 (h.resolve_right (by omega))), (fun h g => hC.r4 (h.resolve_right (by omega)) (fun x => g (.inl x))), (fun h => hC.r7 (h.resolve_right (by omega))), (fun h g k j => hC.a04 (h.resolve_right (by omega)) (fun x => g (.inl x)) (k.resolve_right (by omega)) (fun x => j (.inl x))), (fun h g k => hC.a07 (h.resolve_right (by omega)) (fun x => g (.inl x)) (k.resolve_right (by omega))), (fun h k j => hC.a34 (h.resolve_right (by omega)) (k.resolve_right (by omega)) (fun x => j (.inl x))), (fun h k => hC.a37 (h.resolve_right (by omega)) (k.resolve_right (by omega))), (fun h => ⟨.inl (hC.c8 (h.resolve_right (by omega))).1, .inl (hC.c8 (h.resolve_right (by omega))).2⟩), (fun h => hC.p8 (h.resolve_right (by omega))), (fun h => .inl (hC.c9 (h.resolve_right (by omega)))), (fun g => hC.z9 (fun x => g (.inl x))), (fun h => hC.s9 (h.resolve_right (by omega)))⟩
    · refine ⟨rfl, fun L v W ρ hC hn hd kc kf ks ki => ?_⟩
      have L1 : L 1 := hd _ (mem0 rfl) rfl
      have t4 : ρ (.tmp 4) = .pointer (some ⟨w.heap.size, 0, none⟩) := (ks 1 4 (by decide) rfl).trans (hC.p1 L1)
      have e0 := blk_cell ((hC.b.block w.heap.size (by omega)).trans HA.out) 0
      simp at e0
      simp [execOp, go_sem, t4, e0]
      simp only [RanS]
      exact ⟨hC.b, (fun h => hC.p1 (h.resolve_right (by omega))), (fun _ => rfl), (fun h => hC.p5 (h.resolve_right (by omega))), (fun h => hC.p6 (h.resolve_right (by omega))), (fun h g => hC.r0 (h.resolve_right (by omega)) (fun x => g (.inl x))), (fun h => hC.r3 (h.resolve_right (by omega))), (fun h g => hC.r4 (h.resolve_right (by omega)) (fun x => g (.inl x))), (fun h => hC.r7 (h.resolve_right (by omega))), (fun h g k j => hC.a04 (h.resolve_right (by omega)) (fun x => g (.inl x)) (k.resolve_right (by omega)) (fun x => j (.inl x))), (fun h g k => hC.a07 (h.resolve_right (by omega)) (fun x => g (.inl x)) (k.resolve_right (by omega))), (fun h k j => hC.a34 (h.resolve_right (by omega)) (k.resolve_right (by omega)) (fun x => j (.inl x))), (fun h k => hC.a37 (h.resolve_right (by omega)) (k.resolve_right (by omega))), (fun h => ⟨.inl (hC.c8 (h.resolve_right (by omega))).1, .inl (hC.c8 (h.resolve_right (by omega))).2⟩), (fun h => hC.p8 (h.resolve_right (by omega))), (fun h => .inl (hC.c9 (h.resolve_right (by omega)))), (fun g => hC.z9 (fun x => g (.inl x))), (fun h => hC.s9 (h.resolve_right (by omega)))⟩
    · refine ⟨rfl, fun L v W ρ hC hn hd kc kf ks ki => ?_⟩
      have Lr : L 0 := by first | exact hd _ (mem0 rfl) rfl | exact hd _ (mem1 rfl) rfl
      have Lx : L 2 := by first | exact hd _ (mem1 rfl) rfl | exact hd _ (mem0 rfl) rfl
      have hrow := hC.r0 Lr hn
      have tr : ρ (.tmp 3) = v 0 := ks 0 3 (by decide) rfl
      have tx : ρ (.tmp 5) = .slice (some ⟨bS, oS, none⟩) s.slots.length cS := (ks 2 5 (by decide) rfl).trans (hC.p2 Lx)
      have hz' : SlabZ (some ⟨bS, oS, none⟩) (some ⟨bH, oH, none⟩) s W := HZ.out.later (HB.out.trans (hC.b.mono (by omega)))
      obtain ⟨v', w', hrun, hown', hgrow, _, hob⟩ := run_append_own_at (P := Try.prog) W w0.heap.size 23 23 45 i4 (.agg #[.int .i64 0, .int .i64 0, .int .i64 0, .int .i64 0]) 4 32 Try.underlying23 gi gz0 gz1 gz2 rfl (by decide) (v 0) 0 [] hrow ⟨bS, oS, none⟩ s.slots.length cS ((flat s.slots).map (.int .i64)) (by rw [List.length_map, flat_len]; omega) (fun j u hj => by
            obtain ⟨z, hz, rfl⟩ : ∃ z, (flat s.slots)[j]? = some z ∧ Value.int .i64 z = u := by simpa using hj
            obtain ⟨b', o', e, _, c⟩ := hz'.slots j (List.getElem?_eq_some_iff.1 hz).1
            injection e with e; injection e with e1 e2
            subst e1 e2
            rw [Addr.add_lit, c]
            simp [hz]) (fun u hu => by obtain ⟨x, _, rfl⟩ := List.mem_map.1 hu; rfl) (by unfold maxLen; omega) (by omega) hC.b.size
      have hN : w'.ownsRow w0.heap.size 45 4 v' s.slots.length ((flat s.slots).map (.int .i64)) := by simpa using hown'
      simp only [execOp, resolve, invoke, builtin, Sem.run_bind, Sem.run_pure, Result.andThen_ok, List.map_toArray, List.map_cons, List.map_nil, tr, tx, hrun]
      simp only [RanS]
      exact ⟨(hC.b.grown hgrow (Nat.le_trans HLE.out hC.b.size) (fun q hq => Nat.le_trans HLE.out (hrow.lt q hq).1)), (fun h => hC.p1 (h.resolve_right (by omega))), (fun h => hC.p2 (h.resolve_right (by omega))), (fun h => hC.p5 (h.resolve_right (by omega))), (fun h => hC.p6 (h.resolve_right (by omega))), (fun _ g => (g (.inr rfl)).elim), (fun _ => hN), (fun h g => own_keep (hC.r4 (h.resolve_right (by omega)) (fun x => g (.inl x))) hgrow (fun q hq e => hC.a04 Lr hn (h.resolve_right (by omega)) (fun x => g (.inl x)) q e hq)), (fun h => own_keep (hC.r7 (h.resolve_right (by omega))) hgrow (fun q hq e => hC.a07 Lr hn (h.resolve_right (by omega)) q e hq)), (fun _ g _ _ => (g (.inr rfl)).elim), (fun _ g _ => (g (.inr rfl)).elim), (fun _ k j => apart_app (hC.a04 Lr hn (k.resolve_right (by omega)) (fun x => j (.inl x))) hob (hC.r4 (k.resolve_right (by omega)) (fun x => j (.inl x)))), (fun _ k => apart_app (hC.a07 Lr hn (k.resolve_right (by omega))) hob (hC.r7 (k.resolve_right (by omega)))), (fun h => (hn (hC.c8 (h.resolve_right (by omega))).1).elim), (fun h => (hn (hC.c8 (h.resolve_right (by omega))).1).elim), (fun h => .inl (hC.c9 (h.resolve_right (by omega)))), (fun g => (hgrow.block _ (blk_lt (hC.z9 (fun x => g (.inl x)))) (fun e => by have := (hrow.lt _ e.symm).1; have := HSZ.out; omega)).trans (hC.z9 (fun x => g (.inl x)))), (fun h => (hn (hC.c8 (hC.c9 (h.resolve_right (by omega)))).1).elim)⟩
    · refine ⟨rfl, fun L v W ρ hC hn hd kc kf ks ki => ?_⟩
      simp [execOp, go_sem, kc]
      simp only [RanS]
      exact ⟨(hC.b.alloc (Nat.le_trans HLE.out hC.b.size) (.cells #[] 2)), (fun h => hC.p1 (h.resolve_right (by omega))), (fun h => hC.p2 (h.resolve_right (by omega))), (fun h => hC.p5 (h.resolve_right (by omega))), (fun h => hC.p6 (h.resolve_right (by omega))), (fun h g => (hC.r0 (h.resolve_right (by omega)) (fun x => g (.inl x))).alloc (.cells #[] 2)), (fun h => (hC.r3 (h.resolve_right (by omega))).alloc (.cells #[] 2)), (fun _ _ => ⟨rfl, .inr ⟨W.heap.size, 0, #[], rfl, hC.b.size, heap_newG W (.cells #[] 2), Nat.le_refl _, by simp [maxLen], rfl, rfl⟩⟩), (fun h => (hC.r7 (h.resolve_right (by omega))).alloc (.cells #[] 2)), (fun h g _ _ => (apart_new (hC.r0 (h.resolve_right (by omega)) (fun x => g (.inl x)))).symm), (fun h g k => hC.a07 (h.resolve_right (by omega)) (fun x => g (.inl x)) (k.resolve_right (by omega))), (fun h _ _ => (apart_new (hC.r3 (h.resolve_right (by omega)))).symm), (fun h k => hC.a37 (h.resolve_right (by omega)) (k.resolve_right (by omega))), (fun h => ⟨.inl (hC.c8 (h.resolve_right (by omega))).1, .inl (hC.c8 (h.resolve_right (by omega))).2⟩), (fun h => hC.p8 (h.resolve_right (by omega))), (fun h => .inl (hC.c9 (h.resolve_right (by omega)))), (fun g => blk_alloc (hC.z9 (fun x => g (.inl x))) (.cells #[] 2)), (fun h => blk_alloc (hC.s9 (h.resolve_right (by omega))) (.cells #[] 2))⟩
    · refine ⟨rfl, fun L v W ρ hC hn hd kc kf ks ki => ?_⟩
      have tp : ρ (.tmp 1) = .pointer (some ⟨w.heap.size, 0, none⟩) := ki 1 (by decide)
      simp [execOp, go_sem, tp]
      simp only [RanS]
      exact ⟨hC.b, (fun h => hC.p1 (h.resolve_right (by omega))), (fun h => hC.p2 (h.resolve_right (by omega))), (fun _ => rfl), (fun h => hC.p6 (h.resolve_right (by omega))), (fun h g => hC.r0 (h.resolve_right (by omega)) (fun x => g (.inl x))), (fun h => hC.r3 (h.resolve_right (by omega))), (fun h g => hC.r4 (h.resolve_right (by omega)) (fun x => g (.inl x))), (fun h => hC.r7 (h.resolve_right (by omega))), (fun h g k j => hC.a04 (h.resolve_right (by omega)) (fun x => g (.inl x)) (k.resolve_right (by omega)) (fun x => j (.inl x))), (fun h g k => hC.a07 (h.resolve_right (by omega)) (fun x => g (.inl x)) (k.resolve_right (by omega))), (fun h k j => hC.a34 (h.resolve_right (by omega)) (k.resolve_right (by omega)) (fun x => j (.inl x))), (fun h k => hC.a37 (h.resolve_right (by omega)) (k.resolve_right (by omega))), (fun h => ⟨.inl (hC.c8 (h.resolve_right (by omega))).1, .inl (hC.c8 (h.resolve_right (by omega))).2⟩), (fun h => hC.p8 (h.resolve_right (by omega))), (fun h => .inl (hC.c9 (h.resolve_right (by omega)))), (fun g => hC.z9 (fun x => g (.inl x))), (fun h => hC.s9 (h.resolve_right (by omega)))⟩
    · refine ⟨rfl, fun L v W ρ hC hn hd kc kf ks ki => ?_⟩
      have L5 : L 5 := hd _ (mem0 rfl) rfl
      have t8 : ρ (.tmp 8) = .pointer (some ⟨w.heap.size, 1, none⟩) := (ks 5 8 (by decide) rfl).trans (hC.p5 L5)
      have e0 := blk_cell ((hC.b.block w.heap.size (by omega)).trans HA.out) 1
      simp at e0
      simp [execOp, go_sem, t8, e0]
      simp only [RanS]
      exact ⟨hC.b, (fun h => hC.p1 (h.resolve_right (by omega))), (fun h => hC.p2 (h.resolve_right (by omega))), (fun h => hC.p5 (h.resolve_right (by omega))), (fun _ => rfl), (fun h g => hC.r0 (h.resolve_right (by omega)) (fun x => g (.inl x))), (fun h => hC.r3 (h.resolve_right (by omega))), (fun h g => hC.r4 (h.resolve_right (by omega)) (fun x => g (.inl x))), (fun h => hC.r7 (h.resolve_right (by omega))), (fun h g k j => hC.a04 (h.resolve_right (by omega)) (fun x => g (.inl x)) (k.resolve_right (by omega)) (fun x => j (.inl x))), (fun h g k => hC.a07 (h.resolve_right (by omega)) (fun x => g (.inl x)) (k.resolve_right (by omega))), (fun h k j => hC.a34 (h.resolve_right (by omega)) (k.resolve_right (by omega)) (fun x => j (.inl x))), (fun h k => hC.a37 (h.resolve_right (by omega)) (k.resolve_right (by omega))), (fun h => ⟨.inl (hC.c8 (h.resolve_right (by omega))).1, .inl (hC.c8 (h.resolve_right (by omega))).2⟩), (fun h => hC.p8 (h.resolve_right (by omega))), (fun h => .inl (hC.c9 (h.resolve_right (by omega)))), (fun g => hC.z9 (fun x => g (.inl x))), (fun h => hC.s9 (h.resolve_right (by omega)))⟩
    · refine ⟨rfl, fun L v W ρ hC hn hd kc kf ks ki => ?_⟩
      have Lr : L 4 := by first | exact hd _ (mem0 rfl) rfl | exact hd _ (mem1 rfl) rfl
      have Lx : L 6 := by first | exact hd _ (mem1 rfl) rfl | exact hd _ (mem0 rfl) rfl
      have hrow := hC.r4 Lr hn
      have tr : ρ (.tmp 7) = v 4 := ks 4 7 (by decide) rfl
      have tx : ρ (.tmp 9) = .slice (some ⟨bH, oH, none⟩) s.heads.length cH := (ks 6 9 (by decide) rfl).trans (hC.p6 Lx)
      have hz' : SlabZ (some ⟨bS, oS, none⟩) (some ⟨bH, oH, none⟩) s W := HZ.out.later (HB.out.trans (hC.b.mono (by omega)))
      obtain ⟨v', w', hrun, hown', hgrow, _, hob⟩ := run_append_own_at (P := Try.prog) W w0.heap.size 24 24 2 i0 (.int .i64 0) 1 8 Try.underlying24 hi hz0 hz1 hz2 rfl (by decide) (v 4) 0 [] hrow ⟨bH, oH, none⟩ s.heads.length cH (s.heads.map (.int .i64)) (by simp) (fun j u hj => by
            obtain ⟨z, hz, rfl⟩ : ∃ z, (s.heads)[j]? = some z ∧ Value.int .i64 z = u := by simpa using hj
            obtain ⟨b', o', e, _, c⟩ := hz'.heads j (List.getElem?_eq_some_iff.1 hz).1
            injection e with e; injection e with e1 e2
            subst e1 e2
            rw [Addr.add_lit, c]
            simp [hz]) (fun u hu => by obtain ⟨x, _, rfl⟩ := List.mem_map.1 hu; rfl) (by unfold maxLen; omega) (by omega) hC.b.size
      have hN : w'.ownsRow w0.heap.size 2 1 v' s.heads.length (s.heads.map (.int .i64)) := by simpa using hown'
      simp only [execOp, resolve, invoke, builtin, Sem.run_bind, Sem.run_pure, Result.andThen_ok, List.map_toArray, List.map_cons, List.map_nil, tr, tx, hrun]
      simp only [RanS]
      exact ⟨(hC.b.grown hgrow (Nat.le_trans HLE.out hC.b.size) (fun q hq => Nat.le_trans HLE.out (hrow.lt q hq).1)), (fun h => hC.p1 (h.resolve_right (by omega))), (fun h => hC.p2 (h.resolve_right (by omega))), (fun h => hC.p5 (h.resolve_right (by omega))), (fun h => hC.p6 (h.resolve_right (by omega))), (fun h g => own_keep (hC.r0 (h.resolve_right (by omega)) (fun x => g (.inl x))) hgrow (fun q hq => hC.a04 (h.resolve_right (by omega)) (fun x => g (.inl x)) Lr hn q hq)), (fun h => own_keep (hC.r3 (h.resolve_right (by omega))) hgrow (fun q hq => hC.a34 (h.resolve_right (by omega)) Lr hn q hq)), (fun _ g => (g (.inr rfl)).elim), (fun _ => hN), (fun _ _ _ g => (g (.inr rfl)).elim), (fun h g _ => (apart_app (hC.a04 (h.resolve_right (by omega)) (fun x => g (.inl x)) Lr hn).symm hob (hC.r0 (h.resolve_right (by omega)) (fun x => g (.inl x)))).symm), (fun _ _ g => (g (.inr rfl)).elim), (fun h _ => (apart_app (hC.a34 (h.resolve_right (by omega)) Lr hn).symm hob (hC.r3 (h.resolve_right (by omega)))).symm), (fun h => (hn (hC.c8 (h.resolve_right (by omega))).2).elim), (fun h => (hn (hC.c8 (h.resolve_right (by omega))).2).elim), (fun h => .inl (hC.c9 (h.resolve_right (by omega)))), (fun g => (hgrow.block _ (blk_lt (hC.z9 (fun x => g (.inl x)))) (fun e => by have := (hrow.lt _ e.symm).1; have := HSZ.out; omega)).trans (hC.z9 (fun x => g (.inl x)))), (fun h => (hn (hC.c8 (hC.c9 (h.resolve_right (by omega)))).2).elim)⟩
    · refine ⟨rfl, fun L v W ρ hC hn hd kc kf ks ki => ?_⟩
      have L3 : L 3 := by first | exact hd _ (mem0 rfl) rfl | exact hd _ (mem1 rfl) rfl
      have L7 : L 7 := by first | exact hd _ (mem1 rfl) rfl | exact hd _ (mem0 rfl) rfl
      obtain ⟨a3, k3, e3⟩ := own_form4 (hC.r3 L3)
      obtain ⟨a7, k7, e7⟩ := own_form (hC.r7 L7)
      have t6 : ρ (.tmp 6) = v 3 := ks 3 6 (by decide) rfl
      have t10 : ρ (.tmp 10) = v 7 := ks 7 10 (by decide) rfl
      simp [execOp, go_sem, t6, t10, e3, e7]
      simp only [RanS]
      exact ⟨hC.b, (fun h => hC.p1 (h.resolve_right (by omega))), (fun h => hC.p2 (h.resolve_right (by omega))), (fun h => hC.p5 (h.resolve_right (by omega))), (fun h => hC.p6 (h.resolve_right (by omega))), (fun h g => hC.r0 (h.resolve_right (by omega)) (fun x => g (.inl x))), (fun h => hC.r3 (h.resolve_right (by omega))), (fun h g => hC.r4 (h.resolve_right (by omega)) (fun x => g (.inl x))), (fun h => hC.r7 (h.resolve_right (by omega))), (fun h g k j => hC.a04 (h.resolve_right (by omega)) (fun x => g (.inl x)) (k.resolve_right (by omega)) (fun x => j (.inl x))), (fun h g k => hC.a07 (h.resolve_right (by omega)) (fun x => g (.inl x)) (k.resolve_right (by omega))), (fun h k j => hC.a34 (h.resolve_right (by omega)) (k.resolve_right (by omega)) (fun x => j (.inl x))), (fun h k => hC.a37 (h.resolve_right (by omega)) (k.resolve_right (by omega))), (fun _ => ⟨.inl L3, .inl L7⟩), (fun _ => by show Value.agg _ = .agg #[v 3, v 7]; rw [e3, e7]), (fun h => .inl (hC.c9 (h.resolve_right (by omega)))), (fun g => hC.z9 (fun x => g (.inl x))), (fun h => hC.s9 (h.resolve_right (by omega)))⟩
    · refine ⟨rfl, fun L v W ρ hC hn hd kc kf ks ki => ?_⟩
      have L8 : L 8 := by first | exact hd _ (mem0 rfl) rfl | exact hd _ (mem1 rfl) rfl
      obtain ⟨L3, L7⟩ := hC.c8 L8
      obtain ⟨a3, k3, e3⟩ := own_form4 (hC.r3 L3)
      obtain ⟨a7, k7, e7⟩ := own_form (hC.r7 L7)
      have t2 : ρ (.tmp 2) = .pointer (some ⟨w.heap.size + 1, 0, none⟩) := (ki 2 (by decide)).trans (by simp [go_sem, Act.eval])
      have t11 : ρ (.tmp 11) = .agg #[.slice a3 s.slots.length k3, .slice a7 s.heads.length k7] := (ks 8 11 (by decide) rfl).trans ((hC.p8 L8).trans (by rw [e3, e7]))
      have hzz := hC.z9 hn
      have hth : W.there (w.heap.size + 1) 0 2 := fun j hj => ⟨by simp [World.cell?, hzz]; omega, by simp [World.frozen?, hzz]⟩
      have hrun := run_storeAt_mid (P := Try.prog) W (w.heap.size + 1) 0 26 #[.slice a3 s.slots.length k3, .slice a7 s.heads.length k7] hth (by kernel_rfl) (by simp [Value.oneCell'])
      have hset : W.setCells (w.heap.size + 1) 0 (#[.slice a3 s.slots.length k3, .slice a7 s.heads.length k7] : Array Value).toList = (W.setCell ⟨w.heap.size + 1, 0, none⟩ (.slice a3 s.slots.length k3)).setCell ⟨w.heap.size + 1, 1, none⟩ (.slice a7 s.heads.length k7) := rfl
      rw [hset] at hrun
      simp only [execOp, t2, t11, Sem.run_bind, hrun, Result.andThen_ok, Sem.run_pure]
      simp only [RanS]
      exact ⟨(below_at (below_at hC.b (Nat.le_refl _)) (Nat.le_refl _)), (fun h => hC.p1 (h.resolve_right (by omega))), (fun h => hC.p2 (h.resolve_right (by omega))), (fun h => hC.p5 (h.resolve_right (by omega))), (fun h => hC.p6 (h.resolve_right (by omega))), (fun h g => (g (.inl L3)).elim), (fun h => own_set (own_set (hC.r3 L3) (w.heap.size + 1) 0 (.slice a3 s.slots.length k3) HLT.out) (w.heap.size + 1) 1 (.slice a7 s.heads.length k7) HLT.out), (fun h g => (g (.inl L7)).elim), (fun h => own_set (own_set (hC.r7 L7) (w.heap.size + 1) 0 (.slice a3 s.slots.length k3) HLT.out) (w.heap.size + 1) 1 (.slice a7 s.heads.length k7) HLT.out), (fun h g k j => hC.a04 (h.resolve_right (by omega)) (fun x => g (.inl x)) (k.resolve_right (by omega)) (fun x => j (.inl x))), (fun h g k => hC.a07 (h.resolve_right (by omega)) (fun x => g (.inl x)) (k.resolve_right (by omega))), (fun h k j => hC.a34 (h.resolve_right (by omega)) (k.resolve_right (by omega)) (fun x => j (.inl x))), (fun h k => hC.a37 (h.resolve_right (by omega)) (k.resolve_right (by omega))), (fun h => ⟨.inl (hC.c8 (h.resolve_right (by omega))).1, .inl (hC.c8 (h.resolve_right (by omega))).2⟩), (fun h => hC.p8 (h.resolve_right (by omega))), (fun _ => .inl L8), (fun g => (g (.inr rfl)).elim), (fun _ => by show _ = some (Obj.cells #[v 3, v 7] 26); rw [e3, e7]; have := blk_set (blk_set hzz 0 (.slice a3 s.slots.length k3)) 1 (.slice a7 s.heads.length k7); simpa using this)⟩
  case fin =>
    intro L v W hC hall
    have L3 := hall 3 (by decide)
    have L7 := hall 7 (by decide)
    have hR := hC.s9 (hall 9 (by decide))
    have hS := hC.r3 L3
    have hH := hC.r7 L7
    have hA := hC.a37 L3 L7
    obtain ⟨a3, k3, e3⟩ := own_form4 hS
    obtain ⟨a7, k7, e7⟩ := own_form hH
    rw [e3, e7] at hR hA
    rw [e3] at hS
    rw [e7] at hH
    have HBW := hidS (HB.out.trans (hC.b.mono (Nat.le_succ _)))
    have HS9 := hidS hS
    have HH9 := hidS hH
    have HA9 := hidS hA
    have r0 := blk_cell hR 0
    have r1 := blk_cell hR 1
    simp at r0 r1
    have HLW : Hid (w.heap.size ≤ w0.heap.size) := hidS (Nat.le_of_succ_le HLE.out)
    clear hC hall hS hH hA hR e3 e7
    simp [upto, Act.put]
    go_wp2_with fail
    refine bodyPost_ret (v := .agg #[.slice a3 s.slots.length k3, .slice a7 s.heads.length k7]) (by simp [results, Try.results57, go_sem, *]) rfl ?_
    refine ⟨a3, k3, a7, k7, rfl, ⟨own_slots HS9.out HLW.out, own_of_row HH9.out HLW.out, ?_⟩, HBW.out⟩
    rintro b o c p e1 e2 _ _ e3
    subst e1 e2 e3
    exact HA9.out b rfl rfl
end Go.Proofs.Ytfjgofmjhccdkaa
