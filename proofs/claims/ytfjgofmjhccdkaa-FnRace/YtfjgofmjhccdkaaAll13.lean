/- Proved here: impl.copySlab copies a slab into memory of its own; all old memory stays (conditions: the slab's rows can be read; a few slots and chains, one at least of each). · Proved here: spec.l06Ill answers the empty slab, the place 0 and the code; old memory stays. · Proved here: nothing of a program: a slab with a link that leads elsewhere; what SlabCut answers. -/
import Derived.Test.YtfjgofmjhccdkaaAll10
import Derived.Test.YtfjgofmjhccdkaaAll12
import Derived.Test.YtfjgofmjhccdkaaAll2
import Derived.Deep.MidRow
import Derived.Test.YtfjgofmjhccdkaaSlabI1
import Derived.Test.YtfjgofmjhccdkaaAll1
import Derived.ArgAppend
section
namespace Go.Proofs.Ytfjgofmjhccdkaa
open Go.ChangeShapes Go.WideShapes Go.ChangeAt Go.RowKit
set_option linter.unusedVariables false
set_option linter.unusedSimpArgs false
set_option maxRecDepth 100000

/-- a row of slots of one's own; a row of heads; both built; both in the result's block -/
def SlK (lo : Nat) (s : Slb) : Kp := fun v W => W.ownsRow lo 45 4 v s.slots.length ((flat s.slots).map (.int .i64))
def HdK (lo : Nat) (s : Slb) : Kp := fun v W => W.ownsRow lo 2 1 v s.heads.length (s.heads.map (.int .i64))
def BdK (lo : Nat) (s : Slb) : Kp := fun v W => ∃ x y, v = .agg #[x, y] ∧ SlK lo s x W ∧ HdK lo s y W
def StK (B lo : Nat) (s : Slb) (W : World) : Prop := ∃ x y, W.heap[B]? = some (.cells #[x, y] 26) ∧ SlK lo s x W ∧ HdK lo s y W
/-- all but the result's block stays; that turns to both rows alone -/
structure CpR (B lo : Nat) (s : Slb) (W W' : World) : Prop where
  size : W.heap.size ≤ W'.heap.size
  block : ∀ k, k < W.heap.size → k ≠ B → W'.heap[k]? = W.heap[k]?
  res : (B < W.heap.size → W'.heap[B]? = W.heap[B]?) ∨ StK B lo s W'
theorem CpR.refl (B lo : Nat) (s : Slb) {W : World} : CpR B lo s W W := ⟨Nat.le_refl _, fun _ _ _ => rfl, .inl fun _ => rfl⟩
theorem CpR.grow {B lo : Nat} {s : Slb} {W W' : World} (h : W.grownBy W' none) : CpR B lo s W W' := ⟨h.size, fun k hk _ => h.block k hk (by simp), .inl fun hk => h.block B hk (by simp)⟩
theorem CpR.sets {B lo : Nat} {s : Slb} {W : World} {x y : Value} (h : StK B lo s ((W.setCell ⟨B, 0, none⟩ x).setCell ⟨B, 1, none⟩ y)) : CpR B lo s W ((W.setCell ⟨B, 0, none⟩ x).setCell ⟨B, 1, none⟩ y) :=
  ⟨by simp [World.setCell], fun k _ hk => (Below.heap_setCell _ ⟨B, 1, none⟩ y k hk).trans (Below.heap_setCell W ⟨B, 0, none⟩ x k hk), .inr h⟩
theorem own_cp {B lo : Nat} {s : Slb} {W W' : World} {t : TypeId} {z n : Nat} {v : Value} {xs : List Value} (hB : B < lo) (h : W.ownsRow lo t z v n xs) (hr : CpR B lo s W W') : W'.ownsRow lo t z v n xs := by
  refine ⟨h.1, ?_⟩
  rcases h.2 with q | ⟨g, cap, cur, e, h1, h2, h3⟩
  · exact .inl q
  · exact .inr ⟨g, cap, cur, e, h1, (hr.block g (blk_lt h2) (by omega)).trans h2, h3⟩
theorem own_lower {lo lo' : Nat} {W : World} {t : TypeId} {z n : Nat} {v : Value} {xs : List Value} (h : W.ownsRow lo t z v n xs) (hl : lo' ≤ lo) : W.ownsRow lo' t z v n xs := by
  refine ⟨h.1, ?_⟩
  rcases h.2 with q | ⟨g, cap, cur, e, h1, h2⟩
  · exact .inl q
  · exact .inr ⟨g, cap, cur, e, Nat.le_trans hl h1, h2⟩
def CpC (w0 : World) (B : Nat) (W : World) : Prop := Below B w0 W ∧ w0.heap.size ≤ W.heap.size ∧ ∃ c0 c1, W.heap[B]? = some (.cells #[c0, c1] 26)
theorem CpC.grow {w0 : World} {B : Nat} {W W' : World} (h : CpC w0 B W) (hg : W.grownBy W' none) (hB : B < w0.heap.size) : CpC w0 B W' := by
  obtain ⟨h1, h2, c0, c1, h3⟩ := h
  refine ⟨h1.grown hg (by omega) (fun q hq => by cases hq), Nat.le_trans h2 hg.size, c0, c1, (hg.block B (by omega) (by simp)).trans h3⟩
theorem own_blk {lo : Nat} {W : World} {t : TypeId} {z n : Nat} {v : Value} {xs : List Value} (h : W.ownsRow lo t z v n xs) {q : Nat} (hq : v.ownBlock = some q) : ∃ cur, W.heap[q]? = some (.cells cur t) := by
  rcases h.2 with ⟨e, _⟩ | ⟨g, cap, cur, e, h1, h2, h3⟩
  · subst e; simp [Value.ownBlock] at hq
  · subst e
    have : g = q := by simpa [Value.ownBlock] using hq
    subst this
    exact ⟨cur, h2⟩
set_option maxHeartbeats 4000000 in
theorem copySlab_any (bS oS bH oH cS cH : Nat) (s : Slb) (w : World) (hR : SlabZ (some ⟨bS, oS, none⟩) (some ⟨bH, oH, none⟩) s w) (n1 : 1 ≤ s.slots.length) (h1 : s.slots.length ≤ 24) (n2 : 1 ≤ s.heads.length) (h2 : s.heads.length ≤ 4) :
    Calls Try.prog 47 #[.agg #[.slice (some ⟨bS, oS, none⟩) s.slots.length cS, .slice (some ⟨bH, oH, none⟩) s.heads.length cH]] w fun e w' => SlabAns s w e w' := by
  have HZ := hidS hR
  clear hR
  obtain ⟨i0, hi, hz0, hz1, hz2⟩ := info_parts infoI64
  obtain ⟨i4, gi, gz⟩ := Option.map_eq_some_iff.1 infoSlot
  simp only [Prod.mk.injEq] at gz
  obtain ⟨gz0, gz1, gz2⟩ := gz
  have HA : Hid (((w.alloc (.cells #[.slice (some ⟨bS, oS, none⟩) s.slots.length cS, .slice (some ⟨bH, oH, none⟩) s.heads.length cH] 26)).alloc (.cells #[.slice none 0 0, .slice none 0 0] 26)).heap[w.heap.size]? = some (.cells #[.slice (some ⟨bS, oS, none⟩) s.slots.length cS, .slice (some ⟨bH, oH, none⟩) s.heads.length cH] 26)) := hidS (blk_alloc (heap_newG w (.cells #[.slice (some ⟨bS, oS, none⟩) s.slots.length cS, .slice (some ⟨bH, oH, none⟩) s.heads.length cH] 26)) (.cells #[.slice none 0 0, .slice none 0 0] 26))
  have HRr : Hid (((w.alloc (.cells #[.slice (some ⟨bS, oS, none⟩) s.slots.length cS, .slice (some ⟨bH, oH, none⟩) s.heads.length cH] 26)).alloc (.cells #[.slice none 0 0, .slice none 0 0] 26)).heap[w.heap.size + 1]? = some (.cells #[.slice none 0 0, .slice none 0 0] 26)) := by
    show _ = _
    have := heap_newG (w.alloc (.cells #[.slice (some ⟨bS, oS, none⟩) s.slots.length cS, .slice (some ⟨bH, oH, none⟩) s.heads.length cH] 26)) (.cells #[.slice none 0 0, .slice none 0 0] 26)
    simpa using this
  have HB : Hid (Below w.heap.size w ((w.alloc (.cells #[.slice (some ⟨bS, oS, none⟩) s.slots.length cS, .slice (some ⟨bH, oH, none⟩) s.heads.length cH] 26)).alloc (.cells #[.slice none 0 0, .slice none 0 0] 26))) := hidS (((Below.refl w.heap.size w).alloc (Nat.le_refl _) (.cells #[.slice (some ⟨bS, oS, none⟩) s.slots.length cS, .slice (some ⟨bH, oH, none⟩) s.heads.length cH] 26)).alloc (by simp) (.cells #[.slice none 0 0, .slice none 0 0] 26))
  have hsz : ((w.alloc (.cells #[.slice (some ⟨bS, oS, none⟩) s.slots.length cS, .slice (some ⟨bH, oH, none⟩) s.heads.length cH] 26)).alloc (.cells #[.slice none 0 0, .slice none 0 0] 26)).heap.size = w.heap.size + 2 := by simp
  go_enter Try.func47, Try.ntmps47
  go_wp2_with fail
  generalize ((w.alloc (.cells #[.slice (some ⟨bS, oS, none⟩) s.slots.length cS, .slice (some ⟨bH, oH, none⟩) s.heads.length cH] 26)).alloc (.cells #[.slice none 0 0, .slice none 0 0] 26)) = w0 at HA HRr HB hsz ⊢
  have HLT : Hid (w.heap.size + 1 < w0.heap.size) := hidS (by omega)
  clear hsz
  have hLT := HLT.out
  have KEEP : Hid (∀ i v W W', kpOf [isP (.pointer (some ⟨w.heap.size, 0, none⟩)), isP (.slice (some ⟨bS, oS, none⟩) s.slots.length cS), isP (.slice (some ⟨bS, oS, none⟩) 0 0), isP (.pointer (some ⟨w.heap.size, 0, none⟩)), isP (.slice (some ⟨bS, oS, none⟩) s.slots.length cS), SlK w0.heap.size s, isP (.pointer (some ⟨w.heap.size, 1, none⟩)), isP (.slice (some ⟨bH, oH, none⟩) s.heads.length cH), isP (.slice (some ⟨bH, oH, none⟩) 0 0), isP (.pointer (some ⟨w.heap.size, 1, none⟩)), isP (.slice (some ⟨bH, oH, none⟩) s.heads.length cH), HdK w0.heap.size s, BdK w0.heap.size s, fun _ W => StK (w.heap.size + 1) w0.heap.size s W] i v W → CpR (w.heap.size + 1) w0.heap.size s W W' → kpOf [isP (.pointer (some ⟨w.heap.size, 0, none⟩)), isP (.slice (some ⟨bS, oS, none⟩) s.slots.length cS), isP (.slice (some ⟨bS, oS, none⟩) 0 0), isP (.pointer (some ⟨w.heap.size, 0, none⟩)), isP (.slice (some ⟨bS, oS, none⟩) s.slots.length cS), SlK w0.heap.size s, isP (.pointer (some ⟨w.heap.size, 1, none⟩)), isP (.slice (some ⟨bH, oH, none⟩) s.heads.length cH), isP (.slice (some ⟨bH, oH, none⟩) 0 0), isP (.pointer (some ⟨w.heap.size, 1, none⟩)), isP (.slice (some ⟨bH, oH, none⟩) s.heads.length cH), HdK w0.heap.size s, BdK w0.heap.size s, fun _ W => StK (w.heap.size + 1) w0.heap.size s W] i v W') := by
    refine hidS (fun i v W W' h hr => ?_)
    match i, h with
    | 0, h => exact h
    | 1, h => exact h
    | 2, h => exact h
    | 3, h => exact h
    | 4, h => exact h
    | 5, h => exact own_cp HLT.out h hr
    | 6, h => exact h
    | 7, h => exact h
    | 8, h => exact h
    | 9, h => exact h
    | 10, h => exact h
    | 11, h => exact own_cp HLT.out h hr
    | 12, h =>
      obtain ⟨x, y, e, q1, q2⟩ := h
      exact ⟨x, y, e, own_cp HLT.out q1 hr, own_cp HLT.out q2 hr⟩
    | 13, h =>
      obtain ⟨x, y, e, q1, q2⟩ := h
      rcases hr.res with q | q
      · exact ⟨x, y, (q (blk_lt e)).trans e, own_cp HLT.out q1 hr, own_cp HLT.out q2 hr⟩
      · exact q
    | n + 14, h => exact (trivial : True)
  refine grow_res (CpC w0 (w.heap.size + 1)) (CpR (w.heap.size + 1) w0.heap.size s) (kpOf [isP (.pointer (some ⟨w.heap.size, 0, none⟩)), isP (.slice (some ⟨bS, oS, none⟩) s.slots.length cS), isP (.slice (some ⟨bS, oS, none⟩) 0 0), isP (.pointer (some ⟨w.heap.size, 0, none⟩)), isP (.slice (some ⟨bS, oS, none⟩) s.slots.length cS), SlK w0.heap.size s, isP (.pointer (some ⟨w.heap.size, 1, none⟩)), isP (.slice (some ⟨bH, oH, none⟩) s.heads.length cH), isP (.slice (some ⟨bH, oH, none⟩) 0 0), isP (.pointer (some ⟨w.heap.size, 1, none⟩)), isP (.slice (some ⟨bH, oH, none⟩) s.heads.length cH), HdK w0.heap.size s, BdK w0.heap.size s, fun _ W => StK (w.heap.size + 1) w0.heap.size s W]) (by kernel_rfl) (by kernel_rfl) KEEP.out ⟨(Below.refl _ _).drew, Nat.le_refl _, _, _, HRr.out⟩ ?steps ?fin
  case steps =>
    refine ⟨?_, ?_, ?_, ?_, ?_, ?_, ?_, ?_, ?_, ?_, ?_, ?_, ?_, ?_, trivial⟩
    · refine ⟨rfl, fun v W ρ hC kc kf ks ki kd => ?_⟩
      have tp : ρ (.tmp 1) = .pointer (some ⟨w.heap.size, 0, none⟩) := ki 1 (by decide)
      simp [execOp, go_sem, tp]
      simp only [RanS]
      exact ⟨hC, CpR.refl _ _ _, rfl⟩
    · refine ⟨rfl, fun v W ρ hC kc kf ks ki kd => ?_⟩
      have d0 : v 0 = .pointer (some ⟨w.heap.size, 0, none⟩) := (kdj kd 0 rfl :)
      have t3 : ρ (.tmp 3) = .pointer (some ⟨w.heap.size, 0, none⟩) := (ks 0 3 (by decide) rfl).trans d0
      have e0 := blk_cell ((hC.1.block w.heap.size (by omega)).trans HA.out) 0
      simp at e0
      simp [execOp, go_sem, t3, e0]
      simp only [RanS]
      exact ⟨hC, CpR.refl _ _ _, rfl⟩
    · refine ⟨rfl, fun v W ρ hC kc kf ks ki kd => ?_⟩
      have d1 : v 1 = .slice (some ⟨bS, oS, none⟩) s.slots.length cS := (kdj kd 1 rfl :)
      have t4 : ρ (.tmp 4) = .slice (some ⟨bS, oS, none⟩) s.slots.length cS := (ks 1 4 (by decide) rfl).trans d1
      simp [execOp, go_sem, t4, kc, Instr.slice, Instr.sliceBounds, Instr.sliceBound, asIntOf]
      simp only [RanS]
      exact ⟨hC, CpR.refl _ _ _, rfl⟩
    · refine ⟨rfl, fun v W ρ hC kc kf ks ki kd => ?_⟩
      have tp : ρ (.tmp 1) = .pointer (some ⟨w.heap.size, 0, none⟩) := ki 1 (by decide)
      simp [execOp, go_sem, tp]
      simp only [RanS]
      exact ⟨hC, CpR.refl _ _ _, rfl⟩
    · refine ⟨rfl, fun v W ρ hC kc kf ks ki kd => ?_⟩
      have d3 : v 3 = .pointer (some ⟨w.heap.size, 0, none⟩) := (kdj kd 3 rfl :)
      have t6 : ρ (.tmp 6) = .pointer (some ⟨w.heap.size, 0, none⟩) := (ks 3 6 (by decide) rfl).trans d3
      have e0 := blk_cell ((hC.1.block w.heap.size (by omega)).trans HA.out) 0
      simp at e0
      simp [execOp, go_sem, t6, e0]
      simp only [RanS]
      exact ⟨hC, CpR.refl _ _ _, rfl⟩
    · refine ⟨rfl, fun v W ρ hC kc kf ks ki kd => ?_⟩
      have da : v 2 = .slice (some ⟨bS, oS, none⟩) 0 0 := (kdj kd 2 rfl :)
      have db : v 4 = .slice (some ⟨bS, oS, none⟩) s.slots.length cS := (kdj kd 4 rfl :)
      have ta : ρ (.tmp 5) = .slice (some ⟨bS, oS, none⟩) 0 0 := (ks 2 5 (by decide) rfl).trans da
      have tb : ρ (.tmp 7) = .slice (some ⟨bS, oS, none⟩) s.slots.length cS := (ks 4 7 (by decide) rfl).trans db
      have hz' : SlabZ (some ⟨bS, oS, none⟩) (some ⟨bH, oH, none⟩) s W := HZ.out.later (HB.out.trans (hC.1.mono (by omega)))
      obtain ⟨v', w', hrun, hown, hgrow⟩ := run_append_arg_grows (P := Try.prog) W 23 23 45 i4 (.agg #[.int .i64 0, .int .i64 0, .int .i64 0, .int .i64 0]) 4 32 Try.underlying23 gi gz0 gz1 gz2 rfl (by decide) ⟨bS, oS, none⟩ 0 0 [] (by simp) (by simp) ⟨bS, oS, none⟩ s.slots.length cS ((flat s.slots).map (.int .i64)) (by rw [List.length_map, flat_len]; omega) (fun j u hj => by
            obtain ⟨z, hz, rfl⟩ : ∃ z, (flat s.slots)[j]? = some z ∧ Value.int .i64 z = u := by simpa using hj
            obtain ⟨b', o', e, _, c⟩ := hz'.slots j (List.getElem?_eq_some_iff.1 hz).1
            injection e with e; injection e with e1 e2
            subst e1 e2
            rw [Addr.add_lit, c]
            simp [hz]) (by omega) (by unfold maxLen; omega) (by omega)
      simp only [execOp, resolve, invoke, builtin, Sem.run_bind, Sem.run_pure, Result.andThen_ok, List.map_toArray, List.map_cons, List.map_nil, ta, tb, hrun]
      simp only [RanS]
      have hown2 : w'.ownsRow W.heap.size 45 4 v' s.slots.length ((flat s.slots).map (.int .i64)) := by simpa using hown
      exact ⟨hC.grow hgrow HLT.out, CpR.grow hgrow, own_lower hown2 hC.2.1⟩
    · refine ⟨rfl, fun v W ρ hC kc kf ks ki kd => ?_⟩
      have tp : ρ (.tmp 1) = .pointer (some ⟨w.heap.size, 0, none⟩) := ki 1 (by decide)
      simp [execOp, go_sem, tp]
      simp only [RanS]
      exact ⟨hC, CpR.refl _ _ _, rfl⟩
    · refine ⟨rfl, fun v W ρ hC kc kf ks ki kd => ?_⟩
      have d6 : v 6 = .pointer (some ⟨w.heap.size, 1, none⟩) := (kdj kd 6 rfl :)
      have t9 : ρ (.tmp 9) = .pointer (some ⟨w.heap.size, 1, none⟩) := (ks 6 9 (by decide) rfl).trans d6
      have e0 := blk_cell ((hC.1.block w.heap.size (by omega)).trans HA.out) 1
      simp at e0
      simp [execOp, go_sem, t9, e0]
      simp only [RanS]
      exact ⟨hC, CpR.refl _ _ _, rfl⟩
    · refine ⟨rfl, fun v W ρ hC kc kf ks ki kd => ?_⟩
      have d7 : v 7 = .slice (some ⟨bH, oH, none⟩) s.heads.length cH := (kdj kd 7 rfl :)
      have t10 : ρ (.tmp 10) = .slice (some ⟨bH, oH, none⟩) s.heads.length cH := (ks 7 10 (by decide) rfl).trans d7
      simp [execOp, go_sem, t10, kc, Instr.slice, Instr.sliceBounds, Instr.sliceBound, asIntOf]
      simp only [RanS]
      exact ⟨hC, CpR.refl _ _ _, rfl⟩
    · refine ⟨rfl, fun v W ρ hC kc kf ks ki kd => ?_⟩
      have tp : ρ (.tmp 1) = .pointer (some ⟨w.heap.size, 0, none⟩) := ki 1 (by decide)
      simp [execOp, go_sem, tp]
      simp only [RanS]
      exact ⟨hC, CpR.refl _ _ _, rfl⟩
    · refine ⟨rfl, fun v W ρ hC kc kf ks ki kd => ?_⟩
      have d9 : v 9 = .pointer (some ⟨w.heap.size, 1, none⟩) := (kdj kd 9 rfl :)
      have t12 : ρ (.tmp 12) = .pointer (some ⟨w.heap.size, 1, none⟩) := (ks 9 12 (by decide) rfl).trans d9
      have e0 := blk_cell ((hC.1.block w.heap.size (by omega)).trans HA.out) 1
      simp at e0
      simp [execOp, go_sem, t12, e0]
      simp only [RanS]
      exact ⟨hC, CpR.refl _ _ _, rfl⟩
    · refine ⟨rfl, fun v W ρ hC kc kf ks ki kd => ?_⟩
      have da : v 8 = .slice (some ⟨bH, oH, none⟩) 0 0 := (kdj kd 8 rfl :)
      have db : v 10 = .slice (some ⟨bH, oH, none⟩) s.heads.length cH := (kdj kd 10 rfl :)
      have ta : ρ (.tmp 11) = .slice (some ⟨bH, oH, none⟩) 0 0 := (ks 8 11 (by decide) rfl).trans da
      have tb : ρ (.tmp 13) = .slice (some ⟨bH, oH, none⟩) s.heads.length cH := (ks 10 13 (by decide) rfl).trans db
      have hz' : SlabZ (some ⟨bS, oS, none⟩) (some ⟨bH, oH, none⟩) s W := HZ.out.later (HB.out.trans (hC.1.mono (by omega)))
      obtain ⟨v', w', hrun, hown, hgrow⟩ := run_append_arg_grows (P := Try.prog) W 24 24 2 i0 (.int .i64 0) 1 8 Try.underlying24 hi hz0 hz1 hz2 rfl (by decide) ⟨bH, oH, none⟩ 0 0 [] (by simp) (by simp) ⟨bH, oH, none⟩ s.heads.length cH (s.heads.map (.int .i64)) (by simp) (fun j u hj => by
            obtain ⟨z, hz, rfl⟩ : ∃ z, (s.heads)[j]? = some z ∧ Value.int .i64 z = u := by simpa using hj
            obtain ⟨b', o', e, _, c⟩ := hz'.heads j (List.getElem?_eq_some_iff.1 hz).1
            injection e with e; injection e with e1 e2
            subst e1 e2
            rw [Addr.add_lit, c]
            simp [hz]) (by omega) (by unfold maxLen; omega) (by omega)
      simp only [execOp, resolve, invoke, builtin, Sem.run_bind, Sem.run_pure, Result.andThen_ok, List.map_toArray, List.map_cons, List.map_nil, ta, tb, hrun]
      simp only [RanS]
      have hown2 : w'.ownsRow W.heap.size 2 1 v' s.heads.length (s.heads.map (.int .i64)) := by simpa using hown
      exact ⟨hC.grow hgrow HLT.out, CpR.grow hgrow, own_lower hown2 hC.2.1⟩
    · refine ⟨rfl, fun v W ρ hC kc kf ks ki kd => ?_⟩
      have q5 : SlK w0.heap.size s (v 5) W := (kdj kd 5 rfl :)
      have q11 : HdK w0.heap.size s (v 11) W := (kdj kd 11 rfl :)
      obtain ⟨a3, k3, e3⟩ := own_form4 q5
      obtain ⟨a7, k7, e7⟩ := own_form q11
      have t8 : ρ (.tmp 8) = v 5 := ks 5 8 (by decide) rfl
      have t14 : ρ (.tmp 14) = v 11 := ks 11 14 (by decide) rfl
      simp [execOp, go_sem, t8, t14, e3, e7]
      simp only [RanS]
      exact ⟨hC, CpR.refl _ _ _, v 5, v 11, by rw [e3, e7], q5, q11⟩
    · refine ⟨rfl, fun v W ρ hC kc kf ks ki kd => ?_⟩
      obtain ⟨x, y, exy, q5, q11⟩ : BdK w0.heap.size s (v 12) W := (kdj kd 12 rfl :)
      obtain ⟨a3, k3, e3⟩ := own_form4 q5
      obtain ⟨a7, k7, e7⟩ := own_form q11
      have t2 : ρ (.tmp 2) = .pointer (some ⟨w.heap.size + 1, 0, none⟩) := (ki 2 (by decide)).trans (by simp [go_sem, Act.eval])
      have t15 : ρ (.tmp 15) = .agg #[.slice a3 s.slots.length k3, .slice a7 s.heads.length k7] := (ks 12 15 (by decide) rfl).trans (exy.trans (by rw [e3, e7]))
      obtain ⟨c0, c1, hzz⟩ := hC.2.2
      have hth : W.there (w.heap.size + 1) 0 2 := fun j hj => ⟨by simp [World.cell?, hzz]; omega, by simp [World.frozen?, hzz]⟩
      have hrun := run_storeAt_mid (P := Try.prog) W (w.heap.size + 1) 0 26 #[.slice a3 s.slots.length k3, .slice a7 s.heads.length k7] hth (by kernel_rfl) (by simp [Value.oneCell'])
      have hset : W.setCells (w.heap.size + 1) 0 (#[.slice a3 s.slots.length k3, .slice a7 s.heads.length k7] : Array Value).toList = (W.setCell ⟨w.heap.size + 1, 0, none⟩ (.slice a3 s.slots.length k3)).setCell ⟨w.heap.size + 1, 1, none⟩ (.slice a7 s.heads.length k7) := rfl
      rw [hset] at hrun
      have hnew : ((W.setCell ⟨w.heap.size + 1, 0, none⟩ (.slice a3 s.slots.length k3)).setCell ⟨w.heap.size + 1, 1, none⟩ (.slice a7 s.heads.length k7)).heap[w.heap.size + 1]? = some (.cells #[.slice a3 s.slots.length k3, .slice a7 s.heads.length k7] 26) := by
        have := blk_set (blk_set hzz 0 (.slice a3 s.slots.length k3)) 1 (.slice a7 s.heads.length k7)
        simpa using this
      have hst : StK (w.heap.size + 1) w0.heap.size s ((W.setCell ⟨w.heap.size + 1, 0, none⟩ (.slice a3 s.slots.length k3)).setCell ⟨w.heap.size + 1, 1, none⟩ (.slice a7 s.heads.length k7)) := ⟨x, y, by rw [hnew, e3, e7], own_set (own_set q5 (w.heap.size + 1) 0 (.slice a3 s.slots.length k3) HLT.out) (w.heap.size + 1) 1 (.slice a7 s.heads.length k7) HLT.out, own_set (own_set q11 (w.heap.size + 1) 0 (.slice a3 s.slots.length k3) HLT.out) (w.heap.size + 1) 1 (.slice a7 s.heads.length k7) HLT.out⟩
      simp only [execOp, t2, t15, Sem.run_bind, hrun, Result.andThen_ok, Sem.run_pure]
      simp only [RanS]
      exact ⟨⟨below_at (below_at hC.1 (Nat.le_refl _)) (Nat.le_refl _), by simpa using hC.2.1, _, _, hnew⟩, CpR.sets hst, hst⟩
  case fin =>
    intro v W hC hall
    obtain ⟨x, y, hR, hS, hH⟩ : StK (w.heap.size + 1) w0.heap.size s W := hall 13 (by decide)
    obtain ⟨a3, k3, e3⟩ := own_form4 hS
    obtain ⟨a7, k7, e7⟩ := own_form hH
    rw [e3, e7] at hR
    rw [e3] at hS
    rw [e7] at hH
    have HBW := hidS (HB.out.trans (hC.1.mono (Nat.le_succ _)))
    have HS9 : Hid (W.ownsRow w0.heap.size 45 4 (.slice a3 s.slots.length k3) s.slots.length ((flat s.slots).map (.int .i64))) := hidS hS
    have HH9 : Hid (W.ownsRow w0.heap.size 2 1 (.slice a7 s.heads.length k7) s.heads.length (s.heads.map (.int .i64))) := hidS hH
    have r0 := blk_cell hR 0
    have r1 := blk_cell hR 1
    simp at r0 r1
    have HLW : Hid (w.heap.size ≤ w0.heap.size) := hidS (by omega)
    clear hC hall hS hH hR e3 e7 KEEP
    simp [upto, Act.put]
    go_wp2_with fail
    refine bodyPost_ret (v := .agg #[.slice a3 s.slots.length k3, .slice a7 s.heads.length k7]) (by simp [results, Try.results47, go_sem, *]) rfl ?_
    refine ⟨a3, k3, a7, k7, rfl, ⟨own_slots HS9.out HLW.out, own_of_row HH9.out HLW.out, ?_⟩, HBW.out⟩
    rintro b o c p e1 e2 _ _ e3
    subst e1 e2 e3
    obtain ⟨u1, g1⟩ := own_blk HS9.out (q := b) rfl
    obtain ⟨u2, g2⟩ := own_blk HH9.out (q := b) rfl
    rw [g1] at g2
    injection g2 with g2
    injection g2 with g2 g3
    exact absurd g3 (by decide)
end Go.Proofs.Ytfjgofmjhccdkaa
end

section
namespace Go.Proofs.Ytfjgofmjhccdkaa
open Go.ChangeShapes Go.WideShapes Go.ChangeAt Go.RowKit
set_option linter.unusedVariables false
set_option linter.unusedSimpArgs false
set_option maxRecDepth 100000
set_option maxHeartbeats 2000000 in
theorem l06Ill_any (c : Int) (w : World) :
    Calls Try.prog 74 #[.int .i64 c] w fun e w' => e = .returned (.agg #[.slice none 0 0, .slice none 0 0, .int .i64 0, .int .i64 c]) ∧ Below w.heap.size w w' := by
  have hR0 := heap_newG w (.cells #[.slice none 0 0, .slice none 0 0, .int .i64 0, .int .i64 0] 47)
  have HB0 := hidS ((Below.refl w.heap.size w).alloc (Nat.le_refl _) (.cells #[.slice none 0 0, .slice none 0 0, .int .i64 0, .int .i64 0] 47))
  go_enter Try.func74, Try.ntmps74
  go_wp2_with fail
  have hR1 := heap_newG w (.cells #[.slice none 0 0, .slice none 0 0, .int .i64 0, .int .i64 c] 47)
  have HB1 := hidS ((Below.refl w.heap.size w).alloc (Nat.le_refl _) (.cells #[.slice none 0 0, .slice none 0 0, .int .i64 0, .int .i64 c] 47))
  have k0 := blk_cell hR1 0
  have k1 := blk_cell hR1 1
  have k2 := blk_cell hR1 2
  have k3 := blk_cell hR1 3
  simp at k0 k1 k2 k3
  exact bodyPost_ret (v := .agg #[.slice none 0 0, .slice none 0 0, .int .i64 0, .int .i64 c]) (by simp [results, Try.results74, go_sem, *]) rfl ⟨rfl, HB1.out⟩
end Go.Proofs.Ytfjgofmjhccdkaa
end

section
namespace Go.Proofs.Ytfjgofmjhccdkaa
open Go.ChangeShapes Go.WideShapes Go.ChangeAt Go.RowKit
set_option linter.unusedVariables false
set_option linter.unusedSimpArgs false
set_option maxRecDepth 100000

/-- a link that leads elsewhere -/
def setLink (s : Slb) (c : Nat) (v : Int) : Option Int → Slb
  | none => ⟨s.slots, s.heads.set c v⟩
  | some y => ⟨s.slots.set y.toNat { slotN s y with next := v }, s.heads⟩
theorem flat_next : ∀ (ss : List Slt) (i : Nat) (r : Int), i < ss.length → (flat ss).set (4 * i + 3) r = flat (ss.set i { ss.getD i zeroSlt with next := r })
  | [], i, r, h => by simp at h
  | x :: ss, 0, r, h => by simp [flat]
  | x :: ss, i + 1, r, h => by
    have := flat_next ss i r (by simpa using h)
    simp only [flat, show 4 * (i + 1) + 3 = 4 * i + 3 + 4 by omega, List.set_cons_succ, List.getD_cons_succ]
    rw [this]
theorem setLink_len {s : Slb} {c : Nat} {v : Int} : ∀ {p : Option Int}, (setLink s c v p).slots.length = s.slots.length ∧ (setLink s c v p).heads.length = s.heads.length
  | none => by simp [setLink]
  | some y => by simp [setLink]
theorem setLink_refs {s : Slb} {c : Nat} {v : Int} (n : Nat) : ∀ {p : Option Int}, LinkOk s p → ((setLink s c v p).slots.getD n zeroSlt).refs = (s.slots.getD n zeroSlt).refs
  | none, _ => rfl
  | some y, hp => by
    have hy : y.toNat < s.slots.length := by have := hp.1; have := hp.2; omega
    unfold setLink
    by_cases e : y.toNat = n
    · subst e
      simp [hy, slotN]
    · simp [List.getElem?_set_ne e]
theorem adr_in {bS oS bH oH c : Nat} : ∀ {p : Option Int}, (adrL bS oS bH oH c p).1 = bS ∨ (adrL bS oS bH oH c p).1 = bH
  | none => .inr rfl
  | some _ => .inl rfl
theorem link_own {b2 o2 b3 o3 : Nat} {s : Slb} {W : World} (P : RowB b2 o2 (flat s.slots) W) (Q : RowB b3 o3 s.heads W) {c : Nat} (hc : c < s.heads.length) : ∀ {p : Option Int}, LinkOk s p → W.frozen? ⟨(adrL b2 o2 b3 o3 c p).1, (adrL b2 o2 b3 o3 c p).2, none⟩ = false
  | none, _ => (rowB_cells Q c hc).2
  | some y, hp => by
    have hy : y.toNat < s.slots.length := by have := hp.1; have := hp.2; omega
    have := (rowB_cells P (4 * y.toNat + 3) (by rw [flat_len]; omega)).2
    rw [show o2 + (4 * y.toNat + 3) = o2 + y.toNat * 4 + 3 by omega] at this
    exact this
theorem link_store {b2 o2 b3 o3 : Nat} {s : Slb} {W : World} (P : RowB b2 o2 (flat s.slots) W) (Q : RowB b3 o3 s.heads W) (hne : b2 ≠ b3) {c : Nat} (hc : c < s.heads.length) (v : Int) : ∀ {p : Option Int}, LinkOk s p →
    RowB b2 o2 (flat (setLink s c v p).slots) (W.setCell ⟨(adrL b2 o2 b3 o3 c p).1, (adrL b2 o2 b3 o3 c p).2, none⟩ (.int .i64 v)) ∧ RowB b3 o3 (setLink s c v p).heads (W.setCell ⟨(adrL b2 o2 b3 o3 c p).1, (adrL b2 o2 b3 o3 c p).2, none⟩ (.int .i64 v))
  | none, _ => ⟨RowB.other (g := b3) (k := o3 + c) P hne, Q.set c v hc⟩
  | some y, hp => by
    have hy : y.toNat < s.slots.length := by have := hp.1; have := hp.2; omega
    refine ⟨?_, RowB.other (g := b2) (k := o2 + y.toNat * 4 + 3) Q (Ne.symm hne)⟩
    have h := P.set (4 * y.toNat + 3) v (by rw [flat_len]; omega)
    rw [flat_next _ _ _ hy, show o2 + (4 * y.toNat + 3) = o2 + y.toNat * 4 + 3 by omega] at h
    exact h
/-- the code of SlabCut -/
def cutC (s : Slb) (key : Int) : Int := if (rightSl s && keyB key) = true then (if findSl s key < 0 then 6 else 0) else 1
/-- with that key cut -/
def cutIn (s : Slb) (key : Int) : Slb := refS (setLink s (chN s key) (nx s (findSl s key)) (linkP s key)) (findSl s key) ((slotN s (findSl s key)).refs - 1)
/-- what SlabCut answers -/
def cutS (s : Slb) (key : Int) : Slb := if cutC s key = 0 then cutIn s key else ⟨[], []⟩
def cutA (s : Slb) (key : Int) : Int := if cutC s key = 0 then findSl s key else 0
theorem cut_ill {s : Slb} {key c : Int} (h : cutC s key = c) (hc : c ≠ 0) : cutS s key = ⟨[], []⟩ ∧ cutA s key = 0 := by
  unfold cutS cutA; rw [h, if_neg hc, if_neg hc]; exact ⟨rfl, rfl⟩
theorem cutIn_len {s : Slb} {key : Int} : (cutIn s key).slots.length = s.slots.length ∧ (cutIn s key).heads.length = s.heads.length := by
  unfold cutIn refS
  simp [setLink_len]
/-- two rows of a slab that is cut, its holder counted down -/
theorem cut_refs {b2 o2 : Nat} {s : Slb} {W : World} {n : Nat} {c : Nat} {v r : Int} {p : Option Int} (hp : LinkOk s p) (hn : n < s.slots.length) (P : RowB b2 o2 (flat (setLink s c v p).slots) W) : RowB b2 o2 (flat (refS (setLink s c v p) (n : Int) r).slots) (W.setCell ⟨b2, o2 + n * 4 + 2, none⟩ (.int .i64 r)) := by
  have hn' : n < (setLink s c v p).slots.length := by rw [setLink_len.1]; exact hn
  have h := P.set (4 * n + 2) r (by rw [flat_len]; omega)
  rw [flat_refs _ _ _ hn', show o2 + (4 * n + 2) = o2 + n * 4 + 2 by omega] at h
  unfold refS
  rw [slot_nat, Int.toNat_natCast]
  exact h
end Go.Proofs.Ytfjgofmjhccdkaa
end
