/- Proved here: spec's draws of a slab with a number beside (DrawSlabFind, Add, Cut, Get, Put, DrawChainOf) answer a slab of 1 to 24 slots and 1 to 4 chains, of numbers of int64, in memory of its own, and a small number; all old memory stays (conditions: the bytes can be read; at most 2^20). -/
import Derived.Test.YtcopfejonbbmnaaSlabDraw
namespace Go.Proofs.Ytcopfejonbbmnaa
open Go.ChangeShapes Go.WideShapes Go.ChangeAt Go.RowKit
set_option linter.unusedVariables false
set_option linter.unusedSimpArgs false
set_option maxRecDepth 100000

/-- a drawn slab and a number -/
def SomeSl (lo hi : Int) (w : World) (e : Ending) (w' : World) : Prop :=
  ∃ (t : Slb) (b2 o2 cS b3 o3 cH : Nat) (r : Int), e = .returned (.tuple #[.agg #[.slice (some ⟨b2, o2, none⟩) t.slots.length cS, .slice (some ⟨b3, o3, none⟩) t.heads.length cH], .int .i64 r]) ∧ DrSl t ∧ b2 ≠ b3 ∧ w.heap.size ≤ b2 ∧ w.heap.size ≤ b3 ∧ RowB b2 o2 (flat t.slots) w' ∧ RowB b3 o3 t.heads w' ∧ lo ≤ r ∧ r ≤ hi ∧ Below w.heap.size w w'
/-- what is known while both are handed back: the source lies behind the result's block -/
structure DwSt (a : Option Addr) (len cap : Nat) (w : World) (X b2 o2 cS b3 o3 cH : Nat) (t : Slb) (W : World) : Prop where
  src : Src (w.heap.size + 1) a len cap W
  row : RowAt w.heap.size a len W
  x : XSt X (w.heap.size + 2) b2 o2 cS b3 o3 cH t W
  lx : w.heap.size + 1 < X
  r : ∃ c0 c1, W.heap[w.heap.size]? = some (.cells #[c0, c1] 26)
  bel : Below w.heap.size w W
theorem DwSt.grown {a : Option Addr} {len cap : Nat} {w : World} {X b2 o2 cS b3 o3 cH : Nat} {t : Slb} {W W' : World} (h : DwSt a len cap w X b2 o2 cS b3 o3 cH t W) (hS : Src (w.heap.size + 1) a len cap W') (hg : W.grownBy W' (some (w.heap.size + 1))) : DwSt a len cap w X b2 o2 cS b3 o3 cH t W' := by
  have hl := h.lx
  obtain ⟨c0, c1, hr⟩ := h.r
  have hb : Below w.heap.size W W' := ⟨hg.os, hg.tape, hg.output, hg.size, fun k hk => hg.block k (Nat.lt_of_lt_of_le hk h.bel.size) (fun e => by injection e with e; omega)⟩
  exact ⟨hS, h.row.below fun k hk => hb.block k hk, h.x.grown hg (by omega) (by omega), h.lx, ⟨c0, c1, (hg.block _ (blk_lt hr) (fun e => by injection e with e; omega)).trans hr⟩, h.bel.trans hb⟩
def StR (w : World) (b2 o2 cS b3 o3 cH : Nat) (t : Slb) (W : World) : Prop := W.heap[w.heap.size]? = some (.cells #[.slice (some ⟨b2, o2, none⟩) t.slots.length cS, .slice (some ⟨b3, o3, none⟩) t.heads.length cH] 26)
theorem DwSt.store {a : Option Addr} {len cap : Nat} {w : World} {X b2 o2 cS b3 o3 cH : Nat} {t : Slb} {W : World} (h : DwSt a len cap w X b2 o2 cS b3 o3 cH t W) : (Instr.storeAt 26 (.pointer (some ⟨w.heap.size, 0, none⟩)) (.agg #[.slice (some ⟨b2, o2, none⟩) t.slots.length cS, .slice (some ⟨b3, o3, none⟩) t.heads.length cH])).run Try.prog W = .ok () ((W.setCell ⟨w.heap.size, 0, none⟩ (.slice (some ⟨b2, o2, none⟩) t.slots.length cS)).setCell ⟨w.heap.size, 1, none⟩ (.slice (some ⟨b3, o3, none⟩) t.heads.length cH)) ∧ DwSt a len cap w X b2 o2 cS b3 o3 cH t ((W.setCell ⟨w.heap.size, 0, none⟩ (.slice (some ⟨b2, o2, none⟩) t.slots.length cS)).setCell ⟨w.heap.size, 1, none⟩ (.slice (some ⟨b3, o3, none⟩) t.heads.length cH)) ∧ StR w b2 o2 cS b3 o3 cH t ((W.setCell ⟨w.heap.size, 0, none⟩ (.slice (some ⟨b2, o2, none⟩) t.slots.length cS)).setCell ⟨w.heap.size, 1, none⟩ (.slice (some ⟨b3, o3, none⟩) t.heads.length cH)) := by
  have hl := h.lx
  have l2 := h.x.lo2
  have l3 := h.x.lo3
  obtain ⟨c0, c1, hr⟩ := h.r
  have hth : W.there w.heap.size 0 2 := fun j hj => ⟨by simp [World.cell?, hr]; omega, by simp [World.frozen?, hr]⟩
  have hrun := run_storeAt_mid (P := Try.prog) W w.heap.size 0 26 #[.slice (some ⟨b2, o2, none⟩) t.slots.length cS, .slice (some ⟨b3, o3, none⟩) t.heads.length cH] hth (by kernel_rfl) (by simp [Value.oneCell'])
  have hset : W.setCells w.heap.size 0 (#[.slice (some ⟨b2, o2, none⟩) t.slots.length cS, .slice (some ⟨b3, o3, none⟩) t.heads.length cH] : Array Value).toList = ((W.setCell ⟨w.heap.size, 0, none⟩ (.slice (some ⟨b2, o2, none⟩) t.slots.length cS)).setCell ⟨w.heap.size, 1, none⟩ (.slice (some ⟨b3, o3, none⟩) t.heads.length cH)) := rfl
  rw [hset] at hrun
  have hst : ((W.setCell ⟨w.heap.size, 0, none⟩ (.slice (some ⟨b2, o2, none⟩) t.slots.length cS)).setCell ⟨w.heap.size, 1, none⟩ (.slice (some ⟨b3, o3, none⟩) t.heads.length cH)).heap[w.heap.size]? = some (.cells #[.slice (some ⟨b2, o2, none⟩) t.slots.length cS, .slice (some ⟨b3, o3, none⟩) t.heads.length cH] 26) := by
    have := blk_set (blk_set hr 0 (.slice (some ⟨b2, o2, none⟩) t.slots.length cS)) 1 (.slice (some ⟨b3, o3, none⟩) t.heads.length cH)
    simpa using this
  have h0 : ∀ j, j ≠ w.heap.size → ((W.setCell ⟨w.heap.size, 0, none⟩ (.slice (some ⟨b2, o2, none⟩) t.slots.length cS)).setCell ⟨w.heap.size, 1, none⟩ (.slice (some ⟨b3, o3, none⟩) t.heads.length cH)).heap[j]? = W.heap[j]? := fun j hj => (Below.heap_setCell _ ⟨w.heap.size, 1, none⟩ _ j hj).trans (Below.heap_setCell _ ⟨w.heap.size, 0, none⟩ _ j hj)
  have hrow : RowAt w.heap.size a len ((W.setCell ⟨w.heap.size, 0, none⟩ (.slice (some ⟨b2, o2, none⟩) t.slots.length cS)).setCell ⟨w.heap.size, 1, none⟩ (.slice (some ⟨b3, o3, none⟩) t.heads.length cH)) := h.row.below fun k hk => h0 k (by omega)
  obtain ⟨s1, ⟨x1, x2, x3, sb, sr⟩, _⟩ := h.src
  refine ⟨hrun, ⟨⟨s1, ⟨x1, x2, x3, (h0 _ (by omega)).trans sb, sr⟩, fun j hj => ?_⟩, hrow, h.x.keep (fun k hk hc => h0 k (by omega)), h.lx, ⟨_, _, hst⟩, below_at (below_at h.bel (Nat.le_refl _)) (Nat.le_refl _)⟩, hst⟩
  obtain ⟨b, o, e, hlt, z, q1, q2, q3⟩ := hrow j hj
  exact ⟨b, o, e, by omega, z, q1, q2, q3⟩
set_option maxHeartbeats 4000000 in
theorem drawSlabFind_any (a : Option Addr) (len cap : Nat) (w : World) (hR : RowAt w.heap.size a len w) (hl : len ≤ 1048576) :
    Calls Try.prog 12 #[.slice a len cap] w fun e w' => SomeSl (-1) 1048576 w e w' := by
  have hR1 : Hid (RowAt (w.alloc (.cells #[.slice none 0 0, .slice none 0 0] 26)).heap.size a len (w.alloc (.cells #[.slice none 0 0, .slice none 0 0] 26))) := hidS (fun j hj => by
    obtain ⟨b, o, e, hlt, z, q1, q2, q3⟩ := hR j hj
    exact ⟨b, o, e, by simp; omega, z, q1, q2, (World.cell?_of_block (w := w) (Below.heap_alloc w _ b hlt)).trans q3⟩)
  have hr1 := hidS (heap_newG w (.cells #[.slice none 0 0, .slice none 0 0] 26))
  have hb1 := hidS ((Below.refl w.heap.size w).alloc (Nat.le_refl _) (.cells #[.slice none 0 0, .slice none 0 0] 26))
  have hz : (w.alloc (.cells #[.slice none 0 0, .slice none 0 0] 26)).heap.size = w.heap.size + 1 := by simp
  have HR := hidS hR
  clear hR
  go_enter Try.func12, Try.ntmps12
  go_wp2_with fail
  generalize w.alloc (.cells #[.slice none 0 0, .slice none 0 0] 26) = w1 at hR1 hr1 hb1 hz ⊢
  have HSO := hidS (source_any a len cap w1 hR1.out hl)
  rw [hz] at HSO
  refine HSO.out.mono ?_
  rintro _ w2 ⟨rfl, hS2, hb2⟩
  have HS2 := hidS hS2
  have HB2 : Hid (Below w.heap.size w w2) := hidS (hb1.out.trans (hb2.mono (by omega)))
  have hr2 := hidS ((hb2.block w.heap.size (by omega)).trans hr1.out)
  clear hS2 hb2 hR1 hr1 hb1 HSO hz
  go_wp2_with fail
  refine (srcSlab_any (w.heap.size + 1) a len cap w2 HS2.out).mono ?_
  rintro _ w3 ⟨t, b2, o2, cS, b3, o3, cH, rfl, hd, hne, l2, l3, P, Q, hS3, hg3⟩
  have HD := hidS hd
  have HW : Hid (DwSt a len cap w w3.heap.size b2 o2 cS b3 o3 cH t (w3.alloc (.cells #[.slice (some ⟨b2, o2, none⟩) t.slots.length cS, .slice (some ⟨b3, o3, none⟩) t.heads.length cH] 26))) := by
    have z2 := HS2.out.lt
    have zs := hg3.size
    have hb5 : Below w3.heap.size w3 (w3.alloc (.cells #[.slice (some ⟨b2, o2, none⟩) t.slots.length cS, .slice (some ⟨b3, o3, none⟩) t.heads.length cH] 26)) := (Below.refl w3.heap.size w3).alloc (Nat.le_refl _) (.cells #[.slice (some ⟨b2, o2, none⟩) t.slots.length cS, .slice (some ⟨b3, o3, none⟩) t.heads.length cH] 26)
    have p2 := P.lt
    have p3 := Q.lt
    have hb3 : Below w.heap.size w2 w3 := ⟨hg3.os, hg3.tape, hg3.output, hg3.size, fun k hk => hg3.block k (Nat.lt_of_lt_of_le hk HB2.out.size) (fun e => by injection e with e; omega)⟩
    have hrw : RowAt w.heap.size a len w3 := HR.out.below fun k hk => (HB2.out.trans hb3).block k hk
    refine hidS ⟨src_keep hS3 hb5, hrw.below fun k hk => hb5.block k (by omega), ⟨heap_newG w3 _, hne, by omega, by omega, by omega, by omega, P.later hb5, Q.later hb5⟩, by omega, ⟨_, _, blk_alloc ((hg3.block _ (blk_lt hr2.out) (fun e => by injection e with e; omega)).trans hr2.out) _⟩, (HB2.out.trans hb3).trans (hb5.mono (by omega))⟩
  clear hd hne l2 l3 P Q hS3 hg3 HS2 HB2 hr2 HR
  go_upto_region 3 with fail
  generalize w3.heap.size = X at *
  generalize w3.alloc (.cells #[.slice (some ⟨b2, o2, none⟩) t.slots.length cS, .slice (some ⟨b3, o3, none⟩) t.heads.length cH] 26) = w5 at HW ⊢
  have hn2 : t.slots.length ≤ 24 := HD.out.n2
  go_wp2_with fail
  have KEEP : Hid (∀ i v W W', kpOf [isP (.agg #[.slice (some ⟨b2, o2, none⟩) t.slots.length cS, .slice (some ⟨b3, o3, none⟩) t.heads.length cH]), isP (.pointer (some ⟨w.heap.size + 1, 0, none⟩)), (fun v _ => ∃ r : Int, v = .int .i64 r ∧ -1 ≤ r ∧ r ≤ 1048576), (fun _ W => StR w b2 o2 cS b3 o3 cH t W), (fun v _ => ∃ r : Int, v = .int .i64 r ∧ -1 ≤ r ∧ r ≤ 1048576)] i v W → (StR w b2 o2 cS b3 o3 cH t W → StR w b2 o2 cS b3 o3 cH t W') → kpOf [isP (.agg #[.slice (some ⟨b2, o2, none⟩) t.slots.length cS, .slice (some ⟨b3, o3, none⟩) t.heads.length cH]), isP (.pointer (some ⟨w.heap.size + 1, 0, none⟩)), (fun v _ => ∃ r : Int, v = .int .i64 r ∧ -1 ≤ r ∧ r ≤ 1048576), (fun _ W => StR w b2 o2 cS b3 o3 cH t W), (fun v _ => ∃ r : Int, v = .int .i64 r ∧ -1 ≤ r ∧ r ≤ 1048576)] i v W') := by
    refine hidS (fun i v W W' h hr => ?_)
    match i, h with
    | 0, h => exact h
    | 1, h => exact h
    | 2, h => exact h
    | 3, h => exact hr h
    | 4, h => exact h
    | n + 5, h => exact (trivial : True)
  refine grow_res (fun W => DwSt a len cap w X b2 o2 cS b3 o3 cH t W) (fun W W' => StR w b2 o2 cS b3 o3 cH t W → StR w b2 o2 cS b3 o3 cH t W') (kpOf [isP (.agg #[.slice (some ⟨b2, o2, none⟩) t.slots.length cS, .slice (some ⟨b3, o3, none⟩) t.heads.length cH]), isP (.pointer (some ⟨w.heap.size + 1, 0, none⟩)), (fun v _ => ∃ r : Int, v = .int .i64 r ∧ -1 ≤ r ∧ r ≤ 1048576), (fun _ W => StR w b2 o2 cS b3 o3 cH t W), (fun v _ => ∃ r : Int, v = .int .i64 r ∧ -1 ≤ r ∧ r ≤ 1048576)]) (by kernel_rfl) (by kernel_rfl) KEEP.out (HW.out.grown (HW.out.src.kept fun _ _ => rfl) ⟨rfl, rfl, rfl, Nat.le_refl _, fun _ _ _ => rfl⟩) ?stepsw ?finw
  case stepsw =>
    refine ⟨?_, ?_, ?_, ?_, ?_, trivial⟩
    · refine ⟨rfl, fun v W ρ hC kc kf ks ki kd => ?_⟩
      have t5 : ρ (.tmp 5) = .pointer (some ⟨X, 0, none⟩) := ki 5 (by decide)
      have e0 := blk_cell hC.x.blk 0
      have e1 := blk_cell hC.x.blk 1
      simp at e0 e1
      simp [execOp, go_sem, t5, e0, e1]
      simp only [RanS]
      exact ⟨hC, id, rfl⟩
    · refine ⟨rfl, fun v W ρ hC kc kf ks ki kd => ?_⟩
      have t4 : ρ (.tmp 4) = .pointer (some ⟨w.heap.size + 1, 0, none⟩) := ki 4 (by decide)
      simp [execOp, go_sem, t4]
      simp only [RanS]
      exact ⟨hC, id, rfl⟩
    · refine ⟨rfl, fun v W ρ hC kc kf ks ki kd => ?_⟩
      have d1 : v 1 = .pointer (some ⟨w.heap.size + 1, 0, none⟩) := by first | exact kd _ (mem0 rfl) rfl | exact kd _ (mem1 rfl) rfl | exact kd _ (mem2 rfl) rfl
      have t1 : ρ (.tmp 11) = .pointer (some ⟨w.heap.size + 1, 0, none⟩) := (ks 1 11 (by decide) rfl).trans d1
      simp [execOp, go_sem, t1, kf]
      simp only [RanS]
      refine (srcKey_any (w.heap.size + 1) a len cap W hC.src).mono fun e W' h => ?_
      obtain ⟨r, rfl, r0, r1, hS', hg'⟩ := h
      exact ⟨_, rfl, hC.grown hS' hg', fun hst => (hg'.block _ (blk_lt hst) (fun e => by injection e with e; omega)).trans hst, r, rfl, by omega, by omega⟩
    · refine ⟨rfl, fun v W ρ hC kc kf ks ki kd => ?_⟩
      have d0 : v 0 = .agg #[.slice (some ⟨b2, o2, none⟩) t.slots.length cS, .slice (some ⟨b3, o3, none⟩) t.heads.length cH] := by first | exact kd _ (mem0 rfl) rfl | exact kd _ (mem1 rfl) rfl | exact kd _ (mem2 rfl) rfl
      have t10 : ρ (.tmp 10) = .agg #[.slice (some ⟨b2, o2, none⟩) t.slots.length cS, .slice (some ⟨b3, o3, none⟩) t.heads.length cH] := (ks 0 10 (by decide) rfl).trans d0
      have t2 : ρ (.tmp 2) = .pointer (some ⟨w.heap.size, 0, none⟩) := (ki 2 (by decide)).trans (by simp [go_sem, Act.eval])
      obtain ⟨hrun, hM, hE⟩ := hC.store
      simp only [execOp, t2, t10, Sem.run_bind, hrun, Result.andThen_ok, Sem.run_pure]
      simp only [RanS]
      exact ⟨hM, fun _ => hE, hE⟩
    · refine ⟨rfl, fun v W ρ hC kc kf ks ki kd => ?_⟩
      obtain ⟨r, er, r0, r1⟩ : ∃ r : Int, v 2 = .int .i64 r ∧ -1 ≤ r ∧ r ≤ 1048576 := by first | exact kd _ (mem0 rfl) rfl | exact kd _ (mem1 rfl) rfl | exact kd _ (mem2 rfl) rfl
      have tt : ρ (.tmp 12) = .int .i64 r := (ks 2 12 (by decide) rfl).trans er
      simp [execOp, go_sem, tt]
      simp only [RanS]
      exact ⟨hC, id, r, rfl, r0, r1⟩
  intro vw W6 hC hall
  have hst : StR w b2 o2 cS b3 o3 cH t W6 := hall 3 (by decide)
  obtain ⟨r, er, r0, r1⟩ : ∃ r : Int, vw 4 = .int .i64 r ∧ -1 ≤ r ∧ r ≤ 1048576 := hall 4 (by decide)
  have HC := hidS hC
  simp [upto, Act.put]
  rw [er]
  have r0' := blk_cell hst 0
  have r1' := blk_cell hst 1
  simp at r0' r1'
  clear hC hall hst er KEEP HW
  go_wp2_with fail
  refine bodyPost_ret (v := .tuple #[.agg #[.slice (some ⟨b2, o2, none⟩) t.slots.length cS, .slice (some ⟨b3, o3, none⟩) t.heads.length cH], .int .i64 r]) (by simp [results, Try.results12, go_sem, *]) rfl ?_
  have l2 := HC.out.x.lo2
  have l3 := HC.out.x.lo3
  exact ⟨t, b2, o2, cS, b3, o3, cH, r, rfl, HD.out, HC.out.x.ne, by omega, by omega, HC.out.x.slots, HC.out.x.heads, r0, r1, HC.out.bel⟩
set_option maxHeartbeats 4000000 in
theorem drawChainOf_any (a : Option Addr) (len cap : Nat) (w : World) (hR : RowAt w.heap.size a len w) (hl : len ≤ 1048576) :
    Calls Try.prog 11 #[.slice a len cap] w fun e w' => SomeSl (-1) 1048576 w e w' := by
  have hR1 : Hid (RowAt (w.alloc (.cells #[.slice none 0 0, .slice none 0 0] 26)).heap.size a len (w.alloc (.cells #[.slice none 0 0, .slice none 0 0] 26))) := hidS (fun j hj => by
    obtain ⟨b, o, e, hlt, z, q1, q2, q3⟩ := hR j hj
    exact ⟨b, o, e, by simp; omega, z, q1, q2, (World.cell?_of_block (w := w) (Below.heap_alloc w _ b hlt)).trans q3⟩)
  have hr1 := hidS (heap_newG w (.cells #[.slice none 0 0, .slice none 0 0] 26))
  have hb1 := hidS ((Below.refl w.heap.size w).alloc (Nat.le_refl _) (.cells #[.slice none 0 0, .slice none 0 0] 26))
  have hz : (w.alloc (.cells #[.slice none 0 0, .slice none 0 0] 26)).heap.size = w.heap.size + 1 := by simp
  have HR := hidS hR
  clear hR
  go_enter Try.func11, Try.ntmps11
  go_wp2_with fail
  generalize w.alloc (.cells #[.slice none 0 0, .slice none 0 0] 26) = w1 at hR1 hr1 hb1 hz ⊢
  have HSO := hidS (source_any a len cap w1 hR1.out hl)
  rw [hz] at HSO
  refine HSO.out.mono ?_
  rintro _ w2 ⟨rfl, hS2, hb2⟩
  have HS2 := hidS hS2
  have HB2 : Hid (Below w.heap.size w w2) := hidS (hb1.out.trans (hb2.mono (by omega)))
  have hr2 := hidS ((hb2.block w.heap.size (by omega)).trans hr1.out)
  clear hS2 hb2 hR1 hr1 hb1 HSO hz
  go_wp2_with fail
  refine (srcSlab_any (w.heap.size + 1) a len cap w2 HS2.out).mono ?_
  rintro _ w3 ⟨t, b2, o2, cS, b3, o3, cH, rfl, hd, hne, l2, l3, P, Q, hS3, hg3⟩
  have HD := hidS hd
  have HW : Hid (DwSt a len cap w w3.heap.size b2 o2 cS b3 o3 cH t (w3.alloc (.cells #[.slice (some ⟨b2, o2, none⟩) t.slots.length cS, .slice (some ⟨b3, o3, none⟩) t.heads.length cH] 26))) := by
    have z2 := HS2.out.lt
    have zs := hg3.size
    have hb5 : Below w3.heap.size w3 (w3.alloc (.cells #[.slice (some ⟨b2, o2, none⟩) t.slots.length cS, .slice (some ⟨b3, o3, none⟩) t.heads.length cH] 26)) := (Below.refl w3.heap.size w3).alloc (Nat.le_refl _) (.cells #[.slice (some ⟨b2, o2, none⟩) t.slots.length cS, .slice (some ⟨b3, o3, none⟩) t.heads.length cH] 26)
    have p2 := P.lt
    have p3 := Q.lt
    have hb3 : Below w.heap.size w2 w3 := ⟨hg3.os, hg3.tape, hg3.output, hg3.size, fun k hk => hg3.block k (Nat.lt_of_lt_of_le hk HB2.out.size) (fun e => by injection e with e; omega)⟩
    have hrw : RowAt w.heap.size a len w3 := HR.out.below fun k hk => (HB2.out.trans hb3).block k hk
    refine hidS ⟨src_keep hS3 hb5, hrw.below fun k hk => hb5.block k (by omega), ⟨heap_newG w3 _, hne, by omega, by omega, by omega, by omega, P.later hb5, Q.later hb5⟩, by omega, ⟨_, _, blk_alloc ((hg3.block _ (blk_lt hr2.out) (fun e => by injection e with e; omega)).trans hr2.out) _⟩, (HB2.out.trans hb3).trans (hb5.mono (by omega))⟩
  clear hd hne l2 l3 P Q hS3 hg3 HS2 HB2 hr2 HR
  go_upto_region 3 with fail
  generalize w3.heap.size = X at *
  generalize w3.alloc (.cells #[.slice (some ⟨b2, o2, none⟩) t.slots.length cS, .slice (some ⟨b3, o3, none⟩) t.heads.length cH] 26) = w5 at HW ⊢
  have hn2 : t.slots.length ≤ 24 := HD.out.n2
  go_wp2_with fail
  have KEEP : Hid (∀ i v W W', kpOf [isP (.agg #[.slice (some ⟨b2, o2, none⟩) t.slots.length cS, .slice (some ⟨b3, o3, none⟩) t.heads.length cH]), isP (.pointer (some ⟨w.heap.size + 1, 0, none⟩)), (fun v _ => ∃ r : Int, v = .int .i64 r ∧ 0 ≤ r ∧ r ≤ 1000), (fun v _ => ∃ r : Int, v = .int .i64 r ∧ -1 ≤ r ∧ r ≤ 1048576), (fun _ W => StR w b2 o2 cS b3 o3 cH t W), (fun v _ => ∃ r : Int, v = .int .i64 r ∧ -1 ≤ r ∧ r ≤ 1048576)] i v W → (StR w b2 o2 cS b3 o3 cH t W → StR w b2 o2 cS b3 o3 cH t W') → kpOf [isP (.agg #[.slice (some ⟨b2, o2, none⟩) t.slots.length cS, .slice (some ⟨b3, o3, none⟩) t.heads.length cH]), isP (.pointer (some ⟨w.heap.size + 1, 0, none⟩)), (fun v _ => ∃ r : Int, v = .int .i64 r ∧ 0 ≤ r ∧ r ≤ 1000), (fun v _ => ∃ r : Int, v = .int .i64 r ∧ -1 ≤ r ∧ r ≤ 1048576), (fun _ W => StR w b2 o2 cS b3 o3 cH t W), (fun v _ => ∃ r : Int, v = .int .i64 r ∧ -1 ≤ r ∧ r ≤ 1048576)] i v W') := by
    refine hidS (fun i v W W' h hr => ?_)
    match i, h with
    | 0, h => exact h
    | 1, h => exact h
    | 2, h => exact h
    | 3, h => exact h
    | 4, h => exact hr h
    | 5, h => exact h
    | n + 6, h => exact (trivial : True)
  refine grow_res (fun W => DwSt a len cap w X b2 o2 cS b3 o3 cH t W) (fun W W' => StR w b2 o2 cS b3 o3 cH t W → StR w b2 o2 cS b3 o3 cH t W') (kpOf [isP (.agg #[.slice (some ⟨b2, o2, none⟩) t.slots.length cS, .slice (some ⟨b3, o3, none⟩) t.heads.length cH]), isP (.pointer (some ⟨w.heap.size + 1, 0, none⟩)), (fun v _ => ∃ r : Int, v = .int .i64 r ∧ 0 ≤ r ∧ r ≤ 1000), (fun v _ => ∃ r : Int, v = .int .i64 r ∧ -1 ≤ r ∧ r ≤ 1048576), (fun _ W => StR w b2 o2 cS b3 o3 cH t W), (fun v _ => ∃ r : Int, v = .int .i64 r ∧ -1 ≤ r ∧ r ≤ 1048576)]) (by kernel_rfl) (by kernel_rfl) KEEP.out (HW.out.grown (HW.out.src.kept fun _ _ => rfl) ⟨rfl, rfl, rfl, Nat.le_refl _, fun _ _ _ => rfl⟩) ?stepsw ?finw
  case stepsw =>
    refine ⟨?_, ?_, ?_, ?_, ?_, ?_, trivial⟩
    · refine ⟨rfl, fun v W ρ hC kc kf ks ki kd => ?_⟩
      have t5 : ρ (.tmp 5) = .pointer (some ⟨X, 0, none⟩) := ki 5 (by decide)
      have e0 := blk_cell hC.x.blk 0
      have e1 := blk_cell hC.x.blk 1
      simp at e0 e1
      simp [execOp, go_sem, t5, e0, e1]
      simp only [RanS]
      exact ⟨hC, id, rfl⟩
    · refine ⟨rfl, fun v W ρ hC kc kf ks ki kd => ?_⟩
      have t4 : ρ (.tmp 4) = .pointer (some ⟨w.heap.size + 1, 0, none⟩) := ki 4 (by decide)
      simp [execOp, go_sem, t4]
      simp only [RanS]
      exact ⟨hC, id, rfl⟩
    · refine ⟨rfl, fun v W ρ hC kc kf ks ki kd => ?_⟩
      have d1 : v 1 = .pointer (some ⟨w.heap.size + 1, 0, none⟩) := by first | exact kd _ (mem0 rfl) rfl | exact kd _ (mem1 rfl) rfl | exact kd _ (mem2 rfl) rfl
      have t1 : ρ (.tmp 11) = .pointer (some ⟨w.heap.size + 1, 0, none⟩) := (ks 1 11 (by decide) rfl).trans d1
      simp [execOp, go_sem, t1, kf, kc]
      simp only [RanS]
      refine (srcN_any (w.heap.size + 1) a len cap 6 W hC.src (by omega)).mono fun e W' h => ?_
      obtain ⟨r, rfl, r0, r1, hS', hO'⟩ := h
      have hg' := hO'.grown
      exact ⟨_, rfl, hC.grown hS' hg', fun hst => (hg'.block _ (blk_lt hst) (fun e => by injection e with e; omega)).trans hst, r, rfl, by omega, by omega⟩
    · refine ⟨rfl, fun v W ρ hC kc kf ks ki kd => ?_⟩
      obtain ⟨r, er, r0, r1⟩ : ∃ r : Int, v 2 = .int .i64 r ∧ 0 ≤ r ∧ r ≤ 1000 := by first | exact kd _ (mem0 rfl) rfl | exact kd _ (mem1 rfl) rfl | exact kd _ (mem2 rfl) rfl
      have tt : ρ (.tmp 12) = .int .i64 r := (ks 2 12 (by decide) rfl).trans er
      have hw : IntKind.i64.wrap (r - 1) = r - 1 := IntWalk.i64_in _ ⟨by omega, by omega⟩
      simp [execOp, go_sem, tt, kc, hw]
      simp only [RanS]
      exact ⟨hC, id, r - 1, rfl, by omega, by omega⟩
    · refine ⟨rfl, fun v W ρ hC kc kf ks ki kd => ?_⟩
      have d0 : v 0 = .agg #[.slice (some ⟨b2, o2, none⟩) t.slots.length cS, .slice (some ⟨b3, o3, none⟩) t.heads.length cH] := by first | exact kd _ (mem0 rfl) rfl | exact kd _ (mem1 rfl) rfl | exact kd _ (mem2 rfl) rfl
      have t10 : ρ (.tmp 10) = .agg #[.slice (some ⟨b2, o2, none⟩) t.slots.length cS, .slice (some ⟨b3, o3, none⟩) t.heads.length cH] := (ks 0 10 (by decide) rfl).trans d0
      have t2 : ρ (.tmp 2) = .pointer (some ⟨w.heap.size, 0, none⟩) := (ki 2 (by decide)).trans (by simp [go_sem, Act.eval])
      obtain ⟨hrun, hM, hE⟩ := hC.store
      simp only [execOp, t2, t10, Sem.run_bind, hrun, Result.andThen_ok, Sem.run_pure]
      simp only [RanS]
      exact ⟨hM, fun _ => hE, hE⟩
    · refine ⟨rfl, fun v W ρ hC kc kf ks ki kd => ?_⟩
      obtain ⟨r, er, r0, r1⟩ : ∃ r : Int, v 3 = .int .i64 r ∧ -1 ≤ r ∧ r ≤ 1048576 := by first | exact kd _ (mem0 rfl) rfl | exact kd _ (mem1 rfl) rfl | exact kd _ (mem2 rfl) rfl
      have tt : ρ (.tmp 13) = .int .i64 r := (ks 3 13 (by decide) rfl).trans er
      simp [execOp, go_sem, tt]
      simp only [RanS]
      exact ⟨hC, id, r, rfl, r0, r1⟩
  intro vw W6 hC hall
  have hst : StR w b2 o2 cS b3 o3 cH t W6 := hall 4 (by decide)
  obtain ⟨r, er, r0, r1⟩ : ∃ r : Int, vw 5 = .int .i64 r ∧ -1 ≤ r ∧ r ≤ 1048576 := hall 5 (by decide)
  have HC := hidS hC
  simp [upto, Act.put]
  rw [er]
  have r0' := blk_cell hst 0
  have r1' := blk_cell hst 1
  simp at r0' r1'
  clear hC hall hst er KEEP HW
  go_wp2_with fail
  refine bodyPost_ret (v := .tuple #[.agg #[.slice (some ⟨b2, o2, none⟩) t.slots.length cS, .slice (some ⟨b3, o3, none⟩) t.heads.length cH], .int .i64 r]) (by simp [results, Try.results11, go_sem, *]) rfl ?_
  have l2 := HC.out.x.lo2
  have l3 := HC.out.x.lo3
  exact ⟨t, b2, o2, cS, b3, o3, cH, r, rfl, HD.out, HC.out.x.ne, by omega, by omega, HC.out.x.slots, HC.out.x.heads, r0, r1, HC.out.bel⟩
set_option maxHeartbeats 4000000 in
theorem drawSlabGet_any (a : Option Addr) (len cap : Nat) (w : World) (hR : RowAt w.heap.size a len w) (hl : len ≤ 1048576) :
    Calls Try.prog 8 #[.slice a len cap] w fun e w' => SomeSl (-1) 1048576 w e w' := by
  have hR1 : Hid (RowAt (w.alloc (.cells #[.slice none 0 0, .slice none 0 0] 26)).heap.size a len (w.alloc (.cells #[.slice none 0 0, .slice none 0 0] 26))) := hidS (fun j hj => by
    obtain ⟨b, o, e, hlt, z, q1, q2, q3⟩ := hR j hj
    exact ⟨b, o, e, by simp; omega, z, q1, q2, (World.cell?_of_block (w := w) (Below.heap_alloc w _ b hlt)).trans q3⟩)
  have hr1 := hidS (heap_newG w (.cells #[.slice none 0 0, .slice none 0 0] 26))
  have hb1 := hidS ((Below.refl w.heap.size w).alloc (Nat.le_refl _) (.cells #[.slice none 0 0, .slice none 0 0] 26))
  have hz : (w.alloc (.cells #[.slice none 0 0, .slice none 0 0] 26)).heap.size = w.heap.size + 1 := by simp
  have HR := hidS hR
  clear hR
  go_enter Try.func8, Try.ntmps8
  go_wp2_with fail
  generalize w.alloc (.cells #[.slice none 0 0, .slice none 0 0] 26) = w1 at hR1 hr1 hb1 hz ⊢
  have HSO := hidS (source_any a len cap w1 hR1.out hl)
  rw [hz] at HSO
  refine HSO.out.mono ?_
  rintro _ w2 ⟨rfl, hS2, hb2⟩
  have HS2 := hidS hS2
  have HB2 : Hid (Below w.heap.size w w2) := hidS (hb1.out.trans (hb2.mono (by omega)))
  have hr2 := hidS ((hb2.block w.heap.size (by omega)).trans hr1.out)
  clear hS2 hb2 hR1 hr1 hb1 HSO hz
  go_wp2_with fail
  refine (srcSlab_any (w.heap.size + 1) a len cap w2 HS2.out).mono ?_
  rintro _ w3 ⟨t, b2, o2, cS, b3, o3, cH, rfl, hd, hne, l2, l3, P, Q, hS3, hg3⟩
  have HD := hidS hd
  have HW : Hid (DwSt a len cap w w3.heap.size b2 o2 cS b3 o3 cH t (w3.alloc (.cells #[.slice (some ⟨b2, o2, none⟩) t.slots.length cS, .slice (some ⟨b3, o3, none⟩) t.heads.length cH] 26))) := by
    have z2 := HS2.out.lt
    have zs := hg3.size
    have hb5 : Below w3.heap.size w3 (w3.alloc (.cells #[.slice (some ⟨b2, o2, none⟩) t.slots.length cS, .slice (some ⟨b3, o3, none⟩) t.heads.length cH] 26)) := (Below.refl w3.heap.size w3).alloc (Nat.le_refl _) (.cells #[.slice (some ⟨b2, o2, none⟩) t.slots.length cS, .slice (some ⟨b3, o3, none⟩) t.heads.length cH] 26)
    have p2 := P.lt
    have p3 := Q.lt
    have hb3 : Below w.heap.size w2 w3 := ⟨hg3.os, hg3.tape, hg3.output, hg3.size, fun k hk => hg3.block k (Nat.lt_of_lt_of_le hk HB2.out.size) (fun e => by injection e with e; omega)⟩
    have hrw : RowAt w.heap.size a len w3 := HR.out.below fun k hk => (HB2.out.trans hb3).block k hk
    refine hidS ⟨src_keep hS3 hb5, hrw.below fun k hk => hb5.block k (by omega), ⟨heap_newG w3 _, hne, by omega, by omega, by omega, by omega, P.later hb5, Q.later hb5⟩, by omega, ⟨_, _, blk_alloc ((hg3.block _ (blk_lt hr2.out) (fun e => by injection e with e; omega)).trans hr2.out) _⟩, (HB2.out.trans hb3).trans (hb5.mono (by omega))⟩
  clear hd hne l2 l3 P Q hS3 hg3 HS2 HB2 hr2 HR
  go_upto_region 3 with fail
  generalize w3.heap.size = X at *
  generalize w3.alloc (.cells #[.slice (some ⟨b2, o2, none⟩) t.slots.length cS, .slice (some ⟨b3, o3, none⟩) t.heads.length cH] 26) = w5 at HW ⊢
  have hn2 : t.slots.length ≤ 24 := HD.out.n2
  go_wp2_with fail
  have KEEP : Hid (∀ i v W W', kpOf [isP (.agg #[.slice (some ⟨b2, o2, none⟩) t.slots.length cS, .slice (some ⟨b3, o3, none⟩) t.heads.length cH]), isP (.pointer (some ⟨w.heap.size + 1, 0, none⟩)), isP (.pointer (some ⟨X, 0, none⟩)), isP (.slice (some ⟨b2, o2, none⟩) t.slots.length cS), isP (.int .i64 (t.slots.length : Int)), isP (.int .i64 ((t.slots.length : Int) + 2)), (fun v _ => ∃ r : Int, v = .int .i64 r ∧ 0 ≤ r ∧ r ≤ 1000), (fun v _ => ∃ r : Int, v = .int .i64 r ∧ -1 ≤ r ∧ r ≤ 1048576), (fun _ W => StR w b2 o2 cS b3 o3 cH t W), (fun v _ => ∃ r : Int, v = .int .i64 r ∧ -1 ≤ r ∧ r ≤ 1048576)] i v W → (StR w b2 o2 cS b3 o3 cH t W → StR w b2 o2 cS b3 o3 cH t W') → kpOf [isP (.agg #[.slice (some ⟨b2, o2, none⟩) t.slots.length cS, .slice (some ⟨b3, o3, none⟩) t.heads.length cH]), isP (.pointer (some ⟨w.heap.size + 1, 0, none⟩)), isP (.pointer (some ⟨X, 0, none⟩)), isP (.slice (some ⟨b2, o2, none⟩) t.slots.length cS), isP (.int .i64 (t.slots.length : Int)), isP (.int .i64 ((t.slots.length : Int) + 2)), (fun v _ => ∃ r : Int, v = .int .i64 r ∧ 0 ≤ r ∧ r ≤ 1000), (fun v _ => ∃ r : Int, v = .int .i64 r ∧ -1 ≤ r ∧ r ≤ 1048576), (fun _ W => StR w b2 o2 cS b3 o3 cH t W), (fun v _ => ∃ r : Int, v = .int .i64 r ∧ -1 ≤ r ∧ r ≤ 1048576)] i v W') := by
    refine hidS (fun i v W W' h hr => ?_)
    match i, h with
    | 0, h => exact h
    | 1, h => exact h
    | 2, h => exact h
    | 3, h => exact h
    | 4, h => exact h
    | 5, h => exact h
    | 6, h => exact h
    | 7, h => exact h
    | 8, h => exact hr h
    | 9, h => exact h
    | n + 10, h => exact (trivial : True)
  refine grow_res (fun W => DwSt a len cap w X b2 o2 cS b3 o3 cH t W) (fun W W' => StR w b2 o2 cS b3 o3 cH t W → StR w b2 o2 cS b3 o3 cH t W') (kpOf [isP (.agg #[.slice (some ⟨b2, o2, none⟩) t.slots.length cS, .slice (some ⟨b3, o3, none⟩) t.heads.length cH]), isP (.pointer (some ⟨w.heap.size + 1, 0, none⟩)), isP (.pointer (some ⟨X, 0, none⟩)), isP (.slice (some ⟨b2, o2, none⟩) t.slots.length cS), isP (.int .i64 (t.slots.length : Int)), isP (.int .i64 ((t.slots.length : Int) + 2)), (fun v _ => ∃ r : Int, v = .int .i64 r ∧ 0 ≤ r ∧ r ≤ 1000), (fun v _ => ∃ r : Int, v = .int .i64 r ∧ -1 ≤ r ∧ r ≤ 1048576), (fun _ W => StR w b2 o2 cS b3 o3 cH t W), (fun v _ => ∃ r : Int, v = .int .i64 r ∧ -1 ≤ r ∧ r ≤ 1048576)]) (by kernel_rfl) (by kernel_rfl) KEEP.out (HW.out.grown (HW.out.src.kept fun _ _ => rfl) ⟨rfl, rfl, rfl, Nat.le_refl _, fun _ _ _ => rfl⟩) ?stepsw ?finw
  case stepsw =>
    refine ⟨?_, ?_, ?_, ?_, ?_, ?_, ?_, ?_, ?_, ?_, trivial⟩
    · refine ⟨rfl, fun v W ρ hC kc kf ks ki kd => ?_⟩
      have t5 : ρ (.tmp 5) = .pointer (some ⟨X, 0, none⟩) := ki 5 (by decide)
      have e0 := blk_cell hC.x.blk 0
      have e1 := blk_cell hC.x.blk 1
      simp at e0 e1
      simp [execOp, go_sem, t5, e0, e1]
      simp only [RanS]
      exact ⟨hC, id, rfl⟩
    · refine ⟨rfl, fun v W ρ hC kc kf ks ki kd => ?_⟩
      have t4 : ρ (.tmp 4) = .pointer (some ⟨w.heap.size + 1, 0, none⟩) := ki 4 (by decide)
      simp [execOp, go_sem, t4]
      simp only [RanS]
      exact ⟨hC, id, rfl⟩
    · refine ⟨rfl, fun v W ρ hC kc kf ks ki kd => ?_⟩
      have t5 : ρ (.tmp 5) = .pointer (some ⟨X, 0, none⟩) := ki 5 (by decide)
      simp [execOp, go_sem, t5]
      simp only [RanS]
      exact ⟨hC, id, rfl⟩
    · refine ⟨rfl, fun v W ρ hC kc kf ks ki kd => ?_⟩
      have d2 : v 2 = .pointer (some ⟨X, 0, none⟩) := by first | exact kd _ (mem0 rfl) rfl | exact kd _ (mem1 rfl) rfl | exact kd _ (mem2 rfl) rfl
      have tt : ρ (.tmp 12) = .pointer (some ⟨X, 0, none⟩) := (ks 2 12 (by decide) rfl).trans d2
      have e0 := blk_cell hC.x.blk 0
      simp at e0
      simp [execOp, go_sem, tt, e0]
      simp only [RanS]
      exact ⟨hC, id, rfl⟩
    · refine ⟨rfl, fun v W ρ hC kc kf ks ki kd => ?_⟩
      have d3 : v 3 = .slice (some ⟨b2, o2, none⟩) t.slots.length cS := by first | exact kd _ (mem0 rfl) rfl | exact kd _ (mem1 rfl) rfl | exact kd _ (mem2 rfl) rfl
      have tt : ρ (.tmp 13) = .slice (some ⟨b2, o2, none⟩) t.slots.length cS := (ks 3 13 (by decide) rfl).trans d3
      simp [execOp, go_sem, tt]
      simp only [RanS]
      exact ⟨hC, id, rfl⟩
    · refine ⟨rfl, fun v W ρ hC kc kf ks ki kd => ?_⟩
      have d4 : v 4 = .int .i64 (t.slots.length : Int) := by first | exact kd _ (mem0 rfl) rfl | exact kd _ (mem1 rfl) rfl | exact kd _ (mem2 rfl) rfl
      have tt : ρ (.tmp 14) = .int .i64 (t.slots.length : Int) := (ks 4 14 (by decide) rfl).trans d4
      have hw : IntKind.i64.wrap ((t.slots.length : Int) + 2) = (t.slots.length : Int) + 2 := IntWalk.i64_in _ ⟨by omega, by omega⟩
      simp [execOp, go_sem, tt, kc, hw]
      simp only [RanS]
      exact ⟨hC, id, rfl⟩
    · refine ⟨rfl, fun v W ρ hC kc kf ks ki kd => ?_⟩
      have d1 : v 1 = .pointer (some ⟨w.heap.size + 1, 0, none⟩) := by first | exact kd _ (mem0 rfl) rfl | exact kd _ (mem1 rfl) rfl | exact kd _ (mem2 rfl) rfl
      have t1 : ρ (.tmp 11) = .pointer (some ⟨w.heap.size + 1, 0, none⟩) := (ks 1 11 (by decide) rfl).trans d1
      have d5 : v 5 = .int .i64 ((t.slots.length : Int) + 2) := by first | exact kd _ (mem0 rfl) rfl | exact kd _ (mem1 rfl) rfl | exact kd _ (mem2 rfl) rfl
      have t15 : ρ (.tmp 15) = .int .i64 ((t.slots.length : Int) + 2) := (ks 5 15 (by decide) rfl).trans d5
      simp [execOp, go_sem, t1, t15, kf]
      simp only [RanS]
      refine (srcN_any (w.heap.size + 1) a len cap ((t.slots.length : Int) + 2) W hC.src (by omega)).mono fun e W' h => ?_
      obtain ⟨r, rfl, r0, r1, hS', hO'⟩ := h
      have hg' := hO'.grown
      exact ⟨_, rfl, hC.grown hS' hg', fun hst => (hg'.block _ (blk_lt hst) (fun e => by injection e with e; omega)).trans hst, r, rfl, by omega, by omega⟩
    · refine ⟨rfl, fun v W ρ hC kc kf ks ki kd => ?_⟩
      obtain ⟨r, er, r0, r1⟩ : ∃ r : Int, v 6 = .int .i64 r ∧ 0 ≤ r ∧ r ≤ 1000 := by first | exact kd _ (mem0 rfl) rfl | exact kd _ (mem1 rfl) rfl | exact kd _ (mem2 rfl) rfl
      have tt : ρ (.tmp 16) = .int .i64 r := (ks 6 16 (by decide) rfl).trans er
      have hw : IntKind.i64.wrap (r - 1) = r - 1 := IntWalk.i64_in _ ⟨by omega, by omega⟩
      simp [execOp, go_sem, tt, kc, hw]
      simp only [RanS]
      exact ⟨hC, id, r - 1, rfl, by omega, by omega⟩
    · refine ⟨rfl, fun v W ρ hC kc kf ks ki kd => ?_⟩
      have d0 : v 0 = .agg #[.slice (some ⟨b2, o2, none⟩) t.slots.length cS, .slice (some ⟨b3, o3, none⟩) t.heads.length cH] := by first | exact kd _ (mem0 rfl) rfl | exact kd _ (mem1 rfl) rfl | exact kd _ (mem2 rfl) rfl
      have t10 : ρ (.tmp 10) = .agg #[.slice (some ⟨b2, o2, none⟩) t.slots.length cS, .slice (some ⟨b3, o3, none⟩) t.heads.length cH] := (ks 0 10 (by decide) rfl).trans d0
      have t2 : ρ (.tmp 2) = .pointer (some ⟨w.heap.size, 0, none⟩) := (ki 2 (by decide)).trans (by simp [go_sem, Act.eval])
      obtain ⟨hrun, hM, hE⟩ := hC.store
      simp only [execOp, t2, t10, Sem.run_bind, hrun, Result.andThen_ok, Sem.run_pure]
      simp only [RanS]
      exact ⟨hM, fun _ => hE, hE⟩
    · refine ⟨rfl, fun v W ρ hC kc kf ks ki kd => ?_⟩
      obtain ⟨r, er, r0, r1⟩ : ∃ r : Int, v 7 = .int .i64 r ∧ -1 ≤ r ∧ r ≤ 1048576 := by first | exact kd _ (mem0 rfl) rfl | exact kd _ (mem1 rfl) rfl | exact kd _ (mem2 rfl) rfl
      have tt : ρ (.tmp 17) = .int .i64 r := (ks 7 17 (by decide) rfl).trans er
      simp [execOp, go_sem, tt]
      simp only [RanS]
      exact ⟨hC, id, r, rfl, r0, r1⟩
  intro vw W6 hC hall
  have hst : StR w b2 o2 cS b3 o3 cH t W6 := hall 8 (by decide)
  obtain ⟨r, er, r0, r1⟩ : ∃ r : Int, vw 9 = .int .i64 r ∧ -1 ≤ r ∧ r ≤ 1048576 := hall 9 (by decide)
  have HC := hidS hC
  simp [upto, Act.put]
  rw [er]
  have r0' := blk_cell hst 0
  have r1' := blk_cell hst 1
  simp at r0' r1'
  clear hC hall hst er KEEP HW
  go_wp2_with fail
  refine bodyPost_ret (v := .tuple #[.agg #[.slice (some ⟨b2, o2, none⟩) t.slots.length cS, .slice (some ⟨b3, o3, none⟩) t.heads.length cH], .int .i64 r]) (by simp [results, Try.results8, go_sem, *]) rfl ?_
  have l2 := HC.out.x.lo2
  have l3 := HC.out.x.lo3
  exact ⟨t, b2, o2, cS, b3, o3, cH, r, rfl, HD.out, HC.out.x.ne, by omega, by omega, HC.out.x.slots, HC.out.x.heads, r0, r1, HC.out.bel⟩
set_option maxHeartbeats 2000000 in
theorem drawSlabAdd_any (a : Option Addr) (len cap : Nat) (w : World) (hR : RowAt w.heap.size a len w) (hl : len ≤ 1048576) :
    Calls Try.prog 4 #[.slice a len cap] w fun e w' => SomeSl (-1) 1048576 w e w' := by
  have hR1 : Hid (RowAt (w.alloc (.cells #[.slice none 0 0, .slice none 0 0] 26)).heap.size a len (w.alloc (.cells #[.slice none 0 0, .slice none 0 0] 26))) := hidS (fun j hj => by
    obtain ⟨b, o, e, hlt, z, q1, q2, q3⟩ := hR j hj
    exact ⟨b, o, e, by simp; omega, z, q1, q2, (World.cell?_of_block (w := w) (Below.heap_alloc w _ b hlt)).trans q3⟩)
  have hr1 := hidS (heap_newG w (.cells #[.slice none 0 0, .slice none 0 0] 26))
  have hb1 := hidS ((Below.refl w.heap.size w).alloc (Nat.le_refl _) (.cells #[.slice none 0 0, .slice none 0 0] 26))
  have hz : w.heap.size < (w.alloc (.cells #[.slice none 0 0, .slice none 0 0] 26)).heap.size := by simp
  clear hR
  go_enter Try.func4, Try.ntmps4
  go_wp2_with fail
  generalize w.alloc (.cells #[.slice none 0 0, .slice none 0 0] 26) = w1 at hR1 hr1 hb1 hz ⊢
  refine (drawSlabFind_any a len cap w1 hR1.out hl).mono ?_
  rintro _ w2 ⟨t, b2, o2, cS, b3, o3, cH, r, rfl, hd, hne, l2, l3, P, Q, q0, q1, hb2⟩
  have HD := hidS hd
  have HP := hidS P
  have HQ := hidS Q
  have hr2 := (hb2.block w.heap.size hz).trans hr1.out
  have kR := blk_cell hr2
  have fR := blk_free hr2
  have HB2 := hidS (hb1.out.trans (hb2.mono (by omega)))
  clear hd P Q hb2 hr1 hb1 hR1 hr2
  go_wp2_with fail
  refine bodyPost_ret (v := .tuple #[.agg #[.slice (some ⟨b2, o2, none⟩) t.slots.length cS, .slice (some ⟨b3, o3, none⟩) t.heads.length cH], .int .i64 r]) (by simp [results, Try.results4, go_sem, *]) rfl ?_
  refine ⟨t, b2, o2, cS, b3, o3, cH, r, rfl, HD.out, hne, by omega, by omega, ?_, ?_, q0, q1, ?_⟩
  · repeat (refine RowB.other ?_ (by omega))
    exact HP.out
  · repeat (refine RowB.other ?_ (by omega))
    exact HQ.out
  · repeat (refine below_at ?_ (by omega))
    exact HB2.out
set_option maxHeartbeats 2000000 in
theorem drawSlabCut_any (a : Option Addr) (len cap : Nat) (w : World) (hR : RowAt w.heap.size a len w) (hl : len ≤ 1048576) :
    Calls Try.prog 6 #[.slice a len cap] w fun e w' => SomeSl (-1) 1048576 w e w' := by
  have hR1 : Hid (RowAt (w.alloc (.cells #[.slice none 0 0, .slice none 0 0] 26)).heap.size a len (w.alloc (.cells #[.slice none 0 0, .slice none 0 0] 26))) := hidS (fun j hj => by
    obtain ⟨b, o, e, hlt, z, q1, q2, q3⟩ := hR j hj
    exact ⟨b, o, e, by simp; omega, z, q1, q2, (World.cell?_of_block (w := w) (Below.heap_alloc w _ b hlt)).trans q3⟩)
  have hr1 := hidS (heap_newG w (.cells #[.slice none 0 0, .slice none 0 0] 26))
  have hb1 := hidS ((Below.refl w.heap.size w).alloc (Nat.le_refl _) (.cells #[.slice none 0 0, .slice none 0 0] 26))
  have hz : w.heap.size < (w.alloc (.cells #[.slice none 0 0, .slice none 0 0] 26)).heap.size := by simp
  clear hR
  go_enter Try.func6, Try.ntmps6
  go_wp2_with fail
  generalize w.alloc (.cells #[.slice none 0 0, .slice none 0 0] 26) = w1 at hR1 hr1 hb1 hz ⊢
  refine (drawSlabFind_any a len cap w1 hR1.out hl).mono ?_
  rintro _ w2 ⟨t, b2, o2, cS, b3, o3, cH, r, rfl, hd, hne, l2, l3, P, Q, q0, q1, hb2⟩
  have HD := hidS hd
  have HP := hidS P
  have HQ := hidS Q
  have hr2 := (hb2.block w.heap.size hz).trans hr1.out
  have kR := blk_cell hr2
  have fR := blk_free hr2
  have HB2 := hidS (hb1.out.trans (hb2.mono (by omega)))
  clear hd P Q hb2 hr1 hb1 hR1 hr2
  go_wp2_with fail
  refine bodyPost_ret (v := .tuple #[.agg #[.slice (some ⟨b2, o2, none⟩) t.slots.length cS, .slice (some ⟨b3, o3, none⟩) t.heads.length cH], .int .i64 r]) (by simp [results, Try.results6, go_sem, *]) rfl ?_
  refine ⟨t, b2, o2, cS, b3, o3, cH, r, rfl, HD.out, hne, by omega, by omega, ?_, ?_, q0, q1, ?_⟩
  · repeat (refine RowB.other ?_ (by omega))
    exact HP.out
  · repeat (refine RowB.other ?_ (by omega))
    exact HQ.out
  · repeat (refine below_at ?_ (by omega))
    exact HB2.out
set_option maxHeartbeats 2000000 in
theorem drawSlabPut_any (a : Option Addr) (len cap : Nat) (w : World) (hR : RowAt w.heap.size a len w) (hl : len ≤ 1048576) :
    Calls Try.prog 10 #[.slice a len cap] w fun e w' => SomeSl (-1) 1048576 w e w' := by
  have hR1 : Hid (RowAt (w.alloc (.cells #[.slice none 0 0, .slice none 0 0] 26)).heap.size a len (w.alloc (.cells #[.slice none 0 0, .slice none 0 0] 26))) := hidS (fun j hj => by
    obtain ⟨b, o, e, hlt, z, q1, q2, q3⟩ := hR j hj
    exact ⟨b, o, e, by simp; omega, z, q1, q2, (World.cell?_of_block (w := w) (Below.heap_alloc w _ b hlt)).trans q3⟩)
  have hr1 := hidS (heap_newG w (.cells #[.slice none 0 0, .slice none 0 0] 26))
  have hb1 := hidS ((Below.refl w.heap.size w).alloc (Nat.le_refl _) (.cells #[.slice none 0 0, .slice none 0 0] 26))
  have hz : w.heap.size < (w.alloc (.cells #[.slice none 0 0, .slice none 0 0] 26)).heap.size := by simp
  clear hR
  go_enter Try.func10, Try.ntmps10
  go_wp2_with fail
  generalize w.alloc (.cells #[.slice none 0 0, .slice none 0 0] 26) = w1 at hR1 hr1 hb1 hz ⊢
  refine (drawSlabGet_any a len cap w1 hR1.out hl).mono ?_
  rintro _ w2 ⟨t, b2, o2, cS, b3, o3, cH, r, rfl, hd, hne, l2, l3, P, Q, q0, q1, hb2⟩
  have HD := hidS hd
  have HP := hidS P
  have HQ := hidS Q
  have hr2 := (hb2.block w.heap.size hz).trans hr1.out
  have kR := blk_cell hr2
  have fR := blk_free hr2
  have HB2 := hidS (hb1.out.trans (hb2.mono (by omega)))
  clear hd P Q hb2 hr1 hb1 hR1 hr2
  go_wp2_with fail
  refine bodyPost_ret (v := .tuple #[.agg #[.slice (some ⟨b2, o2, none⟩) t.slots.length cS, .slice (some ⟨b3, o3, none⟩) t.heads.length cH], .int .i64 r]) (by simp [results, Try.results10, go_sem, *]) rfl ?_
  refine ⟨t, b2, o2, cS, b3, o3, cH, r, rfl, HD.out, hne, by omega, by omega, ?_, ?_, q0, q1, ?_⟩
  · repeat (refine RowB.other ?_ (by omega))
    exact HP.out
  · repeat (refine RowB.other ?_ (by omega))
    exact HQ.out
  · repeat (refine below_at ?_ (by omega))
    exact HB2.out
end Go.Proofs.Ytcopfejonbbmnaa
