/- Proved here: impl.ChainOf answers the slots of a chain of a right slab, in order, in memory of its own; all old memory stays (conditions: the slab's rows can be read; at most 2^20 numbers; numbers of int64). -/
import Derived.Test.YtcopfejonbbmnaaAll31
import Derived.Test.YtcopfejonbbmnaaSlabLookI
import Derived.Deep.LoopGhost
namespace Go.Proofs.Ytcopfejonbbmnaa
open Go.ChangeShapes Go.WideShapes Go.ChangeAt Go.RowKit
set_option linter.unusedVariables false
set_option linter.unusedSimpArgs false
set_option maxRecDepth 100000

theorem goL_nodup {s : Slb} {c : Int} : ∀ {l sn pre r : List Int}, goL s c sn pre l = some r → l.Nodup ∧ ∀ y ∈ l, y ∉ sn
  | [], sn, pre, r, _ => ⟨List.nodup_nil, fun y hy => by simp at hy⟩
  | n :: l, sn, pre, r, h => by
    unfold goL at h
    by_cases hb : badB s c sn pre n = true
    · rw [if_pos hb] at h; cases h
    · rw [if_neg hb] at h
      obtain ⟨h1, h2⟩ := goL_nodup h
      have hn : n ∉ sn := by
        intro hm
        apply hb
        unfold badB
        simp [hm]
      refine ⟨List.nodup_cons.2 ⟨fun hm => h2 n hm (by simp), h1⟩, fun y hy => ?_⟩
      rcases List.mem_cons.1 hy with e | e
      · subst e; exact hn
      · exact fun hm => h2 y e (List.mem_cons_of_mem _ hm)
theorem right_len {s : Slb} (h : rightSl s = true) {c : Nat} (hc : c < s.heads.length) : (chainOf s c).1.length ≤ s.slots.length := by
  have hgo : ∀ (r d : Nat) (sn : List Int), d + r = s.heads.length → rightC s r d sn = true → ∀ i : Nat, d ≤ i → i < s.heads.length → (chainOf s i).1.Nodup := by
    intro r
    induction r with
    | zero => intro d sn e _ i h1 h2; omega
    | succ r ih =>
      intro d sn e hr i h1 h2
      unfold rightC at hr
      by_cases he : (chainOf s d).2 = -1 - (d : Int)
      · rw [if_pos he] at hr
        cases hg : goL s d sn [] (chainOf s d).1 with
        | none => rw [hg] at hr; cases hr
        | some sn' =>
          rw [hg] at hr
          by_cases hid : i = d
          · subst hid; exact (goL_nodup hg).1
          · exact ih (d + 1) sn' (by omega) hr i (by omega) h2
      · rw [if_neg he] at hr; cases hr
  have h3 := (right_chain h hc).2.2
  unfold rightSl at h
  simp only [Bool.and_eq_true] at h
  exact pigeon _ _ (hgo s.heads.length 0 [] (by omega) h.2 c (by omega) hc) h3
theorem fill_step (d : List Int) (n : Nat) (y : Int) : (d ++ List.replicate (n + 1) 0).set d.length y = d ++ [y] ++ List.replicate n 0 := by
  rw [List.set_append_right _ _ (Nat.le_refl _), Nat.sub_self, List.replicate_succ]
  simp
/-- what lasts while a chain is written down -/
def FillI (s : Slb) (c : Nat) (l : List Int) (w : World) (g : Nat) (oA : Obj) (k : Nat) (m x : Value) (wr : World) : Prop :=
  ∃ (d r : List Int) (n : Int), m = .int .i64 (d.length : Int) ∧ x = .int .i64 n ∧ l = d ++ r ∧ r.length < k ∧ IsChain s c n r ∧ wr.heap[w.heap.size]? = some oA ∧ RowB g 0 (d ++ List.replicate (s.slots.length - d.length) 0) wr ∧ Below w.heap.size w wr
set_option maxHeartbeats 8000000 in
theorem implChainOf_any (aS aH : Option Addr) (cS cH : Nat) (s : Slb) (c : Int) (w : World) (hR : SlabZ aS aH s w) (hF : SlabFit s) (h1 : s.slots.length ≤ 1048576) (h2 : s.heads.length ≤ 1048576) :
    Calls Try.prog 21 #[.agg #[.slice aS s.slots.length cS, .slice aH s.heads.length cH], .int .i64 c] w fun e w' => NumsAns (chainAns s c) w e w' := by
  have HS := hidS (fun W (h : Below w.heap.size w W) => implSlabRight_any aS aH cS cH s W (hR.later h) hF h1 h2)
  have HI := hidS (fun W => isChain_any aS aH s.slots.length cS s.heads.length cH c W h2)
  cases hr : rightSl s
  · have EZ : Hid (chainAns s c = []) := by show _ = _; unfold chainAns chainB; rw [hr]; rfl
    rw [hr] at HS
    clear hr hR
    have hGA0 : Hid ((w.alloc (.cells #[.slice aS s.slots.length cS, .slice aH s.heads.length cH] 26)).heap[w.heap.size]? = some (.cells #[.slice aS s.slots.length cS, .slice aH s.heads.length cH] 26)) := by
      show _ = _
      have := heap_newG w (.cells #[.slice aS s.slots.length cS, .slice aH s.heads.length cH] 26)
      simpa using this
    have hL0 := hidS ((Below.refl w.heap.size w).alloc (Nat.le_refl _) (.cells #[.slice aS s.slots.length cS, .slice aH s.heads.length cH] 26))
    go_enter Try.func21, Try.ntmps21
    go_wp2_with fail
    refine (HS.out _ hL0.out).mono ?_
    rintro _ w1 ⟨rfl, hb1⟩
    have hGA1 := hidS (blk_later hGA0.out hb1)
    have hL1 := hidS (hL0.out.trans (hb1.mono hL0.out.size))
    clear hb1 hL0 hGA0
    have cA0 := blk_cell hGA1.out 0
    have cA1 := blk_cell hGA1.out 1
    simp at cA0 cA1
    go_wp2_with fail
    go_ret
    exact ⟨none, 0, by rw [EZ.out]; rfl, .inl EZ.out, hL1.out⟩
  rw [hr] at HS
  cases hi : inB s.heads.length c
  · have EZ : Hid (chainAns s c = []) := by
      show _ = _
      unfold chainAns chainB
      rw [hr]
      unfold inB at hi
      simp at hi
      rw [if_neg (by simp; omega)]
    rw [hi] at HI
    clear hr hR hi
    have hGA0 : Hid ((w.alloc (.cells #[.slice aS s.slots.length cS, .slice aH s.heads.length cH] 26)).heap[w.heap.size]? = some (.cells #[.slice aS s.slots.length cS, .slice aH s.heads.length cH] 26)) := by
      show _ = _
      have := heap_newG w (.cells #[.slice aS s.slots.length cS, .slice aH s.heads.length cH] 26)
      simpa using this
    have hL0 := hidS ((Below.refl w.heap.size w).alloc (Nat.le_refl _) (.cells #[.slice aS s.slots.length cS, .slice aH s.heads.length cH] 26))
    go_enter Try.func21, Try.ntmps21
    go_wp2_with fail
    refine (HS.out _ hL0.out).mono ?_
    rintro _ w1 ⟨rfl, hb1⟩
    have hGA1 := hidS (blk_later hGA0.out hb1)
    have hL1 := hidS (hL0.out.trans (hb1.mono hL0.out.size))
    clear hb1 hL0 hGA0
    have cA0 := blk_cell hGA1.out 0
    have cA1 := blk_cell hGA1.out 1
    simp at cA0 cA1
    go_wp2_with fail
    refine (HI.out _).mono ?_
    rintro _ w2 ⟨rfl, hb2⟩
    clear cA0 cA1
    have hGA2 := hidS (blk_later hGA1.out hb2)
    have hL2 := hidS (hL1.out.trans (hb2.mono hL1.out.size))
    clear hb2 hL1 hGA1
    go_wp2_with fail
    go_ret
    exact ⟨none, 0, by rw [EZ.out]; rfl, .inl EZ.out, hL2.out⟩
  rw [hi] at HI
  obtain ⟨C, rfl, hC⟩ : ∃ C : Nat, c = (C : Int) ∧ C < s.heads.length := by
    unfold inB at hi; simp at hi; exact ⟨c.toNat, by omega, by omega⟩
  have EZ : Hid (chainAns s (C : Int) = (chainOf s (C : Int)).1) := by show _ = _; unfold chainAns chainB; rw [hr, if_pos (by simp; omega)]
  obtain ⟨_, n1, n2, n3, n4⟩ := right_leads hr
  obtain ⟨bS, oS, rfl, _⟩ := hR.slots.slot (i := 0) (by omega)
  obtain ⟨bH, oH, rfl, _⟩ := hR.heads 0 (by omega)
  obtain ⟨hch, hen, hin⟩ := right_chain hr hC
  have hlen := right_len hr hC
  have HR := hidS hR
  have HCH := hidS hch
  have HIN := hidS hin
  have HLE := hidS hlen
  have hCC : (0 : Int) ≤ (C : Int) ∧ (C : Int) < (s.heads.length : Int) := by omega
  clear hr hR hi hch hin hen hlen
  generalize (chainOf s (C : Int)).1 = l at EZ HCH HIN HLE
  have hGA0 : Hid ((w.alloc (.cells #[.slice (some ⟨bS, oS, none⟩) s.slots.length cS, .slice (some ⟨bH, oH, none⟩) s.heads.length cH] 26)).heap[w.heap.size]? = some (.cells #[.slice (some ⟨bS, oS, none⟩) s.slots.length cS, .slice (some ⟨bH, oH, none⟩) s.heads.length cH] 26)) := by
    show _ = _
    have := heap_newG w (.cells #[.slice (some ⟨bS, oS, none⟩) s.slots.length cS, .slice (some ⟨bH, oH, none⟩) s.heads.length cH] 26)
    simpa using this
  have hL0 := hidS ((Below.refl w.heap.size w).alloc (Nat.le_refl _) (.cells #[.slice (some ⟨bS, oS, none⟩) s.slots.length cS, .slice (some ⟨bH, oH, none⟩) s.heads.length cH] 26))
  go_enter Try.func21, Try.ntmps21
  go_wp2_with fail
  refine (HS.out _ hL0.out).mono ?_
  rintro _ w1 ⟨rfl, hb1⟩
  have hGA1 := hidS (blk_later hGA0.out hb1)
  have hL1 := hidS (hL0.out.trans (hb1.mono hL0.out.size))
  clear hb1 hL0 hGA0
  have cA0 := blk_cell hGA1.out 0
  have cA1 := blk_cell hGA1.out 1
  simp at cA0 cA1
  go_wp2_with fail
  refine (HI.out _).mono ?_
  rintro _ w2 ⟨rfl, hb2⟩
  clear cA0 cA1
  have hGA2 := hidS (blk_later hGA1.out hb2)
  have hL2 := hidS (hL1.out.trans (hb2.mono hL1.out.size))
  clear hb2 hL1 hGA1
  have cA0 := blk_cell hGA2.out 0
  have cA1 := blk_cell hGA2.out 1
  simp at cA0 cA1
  have hmk := make_ints s.slots.length (by omega) w2
  have lA := blk_lt hGA2.out
  have hGA3 := hidS (blk_alloc hGA2.out (.cells (intCells (List.replicate s.slots.length 0)) 2))
  have hG3 := hidS (rowB_new (heap_newG w2 (.cells (intCells (List.replicate s.slots.length 0)) 2)))
  have hL3 := hidS (hL2.out.alloc hL2.out.size (.cells (intCells (List.replicate s.slots.length 0)) 2))
  clear hGA2 hL2 HS HI
  go_upto_region 4 with fail
  generalize w2.alloc (.cells (intCells (List.replicate s.slots.length 0)) 2) = w3 at hGA3 hG3 hL3 ⊢
  generalize w2.heap.size = g at *
  clear hmk cA0 cA1
  have a0 := blk_cell hGA3.out 1
  simp at a0
  obtain ⟨b', o', e', lH, cd⟩ := (HR.out.heads.later hL3.out) C hC
  injection e' with e'; injection e' with e1 e2
  subst e1 e2
  generalize s.heads.getD C 0 = x0 at cd HCH
  go_wp2_with fail
  clear a0 cd
  go_loopg [6, 7] (l.length + 1) (fun k m x wr => FillI s C l w g (.cells #[.slice (some ⟨bS, oS, none⟩) s.slots.length cS, .slice (some ⟨bH, oH, none⟩) s.heads.length cH] 26) k m x wr)
  case atStart => exact ⟨[], l, x0, rfl, rfl, rfl, by omega, HCH.out, hGA3.out, by simpa using hG3.out, hL3.out⟩
  case round =>
    obtain ⟨d, r, n, rfl, rfl, hl, hk, hch, hA, hG, hb⟩ := hrel
    have HL := hidS hl
    have HK := hidS hk
    have HA := hidS hA
    have HG := hidS hG
    have HB := hidS hb
    have lG := hG.lt
    clear hGA3 hG3 hL3 HCH hl hk hA hG hb
    cases r with
    | nil =>
      have hn : n = -1 - (C : Int) := hch
      have hn0 : ¬ 0 ≤ n := by omega
      have HLD : Hid (l = d) := by show _ = _; rw [HL.out]; simp
      have hd : d.length ≤ s.slots.length := by rw [← HLD.out]; exact HLE.out
      have hd' : (0 : Int) ≤ (d.length : Int) ∧ (d.length : Int) ≤ (s.slots.length : Int) := by omega
      have HN := hidS hn
      clear hn hch
      go_wp2_with fail
      go_ret
      refine ⟨some ⟨g, 0, none⟩, d.length, by rw [EZ.out, HLD.out]; rfl, ?_, HB.out⟩
      rw [EZ.out, HLD.out]
      obtain ⟨cs, t, q1, q2⟩ := HG.out
      refine .inr ⟨g, 0, rfl, by omega, lG, cs, t, q1, fun j hj => ?_⟩
      have := q2 j (by simp; omega)
      rw [this]
      simp [List.getD_eq_getElem?_getD, List.getElem?_append_left hj]
    | cons y r =>
      obtain ⟨hy, hch⟩ := hch
      subst hy
      have hmem : y ∈ l := by rw [HL.out]; simp
      obtain ⟨y0, y1⟩ := HIN.out y hmem
      obtain ⟨j, rfl⟩ : ∃ j : Nat, y = (j : Int) := ⟨y.toNat, by omega⟩
      have hj : j < s.slots.length := by omega
      have hjj : (0 : Int) ≤ (j : Int) ∧ (j : Int) < (s.slots.length : Int) := by omega
      have hdl : d.length < s.slots.length := by have := HLE.out; rw [HL.out] at this; simp at this; omega
      have hdd : (0 : Int) ≤ (d.length : Int) ∧ (d.length : Int) < (s.slots.length : Int) := by omega
      have hd2 : (d.length : Int) ≤ 24 := by omega
      obtain ⟨zd, d0⟩ := (rowB_cells HG.out d.length (by simp; omega)).1
      have f0 := (rowB_cells HG.out d.length (by simp; omega)).2
      simp only [Nat.zero_add] at d0 f0
      have HG2 : Hid (RowB g 0 (d ++ [(j : Int)] ++ List.replicate (s.slots.length - (d ++ [(j : Int)]).length) 0) (wr.setCell ⟨g, d.length, none⟩ (.int .i64 (j : Int)))) := by
        show RowB _ _ _ _
        have h := HG.out.set d.length (j : Int) (by simp; omega)
        rw [show s.slots.length - d.length = (s.slots.length - (d ++ [(j : Int)]).length) + 1 by simp; omega, fill_step, Nat.zero_add] at h
        exact h
      have HA2 := hidS (blk_other (B := g) HA.out (by omega) d.length (.int .i64 (j : Int)))
      have HB2 := hidS (below_at (k := d.length) (b := g) (v := .int .i64 (j : Int)) HB.out (by omega))
      have HL2 : Hid (l = (d ++ [(j : Int)]) ++ r) := by show _ = _; rw [HL.out]; simp
      have HNX : Hid (IsChain s C (s.slots.getD j zeroSlt).next r) := by
        show IsChain _ _ _ _
        have e : nx s (j : Int) = (s.slots.getD j zeroSlt).next := by unfold nx; rw [Int.toNat_natCast]
        rw [← e]
        exact hch
      clear hch hmem
      go_upto_region 8 with fail
      clear d0 f0 HA HB HG
      generalize wr.setCell ⟨g, d.length, none⟩ (.int .i64 (j : Int)) = w5 at HG2 HA2 HB2 ⊢
      have a0 := blk_cell HA2.out 0
      simp at a0
      obtain ⟨b', o', eS, lS, c0, c1, c2, c3⟩ := (HR.out.slots.later HB2.out).slot hj
      injection eS with eS; injection eS with eS1 eS2
      subst eS1 eS2
      generalize s.slots.getD j zeroSlt = x at c0 c1 c2 c3 HNX
      go_wp2_with fail
      go_roundg (r.length + 1)
      case measure => have := HK.out; simp at this; omega
      case rel => exact ⟨d ++ [(j : Int)], r, _, by simp, rfl, HL2.out, by omega, HNX.out, HA2.out, HG2.out, HB2.out⟩
end Go.Proofs.Ytcopfejonbbmnaa
