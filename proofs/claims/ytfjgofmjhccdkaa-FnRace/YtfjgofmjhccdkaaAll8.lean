/- Proved here: impl.chainsRight answers whether the chains of a slab are right, whose slots are; all old memory stays (conditions: the slab's rows can be read; its sizes are right). · Proved here: nothing of a program: what is known of a right slab's sizes and links. · Proved here: nothing of a program: the slot of a key in a chain. -/
import Derived.Test.YtfjgofmjhccdkaaAll7
import Derived.Deep.LoopGhost
import Derived.WalkMore
import Derived.Test.YtfjgofmjhccdkaaSlabRight
section
namespace Go.Proofs.Ytfjgofmjhccdkaa
open Go.ChangeShapes Go.WideShapes Go.ChangeAt Go.RowKit
set_option linter.unusedVariables false
set_option linter.unusedSimpArgs false
set_option maxRecDepth 100000

theorem zero_seen (W : World) : (zeroValue 131).run Try.prog W = .ok (.agg (boolCells 1000 [])) W := by kernel_rfl
theorem key_of {s : Slb} (h : slotsA s = true) {k : Nat} (hk : k < s.slots.length) : 0 ≤ (s.slots.getD k zeroSlt).key ∧ (s.slots.getD k zeroSlt).key ≤ 999 := by
  have := slotsA_get h hk
  unfold okS keyB at this
  simp only [Bool.and_eq_true, decide_eq_true_eq] at this
  exact this.1.1.1
theorem runK_succ (s : Slb) (c : Int) (f : Nat) (seen : List Int) (x : Int) : runK s c (f + 1) seen x = if x = -1 - c then some seen else if mayB s x c = true ∧ (slotN s x).key ∉ seen then runK s c f ((slotN s x).key :: seen) (nx s x) else none := rfl
/-- what lasts while a chain is gone along by keys -/
def RunI (s : Slb) (c : Int) (res : Option (List Int)) (w : World) (g : Nat) (oA : Obj) (f : Nat) (r x : Value) (wr : World) : Prop :=
  ∃ (n : Int) (seen : List Int), r = .bool true ∧ x = .int .i64 n ∧ res = runK s c f seen n ∧ unseen seen < f ∧ wr.heap[w.heap.size]? = some oA ∧ wr.heap[g]? = some (.cells (boolCells 1000 seen) 131) ∧ Below w.heap.size w wr
set_option maxHeartbeats 8000000 in
theorem chainsRight_any (aS aH : Option Addr) (cS cH : Nat) (s : Slb) (w : World) (hR : SlabZ aS aH s w) (hA : slotsA s = true) (hZ : sizesB s = true) :
    Calls Try.prog 106 #[.agg #[.slice aS s.slots.length cS, .slice aH s.heads.length cH]] w fun e w' => e = .returned (.bool (chainsK s s.heads.length 0 [])) ∧ Below w.heap.size w w' := by
  obtain ⟨n1, n2, n3, n4⟩ : 1 ≤ s.slots.length ∧ s.slots.length ≤ 24 ∧ 1 ≤ s.heads.length ∧ s.heads.length ≤ 4 := by
    unfold sizesB at hZ
    simp only [Bool.and_eq_true, decide_eq_true_eq] at hZ
    omega
  have hK : Hid (∀ k, k < s.slots.length → 0 ≤ (s.slots.getD k zeroSlt).key ∧ (s.slots.getD k zeroSlt).key ≤ 999) := hidS (fun k hk => key_of hA hk)
  obtain ⟨bS, oS, rfl, _⟩ := hR.slots.slot (i := 0) (by omega)
  obtain ⟨bH, oH, rfl, _⟩ := hR.heads 0 (by omega)
  have HR := hidS hR
  have HMAY := hidS (fun (n c : Int) W (h : Below w.heap.size w W) => mayBeLinked_any (some ⟨bS, oS, none⟩) (some ⟨bH, oH, none⟩) cS cH s n c W (HR.out.later h) (by omega) (by omega) n3 hK.out)
  clear hR hA hZ
  have hA0 : Hid (((w.alloc (.cells #[.slice (some ⟨bS, oS, none⟩) s.slots.length cS, .slice (some ⟨bH, oH, none⟩) s.heads.length cH] 26)).alloc (.cells (boolCells 1000 []) 131)).heap[w.heap.size]? = some (.cells #[.slice (some ⟨bS, oS, none⟩) s.slots.length cS, .slice (some ⟨bH, oH, none⟩) s.heads.length cH] 26)) := hidS (blk_alloc (heap_newG w (.cells #[.slice (some ⟨bS, oS, none⟩) s.slots.length cS, .slice (some ⟨bH, oH, none⟩) s.heads.length cH] 26)) (.cells (boolCells 1000 []) 131))
  have hG0 : Hid (((w.alloc (.cells #[.slice (some ⟨bS, oS, none⟩) s.slots.length cS, .slice (some ⟨bH, oH, none⟩) s.heads.length cH] 26)).alloc (.cells (boolCells 1000 []) 131)).heap[w.heap.size + 1]? = some (.cells (boolCells 1000 []) 131)) := by
    show _ = _
    have := heap_newG (w.alloc (.cells #[.slice (some ⟨bS, oS, none⟩) s.slots.length cS, .slice (some ⟨bH, oH, none⟩) s.heads.length cH] 26)) (.cells (boolCells 1000 []) 131)
    simpa using this
  have hb0 : Hid (Below w.heap.size w ((w.alloc (.cells #[.slice (some ⟨bS, oS, none⟩) s.slots.length cS, .slice (some ⟨bH, oH, none⟩) s.heads.length cH] 26)).alloc (.cells (boolCells 1000 []) 131))) := hidS (((Below.refl w.heap.size w).alloc (Nat.le_refl _) (.cells #[.slice (some ⟨bS, oS, none⟩) s.slots.length cS, .slice (some ⟨bH, oH, none⟩) s.heads.length cH] 26)).alloc (by simp) (.cells (boolCells 1000 []) 131))
  go_enter Try.func106, Try.ntmps106
  have hzv := fun W => zero_seen W
  have hne : ¬ boolCells 1000 [] = #[] := fun e => by
    have := congrArg Array.size e
    simp [boolCells] at this
  go_wp2_with fail
  go_step3
  go_wp2_with fail
  go_step3
  try rw [show Try.zeroCells131 = boolCells 1000 [] by kernel_rfl]
  clear hzv hne
  generalize ((w.alloc (.cells #[.slice (some ⟨bS, oS, none⟩) s.slots.length cS, .slice (some ⟨bH, oH, none⟩) s.heads.length cH] 26)).alloc (.cells (boolCells 1000 []) 131)) = w0 at hA0 hG0 hb0 ⊢
  have a0 := blk_cell hA0.out 0
  have a1 := blk_cell hA0.out 1
  simp at a0 a1
  go_wp2_with fail
  clear a0 a1
  go_loopw [4, 10] (fun r ci wr => ∃ (c : Nat) (seen : List Int), r = .bool true ∧ ci = .int .i64 (c : Int) ∧ c ≤ s.heads.length ∧ chainsK s s.heads.length 0 [] = chainsK s (s.heads.length - c) c seen ∧ wr.heap[w.heap.size]? = some (.cells #[.slice (some ⟨bS, oS, none⟩) s.slots.length cS, .slice (some ⟨bH, oH, none⟩) s.heads.length cH] 26) ∧ wr.heap[w.heap.size + 1]? = some (.cells (boolCells 1000 seen) 131) ∧ Below w.heap.size w wr) (fun _ ci _ => (s.heads.length - (intOf ci).toNat))
  case atStart => exact ⟨0, [], rfl, rfl, Nat.zero_le _, rfl, hA0.out, hG0.out, hb0.out⟩
  case round =>
    obtain ⟨c, seen, rfl, rfl, hc, hck, hA, hG, hb⟩ := hrel
    have HCK := hidS hck
    have HA := hidS hA
    have HG := hidS hG
    have HB := hidS hb
    clear hA0 hG0 hb0 hck hA hG hb
    by_cases hlt : ¬ c < s.heads.length
    · have e : c = s.heads.length := by omega
      have hge : ¬ (c : Int) < (s.heads.length : Int) := by omega
      have EY : Hid (chainsK s s.heads.length 0 [] = true) := by show _ = _; rw [HCK.out, e, Nat.sub_self]; rfl
      clear e hlt HCK
      go_wp2_with fail
      try rw [Exit.noGoto_ret]
      go_ret
      exact ⟨by rw [EY.out]; rfl, HB.out⟩
    have hlt := Classical.not_not.1 hlt
    have hlt' : (0 : Int) ≤ (c : Int) ∧ (c : Int) < (s.heads.length : Int) := by omega
    obtain ⟨b', o', e', lH, cd⟩ := (HR.out.heads.later HB.out) c hlt
    injection e' with e'; injection e' with e1 e2
    subst e1 e2
    have HST : Hid (chainsK s s.heads.length 0 [] = match runK s c 1001 seen (s.heads.getD c 0) with | none => false | some seen' => chainsK s (s.heads.length - (c + 1)) (c + 1) seen') := by
      show _ = _
      rw [HCK.out, show s.heads.length - c = (s.heads.length - (c + 1)) + 1 by omega]
      rfl
    generalize s.heads.getD c 0 = x0 at cd HST
    have HE := hidS (fun W => endOf_any (c : Int) W ⟨by omega, by omega⟩)
    go_wp2_with fail
    obtain ⟨res, hres⟩ : ∃ res, runK s c 1001 seen x0 = res := ⟨_, rfl⟩
    have HRES := hidS hres
    rw [hres] at HST
    clear cd hres
    go_loopg [4, 6] 1001 (fun f r x wr => RunI s c res w (w.heap.size + 1) (.cells #[.slice (some ⟨bS, oS, none⟩) s.slots.length cS, .slice (some ⟨bH, oH, none⟩) s.heads.length cH] 26) f r x wr)
    case atStart => exact ⟨x0, seen, rfl, rfl, HRES.out.symm, by have := unseen_le seen; omega, HA.out, HG.out, HB.out⟩
    case round =>
      obtain ⟨n, sn, rfl, rfl, hr, hu, hA, hG, hb⟩ := hrel
      have HRN := hidS hr
      have HU := hidS hu
      have HA2 := hidS hA
      have HG2 := hidS hG
      have HB2 := hidS hb
      clear HA HG HB hr hu hA hG hb HRES
      obtain ⟨f, rfl⟩ : ∃ f, gk = f + 1 := ⟨gk - 1, by have := HU.out; omega⟩
      by_cases hn : n = -1 - (c : Int)
      · have HST2 : Hid (chainsK s s.heads.length 0 [] = chainsK s (s.heads.length - (c + 1)) (c + 1) sn) := by
          show _ = _
          rw [HST.out, HRN.out, runK_succ, if_pos hn]
        clear HST HRN
        subst hn
        go_wp2_with fail
        refine (HE.out _).mono ?_
        rintro _ v ⟨rfl, hv⟩
        rw [hv]
        clear hv v
        go_wp2_with fail
        go_roundw
        case rel => exact ⟨c + 1, sn, rfl, by simp, by omega, HST2.out, HA2.out, HG2.out, HB2.out⟩
        case measure => simp [intOf]; omega
      have hnb : (n != -1 - (c : Int)) = true := bne_iff_ne.2 hn
      have a0 := blk_cell HA2.out 0
      have a1 := blk_cell HA2.out 1
      simp at a0 a1
      have HM := hidS (fun W h => HMAY.out n c W h)
      cases hm : mayB s n c
      · rw [hm] at HM
        have EN : Hid (chainsK s s.heads.length 0 [] = false) := by
          show _ = _
          rw [HST.out, HRN.out, runK_succ, if_neg hn, if_neg (by rw [hm]; simp)]
        clear HST HRN hn hm HU
        go_wp2_with fail
        refine (HE.out _).mono ?_
        rintro _ v ⟨rfl, hv⟩
        rw [hv]
        clear hv v
        go_wp2_with fail
        refine (HM.out _ HB2.out).mono ?_
        rintro _ w3 ⟨rfl, hb3⟩
        have hB3 := hidS (HB2.out.trans (hb3.mono HB2.out.size))
        clear hb3 a0 a1
        go_wp2_with fail
        try rw [Exit.noGoto_ret]
        go_ret
        exact ⟨by rw [EN.out]; rfl, hB3.out⟩
      rw [hm] at HM
      have hin := may_in hm
      obtain ⟨j, rfl⟩ : ∃ j : Nat, n = (j : Int) := ⟨n.toNat, by omega⟩
      have hj : j < s.slots.length := by omega
      have hjj : (0 : Int) ≤ (j : Int) ∧ (j : Int) < (s.slots.length : Int) := by omega
      have hkk := hK.out j hj
      have HRN2 : Hid (res = if (s.slots.getD j zeroSlt).key ∉ sn then runK s c f ((s.slots.getD j zeroSlt).key :: sn) (s.slots.getD j zeroSlt).next else none) := by
        show _ = _
        rw [HRN.out, runK_succ, if_neg hn, hm, slot_nat, show nx s (j : Int) = (s.slots.getD j zeroSlt).next by unfold nx; rw [Int.toNat_natCast]]
        simp only [true_and]
      have HSL := hidS (fun W (h : Below w.heap.size w W) => (HR.out.slots.later h).slot hj)
      generalize s.slots.getD j zeroSlt = x at HRN2 HSL hkk
      obtain ⟨K, hK1⟩ : ∃ K : Nat, x.key = (K : Int) := ⟨x.key.toNat, by omega⟩
      have hK2 : K < 1000 := by omega
      have hKK : (0 : Int) ≤ (K : Int) ∧ (K : Int) < 1000 := by omega
      rw [hK1] at HSL HRN2
      have HK1 := hidS hK1
      clear hn hm hin hkk hK1 HRN
      go_wp2_with fail
      refine (HE.out _).mono ?_
      rintro _ v ⟨rfl, hv⟩
      rw [hv]
      clear hv v
      go_wp2_with fail
      refine (HM.out _ HB2.out).mono ?_
      rintro _ w3 ⟨rfl, hb3⟩
      have hB3 := hidS (HB2.out.trans (hb3.mono HB2.out.size))
      have hA3 := hidS (blk_later HA2.out hb3)
      have hG3 := hidS (blk_later HG2.out hb3)
      clear hb3 a0 a1 HA2 HG2 HB2
      obtain ⟨b', o', eS, lS, c0, c1, c2, c3⟩ := HSL.out w3 hB3.out
      injection eS with eS; injection eS with eS1 eS2
      subst eS1 eS2
      have a0 := blk_cell hA3.out 0
      simp at a0
      have gk := blk_cell hG3.out K
      rw [boolCells_get 1000 sn K hK2] at gk
      by_cases hs : (K : Int) ∈ sn
      · have hd : decide ((K : Int) ∈ sn) = true := decide_eq_true hs
        rw [hd] at gk
        have EN : Hid (chainsK s s.heads.length 0 [] = false) := by
          show _ = _
          rw [HST.out, HRN2.out, if_neg (by simpa using hs)]
        clear hs hd HRN2 HST HU
        go_wp2_with fail
        try rw [Exit.noGoto_ret]
        go_ret
        exact ⟨by rw [EN.out]; rfl, hB3.out⟩
      · have hd : decide ((K : Int) ∈ sn) = false := decide_eq_false hs
        rw [hd] at gk
        have HRN3 : Hid (res = runK s c f ((K : Int) :: sn) x.next) := by show _ = _; rw [HRN2.out, if_pos hs]
        have HU2 : Hid (unseen ((K : Int) :: sn) < f) := by
          show _ < _
          have := unseen_step hK2 hs
          have := HU.out
          omega
        have fg := blk_free hG3.out
        have hG4 : Hid ((w3.setCell ⟨w.heap.size + 1, K, none⟩ (.bool true)).heap[w.heap.size + 1]? = some (.cells (boolCells 1000 ((K : Int) :: sn)) 131)) := by
          show _ = _
          rw [← boolCells_set]
          exact blk_set hG3.out K (.bool true)
        have hA4 := hidS ((Below.heap_setCell w3 ⟨w.heap.size + 1, K, none⟩ (.bool true) w.heap.size (show w.heap.size ≠ w.heap.size + 1 by omega)).trans hA3.out)
        have hB4 := hidS (below_at (k := K) (b := w.heap.size + 1) (v := .bool true) hB3.out (by omega))
        clear hs hd HRN2 HU
        go_upto_region 10 with fail
        generalize w3.setCell ⟨w.heap.size + 1, K, none⟩ (.bool true) = w4 at hG4 hA4 hB4 ⊢
        clear c0 c1 c2 c3 a0 gk fg hG3 hA3 hB3
        obtain ⟨b', o', eS, lS', c0, c1, c2, c3⟩ := HSL.out w4 hB4.out
        injection eS with eS; injection eS with eS1 eS2
        subst eS1 eS2
        have a0 := blk_cell hA4.out 0
        simp at a0
        go_wp2_with fail
        go_roundg f
        case measure => omega
        case rel => exact ⟨x.next, (K : Int) :: sn, rfl, rfl, HRN3.out, HU2.out, hA4.out, hG4.out, hB4.out⟩
set_option maxHeartbeats 2000000 in
theorem implSlabRight_any (aS aH : Option Addr) (cS cH : Nat) (s : Slb) (w : World) (hR : SlabZ aS aH s w) (hF : SlabFit s) (h1 : s.slots.length ≤ 1048576) (h2 : s.heads.length ≤ 1048576) :
    Calls Try.prog 45 #[.agg #[.slice aS s.slots.length cS, .slice aH s.heads.length cH]] w fun e w' => e = .returned (.bool (rightSl s)) ∧ Below w.heap.size w w' := by
  rw [right_keys]
  have hA0 := hidS (heap_newG w (.cells #[.slice aS s.slots.length cS, .slice aH s.heads.length cH] 26))
  have hb0 := hidS ((Below.refl w.heap.size w).alloc (Nat.le_refl _) (.cells #[.slice aS s.slots.length cS, .slice aH s.heads.length cH] 26))
  by_cases hs1 : ¬ 1 ≤ s.slots.length
  · have hz : sizesB s = false := by unfold sizesB; simp; omega
    rw [hz]
    have hl : (s.slots.length : Int) < 1 := by omega
    clear hs1 hz
    go_enter Try.func45, Try.ntmps45
    go_wp2_with fail
    go_quiet (fail)
    go_wp2_with fail
    go_ret
    exact ⟨rfl, below_drewN hb0.out _⟩
  have hs1 := Classical.not_not.1 hs1
  have hl1 : ¬ (s.slots.length : Int) < 1 := by omega
  by_cases hs2 : ¬ s.slots.length ≤ 24
  · have hz : sizesB s = false := by unfold sizesB; simp; omega
    rw [hz]
    have hl : (24 : Int) < (s.slots.length : Int) := by omega
    clear hs2 hz
    go_enter Try.func45, Try.ntmps45
    go_wp2_with fail
    go_quiet (fail)
    go_wp2_with fail
    go_ret
    exact ⟨rfl, below_drewN hb0.out _⟩
  have hs2 := Classical.not_not.1 hs2
  have hl2 : ¬ (24 : Int) < (s.slots.length : Int) := by omega
  by_cases hs3 : ¬ 1 ≤ s.heads.length
  · have hz : sizesB s = false := by unfold sizesB; simp; omega
    rw [hz]
    have hl : (s.heads.length : Int) < 1 := by omega
    clear hs3 hz
    go_enter Try.func45, Try.ntmps45
    go_wp2_with fail
    go_quiet (fail)
    go_wp2_with fail
    go_ret
    exact ⟨rfl, below_drewN hb0.out _⟩
  have hs3 := Classical.not_not.1 hs3
  have hl3 : ¬ (s.heads.length : Int) < 1 := by omega
  by_cases hs4 : ¬ s.heads.length ≤ 4
  · have hz : sizesB s = false := by unfold sizesB; simp; omega
    rw [hz]
    have hl : (4 : Int) < (s.heads.length : Int) := by omega
    clear hs4 hz
    go_enter Try.func45, Try.ntmps45
    go_wp2_with fail
    go_quiet (fail)
    go_wp2_with fail
    go_ret
    exact ⟨rfl, below_drewN hb0.out _⟩
  have hs4 := Classical.not_not.1 hs4
  have hl4 : ¬ (4 : Int) < (s.heads.length : Int) := by omega
  have hz : sizesB s = true := by unfold sizesB; simp; omega
  rw [hz, Bool.true_and]
  have HSL := hidS (fun W (h : Below w.heap.size w W) => slotsRight_any aS aH cS cH s W (hR.later h) hF hs1 h1 h2)
  have HCH := hidS (fun (ha : slotsA s = true) W (h : Below w.heap.size w W) => chainsRight_any aS aH cS cH s W (hR.later h) ha hz)
  clear hR hF hz hs1 hs2 hs3 hs4
  generalize chainsK s s.heads.length 0 [] = q2 at HCH ⊢
  cases ha : slotsA s
  · rw [ha] at HSL
    clear ha
    go_enter Try.func45, Try.ntmps45
    go_wp2_with fail
    go_quiet (fail)
    go_wp2_with fail
    refine (HSL.out _ (below_drewN hb0.out _)).mono ?_
    rintro _ w1 ⟨rfl, hb1⟩
    have hB1 := hidS ((below_drewN hb0.out _).trans (hb1.mono (below_drewN hb0.out _).size))
    clear hb1
    go_wp2_with fail
    go_ret
    exact ⟨rfl, hB1.out⟩
  · rw [ha] at HSL
    have HCH2 := hidS (HCH.out ha)
    clear ha HCH
    go_enter Try.func45, Try.ntmps45
    go_wp2_with fail
    go_quiet (fail)
    go_wp2_with fail
    refine (HSL.out _ (below_drewN hb0.out _)).mono ?_
    rintro _ w1 ⟨rfl, hb1⟩
    have hB1 := hidS ((below_drewN hb0.out _).trans (hb1.mono (below_drewN hb0.out _).size))
    have hA1 := hidS ((hb1.block w.heap.size (by simp)).trans hA0.out)
    clear hb1
    have a0 := blk_cell hA1.out 0
    have a1 := blk_cell hA1.out 1
    simp at a0 a1
    go_wp2_with fail
    refine (HCH2.out _ hB1.out).mono ?_
    rintro _ w2 ⟨rfl, hb2⟩
    have hB2 := hidS (hB1.out.trans (hb2.mono hB1.out.size))
    clear hb2 a0 a1
    go_wp2_with fail
    go_ret
    exact ⟨by simp, hB2.out⟩
end Go.Proofs.Ytfjgofmjhccdkaa
end

section
namespace Go.Proofs.Ytfjgofmjhccdkaa
open Go.ChangeShapes Go.WideShapes Go.ChangeAt Go.RowKit
set_option linter.unusedVariables false
set_option linter.unusedSimpArgs false
set_option maxRecDepth 100000

theorem right_leads {s : Slb} (h : rightSl s = true) : Leads s ∧ 1 ≤ s.slots.length ∧ s.slots.length ≤ 24 ∧ 1 ≤ s.heads.length ∧ s.heads.length ≤ 4 := by
  unfold rightSl at h
  exact slotsB_leads (Bool.and_eq_true _ _ ▸ h).1
end Go.Proofs.Ytfjgofmjhccdkaa
end

section
namespace Go.Proofs.Ytfjgofmjhccdkaa
open Go.ChangeShapes Go.WideShapes Go.ChangeAt Go.RowKit
set_option linter.unusedVariables false
set_option linter.unusedSimpArgs false
set_option maxRecDepth 100000

/-- the first of these slots whose key it is -/
def findL (s : Slb) (key : Int) : List Int → Int
  | [] => -1
  | n :: l => if (slotN s n).key = key then n else findL s key l
def findSl (s : Slb) (key : Int) : Int := findL s key (chainOf s (key.tmod s.heads.length)).1
end Go.Proofs.Ytfjgofmjhccdkaa
end
