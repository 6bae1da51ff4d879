/- Proved here: impl.isPlace, isOutcome and WalkRight answer as the plain functions; all old memory stays (conditions: the slab's rows can be read; numbers of int64). -/
import Derived.Test.YtfjgofmjhccdkaaAll11
import Derived.Test.YtfjgofmjhccdkaaSlabPutI
import Derived.Test.YtfjgofmjhccdkaaAll8
namespace Go.Proofs.Ytfjgofmjhccdkaa
open Go.ChangeShapes Go.WideShapes Go.ChangeAt Go.RowKit
set_option linter.unusedVariables false
set_option linter.unusedSimpArgs false
set_option maxRecDepth 100000

/-- numbers of int64 -/
def fitW (k : Wlk) : Prop := fitZ k.key ∧ fitZ k.cur ∧ fitZ k.stage ∧ fitZ k.state ∧ fitZ k.slot ∧ fitZ k.gen ∧ fitZ k.steps
set_option maxHeartbeats 4000000 in
theorem isPlace_any (aS aH : Option Addr) (cS cH : Nat) (s : Slb) (c st : Int) (w : World) (hR : SlabZ aS aH s w) (hr : rightSl s = true) (hc : fitZ c) :
    Calls Try.prog 62 #[.agg #[.slice aS s.slots.length cS, .slice aH s.heads.length cH], .int .i64 c, .int .i64 st] w fun e w' => e = .returned (.bool (placeB s c st)) ∧ Below w.heap.size w w' := by
  obtain ⟨_, n1, n2, n3, n4⟩ := right_leads hr
  have HL := hidS (fun W => isLink_any aS aH s.slots.length cS s.heads.length cH c W hc (by omega) (by omega))
  have HI := hidS (fun W => isSlot_any aS aH s.slots.length cS s.heads.length cH c W (by omega))
  clear hc
  by_cases h0 : st = 0
  · subst h0
    have E : Hid (placeB s c 0 = nextB s.slots.length s.heads.length c) := by show _ = _; unfold placeB; rw [if_pos rfl]
    rw [E.out]
    generalize nextB s.slots.length s.heads.length c = q at HL ⊢
    clear E hR HI
    have hGA0 : Hid ((w.alloc (.cells #[.slice aS s.slots.length cS, .slice aH s.heads.length cH] 26)).heap[w.heap.size]? = some (.cells #[.slice aS s.slots.length cS, .slice aH s.heads.length cH] 26)) := by
      show _ = _
      have := heap_newG w (.cells #[.slice aS s.slots.length cS, .slice aH s.heads.length cH] 26)
      simpa using this
    have hL0 := hidS ((Below.refl w.heap.size w).alloc (Nat.le_refl _) (.cells #[.slice aS s.slots.length cS, .slice aH s.heads.length cH] 26))
    go_enter Try.func62, Try.ntmps62
    go_wp2_with fail
    refine (HL.out _).mono ?_
    rintro _ w1 ⟨rfl, hb1⟩
    have hGA1 := hidS (blk_later hGA0.out hb1)
    have hL1 := hidS (hL0.out.trans (hb1.mono hL0.out.size))
    clear hb1 hL0 hGA0
    have cA0 := blk_cell hGA1.out 0
    have cA1 := blk_cell hGA1.out 1
    simp at cA0 cA1
    go_wp2_with fail
    go_ret
    exact ⟨rfl, hL1.out⟩
  have b0 : (st == 0) = false := beq_eq_false_iff_ne.2 h0
  by_cases h1 : st = 1
  · subst h1
    have E : Hid (placeB s c 1 = inB s.slots.length c) := by show _ = _; unfold placeB; rw [if_neg (by decide), if_pos rfl]
    rw [E.out]
    generalize inB s.slots.length c = q at HI ⊢
    clear E hR HL h0 b0
    have hGA0 : Hid ((w.alloc (.cells #[.slice aS s.slots.length cS, .slice aH s.heads.length cH] 26)).heap[w.heap.size]? = some (.cells #[.slice aS s.slots.length cS, .slice aH s.heads.length cH] 26)) := by
      show _ = _
      have := heap_newG w (.cells #[.slice aS s.slots.length cS, .slice aH s.heads.length cH] 26)
      simpa using this
    have hL0 := hidS ((Below.refl w.heap.size w).alloc (Nat.le_refl _) (.cells #[.slice aS s.slots.length cS, .slice aH s.heads.length cH] 26))
    go_enter Try.func62, Try.ntmps62
    go_wp2_with fail
    refine (HI.out _).mono ?_
    rintro _ w1 ⟨rfl, hb1⟩
    have hGA1 := hidS (blk_later hGA0.out hb1)
    have hL1 := hidS (hL0.out.trans (hb1.mono hL0.out.size))
    clear hb1 hL0 hGA0
    have cA0 := blk_cell hGA1.out 0
    have cA1 := blk_cell hGA1.out 1
    simp at cA0 cA1
    go_wp2_with fail
    go_ret
    exact ⟨rfl, hL1.out⟩
  have b1 : (st == 1) = false := beq_eq_false_iff_ne.2 h1
  by_cases h2 : st = 2
  case neg =>
    have b2 : (st == 2) = false := beq_eq_false_iff_ne.2 h2
    have E : Hid (placeB s c st = false) := by show _ = _; unfold placeB; rw [if_neg h0, if_neg h1, if_neg h2]
    rw [E.out]
    clear E hR HL HI
    have hGA0 : Hid ((w.alloc (.cells #[.slice aS s.slots.length cS, .slice aH s.heads.length cH] 26)).heap[w.heap.size]? = some (.cells #[.slice aS s.slots.length cS, .slice aH s.heads.length cH] 26)) := by
      show _ = _
      have := heap_newG w (.cells #[.slice aS s.slots.length cS, .slice aH s.heads.length cH] 26)
      simpa using this
    have hL0 := hidS ((Below.refl w.heap.size w).alloc (Nat.le_refl _) (.cells #[.slice aS s.slots.length cS, .slice aH s.heads.length cH] 26))
    go_enter Try.func62, Try.ntmps62
    go_wp2_with fail
    go_ret
    exact ⟨rfl, hL0.out⟩
  subst h2
  clear h0 h1 b0 b1 HL
  have E0 : Hid (placeB s c 2 = (inB s.slots.length c && (decide (2 ≤ (slotN s c).refs) || (decide ((slotN s c).refs = 1) && !linkedB s c)))) := by show _ = _; unfold placeB; rw [if_neg (by decide), if_neg (by decide), if_pos rfl]
  cases hi : inB s.slots.length c
  · have E : Hid (placeB s c 2 = false) := by show _ = _; rw [E0.out, hi]; rfl
    rw [E.out]
    rw [hi] at HI
    clear E E0 hR hi
    have hGA0 : Hid ((w.alloc (.cells #[.slice aS s.slots.length cS, .slice aH s.heads.length cH] 26)).heap[w.heap.size]? = some (.cells #[.slice aS s.slots.length cS, .slice aH s.heads.length cH] 26)) := by
      show _ = _
      have := heap_newG w (.cells #[.slice aS s.slots.length cS, .slice aH s.heads.length cH] 26)
      simpa using this
    have hL0 := hidS ((Below.refl w.heap.size w).alloc (Nat.le_refl _) (.cells #[.slice aS s.slots.length cS, .slice aH s.heads.length cH] 26))
    go_enter Try.func62, Try.ntmps62
    go_wp2_with fail
    refine (HI.out _).mono ?_
    rintro _ w1 ⟨rfl, hb1⟩
    have hGA1 := hidS (blk_later hGA0.out hb1)
    have hL1 := hidS (hL0.out.trans (hb1.mono hL0.out.size))
    clear hb1 hL0 hGA0
    have cA0 := blk_cell hGA1.out 0
    have cA1 := blk_cell hGA1.out 1
    simp at cA0 cA1
    go_wp2_with fail
    go_ret
    exact ⟨rfl, hL1.out⟩
  rw [hi] at HI
  obtain ⟨C, rfl, hC⟩ : ∃ C : Nat, c = (C : Int) ∧ C < s.slots.length := by
    unfold inB at hi; simp at hi; exact ⟨c.toNat, by omega, by omega⟩
  have hCC : (0 : Int) ≤ (C : Int) ∧ (C : Int) < (s.slots.length : Int) := by omega
  obtain ⟨bS, oS, rfl, _⟩ := hR.slots.slot hC
  obtain ⟨bH, oH, rfl, _⟩ := hR.heads 0 (by omega)
  have HK := hidS (fun W (h : Below w.heap.size w W) => isLinked_any bS oS bH oH cS cH s C W (hR.later h) hr hC)
  have hx0 := refs_nat hr hC
  obtain ⟨x, hx⟩ : ∃ x, s.slots.getD C zeroSlt = x := ⟨_, rfl⟩
  rw [slot_nat, hx, hi] at E0
  rw [hx] at hx0
  have HSL : Hid (∀ W, Below w.heap.size w W → bS < W.heap.size ∧ W.cell? ⟨bS, oS + C * 4 + 2, none⟩ = some (.int .i64 x.refs)) := hidS (fun W h => by
    obtain ⟨b', o', eS, lS, c0, c1, c2, c3⟩ := (hR.slots.later h).slot hC
    injection eS with eS; injection eS with eS1 eS2
    subst eS1 eS2
    rw [hx] at c2
    exact ⟨lS, c2⟩)
  generalize linkedB s (C : Int) = q at HK E0
  rw [E0.out]
  clear E0 hR hr hi hx
  generalize x.refs = r at *
  by_cases g2 : 2 ≤ r
  · have g2' : r ≥ 2 := g2
    have E : Hid ((true && (decide (2 ≤ r) || (decide (r = 1) && !q))) = true) := by show _ = _; simp [g2]
    rw [E.out]
    clear E
    have hGA0 : Hid ((w.alloc (.cells #[.slice (some ⟨bS, oS, none⟩) s.slots.length cS, .slice (some ⟨bH, oH, none⟩) s.heads.length cH] 26)).heap[w.heap.size]? = some (.cells #[.slice (some ⟨bS, oS, none⟩) s.slots.length cS, .slice (some ⟨bH, oH, none⟩) s.heads.length cH] 26)) := by
      show _ = _
      have := heap_newG w (.cells #[.slice (some ⟨bS, oS, none⟩) s.slots.length cS, .slice (some ⟨bH, oH, none⟩) s.heads.length cH] 26)
      simpa using this
    have hL0 := hidS ((Below.refl w.heap.size w).alloc (Nat.le_refl _) (.cells #[.slice (some ⟨bS, oS, none⟩) s.slots.length cS, .slice (some ⟨bH, oH, none⟩) s.heads.length cH] 26))
    go_enter Try.func62, Try.ntmps62
    go_wp2_with fail
    refine (HI.out _).mono ?_
    rintro _ w1 ⟨rfl, hb1⟩
    have hGA1 := hidS (blk_later hGA0.out hb1)
    have hL1 := hidS (hL0.out.trans (hb1.mono hL0.out.size))
    clear hb1 hL0 hGA0
    obtain ⟨lS, c2⟩ := HSL.out _ hL1.out
    have cA0 := blk_cell hGA1.out 0
    have cA1 := blk_cell hGA1.out 1
    simp at cA0 cA1
    go_wp2_with fail
    go_ret
    exact ⟨rfl, hL1.out⟩
  have g2' : r < 2 := by omega
  by_cases g1 : r = 1
  case neg =>
    have b1 : (r == 1) = false := beq_eq_false_iff_ne.2 g1
    have E : Hid ((true && (decide (2 ≤ r) || (decide (r = 1) && !q))) = false) := by show _ = _; simp [g2, g1]
    rw [E.out]
    clear E
    have hGA0 : Hid ((w.alloc (.cells #[.slice (some ⟨bS, oS, none⟩) s.slots.length cS, .slice (some ⟨bH, oH, none⟩) s.heads.length cH] 26)).heap[w.heap.size]? = some (.cells #[.slice (some ⟨bS, oS, none⟩) s.slots.length cS, .slice (some ⟨bH, oH, none⟩) s.heads.length cH] 26)) := by
      show _ = _
      have := heap_newG w (.cells #[.slice (some ⟨bS, oS, none⟩) s.slots.length cS, .slice (some ⟨bH, oH, none⟩) s.heads.length cH] 26)
      simpa using this
    have hL0 := hidS ((Below.refl w.heap.size w).alloc (Nat.le_refl _) (.cells #[.slice (some ⟨bS, oS, none⟩) s.slots.length cS, .slice (some ⟨bH, oH, none⟩) s.heads.length cH] 26))
    go_enter Try.func62, Try.ntmps62
    go_wp2_with fail
    refine (HI.out _).mono ?_
    rintro _ w1 ⟨rfl, hb1⟩
    have hGA1 := hidS (blk_later hGA0.out hb1)
    have hL1 := hidS (hL0.out.trans (hb1.mono hL0.out.size))
    clear hb1 hL0 hGA0
    obtain ⟨lS, c2⟩ := HSL.out _ hL1.out
    have cA0 := blk_cell hGA1.out 0
    have cA1 := blk_cell hGA1.out 1
    simp at cA0 cA1
    go_wp2_with fail
    go_ret
    exact ⟨by simp [g2], hL1.out⟩
  subst g1
  have E : Hid ((true && (decide (2 ≤ (1 : Int)) || (decide ((1 : Int) = 1) && !q))) = !q) := by show _ = _; cases q <;> rfl
  rw [E.out]
  clear E
  have hGA0 : Hid ((w.alloc (.cells #[.slice (some ⟨bS, oS, none⟩) s.slots.length cS, .slice (some ⟨bH, oH, none⟩) s.heads.length cH] 26)).heap[w.heap.size]? = some (.cells #[.slice (some ⟨bS, oS, none⟩) s.slots.length cS, .slice (some ⟨bH, oH, none⟩) s.heads.length cH] 26)) := by
    show _ = _
    have := heap_newG w (.cells #[.slice (some ⟨bS, oS, none⟩) s.slots.length cS, .slice (some ⟨bH, oH, none⟩) s.heads.length cH] 26)
    simpa using this
  have hL0 := hidS ((Below.refl w.heap.size w).alloc (Nat.le_refl _) (.cells #[.slice (some ⟨bS, oS, none⟩) s.slots.length cS, .slice (some ⟨bH, oH, none⟩) s.heads.length cH] 26))
  go_enter Try.func62, Try.ntmps62
  go_wp2_with fail
  refine (HI.out _).mono ?_
  rintro _ w1 ⟨rfl, hb1⟩
  have hGA1 := hidS (blk_later hGA0.out hb1)
  have hL1 := hidS (hL0.out.trans (hb1.mono hL0.out.size))
  clear hb1 hL0 hGA0
  obtain ⟨lS, c2⟩ := HSL.out _ hL1.out
  have cA0 := blk_cell hGA1.out 0
  have cA1 := blk_cell hGA1.out 1
  simp at cA0 cA1
  go_wp2_with fail
  refine (HK.out _ hL1.out).mono ?_
  rintro _ w2 ⟨rfl, hb2⟩
  clear cA0 cA1
  have hGA2 := hidS (blk_later hGA1.out hb2)
  have hL2 := hidS (hL1.out.trans (hb2.mono hL1.out.size))
  clear hb2 hL1 hGA1
  clear lS c2
  have cA0 := blk_cell hGA2.out 0
  have cA1 := blk_cell hGA2.out 1
  simp at cA0 cA1
  go_wp2_with fail
  go_ret
  exact ⟨rfl, hL2.out⟩
set_option maxHeartbeats 4000000 in
theorem isOutcome_any (aS aH : Option Addr) (cS cH : Nat) (s : Slb) (k : Wlk) (w : World) (h1 : s.slots.length ≤ 1048576) :
    Calls Try.prog 63 #[.agg #[.slice aS s.slots.length cS, .slice aH s.heads.length cH], .agg #[.int .i64 k.key, .int .i64 k.cur, .int .i64 k.stage, .int .i64 k.state, .int .i64 k.slot, .int .i64 k.gen, .int .i64 k.steps]] w fun e w' => e = .returned (.bool (outB s k)) ∧ Below w.heap.size w w' := by
  obtain ⟨key, cur, stage, state, slot, gen, steps⟩ := k
  show Calls Try.prog 63 #[.agg #[.slice aS s.slots.length cS, .slice aH s.heads.length cH], .agg #[.int .i64 key, .int .i64 cur, .int .i64 stage, .int .i64 state, .int .i64 slot, .int .i64 gen, .int .i64 steps]] w _
  have HI := hidS (fun W => isSlot_any aS aH s.slots.length cS s.heads.length cH slot W h1)
  have HT := hidS (fun (b c : Nat) (W : World) (h : W.heap[b]? = some (.cells #[.int .i64 gen] 2)) => areTimes_any (some ⟨b, 0, none⟩) c [gen] W (rowB_new (zs := [gen]) h).read (by simp))
  have ET : Hid (allT [gen] = timeB gen) := by show _ = _; unfold allT; simp
  rw [ET.out] at HT
  clear ET
  by_cases s0 : state = 0
  · subst s0
    have E : Hid (outB s ⟨key, cur, stage, 0, slot, gen, steps⟩ = (decide (slot = 0) && decide (gen = 0))) := by show _ = _; unfold outB; rw [if_pos (by simp)]
    rw [E.out]
    clear E HI HT
    by_cases z : slot = 0
    · subst z
      have E : Hid ((decide ((0 : Int) = 0) && decide (gen = 0)) = (gen == 0)) := by show _ = _; by_cases h : gen = 0 <;> simp [h]
      rw [E.out]
      clear E
      have hGA0 : Hid (((w.alloc (.cells #[.slice aS s.slots.length cS, .slice aH s.heads.length cH] 26)).alloc (.cells #[.int .i64 key, .int .i64 cur, .int .i64 stage, .int .i64 0, .int .i64 0, .int .i64 gen, .int .i64 steps] 30)).heap[w.heap.size]? = some (.cells #[.slice aS s.slots.length cS, .slice aH s.heads.length cH] 26)) := by
        show _ = _
        have := blk_alloc (heap_newG w (.cells #[.slice aS s.slots.length cS, .slice aH s.heads.length cH] 26)) (.cells #[.int .i64 key, .int .i64 cur, .int .i64 stage, .int .i64 0, .int .i64 0, .int .i64 gen, .int .i64 steps] 30)
        simpa using this
      have hGK0 : Hid (((w.alloc (.cells #[.slice aS s.slots.length cS, .slice aH s.heads.length cH] 26)).alloc (.cells #[.int .i64 key, .int .i64 cur, .int .i64 stage, .int .i64 0, .int .i64 0, .int .i64 gen, .int .i64 steps] 30)).heap[w.heap.size + 1]? = some (.cells #[.int .i64 key, .int .i64 cur, .int .i64 stage, .int .i64 0, .int .i64 0, .int .i64 gen, .int .i64 steps] 30)) := by
        show _ = _
        have := heap_newG (w.alloc (.cells #[.slice aS s.slots.length cS, .slice aH s.heads.length cH] 26)) (.cells #[.int .i64 key, .int .i64 cur, .int .i64 stage, .int .i64 0, .int .i64 0, .int .i64 gen, .int .i64 steps] 30)
        simpa using this
      have hL0 := hidS (((Below.refl w.heap.size w).alloc (Nat.le_refl _) (.cells #[.slice aS s.slots.length cS, .slice aH s.heads.length cH] 26)).alloc (by simp) (.cells #[.int .i64 key, .int .i64 cur, .int .i64 stage, .int .i64 0, .int .i64 0, .int .i64 gen, .int .i64 steps] 30))
      go_enter Try.func63, Try.ntmps63
      go_wp2_with fail
      go_ret
      exact ⟨rfl, hL0.out⟩
    · have bz : (slot == 0) = false := beq_eq_false_iff_ne.2 z
      have E : Hid ((decide (slot = 0) && decide (gen = 0)) = false) := by show _ = _; simp [z]
      rw [E.out]
      clear E
      have hGA0 : Hid (((w.alloc (.cells #[.slice aS s.slots.length cS, .slice aH s.heads.length cH] 26)).alloc (.cells #[.int .i64 key, .int .i64 cur, .int .i64 stage, .int .i64 0, .int .i64 slot, .int .i64 gen, .int .i64 steps] 30)).heap[w.heap.size]? = some (.cells #[.slice aS s.slots.length cS, .slice aH s.heads.length cH] 26)) := by
        show _ = _
        have := blk_alloc (heap_newG w (.cells #[.slice aS s.slots.length cS, .slice aH s.heads.length cH] 26)) (.cells #[.int .i64 key, .int .i64 cur, .int .i64 stage, .int .i64 0, .int .i64 slot, .int .i64 gen, .int .i64 steps] 30)
        simpa using this
      have hGK0 : Hid (((w.alloc (.cells #[.slice aS s.slots.length cS, .slice aH s.heads.length cH] 26)).alloc (.cells #[.int .i64 key, .int .i64 cur, .int .i64 stage, .int .i64 0, .int .i64 slot, .int .i64 gen, .int .i64 steps] 30)).heap[w.heap.size + 1]? = some (.cells #[.int .i64 key, .int .i64 cur, .int .i64 stage, .int .i64 0, .int .i64 slot, .int .i64 gen, .int .i64 steps] 30)) := by
        show _ = _
        have := heap_newG (w.alloc (.cells #[.slice aS s.slots.length cS, .slice aH s.heads.length cH] 26)) (.cells #[.int .i64 key, .int .i64 cur, .int .i64 stage, .int .i64 0, .int .i64 slot, .int .i64 gen, .int .i64 steps] 30)
        simpa using this
      have hL0 := hidS (((Below.refl w.heap.size w).alloc (Nat.le_refl _) (.cells #[.slice aS s.slots.length cS, .slice aH s.heads.length cH] 26)).alloc (by simp) (.cells #[.int .i64 key, .int .i64 cur, .int .i64 stage, .int .i64 0, .int .i64 slot, .int .i64 gen, .int .i64 steps] 30))
      go_enter Try.func63, Try.ntmps63
      go_wp2_with fail
      go_ret
      exact ⟨rfl, hL0.out⟩
  have b0 : (state == 0) = false := beq_eq_false_iff_ne.2 s0
  by_cases s2 : state = 2
  · subst s2
    have E : Hid (outB s ⟨key, cur, stage, 2, slot, gen, steps⟩ = (decide (slot = 0) && decide (gen = 0))) := by show _ = _; unfold outB; rw [if_pos (by simp)]
    rw [E.out]
    clear E HI HT
    by_cases z : slot = 0
    · subst z
      have E : Hid ((decide ((0 : Int) = 0) && decide (gen = 0)) = (gen == 0)) := by show _ = _; by_cases h : gen = 0 <;> simp [h]
      rw [E.out]
      clear E
      have hGA0 : Hid (((w.alloc (.cells #[.slice aS s.slots.length cS, .slice aH s.heads.length cH] 26)).alloc (.cells #[.int .i64 key, .int .i64 cur, .int .i64 stage, .int .i64 2, .int .i64 0, .int .i64 gen, .int .i64 steps] 30)).heap[w.heap.size]? = some (.cells #[.slice aS s.slots.length cS, .slice aH s.heads.length cH] 26)) := by
        show _ = _
        have := blk_alloc (heap_newG w (.cells #[.slice aS s.slots.length cS, .slice aH s.heads.length cH] 26)) (.cells #[.int .i64 key, .int .i64 cur, .int .i64 stage, .int .i64 2, .int .i64 0, .int .i64 gen, .int .i64 steps] 30)
        simpa using this
      have hGK0 : Hid (((w.alloc (.cells #[.slice aS s.slots.length cS, .slice aH s.heads.length cH] 26)).alloc (.cells #[.int .i64 key, .int .i64 cur, .int .i64 stage, .int .i64 2, .int .i64 0, .int .i64 gen, .int .i64 steps] 30)).heap[w.heap.size + 1]? = some (.cells #[.int .i64 key, .int .i64 cur, .int .i64 stage, .int .i64 2, .int .i64 0, .int .i64 gen, .int .i64 steps] 30)) := by
        show _ = _
        have := heap_newG (w.alloc (.cells #[.slice aS s.slots.length cS, .slice aH s.heads.length cH] 26)) (.cells #[.int .i64 key, .int .i64 cur, .int .i64 stage, .int .i64 2, .int .i64 0, .int .i64 gen, .int .i64 steps] 30)
        simpa using this
      have hL0 := hidS (((Below.refl w.heap.size w).alloc (Nat.le_refl _) (.cells #[.slice aS s.slots.length cS, .slice aH s.heads.length cH] 26)).alloc (by simp) (.cells #[.int .i64 key, .int .i64 cur, .int .i64 stage, .int .i64 2, .int .i64 0, .int .i64 gen, .int .i64 steps] 30))
      go_enter Try.func63, Try.ntmps63
      go_wp2_with fail
      go_ret
      exact ⟨rfl, hL0.out⟩
    · have bz : (slot == 0) = false := beq_eq_false_iff_ne.2 z
      have E : Hid ((decide (slot = 0) && decide (gen = 0)) = false) := by show _ = _; simp [z]
      rw [E.out]
      clear E
      have hGA0 : Hid (((w.alloc (.cells #[.slice aS s.slots.length cS, .slice aH s.heads.length cH] 26)).alloc (.cells #[.int .i64 key, .int .i64 cur, .int .i64 stage, .int .i64 2, .int .i64 slot, .int .i64 gen, .int .i64 steps] 30)).heap[w.heap.size]? = some (.cells #[.slice aS s.slots.length cS, .slice aH s.heads.length cH] 26)) := by
        show _ = _
        have := blk_alloc (heap_newG w (.cells #[.slice aS s.slots.length cS, .slice aH s.heads.length cH] 26)) (.cells #[.int .i64 key, .int .i64 cur, .int .i64 stage, .int .i64 2, .int .i64 slot, .int .i64 gen, .int .i64 steps] 30)
        simpa using this
      have hGK0 : Hid (((w.alloc (.cells #[.slice aS s.slots.length cS, .slice aH s.heads.length cH] 26)).alloc (.cells #[.int .i64 key, .int .i64 cur, .int .i64 stage, .int .i64 2, .int .i64 slot, .int .i64 gen, .int .i64 steps] 30)).heap[w.heap.size + 1]? = some (.cells #[.int .i64 key, .int .i64 cur, .int .i64 stage, .int .i64 2, .int .i64 slot, .int .i64 gen, .int .i64 steps] 30)) := by
        show _ = _
        have := heap_newG (w.alloc (.cells #[.slice aS s.slots.length cS, .slice aH s.heads.length cH] 26)) (.cells #[.int .i64 key, .int .i64 cur, .int .i64 stage, .int .i64 2, .int .i64 slot, .int .i64 gen, .int .i64 steps] 30)
        simpa using this
      have hL0 := hidS (((Below.refl w.heap.size w).alloc (Nat.le_refl _) (.cells #[.slice aS s.slots.length cS, .slice aH s.heads.length cH] 26)).alloc (by simp) (.cells #[.int .i64 key, .int .i64 cur, .int .i64 stage, .int .i64 2, .int .i64 slot, .int .i64 gen, .int .i64 steps] 30))
      go_enter Try.func63, Try.ntmps63
      go_wp2_with fail
      go_ret
      exact ⟨rfl, hL0.out⟩
  have b2 : (state == 2) = false := beq_eq_false_iff_ne.2 s2
  by_cases s1 : state = 1
  case neg =>
    have b1 : (state == 1) = false := beq_eq_false_iff_ne.2 s1
    have E : Hid (outB s ⟨key, cur, stage, state, slot, gen, steps⟩ = false) := by show _ = _; unfold outB; rw [if_neg (by simp [s0, s2]), if_neg s1]
    rw [E.out]
    clear E HI HT
    have hGA0 : Hid (((w.alloc (.cells #[.slice aS s.slots.length cS, .slice aH s.heads.length cH] 26)).alloc (.cells #[.int .i64 key, .int .i64 cur, .int .i64 stage, .int .i64 state, .int .i64 slot, .int .i64 gen, .int .i64 steps] 30)).heap[w.heap.size]? = some (.cells #[.slice aS s.slots.length cS, .slice aH s.heads.length cH] 26)) := by
      show _ = _
      have := blk_alloc (heap_newG w (.cells #[.slice aS s.slots.length cS, .slice aH s.heads.length cH] 26)) (.cells #[.int .i64 key, .int .i64 cur, .int .i64 stage, .int .i64 state, .int .i64 slot, .int .i64 gen, .int .i64 steps] 30)
      simpa using this
    have hGK0 : Hid (((w.alloc (.cells #[.slice aS s.slots.length cS, .slice aH s.heads.length cH] 26)).alloc (.cells #[.int .i64 key, .int .i64 cur, .int .i64 stage, .int .i64 state, .int .i64 slot, .int .i64 gen, .int .i64 steps] 30)).heap[w.heap.size + 1]? = some (.cells #[.int .i64 key, .int .i64 cur, .int .i64 stage, .int .i64 state, .int .i64 slot, .int .i64 gen, .int .i64 steps] 30)) := by
      show _ = _
      have := heap_newG (w.alloc (.cells #[.slice aS s.slots.length cS, .slice aH s.heads.length cH] 26)) (.cells #[.int .i64 key, .int .i64 cur, .int .i64 stage, .int .i64 state, .int .i64 slot, .int .i64 gen, .int .i64 steps] 30)
      simpa using this
    have hL0 := hidS (((Below.refl w.heap.size w).alloc (Nat.le_refl _) (.cells #[.slice aS s.slots.length cS, .slice aH s.heads.length cH] 26)).alloc (by simp) (.cells #[.int .i64 key, .int .i64 cur, .int .i64 stage, .int .i64 state, .int .i64 slot, .int .i64 gen, .int .i64 steps] 30))
    go_enter Try.func63, Try.ntmps63
    go_wp2_with fail
    go_ret
    exact ⟨rfl, hL0.out⟩
  subst s1
  clear s0 s2 b0 b2
  have E : Hid (outB s ⟨key, cur, stage, 1, slot, gen, steps⟩ = (inB s.slots.length slot && timeB gen)) := by show _ = _; unfold outB; rw [if_neg (by simp), if_pos rfl]
  rw [E.out]
  generalize inB s.slots.length slot = q1 at HI ⊢
  generalize timeB gen = q2 at HT ⊢
  clear E
  cases q1
  · have hGA0 : Hid (((w.alloc (.cells #[.slice aS s.slots.length cS, .slice aH s.heads.length cH] 26)).alloc (.cells #[.int .i64 key, .int .i64 cur, .int .i64 stage, .int .i64 1, .int .i64 slot, .int .i64 gen, .int .i64 steps] 30)).heap[w.heap.size]? = some (.cells #[.slice aS s.slots.length cS, .slice aH s.heads.length cH] 26)) := by
      show _ = _
      have := blk_alloc (heap_newG w (.cells #[.slice aS s.slots.length cS, .slice aH s.heads.length cH] 26)) (.cells #[.int .i64 key, .int .i64 cur, .int .i64 stage, .int .i64 1, .int .i64 slot, .int .i64 gen, .int .i64 steps] 30)
      simpa using this
    have hGK0 : Hid (((w.alloc (.cells #[.slice aS s.slots.length cS, .slice aH s.heads.length cH] 26)).alloc (.cells #[.int .i64 key, .int .i64 cur, .int .i64 stage, .int .i64 1, .int .i64 slot, .int .i64 gen, .int .i64 steps] 30)).heap[w.heap.size + 1]? = some (.cells #[.int .i64 key, .int .i64 cur, .int .i64 stage, .int .i64 1, .int .i64 slot, .int .i64 gen, .int .i64 steps] 30)) := by
      show _ = _
      have := heap_newG (w.alloc (.cells #[.slice aS s.slots.length cS, .slice aH s.heads.length cH] 26)) (.cells #[.int .i64 key, .int .i64 cur, .int .i64 stage, .int .i64 1, .int .i64 slot, .int .i64 gen, .int .i64 steps] 30)
      simpa using this
    have hL0 := hidS (((Below.refl w.heap.size w).alloc (Nat.le_refl _) (.cells #[.slice aS s.slots.length cS, .slice aH s.heads.length cH] 26)).alloc (by simp) (.cells #[.int .i64 key, .int .i64 cur, .int .i64 stage, .int .i64 1, .int .i64 slot, .int .i64 gen, .int .i64 steps] 30))
    go_enter Try.func63, Try.ntmps63
    go_wp2_with fail
    refine (HI.out _).mono ?_
    rintro _ w1 ⟨rfl, hb1⟩
    have hGA1 := hidS (blk_later hGA0.out hb1)
    have hGK1 := hidS (blk_later hGK0.out hb1)
    have hL1 := hidS (hL0.out.trans (hb1.mono hL0.out.size))
    clear hb1 hL0 hGA0 hGK0
    have cA0 := blk_cell hGA1.out 0
    have cA1 := blk_cell hGA1.out 1
    simp at cA0 cA1
    have cK0 := blk_cell hGK1.out 0
    have cK1 := blk_cell hGK1.out 1
    have cK2 := blk_cell hGK1.out 2
    have cK3 := blk_cell hGK1.out 3
    have cK4 := blk_cell hGK1.out 4
    have cK5 := blk_cell hGK1.out 5
    have cK6 := blk_cell hGK1.out 6
    simp at cK0 cK1 cK2 cK3 cK4 cK5 cK6
    go_wp2_with fail
    go_ret
    exact ⟨rfl, hL1.out⟩
  · have hGA0 : Hid (((w.alloc (.cells #[.slice aS s.slots.length cS, .slice aH s.heads.length cH] 26)).alloc (.cells #[.int .i64 key, .int .i64 cur, .int .i64 stage, .int .i64 1, .int .i64 slot, .int .i64 gen, .int .i64 steps] 30)).heap[w.heap.size]? = some (.cells #[.slice aS s.slots.length cS, .slice aH s.heads.length cH] 26)) := by
      show _ = _
      have := blk_alloc (heap_newG w (.cells #[.slice aS s.slots.length cS, .slice aH s.heads.length cH] 26)) (.cells #[.int .i64 key, .int .i64 cur, .int .i64 stage, .int .i64 1, .int .i64 slot, .int .i64 gen, .int .i64 steps] 30)
      simpa using this
    have hGK0 : Hid (((w.alloc (.cells #[.slice aS s.slots.length cS, .slice aH s.heads.length cH] 26)).alloc (.cells #[.int .i64 key, .int .i64 cur, .int .i64 stage, .int .i64 1, .int .i64 slot, .int .i64 gen, .int .i64 steps] 30)).heap[w.heap.size + 1]? = some (.cells #[.int .i64 key, .int .i64 cur, .int .i64 stage, .int .i64 1, .int .i64 slot, .int .i64 gen, .int .i64 steps] 30)) := by
      show _ = _
      have := heap_newG (w.alloc (.cells #[.slice aS s.slots.length cS, .slice aH s.heads.length cH] 26)) (.cells #[.int .i64 key, .int .i64 cur, .int .i64 stage, .int .i64 1, .int .i64 slot, .int .i64 gen, .int .i64 steps] 30)
      simpa using this
    have hL0 := hidS (((Below.refl w.heap.size w).alloc (Nat.le_refl _) (.cells #[.slice aS s.slots.length cS, .slice aH s.heads.length cH] 26)).alloc (by simp) (.cells #[.int .i64 key, .int .i64 cur, .int .i64 stage, .int .i64 1, .int .i64 slot, .int .i64 gen, .int .i64 steps] 30))
    go_enter Try.func63, Try.ntmps63
    go_wp2_with fail
    refine (HI.out _).mono ?_
    rintro _ w1 ⟨rfl, hb1⟩
    have hGA1 := hidS (blk_later hGA0.out hb1)
    have hGK1 := hidS (blk_later hGK0.out hb1)
    have hL1 := hidS (hL0.out.trans (hb1.mono hL0.out.size))
    clear hb1 hL0 hGA0 hGK0
    have cA0 := blk_cell hGA1.out 0
    have cA1 := blk_cell hGA1.out 1
    simp at cA0 cA1
    have cK0 := blk_cell hGK1.out 0
    have cK1 := blk_cell hGK1.out 1
    have cK2 := blk_cell hGK1.out 2
    have cK3 := blk_cell hGK1.out 3
    have cK4 := blk_cell hGK1.out 4
    have cK5 := blk_cell hGK1.out 5
    have cK6 := blk_cell hGK1.out 6
    simp at cK0 cK1 cK2 cK3 cK4 cK5 cK6
    have hY := heap_newG w1 (.cells #[.int .i64 gen] 2)
    go_wp2_with fail
    refine (HT.out w1.heap.size 1 _ hY).mono ?_
    rintro e w9 ⟨rfl, hw9⟩
    rw [hw9]
    clear hw9 w9
    go_wp2_with fail
    go_ret
    exact ⟨by simp, hL1.out.alloc hL1.out.size _⟩
set_option maxHeartbeats 8000000 in
theorem implWalkRight_any (aS aH : Option Addr) (cS cH : Nat) (s : Slb) (k : Wlk) (w : World) (hR : SlabZ aS aH s w) (hF : SlabFit s) (h1 : s.slots.length ≤ 1048576) (h2 : s.heads.length ≤ 1048576) (hk : fitW k) :
    Calls Try.prog 16 #[.agg #[.slice aS s.slots.length cS, .slice aH s.heads.length cH], .agg #[.int .i64 k.key, .int .i64 k.cur, .int .i64 k.stage, .int .i64 k.state, .int .i64 k.slot, .int .i64 k.gen, .int .i64 k.steps]] w fun e w' => e = .returned (.bool (wkRight s k)) ∧ Below w.heap.size w w' := by
  have HS := hidS (fun W (h : Below w.heap.size w W) => implSlabRight_any aS aH cS cH s W (hR.later h) hF h1 h2)
  cases hr : rightSl s
  · have E : Hid (wkRight s k = false) := by show _ = _; unfold wkRight; rw [hr]; rfl
    rw [E.out]
    rw [hr] at HS
    clear E hR hr
    have hGA0 : Hid (((w.alloc (.cells #[.slice aS s.slots.length cS, .slice aH s.heads.length cH] 26)).alloc (.cells #[.int .i64 k.key, .int .i64 k.cur, .int .i64 k.stage, .int .i64 k.state, .int .i64 k.slot, .int .i64 k.gen, .int .i64 k.steps] 30)).heap[w.heap.size]? = some (.cells #[.slice aS s.slots.length cS, .slice aH s.heads.length cH] 26)) := by
      show _ = _
      have := blk_alloc (heap_newG w (.cells #[.slice aS s.slots.length cS, .slice aH s.heads.length cH] 26)) (.cells #[.int .i64 k.key, .int .i64 k.cur, .int .i64 k.stage, .int .i64 k.state, .int .i64 k.slot, .int .i64 k.gen, .int .i64 k.steps] 30)
      simpa using this
    have hGK0 : Hid (((w.alloc (.cells #[.slice aS s.slots.length cS, .slice aH s.heads.length cH] 26)).alloc (.cells #[.int .i64 k.key, .int .i64 k.cur, .int .i64 k.stage, .int .i64 k.state, .int .i64 k.slot, .int .i64 k.gen, .int .i64 k.steps] 30)).heap[w.heap.size + 1]? = some (.cells #[.int .i64 k.key, .int .i64 k.cur, .int .i64 k.stage, .int .i64 k.state, .int .i64 k.slot, .int .i64 k.gen, .int .i64 k.steps] 30)) := by
      show _ = _
      have := heap_newG (w.alloc (.cells #[.slice aS s.slots.length cS, .slice aH s.heads.length cH] 26)) (.cells #[.int .i64 k.key, .int .i64 k.cur, .int .i64 k.stage, .int .i64 k.state, .int .i64 k.slot, .int .i64 k.gen, .int .i64 k.steps] 30)
      simpa using this
    have hL0 := hidS (((Below.refl w.heap.size w).alloc (Nat.le_refl _) (.cells #[.slice aS s.slots.length cS, .slice aH s.heads.length cH] 26)).alloc (by simp) (.cells #[.int .i64 k.key, .int .i64 k.cur, .int .i64 k.stage, .int .i64 k.state, .int .i64 k.slot, .int .i64 k.gen, .int .i64 k.steps] 30))
    go_enter Try.func16, Try.ntmps16
    go_wp2_with fail
    refine (HS.out _ hL0.out).mono ?_
    rintro _ w1 ⟨rfl, hb1⟩
    have hGA1 := hidS (blk_later hGA0.out hb1)
    have hGK1 := hidS (blk_later hGK0.out hb1)
    have hL1 := hidS (hL0.out.trans (hb1.mono hL0.out.size))
    clear hb1 hL0 hGA0 hGK0
    have cA0 := blk_cell hGA1.out 0
    have cA1 := blk_cell hGA1.out 1
    simp at cA0 cA1
    have cK0 := blk_cell hGK1.out 0
    have cK1 := blk_cell hGK1.out 1
    have cK2 := blk_cell hGK1.out 2
    have cK3 := blk_cell hGK1.out 3
    have cK4 := blk_cell hGK1.out 4
    have cK5 := blk_cell hGK1.out 5
    have cK6 := blk_cell hGK1.out 6
    simp at cK0 cK1 cK2 cK3 cK4 cK5 cK6
    go_wp2_with fail
    go_ret
    exact ⟨rfl, hL1.out⟩
  rw [hr] at HS
  have HK := hidS (fun W => implIsKey_any k.key W)
  have HP := hidS (fun W (h : Below w.heap.size w W) => isPlace_any aS aH cS cH s k.cur k.stage W (hR.later h) hr hk.2.1)
  have HO := hidS (fun W => isOutcome_any aS aH cS cH s k W h1)
  have HT := hidS (fun (b c : Nat) (W : World) (h : W.heap[b]? = some (.cells #[.int .i64 k.steps] 2)) => areTimes_any (some ⟨b, 0, none⟩) c [k.steps] W (rowB_new (zs := [k.steps]) h).read (by simp))
  have ET : Hid (allT [k.steps] = timeB k.steps) := by show _ = _; unfold allT; simp
  rw [ET.out] at HT
  have E : Hid (wkRight s k = (keyB k.key && (placeB s k.cur k.stage && (outB s k && timeB k.steps)))) := by show _ = _; unfold wkRight wkR; rw [hr]; rfl
  rw [E.out]
  clear ET E hR hr hk
  generalize keyB k.key = q1 at HK ⊢
  generalize placeB s k.cur k.stage = q2 at HP ⊢
  generalize outB s k = q3 at HO ⊢
  generalize timeB k.steps = q4 at HT ⊢
  cases q1
  · have hGA0 : Hid (((w.alloc (.cells #[.slice aS s.slots.length cS, .slice aH s.heads.length cH] 26)).alloc (.cells #[.int .i64 k.key, .int .i64 k.cur, .int .i64 k.stage, .int .i64 k.state, .int .i64 k.slot, .int .i64 k.gen, .int .i64 k.steps] 30)).heap[w.heap.size]? = some (.cells #[.slice aS s.slots.length cS, .slice aH s.heads.length cH] 26)) := by
      show _ = _
      have := blk_alloc (heap_newG w (.cells #[.slice aS s.slots.length cS, .slice aH s.heads.length cH] 26)) (.cells #[.int .i64 k.key, .int .i64 k.cur, .int .i64 k.stage, .int .i64 k.state, .int .i64 k.slot, .int .i64 k.gen, .int .i64 k.steps] 30)
      simpa using this
    have hGK0 : Hid (((w.alloc (.cells #[.slice aS s.slots.length cS, .slice aH s.heads.length cH] 26)).alloc (.cells #[.int .i64 k.key, .int .i64 k.cur, .int .i64 k.stage, .int .i64 k.state, .int .i64 k.slot, .int .i64 k.gen, .int .i64 k.steps] 30)).heap[w.heap.size + 1]? = some (.cells #[.int .i64 k.key, .int .i64 k.cur, .int .i64 k.stage, .int .i64 k.state, .int .i64 k.slot, .int .i64 k.gen, .int .i64 k.steps] 30)) := by
      show _ = _
      have := heap_newG (w.alloc (.cells #[.slice aS s.slots.length cS, .slice aH s.heads.length cH] 26)) (.cells #[.int .i64 k.key, .int .i64 k.cur, .int .i64 k.stage, .int .i64 k.state, .int .i64 k.slot, .int .i64 k.gen, .int .i64 k.steps] 30)
      simpa using this
    have hL0 := hidS (((Below.refl w.heap.size w).alloc (Nat.le_refl _) (.cells #[.slice aS s.slots.length cS, .slice aH s.heads.length cH] 26)).alloc (by simp) (.cells #[.int .i64 k.key, .int .i64 k.cur, .int .i64 k.stage, .int .i64 k.state, .int .i64 k.slot, .int .i64 k.gen, .int .i64 k.steps] 30))
    go_enter Try.func16, Try.ntmps16
    go_wp2_with fail
    refine (HS.out _ hL0.out).mono ?_
    rintro _ w1 ⟨rfl, hb1⟩
    have hGA1 := hidS (blk_later hGA0.out hb1)
    have hGK1 := hidS (blk_later hGK0.out hb1)
    have hL1 := hidS (hL0.out.trans (hb1.mono hL0.out.size))
    clear hb1 hL0 hGA0 hGK0
    have cA0 := blk_cell hGA1.out 0
    have cA1 := blk_cell hGA1.out 1
    simp at cA0 cA1
    have cK0 := blk_cell hGK1.out 0
    have cK1 := blk_cell hGK1.out 1
    have cK2 := blk_cell hGK1.out 2
    have cK3 := blk_cell hGK1.out 3
    have cK4 := blk_cell hGK1.out 4
    have cK5 := blk_cell hGK1.out 5
    have cK6 := blk_cell hGK1.out 6
    simp at cK0 cK1 cK2 cK3 cK4 cK5 cK6
    go_wp2_with fail
    refine (HK.out _).mono ?_
    rintro _ v9 ⟨rfl, hv9⟩
    rw [hv9]
    clear hv9 v9
    go_wp2_with fail
    go_ret
    exact ⟨rfl, hL1.out⟩
  cases q2
  · have hGA0 : Hid (((w.alloc (.cells #[.slice aS s.slots.length cS, .slice aH s.heads.length cH] 26)).alloc (.cells #[.int .i64 k.key, .int .i64 k.cur, .int .i64 k.stage, .int .i64 k.state, .int .i64 k.slot, .int .i64 k.gen, .int .i64 k.steps] 30)).heap[w.heap.size]? = some (.cells #[.slice aS s.slots.length cS, .slice aH s.heads.length cH] 26)) := by
      show _ = _
      have := blk_alloc (heap_newG w (.cells #[.slice aS s.slots.length cS, .slice aH s.heads.length cH] 26)) (.cells #[.int .i64 k.key, .int .i64 k.cur, .int .i64 k.stage, .int .i64 k.state, .int .i64 k.slot, .int .i64 k.gen, .int .i64 k.steps] 30)
      simpa using this
    have hGK0 : Hid (((w.alloc (.cells #[.slice aS s.slots.length cS, .slice aH s.heads.length cH] 26)).alloc (.cells #[.int .i64 k.key, .int .i64 k.cur, .int .i64 k.stage, .int .i64 k.state, .int .i64 k.slot, .int .i64 k.gen, .int .i64 k.steps] 30)).heap[w.heap.size + 1]? = some (.cells #[.int .i64 k.key, .int .i64 k.cur, .int .i64 k.stage, .int .i64 k.state, .int .i64 k.slot, .int .i64 k.gen, .int .i64 k.steps] 30)) := by
      show _ = _
      have := heap_newG (w.alloc (.cells #[.slice aS s.slots.length cS, .slice aH s.heads.length cH] 26)) (.cells #[.int .i64 k.key, .int .i64 k.cur, .int .i64 k.stage, .int .i64 k.state, .int .i64 k.slot, .int .i64 k.gen, .int .i64 k.steps] 30)
      simpa using this
    have hL0 := hidS (((Below.refl w.heap.size w).alloc (Nat.le_refl _) (.cells #[.slice aS s.slots.length cS, .slice aH s.heads.length cH] 26)).alloc (by simp) (.cells #[.int .i64 k.key, .int .i64 k.cur, .int .i64 k.stage, .int .i64 k.state, .int .i64 k.slot, .int .i64 k.gen, .int .i64 k.steps] 30))
    go_enter Try.func16, Try.ntmps16
    go_wp2_with fail
    refine (HS.out _ hL0.out).mono ?_
    rintro _ w1 ⟨rfl, hb1⟩
    have hGA1 := hidS (blk_later hGA0.out hb1)
    have hGK1 := hidS (blk_later hGK0.out hb1)
    have hL1 := hidS (hL0.out.trans (hb1.mono hL0.out.size))
    clear hb1 hL0 hGA0 hGK0
    have cA0 := blk_cell hGA1.out 0
    have cA1 := blk_cell hGA1.out 1
    simp at cA0 cA1
    have cK0 := blk_cell hGK1.out 0
    have cK1 := blk_cell hGK1.out 1
    have cK2 := blk_cell hGK1.out 2
    have cK3 := blk_cell hGK1.out 3
    have cK4 := blk_cell hGK1.out 4
    have cK5 := blk_cell hGK1.out 5
    have cK6 := blk_cell hGK1.out 6
    simp at cK0 cK1 cK2 cK3 cK4 cK5 cK6
    go_wp2_with fail
    refine (HK.out _).mono ?_
    rintro _ v9 ⟨rfl, hv9⟩
    rw [hv9]
    clear hv9 v9
    go_wp2_with fail
    refine (HP.out _ hL1.out).mono ?_
    rintro _ w2 ⟨rfl, hb2⟩
    clear cA0 cA1 cK0 cK1 cK2 cK3 cK4 cK5 cK6
    have hGA2 := hidS (blk_later hGA1.out hb2)
    have hGK2 := hidS (blk_later hGK1.out hb2)
    have hL2 := hidS (hL1.out.trans (hb2.mono hL1.out.size))
    clear hb2 hL1 hGA1 hGK1
    have cA0 := blk_cell hGA2.out 0
    have cA1 := blk_cell hGA2.out 1
    simp at cA0 cA1
    have cK0 := blk_cell hGK2.out 0
    have cK1 := blk_cell hGK2.out 1
    have cK2 := blk_cell hGK2.out 2
    have cK3 := blk_cell hGK2.out 3
    have cK4 := blk_cell hGK2.out 4
    have cK5 := blk_cell hGK2.out 5
    have cK6 := blk_cell hGK2.out 6
    simp at cK0 cK1 cK2 cK3 cK4 cK5 cK6
    go_wp2_with fail
    go_ret
    exact ⟨rfl, hL2.out⟩
  cases q3
  · have hGA0 : Hid (((w.alloc (.cells #[.slice aS s.slots.length cS, .slice aH s.heads.length cH] 26)).alloc (.cells #[.int .i64 k.key, .int .i64 k.cur, .int .i64 k.stage, .int .i64 k.state, .int .i64 k.slot, .int .i64 k.gen, .int .i64 k.steps] 30)).heap[w.heap.size]? = some (.cells #[.slice aS s.slots.length cS, .slice aH s.heads.length cH] 26)) := by
      show _ = _
      have := blk_alloc (heap_newG w (.cells #[.slice aS s.slots.length cS, .slice aH s.heads.length cH] 26)) (.cells #[.int .i64 k.key, .int .i64 k.cur, .int .i64 k.stage, .int .i64 k.state, .int .i64 k.slot, .int .i64 k.gen, .int .i64 k.steps] 30)
      simpa using this
    have hGK0 : Hid (((w.alloc (.cells #[.slice aS s.slots.length cS, .slice aH s.heads.length cH] 26)).alloc (.cells #[.int .i64 k.key, .int .i64 k.cur, .int .i64 k.stage, .int .i64 k.state, .int .i64 k.slot, .int .i64 k.gen, .int .i64 k.steps] 30)).heap[w.heap.size + 1]? = some (.cells #[.int .i64 k.key, .int .i64 k.cur, .int .i64 k.stage, .int .i64 k.state, .int .i64 k.slot, .int .i64 k.gen, .int .i64 k.steps] 30)) := by
      show _ = _
      have := heap_newG (w.alloc (.cells #[.slice aS s.slots.length cS, .slice aH s.heads.length cH] 26)) (.cells #[.int .i64 k.key, .int .i64 k.cur, .int .i64 k.stage, .int .i64 k.state, .int .i64 k.slot, .int .i64 k.gen, .int .i64 k.steps] 30)
      simpa using this
    have hL0 := hidS (((Below.refl w.heap.size w).alloc (Nat.le_refl _) (.cells #[.slice aS s.slots.length cS, .slice aH s.heads.length cH] 26)).alloc (by simp) (.cells #[.int .i64 k.key, .int .i64 k.cur, .int .i64 k.stage, .int .i64 k.state, .int .i64 k.slot, .int .i64 k.gen, .int .i64 k.steps] 30))
    go_enter Try.func16, Try.ntmps16
    go_wp2_with fail
    refine (HS.out _ hL0.out).mono ?_
    rintro _ w1 ⟨rfl, hb1⟩
    have hGA1 := hidS (blk_later hGA0.out hb1)
    have hGK1 := hidS (blk_later hGK0.out hb1)
    have hL1 := hidS (hL0.out.trans (hb1.mono hL0.out.size))
    clear hb1 hL0 hGA0 hGK0
    have cA0 := blk_cell hGA1.out 0
    have cA1 := blk_cell hGA1.out 1
    simp at cA0 cA1
    have cK0 := blk_cell hGK1.out 0
    have cK1 := blk_cell hGK1.out 1
    have cK2 := blk_cell hGK1.out 2
    have cK3 := blk_cell hGK1.out 3
    have cK4 := blk_cell hGK1.out 4
    have cK5 := blk_cell hGK1.out 5
    have cK6 := blk_cell hGK1.out 6
    simp at cK0 cK1 cK2 cK3 cK4 cK5 cK6
    go_wp2_with fail
    refine (HK.out _).mono ?_
    rintro _ v9 ⟨rfl, hv9⟩
    rw [hv9]
    clear hv9 v9
    go_wp2_with fail
    refine (HP.out _ hL1.out).mono ?_
    rintro _ w2 ⟨rfl, hb2⟩
    clear cA0 cA1 cK0 cK1 cK2 cK3 cK4 cK5 cK6
    have hGA2 := hidS (blk_later hGA1.out hb2)
    have hGK2 := hidS (blk_later hGK1.out hb2)
    have hL2 := hidS (hL1.out.trans (hb2.mono hL1.out.size))
    clear hb2 hL1 hGA1 hGK1
    have cA0 := blk_cell hGA2.out 0
    have cA1 := blk_cell hGA2.out 1
    simp at cA0 cA1
    have cK0 := blk_cell hGK2.out 0
    have cK1 := blk_cell hGK2.out 1
    have cK2 := blk_cell hGK2.out 2
    have cK3 := blk_cell hGK2.out 3
    have cK4 := blk_cell hGK2.out 4
    have cK5 := blk_cell hGK2.out 5
    have cK6 := blk_cell hGK2.out 6
    simp at cK0 cK1 cK2 cK3 cK4 cK5 cK6
    go_wp2_with fail
    refine (HO.out _).mono ?_
    rintro _ w3 ⟨rfl, hb3⟩
    clear cA0 cA1 cK0 cK1 cK2 cK3 cK4 cK5 cK6
    have hGA3 := hidS (blk_later hGA2.out hb3)
    have hGK3 := hidS (blk_later hGK2.out hb3)
    have hL3 := hidS (hL2.out.trans (hb3.mono hL2.out.size))
    clear hb3 hL2 hGA2 hGK2
    have cA0 := blk_cell hGA3.out 0
    have cA1 := blk_cell hGA3.out 1
    simp at cA0 cA1
    have cK0 := blk_cell hGK3.out 0
    have cK1 := blk_cell hGK3.out 1
    have cK2 := blk_cell hGK3.out 2
    have cK3 := blk_cell hGK3.out 3
    have cK4 := blk_cell hGK3.out 4
    have cK5 := blk_cell hGK3.out 5
    have cK6 := blk_cell hGK3.out 6
    simp at cK0 cK1 cK2 cK3 cK4 cK5 cK6
    go_wp2_with fail
    go_ret
    exact ⟨rfl, hL3.out⟩
  have hGA0 : Hid (((w.alloc (.cells #[.slice aS s.slots.length cS, .slice aH s.heads.length cH] 26)).alloc (.cells #[.int .i64 k.key, .int .i64 k.cur, .int .i64 k.stage, .int .i64 k.state, .int .i64 k.slot, .int .i64 k.gen, .int .i64 k.steps] 30)).heap[w.heap.size]? = some (.cells #[.slice aS s.slots.length cS, .slice aH s.heads.length cH] 26)) := by
    show _ = _
    have := blk_alloc (heap_newG w (.cells #[.slice aS s.slots.length cS, .slice aH s.heads.length cH] 26)) (.cells #[.int .i64 k.key, .int .i64 k.cur, .int .i64 k.stage, .int .i64 k.state, .int .i64 k.slot, .int .i64 k.gen, .int .i64 k.steps] 30)
    simpa using this
  have hGK0 : Hid (((w.alloc (.cells #[.slice aS s.slots.length cS, .slice aH s.heads.length cH] 26)).alloc (.cells #[.int .i64 k.key, .int .i64 k.cur, .int .i64 k.stage, .int .i64 k.state, .int .i64 k.slot, .int .i64 k.gen, .int .i64 k.steps] 30)).heap[w.heap.size + 1]? = some (.cells #[.int .i64 k.key, .int .i64 k.cur, .int .i64 k.stage, .int .i64 k.state, .int .i64 k.slot, .int .i64 k.gen, .int .i64 k.steps] 30)) := by
    show _ = _
    have := heap_newG (w.alloc (.cells #[.slice aS s.slots.length cS, .slice aH s.heads.length cH] 26)) (.cells #[.int .i64 k.key, .int .i64 k.cur, .int .i64 k.stage, .int .i64 k.state, .int .i64 k.slot, .int .i64 k.gen, .int .i64 k.steps] 30)
    simpa using this
  have hL0 := hidS (((Below.refl w.heap.size w).alloc (Nat.le_refl _) (.cells #[.slice aS s.slots.length cS, .slice aH s.heads.length cH] 26)).alloc (by simp) (.cells #[.int .i64 k.key, .int .i64 k.cur, .int .i64 k.stage, .int .i64 k.state, .int .i64 k.slot, .int .i64 k.gen, .int .i64 k.steps] 30))
  go_enter Try.func16, Try.ntmps16
  go_wp2_with fail
  refine (HS.out _ hL0.out).mono ?_
  rintro _ w1 ⟨rfl, hb1⟩
  have hGA1 := hidS (blk_later hGA0.out hb1)
  have hGK1 := hidS (blk_later hGK0.out hb1)
  have hL1 := hidS (hL0.out.trans (hb1.mono hL0.out.size))
  clear hb1 hL0 hGA0 hGK0
  have cA0 := blk_cell hGA1.out 0
  have cA1 := blk_cell hGA1.out 1
  simp at cA0 cA1
  have cK0 := blk_cell hGK1.out 0
  have cK1 := blk_cell hGK1.out 1
  have cK2 := blk_cell hGK1.out 2
  have cK3 := blk_cell hGK1.out 3
  have cK4 := blk_cell hGK1.out 4
  have cK5 := blk_cell hGK1.out 5
  have cK6 := blk_cell hGK1.out 6
  simp at cK0 cK1 cK2 cK3 cK4 cK5 cK6
  go_wp2_with fail
  refine (HK.out _).mono ?_
  rintro _ v9 ⟨rfl, hv9⟩
  rw [hv9]
  clear hv9 v9
  go_wp2_with fail
  refine (HP.out _ hL1.out).mono ?_
  rintro _ w2 ⟨rfl, hb2⟩
  clear cA0 cA1 cK0 cK1 cK2 cK3 cK4 cK5 cK6
  have hGA2 := hidS (blk_later hGA1.out hb2)
  have hGK2 := hidS (blk_later hGK1.out hb2)
  have hL2 := hidS (hL1.out.trans (hb2.mono hL1.out.size))
  clear hb2 hL1 hGA1 hGK1
  have cA0 := blk_cell hGA2.out 0
  have cA1 := blk_cell hGA2.out 1
  simp at cA0 cA1
  have cK0 := blk_cell hGK2.out 0
  have cK1 := blk_cell hGK2.out 1
  have cK2 := blk_cell hGK2.out 2
  have cK3 := blk_cell hGK2.out 3
  have cK4 := blk_cell hGK2.out 4
  have cK5 := blk_cell hGK2.out 5
  have cK6 := blk_cell hGK2.out 6
  simp at cK0 cK1 cK2 cK3 cK4 cK5 cK6
  go_wp2_with fail
  refine (HO.out _).mono ?_
  rintro _ w3 ⟨rfl, hb3⟩
  clear cA0 cA1 cK0 cK1 cK2 cK3 cK4 cK5 cK6
  have hGA3 := hidS (blk_later hGA2.out hb3)
  have hGK3 := hidS (blk_later hGK2.out hb3)
  have hL3 := hidS (hL2.out.trans (hb3.mono hL2.out.size))
  clear hb3 hL2 hGA2 hGK2
  have cA0 := blk_cell hGA3.out 0
  have cA1 := blk_cell hGA3.out 1
  simp at cA0 cA1
  have cK0 := blk_cell hGK3.out 0
  have cK1 := blk_cell hGK3.out 1
  have cK2 := blk_cell hGK3.out 2
  have cK3 := blk_cell hGK3.out 3
  have cK4 := blk_cell hGK3.out 4
  have cK5 := blk_cell hGK3.out 5
  have cK6 := blk_cell hGK3.out 6
  simp at cK0 cK1 cK2 cK3 cK4 cK5 cK6
  have hY := heap_newG w3 (.cells #[.int .i64 k.steps] 2)
  go_wp2_with fail
  refine (HT.out w3.heap.size 1 _ hY).mono ?_
  rintro e w9 ⟨rfl, hw9⟩
  rw [hw9]
  clear hw9 w9
  go_wp2_with fail
  go_ret
  exact ⟨by simp, hL3.out.alloc hL3.out.size _⟩
end Go.Proofs.Ytfjgofmjhccdkaa
