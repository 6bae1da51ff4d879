/- Proved here: impl.areTimes and impl.slotsRight answer as the plain functions; all old memory stays (conditions: the slab's rows can be read; at most 2^20 numbers). -/
import Derived.Test.YtjhkaideckgffaaSlabI2
namespace Go.Proofs.Ytjhkaideckgffaa
open Go.ChangeShapes Go.WideShapes Go.ChangeAt Go.RowKit
set_option linter.unusedVariables false
set_option linter.unusedSimpArgs false
set_option maxRecDepth 100000

/-- are all of them times? -/
def allT (zs : List Int) : Bool := zs.all timeB
theorem allT_no {zs : List Int} {k : Nat} (hk : k < zs.length) (h : timeB (zs.getD k 0) = false) : allT zs = false := by
  rw [Bool.eq_false_iff]
  intro h1
  have := List.all_eq_true.1 h1 (zs.getD k 0) (by rw [List.getD_eq_getElem?_getD, List.getElem?_eq_getElem hk]; exact List.getElem_mem _)
  rw [h] at this; cases this
theorem allT_yes {zs : List Int} (h : ∀ k, k < zs.length → timeB (zs.getD k 0) = true) : allT zs = true := List.all_eq_true.2 fun x hx => by
  obtain ⟨i, hi, e⟩ := List.getElem_of_mem hx
  have := h i hi
  rw [List.getD_eq_getElem?_getD, List.getElem?_eq_getElem hi] at this
  rw [← e]; exact this
set_option maxHeartbeats 1000000 in
theorem areTimes_any (a : Option Addr) (c : Nat) (zs : List Int) (w : World) (hR : RowZ a zs w) (hl : zs.length ≤ 1048576) :
    Calls Try.prog 33 #[.slice a zs.length c] w fun e w' => e = .returned (.bool (allT zs)) ∧ w' = w := by
  have HR := hidS hR
  clear hR
  go_enter Try.func33, Try.ntmps33
  go_wp2_with fail
  go_loopw [7] (fun i wr => ∃ k : Nat, i = .int .i64 (k : Int) ∧ k ≤ zs.length ∧ (∀ j, j < k → timeB (zs.getD j 0) = true) ∧ wr = w) (fun i _ => (zs.length - (intOf i).toNat))
  case atStart => exact ⟨0, rfl, Nat.zero_le _, fun j hj => by omega, rfl⟩
  case round =>
    obtain ⟨k, rfl, hk, hok, rfl⟩ := hrel
    have HOK := hidS hok
    clear hok
    by_cases hlt : k < zs.length
    · have hlt' : (0 : Int) ≤ (k : Int) ∧ (k : Int) < (zs.length : Int) := by omega
      obtain ⟨b, o, e, lb, c0⟩ := HR.out k hlt
      have hE := hidS e
      have EN := hidS (fun h => allT_no (zs := zs) hlt h)
      have EY : Hid (timeB (zs.getD k 0) = true → ∀ j, j < k + 1 → timeB (zs.getD j 0) = true) := hidS (fun h j hj => by
        by_cases e : j < k
        · exact HOK.out j e
        · have : j = k := by omega
          subst this; exact h)
      generalize zs.getD k 0 = z at c0 EN EY
      by_cases hz : 0 ≤ z ∧ z ≤ 1000000
      · have EB : Hid (timeB z = true) := by show _ = _; unfold timeB; simp; omega
        obtain ⟨hz0, hz1⟩ := hz
        have hz0' : ¬ z < 0 := by omega
        go_wp2_with fail
        go_roundw
        case rel => exact ⟨k + 1, by simp, by omega, EY.out EB.out, trivial⟩
        case measure => simp [intOf]; omega
      · have EB : Hid (allT zs = false) := hidS (EN.out (by unfold timeB; simp; omega))
        by_cases hz0 : z < 0
        · clear hz
          go_wp2_with fail
          go_ret
          exact ⟨by rw [EB.out]; rfl, rfl⟩
        · have hz1 : ¬ z ≤ 1000000 := by omega
          have hz2 : 1000000 < z := by omega
          clear hz
          go_wp2_with fail
          go_ret
          exact ⟨by rw [EB.out]; rfl, rfl⟩
    · have hge : ¬ (k : Int) < (zs.length : Int) := by omega
      have EB : Hid (allT zs = true) := hidS (allT_yes (fun j hj => HOK.out j (by omega)))
      clear HOK hlt hk
      go_wp2_with fail
      go_ret
      exact ⟨by rw [EB.out]; rfl, rfl⟩
/-- are the numbers of all slots in their bounds? -/
def slotsA (s : Slb) : Bool := s.slots.all (okS s.slots.length s.heads.length)
theorem slotsA_no {s : Slb} {k : Nat} (hk : k < s.slots.length) (h : okS s.slots.length s.heads.length (s.slots.getD k zeroSlt) = false) : slotsA s = false := by
  rw [Bool.eq_false_iff]
  intro h1
  have := List.all_eq_true.1 h1 (s.slots.getD k zeroSlt) (by rw [List.getD_eq_getElem?_getD, List.getElem?_eq_getElem hk]; exact List.getElem_mem _)
  rw [h] at this; cases this
theorem slotsA_yes {s : Slb} (h : ∀ k, k < s.slots.length → okS s.slots.length s.heads.length (s.slots.getD k zeroSlt) = true) : slotsA s = true := List.all_eq_true.2 fun x hx => by
  obtain ⟨i, hi, e⟩ := List.getElem_of_mem hx
  have := h i hi
  rw [List.getD_eq_getElem?_getD, List.getElem?_eq_getElem hi] at this
  rw [← e]; exact this
theorem slotsA_get {s : Slb} (h : slotsA s = true) {k : Nat} (hk : k < s.slots.length) : okS s.slots.length s.heads.length (s.slots.getD k zeroSlt) = true :=
  List.all_eq_true.1 h (s.slots.getD k zeroSlt) (by rw [List.getD_eq_getElem?_getD, List.getElem?_eq_getElem hk]; exact List.getElem_mem _)
set_option maxHeartbeats 4000000 in
theorem slotsRight_any (aS aH : Option Addr) (cS cH : Nat) (s : Slb) (w : World) (hR : SlabZ aS aH s w) (hF : SlabFit s) (h0 : 1 ≤ s.slots.length) (h1 : s.slots.length ≤ 1048576) (h2 : s.heads.length ≤ 1048576) :
    Calls Try.prog 56 #[.agg #[.slice aS s.slots.length cS, .slice aH s.heads.length cH]] w fun e w' => e = .returned (.bool (slotsA s)) ∧ Below w.heap.size w w' := by
  obtain ⟨bS, oS, rfl, _⟩ := hR.slots.slot (i := 0) (by omega)
  have HR := hidS hR
  have HFT := hidS hF
  clear hR hF
  have hA0 := hidS (heap_newG w (.cells #[.slice (some ⟨bS, oS, none⟩) s.slots.length cS, .slice aH s.heads.length cH] 32))
  have hb0 := hidS ((Below.refl w.heap.size w).alloc (Nat.le_refl _) (.cells #[.slice (some ⟨bS, oS, none⟩) s.slots.length cS, .slice aH s.heads.length cH] 32))
  go_enter Try.func56, Try.ntmps56
  go_wp2_with fail
  generalize w.alloc (.cells #[.slice (some ⟨bS, oS, none⟩) s.slots.length cS, .slice aH s.heads.length cH] 32) = w0 at hA0 hb0 ⊢
  go_loopw [8] (fun i wr => ∃ k : Nat, i = .int .i64 (k : Int) ∧ k ≤ s.slots.length ∧ (∀ j, j < k → okS s.slots.length s.heads.length (s.slots.getD j zeroSlt) = true) ∧ wr.heap[w.heap.size]? = some (.cells #[.slice (some ⟨bS, oS, none⟩) s.slots.length cS, .slice aH s.heads.length cH] 32) ∧ Below w.heap.size w wr) (fun i _ => (s.slots.length - (intOf i).toNat))
  case atStart => exact ⟨0, rfl, Nat.zero_le _, fun j hj => by omega, hA0.out, hb0.out⟩
  case round =>
    obtain ⟨k, rfl, hk, hok, hA, hb⟩ := hrel
    have HA := hidS hA
    have HB := hidS hb
    have HOK := hidS hok
    have lA := blk_lt hA
    clear hA hb hok
    by_cases hlt : k < s.slots.length
    · have hlt' : (0 : Int) ≤ (k : Int) ∧ (k : Int) < (s.slots.length : Int) := by omega
      obtain ⟨b', o', eS, lS, c0, c1, c2, c3⟩ := (HR.out.slots.later HB.out).slot hlt
      injection eS with eS; injection eS with eS1 eS2
      subst eS1 eS2
      have hfit := (HFT.out.slots (s.slots.getD k zeroSlt) (by rw [List.getD_eq_getElem?_getD, List.getElem?_eq_getElem hlt]; exact List.getElem_mem _)).2.2.2
      obtain ⟨x, hx⟩ : ∃ x, s.slots.getD k zeroSlt = x := ⟨_, rfl⟩
      have EX := hidS hx
      rw [hx] at c0 c1 c2 c3 hfit
      clear hx
      have hX2 := hidS (heap_newG wr (.cells #[.int .i64 x.key, .int .i64 x.gen, .int .i64 x.refs, .int .i64 x.next] 71))
      have hA2 := hidS (blk_alloc HA.out (.cells #[.int .i64 x.key, .int .i64 x.gen, .int .i64 x.refs, .int .i64 x.next] 71))
      have hB2 := hidS (HB.out.alloc (by omega) (.cells #[.int .i64 x.key, .int .i64 x.gen, .int .i64 x.refs, .int .i64 x.next] 71))
      go_upto_region 4 with fail
      generalize wr.alloc (.cells #[.int .i64 x.key, .int .i64 x.gen, .int .i64 x.refs, .int .i64 x.next] 71) = w2 at hX2 hA2 hB2 ⊢
      generalize wr.heap.size = g at *
      clear c0 c1 c2 c3 HA HB
      have x0 := blk_cell hX2.out 0
      have x1 := blk_cell hX2.out 1
      have x2 := blk_cell hX2.out 2
      have x3 := blk_cell hX2.out 3
      simp at x0 x1 x2 x3
      have hX3 := hidS (blk_alloc hX2.out (.cells #[.int .i64 x.gen, .int .i64 x.refs] 2))
      have hA3 := hidS (blk_alloc hA2.out (.cells #[.int .i64 x.gen, .int .i64 x.refs] 2))
      have hY3 := hidS (heap_newG w2 (.cells #[.int .i64 x.gen, .int .i64 x.refs] 2))
      have hB3 := hidS (hB2.out.alloc hB2.out.size (.cells #[.int .i64 x.gen, .int .i64 x.refs] 2))
      have HK := hidS (fun W => implIsKey_any x.key W)
      have HT := hidS (fun (b c : Nat) (W : World) (h : W.heap[b]? = some (.cells #[.int .i64 x.gen, .int .i64 x.refs] 2)) => areTimes_any (some ⟨b, 0, none⟩) c [x.gen, x.refs] W (rowB_new (zs := [x.gen, x.refs]) h).read (by simp))
      have HN := hidS (fun W => isLink_any (some ⟨bS, oS, none⟩) aH s.slots.length cS s.heads.length cH x.next W hfit h1 h2)
      have EB : Hid (okS s.slots.length s.heads.length (s.slots.getD k zeroSlt) = (keyB x.key && allT [x.gen, x.refs] && nextB s.slots.length s.heads.length x.next)) := by
        show _ = _
        rw [EX.out]
        unfold okS allT
        simp only [List.all_cons, List.all_nil, Bool.and_true]
        cases keyB x.key <;> cases timeB x.gen <;> rfl
      generalize keyB x.key = q1 at HK EB
      generalize allT [x.gen, x.refs] = q2 at HT EB
      generalize nextB s.slots.length s.heads.length x.next = q3 at HN EB
      cases q1
      · go_wp2_with fail
        refine (HK.out _).mono ?_
        rintro e w9 ⟨rfl, hw9⟩
        rw [hw9]
        clear hw9 w9
        have EN : Hid (slotsA s = false) := hidS (slotsA_no hlt (by rw [EB.out]; simp))
        go_wp2_with fail
        go_ret
        exact ⟨by rw [EN.out]; rfl, hB2.out⟩
      cases q2
      · go_wp2_with fail
        refine (HK.out _).mono ?_
        rintro e w9 ⟨rfl, hw9⟩
        rw [hw9]
        clear hw9 w9
        go_wp2_with fail
        refine (HT.out w2.heap.size 2 _ hY3.out).mono ?_
        rintro e w9 ⟨rfl, hw9⟩
        rw [hw9]
        clear hw9 w9
        have EN : Hid (slotsA s = false) := hidS (slotsA_no hlt (by rw [EB.out]; simp))
        go_wp2_with fail
        go_ret
        exact ⟨by rw [EN.out]; rfl, hB3.out⟩
      cases q3
      · go_wp2_with fail
        refine (HK.out _).mono ?_
        rintro e w9 ⟨rfl, hw9⟩
        rw [hw9]
        clear hw9 w9
        go_wp2_with fail
        refine (HT.out w2.heap.size 2 _ hY3.out).mono ?_
        rintro e w9 ⟨rfl, hw9⟩
        rw [hw9]
        clear hw9 w9
        clear x0 x1 x2 x3
        generalize w2.alloc (.cells #[.int .i64 x.gen, .int .i64 x.refs] 2) = w3 at hX3 hA3 hB3 ⊢
        have x3 := blk_cell hX3.out 3
        have y0 := blk_cell hA3.out 0
        have y1 := blk_cell hA3.out 1
        simp at x3 y0 y1
        go_wp2_with fail
        refine (HN.out _).mono ?_
        rintro e w4 ⟨rfl, hb4⟩
        have hB4 := hidS (hB3.out.trans (hb4.mono hB3.out.size))
        have hA4 := hidS (blk_later hA3.out hb4)
        clear hb4 x3 y0 y1 hA3 hB3 hX3
        have EN : Hid (slotsA s = false) := hidS (slotsA_no hlt (by rw [EB.out]; simp))
        go_wp2_with fail
        go_ret
        exact ⟨by rw [EN.out]; rfl, hB4.out⟩
      · go_wp2_with fail
        refine (HK.out _).mono ?_
        rintro e w9 ⟨rfl, hw9⟩
        rw [hw9]
        clear hw9 w9
        go_wp2_with fail
        refine (HT.out w2.heap.size 2 _ hY3.out).mono ?_
        rintro e w9 ⟨rfl, hw9⟩
        rw [hw9]
        clear hw9 w9
        clear x0 x1 x2 x3
        generalize w2.alloc (.cells #[.int .i64 x.gen, .int .i64 x.refs] 2) = w3 at hX3 hA3 hB3 ⊢
        have x3 := blk_cell hX3.out 3
        have y0 := blk_cell hA3.out 0
        have y1 := blk_cell hA3.out 1
        simp at x3 y0 y1
        go_wp2_with fail
        refine (HN.out _).mono ?_
        rintro e w4 ⟨rfl, hb4⟩
        have hB4 := hidS (hB3.out.trans (hb4.mono hB3.out.size))
        have hA4 := hidS (blk_later hA3.out hb4)
        clear hb4 x3 y0 y1 hA3 hB3 hX3
        go_wp2_with fail
        go_roundw
        case rel =>
          refine ⟨k + 1, by simp, by omega, fun j hj => ?_, hA4.out, hB4.out⟩
          by_cases e : j < k
          · exact HOK.out j e
          · have : j = k := by omega
            subst this
            rw [EB.out]; rfl
        case measure => simp [intOf]; omega
    · have hge : ¬ (k : Int) < (s.slots.length : Int) := by omega
      have EY : Hid (slotsA s = true) := hidS (slotsA_yes (fun j hj => HOK.out j (by omega)))
      clear HOK hk hlt
      go_wp2_with fail
      go_ret
      exact ⟨by rw [EY.out]; rfl, HB.out⟩
end Go.Proofs.Ytjhkaideckgffaa
