/- Proved here: spec.SlabCut answers the slab with a key cut, in memory of its own, or a code; all old memory stays (conditions: the slab's rows can be read; at most 2^20 numbers). -/
import Derived.Test.YtcopfejonbbmnaaAll22
import Derived.Test.YtcopfejonbbmnaaSlabCopyS
import Derived.BigRegion
namespace Go.Proofs.Ytcopfejonbbmnaa
open Go.ChangeShapes Go.WideShapes Go.ChangeAt Go.RowKit
set_option linter.unusedVariables false
set_option linter.unusedSimpArgs false
set_option maxRecDepth 100000

/-- the link ahead of place i of a chain -/
def preP (l : List Int) (i : Nat) : Option Int := if i = 0 then none else some (l.getD (i - 1) 0)
theorem RowB.drewn {b o : Nat} {zs : List Int} {W : World} (h : RowB b o zs W) : RowB b o zs W.drew := h
theorem cell_other {W : World} {g k b o : Nat} {v : Value} (h : b ≠ g) : (W.setCell ⟨g, k, none⟩ v).drew.cell? ⟨b, o, none⟩ = W.cell? ⟨b, o, none⟩ := by
  have e : (W.setCell ⟨g, k, none⟩ v).heap[b]? = W.heap[b]? := Below.heap_setCell W ⟨g, k, none⟩ v b h
  show (W.setCell ⟨g, k, none⟩ v).cell? ⟨b, o, none⟩ = _
  unfold World.cell?
  rw [e]
theorem own_other {lo hi b o g k : Nat} {l : List Int} {W : World} {v : Value} (h : OwnR lo hi (some ⟨b, o, none⟩) l W) (hb : b ≠ g) : OwnR lo hi (some ⟨b, o, none⟩) l (W.setCell ⟨g, k, none⟩ v) := by
  rcases h with e | ⟨b', o', e, q1, q2, q3⟩
  · exact .inl e
  · injection e with e; injection e with e1 e2
    subst e1 e2
    exact .inr ⟨b, o, rfl, q1, q2, q3.other hb⟩
/-- what lasts while a chain is gone along for the key that is cut -/
def CutI (s : Slb) (key : Int) (l : List Int) (w : World) (lo hi : Nat) (al : Option Addr) (oA oR : Obj) (ii : Value) (wr : World) : Prop :=
  ∃ (i : Nat) (x : Int), ii = .int .i64 (i : Int) ∧ i ≤ l.length ∧ linkP s key = (lookL s key (preP l i) x (l.drop i)).1 ∧ findSl s key = findL s key (l.drop i) ∧ wr.heap[w.heap.size]? = some oA ∧ wr.heap[w.heap.size + 1]? = some oR ∧ OwnR lo hi al l wr ∧ Below w.heap.size w wr
set_option maxHeartbeats 16000000 in
theorem specSlabCut_any (aS aH : Option Addr) (cS cH : Nat) (s : Slb) (key : Int) (w : World) (hR : SlabZ aS aH s w) (h1 : s.slots.length ≤ 1048576) (h2 : s.heads.length ≤ 1048576) :
    Calls Try.prog 16 #[.agg #[.slice aS s.slots.length cS, .slice aH s.heads.length cH], .int .i64 key] w fun e w' => OutAns (cutS s key) (cutA s key) (cutC s key) w e w' := by
  have HS := hidS (fun W (h : Below w.heap.size w W) => specSlabRight_any aS aH cS cH s W (hR.later h) h1 h2)
  have HK := hidS (fun W => l06Key_any key W)
  have HI := hidS (fun c W => l06Ill_any c W)
  have ILL : Hid (∀ q : Int, q ≠ 0 → cutC s key = q → ∀ e w', e = .returned (.agg #[.slice none 0 0, .slice none 0 0, .int .i64 0, .int .i64 q]) ∧ Below w.heap.size w w' → OutAns (cutS s key) (cutA s key) (cutC s key) w e w') := by
    refine hidS (fun q hq hc e w' h => ?_)
    obtain ⟨e1, e2⟩ := cut_ill hc hq
    rw [e1, e2, hc]
    exact ill_out h
  cases hr : rightSl s
  · have EC : cutC s key = 1 := by unfold cutC; rw [hr]; rfl
    refine Calls.mono (R := fun e w' => e = .returned (.agg #[.slice none 0 0, .slice none 0 0, .int .i64 0, .int .i64 1]) ∧ Below w.heap.size w w') ?_ (ILL.out 1 (by decide) EC)
    rw [hr] at HS
    clear hr hR ILL EC
    have hGA0 : Hid (((w.alloc (.cells #[.slice aS s.slots.length cS, .slice aH s.heads.length cH] 26)).alloc (.cells #[.slice none 0 0, .slice none 0 0, .int .i64 0, .int .i64 0] 30)).heap[w.heap.size]? = some (.cells #[.slice aS s.slots.length cS, .slice aH s.heads.length cH] 26)) := by
      show _ = _
      have := blk_alloc (heap_newG w (.cells #[.slice aS s.slots.length cS, .slice aH s.heads.length cH] 26)) (.cells #[.slice none 0 0, .slice none 0 0, .int .i64 0, .int .i64 0] 30)
      simpa using this
    have hGR0 : Hid (((w.alloc (.cells #[.slice aS s.slots.length cS, .slice aH s.heads.length cH] 26)).alloc (.cells #[.slice none 0 0, .slice none 0 0, .int .i64 0, .int .i64 0] 30)).heap[w.heap.size + 1]? = some (.cells #[.slice none 0 0, .slice none 0 0, .int .i64 0, .int .i64 0] 30)) := by
      show _ = _
      have := heap_newG (w.alloc (.cells #[.slice aS s.slots.length cS, .slice aH s.heads.length cH] 26)) (.cells #[.slice none 0 0, .slice none 0 0, .int .i64 0, .int .i64 0] 30)
      simpa using this
    have hL0 := hidS (((Below.refl w.heap.size w).alloc (Nat.le_refl _) (.cells #[.slice aS s.slots.length cS, .slice aH s.heads.length cH] 26)).alloc (by simp) (.cells #[.slice none 0 0, .slice none 0 0, .int .i64 0, .int .i64 0] 30))
    go_enter Try.func16, Try.ntmps16
    go_wp2_with fail
    refine (HS.out _ hL0.out).mono ?_
    rintro _ w1 ⟨rfl, hb1⟩
    have hGA1 := hidS (blk_later hGA0.out hb1)
    have hGR1 := hidS (blk_later hGR0.out hb1)
    have hL1 := hidS (hL0.out.trans (hb1.mono hL0.out.size))
    clear hb1 hL0 hGA0 hGR0
    have cA0 := blk_cell hGA1.out 0
    have cA1 := blk_cell hGA1.out 1
    simp at cA0 cA1
    go_wp2_with fail
    refine (HI.out 1 _).mono ?_
    rintro _ w2 ⟨rfl, hb2⟩
    clear cA0 cA1
    have hGA2 := hidS (blk_later hGA1.out hb2)
    have hGR2 := hidS (blk_later hGR1.out hb2)
    have hL2 := hidS (hL1.out.trans (hb2.mono hL1.out.size))
    clear hb2 hL1 hGA1 hGR1
    have kR := blk_cell hGR2.out
    have fR := blk_free hGR2.out
    go_wp2_with fail
    refine bodyPost_ret (v := .agg #[.slice none 0 0, .slice none 0 0, .int .i64 0, .int .i64 1]) (by simp [results, Try.results16, go_sem, *]) rfl ⟨rfl, ?_⟩
    repeat (refine below_at ?_ (by omega))
    exact hL2.out
  rw [hr] at HS
  cases hk : keyB key
  · have EC : cutC s key = 1 := by unfold cutC; rw [hr, hk]; rfl
    refine Calls.mono (R := fun e w' => e = .returned (.agg #[.slice none 0 0, .slice none 0 0, .int .i64 0, .int .i64 1]) ∧ Below w.heap.size w w') ?_ (ILL.out 1 (by decide) EC)
    rw [hk] at HK
    clear hr hR ILL EC hk
    have hGA0 : Hid (((w.alloc (.cells #[.slice aS s.slots.length cS, .slice aH s.heads.length cH] 26)).alloc (.cells #[.slice none 0 0, .slice none 0 0, .int .i64 0, .int .i64 0] 30)).heap[w.heap.size]? = some (.cells #[.slice aS s.slots.length cS, .slice aH s.heads.length cH] 26)) := by
      show _ = _
      have := blk_alloc (heap_newG w (.cells #[.slice aS s.slots.length cS, .slice aH s.heads.length cH] 26)) (.cells #[.slice none 0 0, .slice none 0 0, .int .i64 0, .int .i64 0] 30)
      simpa using this
    have hGR0 : Hid (((w.alloc (.cells #[.slice aS s.slots.length cS, .slice aH s.heads.length cH] 26)).alloc (.cells #[.slice none 0 0, .slice none 0 0, .int .i64 0, .int .i64 0] 30)).heap[w.heap.size + 1]? = some (.cells #[.slice none 0 0, .slice none 0 0, .int .i64 0, .int .i64 0] 30)) := by
      show _ = _
      have := heap_newG (w.alloc (.cells #[.slice aS s.slots.length cS, .slice aH s.heads.length cH] 26)) (.cells #[.slice none 0 0, .slice none 0 0, .int .i64 0, .int .i64 0] 30)
      simpa using this
    have hL0 := hidS (((Below.refl w.heap.size w).alloc (Nat.le_refl _) (.cells #[.slice aS s.slots.length cS, .slice aH s.heads.length cH] 26)).alloc (by simp) (.cells #[.slice none 0 0, .slice none 0 0, .int .i64 0, .int .i64 0] 30))
    go_enter Try.func16, Try.ntmps16
    go_wp2_with fail
    refine (HS.out _ hL0.out).mono ?_
    rintro _ w1 ⟨rfl, hb1⟩
    have hGA1 := hidS (blk_later hGA0.out hb1)
    have hGR1 := hidS (blk_later hGR0.out hb1)
    have hL1 := hidS (hL0.out.trans (hb1.mono hL0.out.size))
    clear hb1 hL0 hGA0 hGR0
    have cA0 := blk_cell hGA1.out 0
    have cA1 := blk_cell hGA1.out 1
    simp at cA0 cA1
    go_wp2_with fail
    refine (HK.out _).mono ?_
    rintro _ v ⟨rfl, hv⟩
    rw [hv]
    clear hv v
    go_wp2_with fail
    refine (HI.out 1 _).mono ?_
    rintro _ w2 ⟨rfl, hb2⟩
    clear cA0 cA1
    have hGA2 := hidS (blk_later hGA1.out hb2)
    have hGR2 := hidS (blk_later hGR1.out hb2)
    have hL2 := hidS (hL1.out.trans (hb2.mono hL1.out.size))
    clear hb2 hL1 hGA1 hGR1
    have kR := blk_cell hGR2.out
    have fR := blk_free hGR2.out
    go_wp2_with fail
    refine bodyPost_ret (v := .agg #[.slice none 0 0, .slice none 0 0, .int .i64 0, .int .i64 1]) (by simp [results, Try.results16, go_sem, *]) rfl ⟨rfl, ?_⟩
    repeat (refine below_at ?_ (by omega))
    exact hL2.out
  rw [hk] at HK
  have EOK : Hid ((rightSl s && keyB key) = true) := by show _ = _; rw [hr, hk]; rfl
  obtain ⟨hLe, n1, n2, n3, n4⟩ := right_leads hr
  obtain ⟨k0, k1⟩ : 0 ≤ key ∧ key ≤ 999 := by unfold keyB at hk; simp at hk; exact hk
  obtain ⟨bS, oS, rfl, _⟩ := hR.slots.slot (i := 0) (by omega)
  obtain ⟨bH, oH, rfl, _⟩ := hR.heads 0 (by omega)
  have HCP := hidS (fun W (h : Below w.heap.size w W) => l06Copy_any bS oS bH oH cS cH s W (hR.later h) n2 n4)
  obtain ⟨hok, hfi⟩ := link_find (key := key) hr k0
  obtain ⟨hcl, hce⟩ := chN_lt (s := s) k0 n3
  obtain ⟨_, _, hin⟩ := right_chain hr hcl
  have HCH := hidS (fun W (h : Below w.heap.size w W) => l06Chain_any (some ⟨bS, oS, none⟩) (some ⟨bH, oH, none⟩) cS cH s (chN s key) W (hR.later h) hLe (by omega) hcl (by omega))
  have HP0 : Hid (linkP s key = (lookL s key none (s.heads.getD (chN s key) 0) (chainOf s (chN s key)).1).1) := hidS rfl
  have HF0 : Hid (findSl s key = findL s key (chainOf s (chN s key)).1) := by show _ = _; unfold findSl; rw [hce]
  have HIN : Hid (∀ n ∈ (chainOf s (chN s key)).1, 0 ≤ n ∧ n < s.slots.length) := hidS hin
  have hlen : (chainOf s (chN s key)).1.length ≤ s.slots.length + 1 := chain_len s _ _
  have HOK := hidS hok
  have HR0 := hidS hr
  have HR := hidS hR
  have HCN : Hid (chN s key = chN s key) := hidS rfl
  have hmod : key.tmod s.heads.length = (chN s key : Int) := hce.symm
  have hmod2 : key % s.heads.length = (chN s key : Int) := by rw [← Int.tmod_eq_emod_of_nonneg k0]; exact hmod
  have hcc : (0 : Int) ≤ (chN s key : Int) ∧ (chN s key : Int) < (s.heads.length : Int) := by omega
  obtain ⟨ch, hchq⟩ : ∃ ch, chainOf s (chN s key) = ch := ⟨_, rfl⟩
  rw [hchq] at HCH HP0 HF0 HIN hlen
  obtain ⟨c, hcq⟩ : ∃ c, chN s key = c := ⟨_, rfl⟩
  rw [hcq] at HCH HP0 hcl hmod hmod2 hcc
  have HCQ := hidS hcq
  obtain ⟨l, en⟩ := ch
  have hlen : l.length ≤ 25 := by have : l.length ≤ s.slots.length + 1 := hlen; omega
  clear hfi hR hLe hce hok hr hk hin hchq hcq
  have hGA0 : Hid (((w.alloc (.cells #[.slice (some ⟨bS, oS, none⟩) s.slots.length cS, .slice (some ⟨bH, oH, none⟩) s.heads.length cH] 26)).alloc (.cells #[.slice none 0 0, .slice none 0 0, .int .i64 0, .int .i64 0] 30)).heap[w.heap.size]? = some (.cells #[.slice (some ⟨bS, oS, none⟩) s.slots.length cS, .slice (some ⟨bH, oH, none⟩) s.heads.length cH] 26)) := by
    show _ = _
    have := blk_alloc (heap_newG w (.cells #[.slice (some ⟨bS, oS, none⟩) s.slots.length cS, .slice (some ⟨bH, oH, none⟩) s.heads.length cH] 26)) (.cells #[.slice none 0 0, .slice none 0 0, .int .i64 0, .int .i64 0] 30)
    simpa using this
  have hGR0 : Hid (((w.alloc (.cells #[.slice (some ⟨bS, oS, none⟩) s.slots.length cS, .slice (some ⟨bH, oH, none⟩) s.heads.length cH] 26)).alloc (.cells #[.slice none 0 0, .slice none 0 0, .int .i64 0, .int .i64 0] 30)).heap[w.heap.size + 1]? = some (.cells #[.slice none 0 0, .slice none 0 0, .int .i64 0, .int .i64 0] 30)) := by
    show _ = _
    have := heap_newG (w.alloc (.cells #[.slice (some ⟨bS, oS, none⟩) s.slots.length cS, .slice (some ⟨bH, oH, none⟩) s.heads.length cH] 26)) (.cells #[.slice none 0 0, .slice none 0 0, .int .i64 0, .int .i64 0] 30)
    simpa using this
  have hL0 := hidS (((Below.refl w.heap.size w).alloc (Nat.le_refl _) (.cells #[.slice (some ⟨bS, oS, none⟩) s.slots.length cS, .slice (some ⟨bH, oH, none⟩) s.heads.length cH] 26)).alloc (by simp) (.cells #[.slice none 0 0, .slice none 0 0, .int .i64 0, .int .i64 0] 30))
  go_enter Try.func16, Try.ntmps16
  go_wp2_with fail
  refine (HS.out _ hL0.out).mono ?_
  rintro _ w1 ⟨rfl, hb1⟩
  have hGA1 := hidS (blk_later hGA0.out hb1)
  have hGR1 := hidS (blk_later hGR0.out hb1)
  have hL1 := hidS (hL0.out.trans (hb1.mono hL0.out.size))
  clear hb1 hL0 hGA0 hGR0
  have cA0 := blk_cell hGA1.out 0
  have cA1 := blk_cell hGA1.out 1
  simp at cA0 cA1
  go_wp2_with fail
  refine (HK.out _).mono ?_
  rintro _ v ⟨rfl, hv⟩
  rw [hv]
  clear hv v
  go_wp2_with fail
  refine (HCH.out _ hL1.out).mono ?_
  rintro _ w2 ⟨al, cl, rfl, hO2, hb2⟩
  have hGA2 := hidS (blk_later hGA1.out hb2)
  have hGR2 := hidS (blk_later hGR1.out hb2)
  have hL2 := hidS (hL1.out.trans (hb2.mono hL1.out.size))
  have l1 := blk_lt hGR1.out
  have HO2 : Hid (OwnR (w.heap.size + 2) w2.heap.size al l w2) := by
    show OwnR _ _ _ _ _
    rcases hO2 with e | ⟨b, p, e, q1, q2, q3⟩
    · exact .inl e
    · exact .inr ⟨b, p, e, by omega, q2, q3⟩
  clear hb2 hO2 hGA1 hGR1 hL1 HCH HS HK cA0 cA1 l1
  go_wp2_with fail
  generalize w2.heap.size = top at HO2
  clear hmod hmod2
  go_loopw [8] (fun ii wr => CutI s key l w (w.heap.size + 2) top al (.cells #[.slice (some ⟨bS, oS, none⟩) s.slots.length cS, .slice (some ⟨bH, oH, none⟩) s.heads.length cH] 26) (.cells #[.slice none 0 0, .slice none 0 0, .int .i64 0, .int .i64 0] 30) ii wr) (fun ii _ => (l.length - (intOf ii).toNat))
  case atStart => exact ⟨0, _, rfl, Nat.zero_le _, HP0.out, HF0.out, hGA2.out, hGR2.out, HO2.out, hL2.out⟩
  case round =>
    obtain ⟨i, xx, rfl, hi, hlp, hfs, hA, hRr, hO, hb⟩ := hrel
    have HLP := hidS hlp
    have HFS := hidS hfs
    have HA := hidS hA
    have HRr := hidS hRr
    have HO := hidS hO
    have HB := hidS hb
    have lR := blk_lt hRr
    clear hGA2 hGR2 HO2 hL2 HP0 HF0 hlp hfs hA hRr hO hb
    by_cases hil : ¬ i < l.length
    · have e : i = l.length := by omega
      have hge : ¬ (i : Int) < (l.length : Int) := by omega
      have hf : findSl s key = -1 := by rw [HFS.out, e, List.drop_length]; rfl
      have EC : cutC s key = 6 := by unfold cutC; rw [if_pos EOK.out, if_pos (by omega)]
      have HEC := hidS EC
      clear e hil hf EC
      go_wp2_with fail
      refine (HI.out 6 _).mono ?_
      rintro _ w3 ⟨rfl, hb3⟩
      have hGR3 := hidS (blk_later HRr.out hb3)
      have hL3 := hidS (HB.out.trans (hb3.mono HB.out.size))
      clear hb3
      have kR := blk_cell hGR3.out
      have fR := blk_free hGR3.out
      go_wp2_with fail
      refine bodyPost_ret (v := .agg #[.slice none 0 0, .slice none 0 0, .int .i64 0, .int .i64 6]) (by simp [results, Try.results16, go_sem, *]) rfl ?_
      refine ILL.out 6 (by decide) HEC.out _ _ ⟨rfl, ?_⟩
      repeat (refine below_at ?_ (by omega))
      exact hL3.out
    have hil := Classical.not_not.1 hil
    have hil' : (0 : Int) ≤ (i : Int) ∧ (i : Int) < (l.length : Int) := by omega
    have hi25 : (i : Int) < 25 := by omega
    obtain ⟨bl, ol, el, ll, cl0⟩ := HO.out.read i hil
    have hmem : l.getD i 0 ∈ l := by rw [List.getD_eq_getElem?_getD, List.getElem?_eq_getElem hil]; exact List.getElem_mem _
    obtain ⟨j, hj⟩ : ∃ j : Nat, l.getD i 0 = (j : Int) := ⟨(l.getD i 0).toNat, by have := HIN.out _ hmem; omega⟩
    have hjl : j < s.slots.length := by have := HIN.out _ hmem; omega
    have hjj : (0 : Int) ≤ (j : Int) ∧ (j : Int) < (s.slots.length : Int) := by omega
    obtain ⟨bS', oS', eS, lS, c0, c1, c2, c3⟩ := (HR.out.slots.later HB.out).slot hjl
    injection eS with eS; injection eS with eS1 eS2
    subst eS1 eS2
    have HDR : Hid (l.drop i = (j : Int) :: l.drop (i + 1)) := by show _ = _; rw [drop_get hil, hj]
    have HPN : Hid (preP l (i + 1) = some (j : Int)) := by show _ = _; unfold preP; rw [if_neg (by omega), Nat.add_sub_cancel, hj]
    obtain ⟨x, hx⟩ : ∃ x, s.slots.getD j zeroSlt = x := ⟨_, rfl⟩
    have EX : Hid (slotN s (j : Int) = x) := by show _ = _; rw [slot_nat]; exact hx
    rw [hx] at c0 c1 c2 c3
    rw [hj] at cl0
    have HJ := hidS hj
    have HX := hidS hx
    have HEL := hidS el
    obtain rfl := el
    have a0 := blk_cell HA.out 0
    simp at a0
    clear hj hx hmem HEL
    go_wp2_with fail
    refine grow_struct 9 _ [.is (.pointer (some ⟨w.heap.size, 0, none⟩)), .is (.slice (some ⟨bS, oS, none⟩) s.slots.length cS), .is (.slice (some ⟨bl, ol, none⟩) l.length cl), .is (.int .i64 (i : Int)), .is (.pointer (some ⟨bl, ol + i, none⟩)), .is (.int .i64 (j : Int)), .is (.pointer (some ⟨bS, oS + j * 4, none⟩)), .is (.agg #[.int .i64 x.key, .int .i64 x.gen, .int .i64 x.refs, .int .i64 x.next]), .blk wr.heap.size #[.int .i64 0, .int .i64 0, .int .i64 0, .int .i64 0] 42] 8 7 9 44 42 42 #[.int .i64 0, .int .i64 0, .int .i64 0, .int .i64 0] #[.int .i64 x.key, .int .i64 x.gen, .int .i64 x.refs, .int .i64 x.next] rfl rfl rfl (by kernel_rfl) (by kernel_rfl) (by kernel_rfl) rfl rfl rfl rfl (by decide) (by decide) rfl rfl rfl (by first | kernel_rfl | simp [Value.oneCell']) (by kernel_rfl) ?steps8 ?fin8
    case steps8 =>
      refine ⟨?_, ?_, ?_, ?_, ?_, ?_, ?_, ?_, ?_, trivial⟩
      · refine ⟨rfl, fun v W ρ hC kc kf ks ki kd => ?_⟩
        have t2 : ρ (.tmp 2) = .pointer (some ⟨w.heap.size, 0, none⟩) := ki 2 (by decide)
        simp [execOp, go_sem, kc, t2]
        exact ⟨hC, Below.refl _ _, rfl⟩
      · refine ⟨rfl, fun v W ρ hC kc kf ks ki kd => ?_⟩
        have d0 : v 0 = .pointer (some ⟨w.heap.size, 0, none⟩) := by first | exact kd _ (mem0 rfl) rfl | exact kd _ (mem1 rfl) rfl | exact kd _ (mem2 rfl) rfl
        have t37 : ρ (.tmp 37) = .pointer (some ⟨w.heap.size, 0, none⟩) := (ks 0 37 (by decide) rfl).trans d0
        have e0 := blk_cell (blk_later HA.out hC) 0
        simp at e0
        simp [execOp, go_sem, kc, t37, e0]
        exact ⟨hC, Below.refl _ _, rfl⟩
      · refine ⟨rfl, fun v W ρ hC kc kf ks ki kd => ?_⟩
        have t6 : ρ (.tmp 6) = .slice (some ⟨bl, ol, none⟩) l.length cl := ki 6 (by decide)
        simp [execOp, go_sem, kc, t6]
        exact ⟨hC, Below.refl _ _, rfl⟩
      · refine ⟨rfl, fun v W ρ hC kc kf ks ki kd => ?_⟩
        have t8 : ρ (.tmp 8) = .int .i64 (i : Int) := ki 8 (by decide)
        simp [execOp, go_sem, kc, t8]
        exact ⟨hC, Below.refl _ _, rfl⟩
      · refine ⟨rfl, fun v W ρ hC kc kf ks ki kd => ?_⟩
        have d2 : v 2 = .slice (some ⟨bl, ol, none⟩) l.length cl := by first | exact kd _ (mem0 rfl) rfl | exact kd _ (mem1 rfl) rfl | exact kd _ (mem2 rfl) rfl
        have t39 : ρ (.tmp 39) = .slice (some ⟨bl, ol, none⟩) l.length cl := (ks 2 39 (by decide) rfl).trans d2
        have d3 : v 3 = .int .i64 (i : Int) := by first | exact kd _ (mem0 rfl) rfl | exact kd _ (mem1 rfl) rfl | exact kd _ (mem2 rfl) rfl
        have t40 : ρ (.tmp 40) = .int .i64 (i : Int) := (ks 3 40 (by decide) rfl).trans d3
        simp [execOp, go_sem, kc, t39, t40, hil']
        exact ⟨hC, Below.refl _ _, rfl⟩
      · refine ⟨rfl, fun v W ρ hC kc kf ks ki kd => ?_⟩
        have d4 : v 4 = .pointer (some ⟨bl, ol + i, none⟩) := by first | exact kd _ (mem0 rfl) rfl | exact kd _ (mem1 rfl) rfl | exact kd _ (mem2 rfl) rfl
        have t41 : ρ (.tmp 41) = .pointer (some ⟨bl, ol + i, none⟩) := (ks 4 41 (by decide) rfl).trans d4
        have e0 := (hC.cell (p := ⟨bl, ol + i, none⟩) ll).trans cl0
        simp [execOp, go_sem, kc, t41, e0]
        exact ⟨hC, Below.refl _ _, rfl⟩
      · refine ⟨rfl, fun v W ρ hC kc kf ks ki kd => ?_⟩
        have d1 : v 1 = .slice (some ⟨bS, oS, none⟩) s.slots.length cS := by first | exact kd _ (mem0 rfl) rfl | exact kd _ (mem1 rfl) rfl | exact kd _ (mem2 rfl) rfl
        have t38 : ρ (.tmp 38) = .slice (some ⟨bS, oS, none⟩) s.slots.length cS := (ks 1 38 (by decide) rfl).trans d1
        have d5 : v 5 = .int .i64 (j : Int) := by first | exact kd _ (mem0 rfl) rfl | exact kd _ (mem1 rfl) rfl | exact kd _ (mem2 rfl) rfl
        have t42 : ρ (.tmp 42) = .int .i64 (j : Int) := (ks 5 42 (by decide) rfl).trans d5
        simp [execOp, go_sem, kc, t38, t42, hjj]
        exact ⟨hC, Below.refl _ _, rfl⟩
      · refine ⟨rfl, fun v W ρ hC kc kf ks ki kd => ?_⟩
        have d6 : v 6 = .pointer (some ⟨bS, oS + j * 4, none⟩) := by first | exact kd _ (mem0 rfl) rfl | exact kd _ (mem1 rfl) rfl | exact kd _ (mem2 rfl) rfl
        have t43 : ρ (.tmp 43) = .pointer (some ⟨bS, oS + j * 4, none⟩) := (ks 6 43 (by decide) rfl).trans d6
        have e0 := (hC.cell (p := ⟨bS, oS + j * 4, none⟩) lS).trans c0
        have e1 := (hC.cell (p := ⟨bS, oS + j * 4 + 1, none⟩) lS).trans c1
        have e2 := (hC.cell (p := ⟨bS, oS + j * 4 + 2, none⟩) lS).trans c2
        have e3 := (hC.cell (p := ⟨bS, oS + j * 4 + 3, none⟩) lS).trans c3
        simp [execOp, go_sem, kc, t43, e0, e1, e2, e3]
        exact ⟨hC, Below.refl _ _, rfl⟩
      · refine ⟨rfl, fun v W ρ hC kc kf ks ki kd => ?_⟩
        simp [execOp, go_sem]
        exact ⟨hC.alloc hC.size _, (Below.refl _ _).alloc (Nat.le_refl _) _, W.heap.size, rfl, hC.size, heap_newG _ _⟩
    intro v8 w5 BX hb5 hvB hnB hBk hall
    simp [upto, Act.put]
    rw [hvB]
    clear hall hvB a0 cl0 c0 c1 c2 c3
    have hA5 := hidS (blk_later HA.out hb5)
    have hR5 := hidS (blk_later HRr.out hb5)
    have hO5 := hidS (HO.out.later hb5)
    have hB5 := hidS (HB.out.trans (hb5.mono HB.out.size))
    have hX5 := hidS hBk
    have lX5 := blk_lt hBk
    have lR5 := blk_lt hR5.out
    clear hb5 HA HRr HO HB hBk
    have x0 := blk_cell hX5.out 0
    simp at x0
    by_cases hkx : ¬ x.key = key
    · have hkb : (x.key != key) = true := bne_iff_ne.2 hkx
      have HLP2 : Hid (linkP s key = (lookL s key (preP l (i + 1)) (nx s (j : Int)) (l.drop (i + 1))).1) := by
        show _ = _
        rw [HLP.out, HDR.out, HPN.out]
        show (if ((slotN s (j : Int)).key == key) = true then (preP l i, (j : Int)) else lookL s key (some (j : Int)) (nx s (j : Int)) (l.drop (i + 1))).1 = _
        rw [EX.out, if_neg (by simpa using hkx)]
      have HFS2 : Hid (findSl s key = findL s key (l.drop (i + 1))) := by
        show _ = _
        rw [HFS.out, HDR.out]
        show (if (slotN s (j : Int)).key = key then (j : Int) else findL s key (l.drop (i + 1))) = _
        rw [EX.out, if_neg hkx]
      clear hkx
      go_wp2_with fail
      go_roundw
      case rel => exact ⟨i + 1, _, by simp, by omega, HLP2.out, HFS2.out, hA5.out, hR5.out, hO5.out, hB5.out⟩
      case measure => simp [intOf]; omega
    have hkx := Classical.not_not.1 hkx
    have HLPE : Hid (linkP s key = preP l i) := by
      show _ = _
      rw [HLP.out, HDR.out]
      show (if ((slotN s (j : Int)).key == key) = true then (preP l i, (j : Int)) else lookL s key (some (j : Int)) (nx s (j : Int)) (l.drop (i + 1))).1 = _
      rw [EX.out, if_pos (by simpa using hkx)]
    have HFE : Hid (findSl s key = (j : Int)) := by
      show _ = _
      rw [HFS.out, HDR.out]
      show (if (slotN s (j : Int)).key = key then (j : Int) else findL s key (l.drop (i + 1))) = _
      rw [EX.out, if_pos hkx]
    have EC : Hid (cutC s key = 0) := by show _ = _; unfold cutC; rw [if_pos EOK.out, if_neg (by rw [HFE.out]; omega)]
    have hx0 := refs_nat HR0.out hjl
    rw [HX.out] at hx0
    obtain ⟨hx0, hx1⟩ := hx0
    have HNX : Hid (nx s (j : Int) = x.next) := by show _ = _; unfold nx; rw [Int.toNat_natCast, HX.out]
    have HE1 : Hid (cutS s key = refS (setLink s c x.next (preP l i)) (j : Int) (x.refs - 1)) := by
      show _ = _
      unfold cutS
      rw [EC.out, if_pos rfl]
      unfold cutIn
      rw [HFE.out, EX.out, HNX.out, HLPE.out, HCQ.out]
    have EA : Hid (cutA s key = (j : Int)) := by show _ = _; unfold cutA; rw [EC.out, if_pos rfl, HFE.out]
    have HOP : Hid (LinkOk s (preP l i)) := by show LinkOk _ _; rw [← HLPE.out]; exact HOK.out
    have HLEN : Hid ((cutS s key).slots.length = s.slots.length ∧ (cutS s key).heads.length = s.heads.length) := by show _ ∧ _; rw [HE1.out]; simp [refS, setLink_len]
    have HTR : Hid (((setLink s c x.next (preP l i)).slots.getD j zeroSlt).refs = x.refs) := by show _ = _; rw [setLink_refs j HOP.out, HX.out]
    rw [hkx] at x0
    have HKX := hidS hkx
    clear hkx HLP HFS ILL
    have a0 := blk_cell hA5.out 0
    have a1 := blk_cell hA5.out 1
    simp at a0 a1
    go_wp2_with fail
    refine (HCP.out _ hB5.out).mono ?_
    intro e w6 hans
    obtain ⟨b2, o2, cS2, b3, o3, cH2, rfl, p1, q1, hne, p3, q3, hb6⟩ := hans.rows n1 n3
    clear a0 a1 x0
    have hR6 := hidS (blk_later hR5.out hb6)
    have hX6 := hidS (blk_later hX5.out hb6)
    have hO6 := hidS (hO5.out.later hb6)
    have hB6 := hidS (hB5.out.trans (hb6.mono hB5.out.size))
    have s6 := hb6.size
    have hbl5 : bl < w5.heap.size := by
      rcases hO5.out with e | ⟨b, o, e, q1', q2', q3'⟩
      · rw [e] at hil; simp at hil
      · injection e with e; injection e with e1 e2; subst e1; exact q3'.lt
    clear hans hb6 hA5 hR5 hX5 hO5 hB5 HCP
    have P7 := hidS (p3.later ((Below.refl w6.heap.size w6).alloc (Nat.le_refl _) (.cells #[.slice (some ⟨b2, o2, none⟩) s.slots.length cS2, .slice (some ⟨b3, o3, none⟩) s.heads.length cH2] 26)))
    have Q7 := hidS (q3.later ((Below.refl w6.heap.size w6).alloc (Nat.le_refl _) (.cells #[.slice (some ⟨b2, o2, none⟩) s.slots.length cS2, .slice (some ⟨b3, o3, none⟩) s.heads.length cH2] 26)))
    have lb2 := p3.lt
    have lb3 := q3.lt
    have hR7 := hidS (blk_alloc hR6.out (.cells #[.slice (some ⟨b2, o2, none⟩) s.slots.length cS2, .slice (some ⟨b3, o3, none⟩) s.heads.length cH2] 26))
    have hX7 := hidS (blk_alloc hX6.out (.cells #[.slice (some ⟨b2, o2, none⟩) s.slots.length cS2, .slice (some ⟨b3, o3, none⟩) s.heads.length cH2] 26))
    have hN7 := hidS (heap_newG w6 (.cells #[.slice (some ⟨b2, o2, none⟩) s.slots.length cS2, .slice (some ⟨b3, o3, none⟩) s.heads.length cH2] 26))
    have hO7 := hidS (hO6.out.later ((Below.refl w6.heap.size w6).alloc (Nat.le_refl _) (.cells #[.slice (some ⟨b2, o2, none⟩) s.slots.length cS2, .slice (some ⟨b3, o3, none⟩) s.heads.length cH2] 26)))
    have hB7 := hidS (hB6.out.alloc hB6.out.size (.cells #[.slice (some ⟨b2, o2, none⟩) s.slots.length cS2, .slice (some ⟨b3, o3, none⟩) s.heads.length cH2] 26))
    clear p3 q3 hR6 hX6 hO6 hB6
    go_upto_region 11 with fail
    generalize w6.alloc (.cells #[.slice (some ⟨b2, o2, none⟩) s.slots.length cS2, .slice (some ⟨b3, o3, none⟩) s.heads.length cH2] 26) = w7 at P7 Q7 hR7 hX7 hN7 hO7 hB7 ⊢
    have z0 : w.heap.size + 1 < b2 ∧ w.heap.size + 1 < b3 ∧ BX ≠ b2 ∧ BX ≠ b3 ∧ BX ≠ w6.heap.size := by omega
    have x3 := blk_cell hX7.out 3
    have cO0 := blk_cell hN7.out 0
    have cO1 := blk_cell hN7.out 1
    simp at x3 cO0 cO1
    have HBL : Hid (bl ≠ b2 ∧ bl ≠ b3) := hidS ⟨by omega, by omega⟩
    by_cases hi0 : i = 0
    · have hz : ((i : Int) == 0) = true := by rw [hi0]; rfl
      have HPI : Hid (preP l i = none) := by show _ = _; unfold preP; rw [if_pos hi0]
      clear hi0
      obtain ⟨zh, y0⟩ := (rowB_cells Q7.out c hcl).1
      have f0 := (rowB_cells Q7.out c hcl).2
      have P8 : RowB b2 o2 (flat (setLink s c x.next (preP l i)).slots) (w7.setCell ⟨b3, o3 + c, none⟩ (.int .i64 x.next)) := by rw [HPI.out]; exact (link_store P7.out Q7.out hne hcl x.next (p := none) trivial).1
      have Q8 : RowB b3 o3 (setLink s c x.next (preP l i)).heads (w7.setCell ⟨b3, o3 + c, none⟩ (.int .i64 x.next)) := by rw [HPI.out]; exact (link_store P7.out Q7.out hne hcl x.next (p := none) trivial).2
      have hR8 : Hid ((w7.setCell ⟨b3, o3 + c, none⟩ (.int .i64 x.next)).heap[w.heap.size + 1]? = some (.cells #[.slice none 0 0, .slice none 0 0, .int .i64 0, .int .i64 0] 30)) := hidS (blk_other (B := b3) hR7.out (by omega) (o3 + c) (.int .i64 x.next))
      have hN8 : Hid ((w7.setCell ⟨b3, o3 + c, none⟩ (.int .i64 x.next)).heap[w6.heap.size]? = some (.cells #[.slice (some ⟨b2, o2, none⟩) s.slots.length cS2, .slice (some ⟨b3, o3, none⟩) s.heads.length cH2] 26)) := hidS (blk_other (B := b3) hN7.out (by omega) (o3 + c) (.int .i64 x.next))
      have hX8 : Hid ((w7.setCell ⟨b3, o3 + c, none⟩ (.int .i64 x.next)).heap[BX]? = some (.cells #[.int .i64 x.key, .int .i64 x.gen, .int .i64 x.refs, .int .i64 x.next] 42)) := hidS (blk_other (B := b3) hX7.out (by omega) (o3 + c) (.int .i64 x.next))
      have hB8 : Hid (Below w.heap.size w (w7.setCell ⟨b3, o3 + c, none⟩ (.int .i64 x.next))) := hidS (below_at (k := o3 + c) (b := b3) (v := .int .i64 x.next) hB7.out (by omega))
      have hO8 : Hid (OwnR (w.heap.size + 2) top (some ⟨bl, ol, none⟩) l (w7.setCell ⟨b3, o3 + c, none⟩ (.int .i64 x.next))) := hidS (own_other hO7.out HBL.out.2)
      go_upto_region 14 with fail
      clear y0 f0 x3 cO0 cO1 P7 Q7 hR7 hN7 hX7 hO7 hB7
      generalize w7.setCell ⟨b3, o3 + c, none⟩ (.int .i64 x.next) = w8 at P8 Q8 hR8 hN8 hX8 hO8 hB8 ⊢
      have HP8 := hidS P8
      have HQ8 := hidS Q8
      clear P8 Q8
      have hjl2 : j < (setLink s c x.next (preP l i)).slots.length := by rw [setLink_len.1]; exact hjl
      obtain ⟨b2', o2', eS, _, d0, d1, d2, d3⟩ := HP8.out.read.slot hjl2
      injection eS with eS; injection eS with eS1 eS2
      subst eS1 eS2
      rw [HTR.out] at d2
      clear d0 d1 d3
      have f2 := (rowB_cells HP8.out (4 * j + 2) (by rw [flat_len]; omega)).2
      rw [show o2 + (4 * j + 2) = o2 + j * 4 + 2 by omega] at f2
      obtain ⟨bl', ol', el', ll', cl8⟩ := hO8.out.read i hil
      injection el' with el'; injection el' with q1' q2'
      subst q1' q2'
      rw [HJ.out] at cl8
      have cO0 := blk_cell hN8.out 0
      have cO1 := blk_cell hN8.out 1
      have x2 := blk_cell hX8.out 2
      simp at cO0 cO1 x2
      clear hjl2
      go_wp2_with fail
      go_region
      have HP9 : Hid (RowB b2 o2 (flat (refS (setLink s c x.next (preP l i)) (j : Int) (x.refs - 1)).slots) ((w8.setCell ⟨b2, o2 + j * 4 + 2, none⟩ (.int .i64 (x.refs - 1))).drew)) := hidS (cut_refs (r := x.refs - 1) HOP.out hjl HP8.out)
      have HQ9 : Hid (RowB b3 o3 (setLink s c x.next (preP l i)).heads ((w8.setCell ⟨b2, o2 + j * 4 + 2, none⟩ (.int .i64 (x.refs - 1))).drew)) := hidS (RowB.other (g := b2) (k := o2 + j * 4 + 2) (v := .int .i64 (x.refs - 1)) HQ8.out (fun e => hne e.symm))
      have hR9 : Hid (((w8.setCell ⟨b2, o2 + j * 4 + 2, none⟩ (.int .i64 (x.refs - 1))).drew).heap[w.heap.size + 1]? = some (.cells #[.slice none 0 0, .slice none 0 0, .int .i64 0, .int .i64 0] 30)) := hidS (blk_other (B := b2) hR8.out (by omega) (o2 + j * 4 + 2) (.int .i64 (x.refs - 1)))
      have hN9 : Hid (((w8.setCell ⟨b2, o2 + j * 4 + 2, none⟩ (.int .i64 (x.refs - 1))).drew).heap[w6.heap.size]? = some (.cells #[.slice (some ⟨b2, o2, none⟩) s.slots.length cS2, .slice (some ⟨b3, o3, none⟩) s.heads.length cH2] 26)) := hidS (blk_other (B := b2) hN8.out (by omega) (o2 + j * 4 + 2) (.int .i64 (x.refs - 1)))
      have hB9 : Hid (Below w.heap.size w ((w8.setCell ⟨b2, o2 + j * 4 + 2, none⟩ (.int .i64 (x.refs - 1))).drew)) := hidS (below_at (k := o2 + j * 4 + 2) (b := b2) (v := .int .i64 (x.refs - 1)) hB8.out (by omega)).drew
      have cl9 : (w8.setCell ⟨b2, o2 + j * 4 + 2, none⟩ (.int .i64 (x.refs - 1))).drew.cell? ⟨bl, ol + i, none⟩ = some (.int .i64 (j : Int)) := by
        exact (cell_other HBL.out.1).trans cl8
      clear d2 f2 cl8 cO0 cO1 x2 HP8 HQ8 hR8 hN8 hX8 hO8 hB8 ll'
      generalize (w8.setCell ⟨b2, o2 + j * 4 + 2, none⟩ (.int .i64 (x.refs - 1))).drew = w9 at HP9 HQ9 hR9 hN9 hB9 cl9 ⊢
      have cO0 := blk_cell hN9.out 0
      have cO1 := blk_cell hN9.out 1
      simp at cO0 cO1
      have kR := blk_cell hR9.out
      have fR := blk_free hR9.out
      have kR0 := blk_cell hR9.out 0
      have kR1 := blk_cell hR9.out 1
      have kR2 := blk_cell hR9.out 2
      have kR3 := blk_cell hR9.out 3
      simp at kR0 kR1 kR2 kR3
      go_wp2_with fail
      go_region
      go_wp2_with fail
      refine bodyPost_ret (v := .agg #[.slice (some ⟨b2, o2, none⟩) s.slots.length cS2, .slice (some ⟨b3, o3, none⟩) s.heads.length cH2, .int .i64 (j : Int), .int .i64 0]) (by simp [results, Try.results16, go_sem, *]) rfl ?_
      refine ⟨some ⟨b2, o2, none⟩, cS2, some ⟨b3, o3, none⟩, cH2, by rw [HLEN.out.1, HLEN.out.2, EA.out, EC.out], rows_own (by omega) (by omega) hne ?_ ?_, ?_⟩
      · rw [HE1.out]
        refine RowB.drewn ?_
        repeat (refine RowB.other ?_ (by omega))
        exact HP9.out
      · rw [HE1.out]
        refine RowB.drewn ?_
        repeat (refine RowB.other ?_ (by omega))
        exact HQ9.out
      · refine Below.drew ?_
        repeat (refine below_at ?_ (by omega))
        exact hB9.out
    obtain ⟨y, hy, hyl⟩ : ∃ y : Nat, l.getD (i - 1) 0 = (y : Int) ∧ y < s.slots.length := by
      have hm : l.getD (i - 1) 0 ∈ l := by rw [List.getD_eq_getElem?_getD, List.getElem?_eq_getElem (show i - 1 < l.length by omega)]; exact List.getElem_mem _
      have := HIN.out _ hm
      exact ⟨(l.getD (i - 1) 0).toNat, by omega, by omega⟩
    have hyy : (0 : Int) ≤ (y : Int) ∧ (y : Int) < (s.slots.length : Int) := by omega
    have HPY : Hid (preP l i = some (y : Int)) := by show _ = _; unfold preP; rw [if_neg hi0, hy]
    have HOY : Hid (LinkOk s (some (y : Int))) := hidS ⟨hyy.1, hyy.2⟩
    have hz : ((i : Int) == 0) = false := beq_eq_false_iff_ne.2 (by omega)
    obtain ⟨bl', ol', el', ll', cl7⟩ := hO7.out.read (i - 1) (by omega)
    injection el' with el'; injection el' with q1' q2'
    subst q1' q2'
    rw [hy] at cl7
    have him : (i : Int) - 1 = ((i - 1 : Nat) : Int) := by omega
    have him2 : (0 : Int) ≤ ((i - 1 : Nat) : Int) ∧ ((i - 1 : Nat) : Int) < (l.length : Int) := by omega
    obtain ⟨b2', o2', eS, _, d0, d1, d2, d3⟩ := P7.out.read.slot hyl
    injection eS with eS; injection eS with eS1 eS2
    subst eS1 eS2
    clear d0 d1 d2
    have f3 := (rowB_cells P7.out (4 * y + 3) (by rw [flat_len]; omega)).2
    rw [show o2 + (4 * y + 3) = o2 + y * 4 + 3 by omega] at f3
    clear hy hi0
    go_wp2_with fail
    go_region
    have P8 : RowB b2 o2 (flat (setLink s c x.next (preP l i)).slots) ((w7.setCell ⟨b2, o2 + y * 4 + 3, none⟩ (.int .i64 x.next)).drew) := by
      rw [HPY.out]
      have h := (link_store P7.out Q7.out hne hcl x.next (p := some (y : Int)) HOY.out).1
      exact h
    have Q8 : RowB b3 o3 (setLink s c x.next (preP l i)).heads ((w7.setCell ⟨b2, o2 + y * 4 + 3, none⟩ (.int .i64 x.next)).drew) := by
      rw [HPY.out]
      have h := (link_store P7.out Q7.out hne hcl x.next (p := some (y : Int)) HOY.out).2
      exact h
    have hR8 : Hid (((w7.setCell ⟨b2, o2 + y * 4 + 3, none⟩ (.int .i64 x.next)).drew).heap[w.heap.size + 1]? = some (.cells #[.slice none 0 0, .slice none 0 0, .int .i64 0, .int .i64 0] 30)) := hidS (blk_other (B := b2) hR7.out (by omega) (o2 + y * 4 + 3) (.int .i64 x.next))
    have hN8 : Hid (((w7.setCell ⟨b2, o2 + y * 4 + 3, none⟩ (.int .i64 x.next)).drew).heap[w6.heap.size]? = some (.cells #[.slice (some ⟨b2, o2, none⟩) s.slots.length cS2, .slice (some ⟨b3, o3, none⟩) s.heads.length cH2] 26)) := hidS (blk_other (B := b2) hN7.out (by omega) (o2 + y * 4 + 3) (.int .i64 x.next))
    have hX8 : Hid (((w7.setCell ⟨b2, o2 + y * 4 + 3, none⟩ (.int .i64 x.next)).drew).heap[BX]? = some (.cells #[.int .i64 x.key, .int .i64 x.gen, .int .i64 x.refs, .int .i64 x.next] 42)) := hidS (blk_other (B := b2) hX7.out (by omega) (o2 + y * 4 + 3) (.int .i64 x.next))
    have hB8 : Hid (Below w.heap.size w ((w7.setCell ⟨b2, o2 + y * 4 + 3, none⟩ (.int .i64 x.next)).drew)) := hidS (below_at (k := o2 + y * 4 + 3) (b := b2) (v := .int .i64 x.next) hB7.out (by omega)).drew
    have hO8 : Hid (OwnR (w.heap.size + 2) top (some ⟨bl, ol, none⟩) l ((w7.setCell ⟨b2, o2 + y * 4 + 3, none⟩ (.int .i64 x.next)).drew)) := hidS (own_other (g := b2) (k := o2 + y * 4 + 3) (v := .int .i64 x.next) hO7.out HBL.out.1)
    clear cl7 ll' d3 f3 x3 cO0 cO1 P7 Q7 hR7 hN7 hX7 hO7 hB7 him him2
    generalize (w7.setCell ⟨b2, o2 + y * 4 + 3, none⟩ (.int .i64 x.next)).drew = w8 at P8 Q8 hR8 hN8 hX8 hO8 hB8 ⊢
    have HP8 := hidS P8
    have HQ8 := hidS Q8
    clear P8 Q8
    have hjl2 : j < (setLink s c x.next (preP l i)).slots.length := by rw [setLink_len.1]; exact hjl
    obtain ⟨b2', o2', eS, _, d0, d1, d2, d3⟩ := HP8.out.read.slot hjl2
    injection eS with eS; injection eS with eS1 eS2
    subst eS1 eS2
    rw [HTR.out] at d2
    clear d0 d1 d3
    have f2 := (rowB_cells HP8.out (4 * j + 2) (by rw [flat_len]; omega)).2
    rw [show o2 + (4 * j + 2) = o2 + j * 4 + 2 by omega] at f2
    obtain ⟨bl', ol', el', ll', cl8⟩ := hO8.out.read i hil
    injection el' with el'; injection el' with q1' q2'
    subst q1' q2'
    rw [HJ.out] at cl8
    have cO0 := blk_cell hN8.out 0
    have cO1 := blk_cell hN8.out 1
    have x2 := blk_cell hX8.out 2
    simp at cO0 cO1 x2
    clear hjl2
    go_wp2_with fail
    go_region
    have HP9 : Hid (RowB b2 o2 (flat (refS (setLink s c x.next (preP l i)) (j : Int) (x.refs - 1)).slots) ((w8.setCell ⟨b2, o2 + j * 4 + 2, none⟩ (.int .i64 (x.refs - 1))).drew)) := hidS (cut_refs (r := x.refs - 1) HOP.out hjl HP8.out)
    have HQ9 : Hid (RowB b3 o3 (setLink s c x.next (preP l i)).heads ((w8.setCell ⟨b2, o2 + j * 4 + 2, none⟩ (.int .i64 (x.refs - 1))).drew)) := hidS (RowB.other (g := b2) (k := o2 + j * 4 + 2) (v := .int .i64 (x.refs - 1)) HQ8.out (fun e => hne e.symm))
    have hR9 : Hid (((w8.setCell ⟨b2, o2 + j * 4 + 2, none⟩ (.int .i64 (x.refs - 1))).drew).heap[w.heap.size + 1]? = some (.cells #[.slice none 0 0, .slice none 0 0, .int .i64 0, .int .i64 0] 30)) := hidS (blk_other (B := b2) hR8.out (by omega) (o2 + j * 4 + 2) (.int .i64 (x.refs - 1)))
    have hN9 : Hid (((w8.setCell ⟨b2, o2 + j * 4 + 2, none⟩ (.int .i64 (x.refs - 1))).drew).heap[w6.heap.size]? = some (.cells #[.slice (some ⟨b2, o2, none⟩) s.slots.length cS2, .slice (some ⟨b3, o3, none⟩) s.heads.length cH2] 26)) := hidS (blk_other (B := b2) hN8.out (by omega) (o2 + j * 4 + 2) (.int .i64 (x.refs - 1)))
    have hB9 : Hid (Below w.heap.size w ((w8.setCell ⟨b2, o2 + j * 4 + 2, none⟩ (.int .i64 (x.refs - 1))).drew)) := hidS (below_at (k := o2 + j * 4 + 2) (b := b2) (v := .int .i64 (x.refs - 1)) hB8.out (by omega)).drew
    have cl9 : (w8.setCell ⟨b2, o2 + j * 4 + 2, none⟩ (.int .i64 (x.refs - 1))).drew.cell? ⟨bl, ol + i, none⟩ = some (.int .i64 (j : Int)) := by
      exact (cell_other HBL.out.1).trans cl8
    clear d2 f2 cl8 cO0 cO1 x2 HP8 HQ8 hR8 hN8 hX8 hO8 hB8 ll'
    generalize (w8.setCell ⟨b2, o2 + j * 4 + 2, none⟩ (.int .i64 (x.refs - 1))).drew = w9 at HP9 HQ9 hR9 hN9 hB9 cl9 ⊢
    have cO0 := blk_cell hN9.out 0
    have cO1 := blk_cell hN9.out 1
    simp at cO0 cO1
    have kR := blk_cell hR9.out
    have fR := blk_free hR9.out
    have kR0 := blk_cell hR9.out 0
    have kR1 := blk_cell hR9.out 1
    have kR2 := blk_cell hR9.out 2
    have kR3 := blk_cell hR9.out 3
    simp at kR0 kR1 kR2 kR3
    go_wp2_with fail
    go_region
    go_wp2_with fail
    refine bodyPost_ret (v := .agg #[.slice (some ⟨b2, o2, none⟩) s.slots.length cS2, .slice (some ⟨b3, o3, none⟩) s.heads.length cH2, .int .i64 (j : Int), .int .i64 0]) (by simp [results, Try.results16, go_sem, *]) rfl ?_
    refine ⟨some ⟨b2, o2, none⟩, cS2, some ⟨b3, o3, none⟩, cH2, by rw [HLEN.out.1, HLEN.out.2, EA.out, EC.out], rows_own (by omega) (by omega) hne ?_ ?_, ?_⟩
    · rw [HE1.out]
      refine RowB.drewn ?_
      repeat (refine RowB.other ?_ (by omega))
      exact HP9.out
    · rw [HE1.out]
      refine RowB.drewn ?_
      repeat (refine RowB.other ?_ (by omega))
      exact HQ9.out
    · refine Below.drew ?_
      repeat (refine below_at ?_ (by omega))
      exact hB9.out
end Go.Proofs.Ytcopfejonbbmnaa
