/- Proved here: spec's draw of a slab answers a slab of 1 to 24 slots and 1 to 4 chains, of numbers of int64, in memory of its own; the source alone turns of old memory (condition: a source). -/
import Derived.Test.YtcopfejonbbmnaaSlabDrawD
namespace Go.Proofs.Ytcopfejonbbmnaa
open Go.ChangeShapes Go.WideShapes Go.ChangeAt Go.RowKit
set_option linter.unusedVariables false
set_option linter.unusedSimpArgs false
set_option maxRecDepth 100000

set_option maxHeartbeats 16000000 in
theorem srcSlab_any (B : Nat) (a : Option Addr) (len cap : Nat) (w : World) (hS : Src B a len cap w) :
    Calls Try.prog 37 #[.pointer (some ⟨B, 0, none⟩)] w fun e w' => DrawnSl B a len cap w e w' := by
  have hlt := hS.lt
  have hS1 := hidS (hS.kept (w' := w.alloc (.cells #[.slice none 0 0, .slice none 0 0] 26)) fun k hk => Below.heap_alloc _ _ _ (by omega))
  have hG1 := hidS (World.grownBy_alloc w (.cells #[.slice none 0 0, .slice none 0 0] 26) (some B))
  have hR1 := hidS (heap_newG w (.cells #[.slice none 0 0, .slice none 0 0] 26))
  clear hS
  go_enter Try.func37, Try.ntmps37
  go_wp2_with fail
  generalize w.alloc (.cells #[.slice none 0 0, .slice none 0 0] 26) = w1 at hS1 hG1 hR1 ⊢
  refine (srcN_any B a len cap 7 _ hS1.out (by omega)).mono ?_
  rintro _ w2 ⟨r, rfl, r0, r1, hS2, hO2⟩
  have HS2 := hidS hS2
  have HG2 := hidS (grown_then hG1.out hO2.grown)
  have hR2 := hidS ((hO2.block w.heap.size (by omega)).trans hR1.out)
  clear hS2 hO2 hS1 hG1 hR1
  have r1' : r < 7 := by omega
  go_wp2_with fail
  refine (srcN_any B a len cap 3 _ HS2.out (by omega)).mono ?_
  rintro _ w3 ⟨q, rfl, q0, q1, hS3, hO3⟩
  have HS3 := hidS hS3
  have HG3 := hidS (grown_then HG2.out hO3.grown)
  have hR3 := hidS ((hO3.block w.heap.size (by omega)).trans hR2.out)
  clear hS3 hO3 HS2 HG2 hR2
  have q1' : q < 3 := by omega
  have hnb : newB (1 + r) (1 + q) = true := by unfold newB; simp; omega
  have hrt := new_right hnb
  obtain ⟨n1, n2, n3, n4⟩ := rt_sizes (rt_of hrt).sz
  obtain ⟨t, ht⟩ : ∃ t, newSl (1 + r) (1 + q) = t := ⟨_, rfl⟩
  have HN := hidS (fun W => specSlabNew_any (1 + r) (1 + q) W)
  rw [ht] at HN hrt n1 n2 n3 n4
  have HRT := hidS hrt
  clear ht hnb hrt
  go_wp2_with fail
  refine (HN.out _).mono ?_
  intro e w4 hans
  obtain ⟨b2, o2, cS, b3, o3, cH, rfl, p1, p2, hne, p3, q3, hb4⟩ := hans.rows n1 n3
  have l3 := blk_lt hR3.out
  have HRD : Hid (RdSt B a len cap w w4.heap.size b2 o2 cS b3 o3 cH t (w4.alloc (.cells #[.slice (some ⟨b2, o2, none⟩) t.slots.length cS, .slice (some ⟨b3, o3, none⟩) t.heads.length cH] 26))) := by
    have hb5 : Below w4.heap.size w4 (w4.alloc (.cells #[.slice (some ⟨b2, o2, none⟩) t.slots.length cS, .slice (some ⟨b3, o3, none⟩) t.heads.length cH] 26)) := (Below.refl w4.heap.size w4).alloc (Nat.le_refl _) (.cells #[.slice (some ⟨b2, o2, none⟩) t.slots.length cS, .slice (some ⟨b3, o3, none⟩) t.heads.length cH] 26)
    have s2 := p3.lt
    have s3 := q3.lt
    have hs := hb4.size
    refine ⟨HRT.out, ⟨heap_newG w4 (.cells #[.slice (some ⟨b2, o2, none⟩) t.slots.length cS, .slice (some ⟨b3, o3, none⟩) t.heads.length cH] 26), hne, by omega, by omega, by omega, by omega, p3.later hb5, q3.later hb5⟩, blk_alloc (blk_later hR3.out hb4) _, src_keep (src_keep HS3.out hb4) hb5, grown_then HG3.out (grown_then (grown_below hb4) (grown_below hb5)), ⟨hlt, by omega⟩⟩
  clear hans p1 p2 p3 q3 hb4 HS3 HG3 hR3 HN HRT hne n1 n2 n3 n4 l3
  go_upto_region 2 with fail
  generalize hX : w4.heap.size = X at *
  generalize w4.alloc (.cells #[.slice (some ⟨b2, o2, none⟩) t.slots.length cS, .slice (some ⟨b3, o3, none⟩) t.heads.length cH] 26) = w5 at HRD ⊢
  clear hX
  go_wp2_with fail
  refine (srcN_any B a len cap 12 _ HRD.out.src (by omega)).mono ?_
  rintro _ w6 ⟨k, rfl, k0, k1, hS6, hO6⟩
  have HRD6 := hidS (HRD.out.grown hS6 hO6.grown)
  clear hS6 hO6 HRD
  obtain ⟨K, rfl⟩ : ∃ K : Nat, k = (K : Int) := ⟨k.toNat, by omega⟩
  have hK : K ≤ 12 := by omega
  clear k0 k1 r0 r1 q0 q1
  go_wp2_with fail
  go_loopw [4] (fun kk wr => LpD B a len cap w X kk wr) (fun kk _ => (intOf kk).toNat)
  case atStart => exact ⟨K, b2, o2, cS, b3, o3, cH, t, rfl, hK, HRD6.out⟩
  case round =>
    obtain ⟨k, b2, o2, cS, b3, o3, cH, t, rfl, hk, hrd⟩ := hrel
    have HRD := hidS hrd
    obtain ⟨_, n1, n2, n3, n4⟩ := right_leads hrd.rt
    clear HRD6 hrd hK
    by_cases hk0 : 0 < k
    · have hk0' : (0 : Int) < (k : Int) := by omega
      have hk12 : (k : Int) ≤ 12 := by omega
      go_wp2_with fail
      have HX := hidS HRD.out.x
      have HB0 : Hid (B < w.heap.size + 1) := hidS (by have := HRD.out.bx; omega)
      have HBX : Hid (B ≠ X) := hidS (by have := HRD.out.bx; omega)
      have HLT : Hid (B < wr.heap.size) := hidS HRD.out.src.lt
      have HN : Hid (t.slots.length ≤ 24 ∧ t.heads.length ≤ 4) := hidS ⟨n2, n4⟩
      refine growS (DrA B a len cap wr (.agg #[.slice (some ⟨b2, o2, none⟩) t.slots.length cS, .slice (some ⟨b3, o3, none⟩) t.heads.length cH])) (by kernel_rfl) (by kernel_rfl) ?startA ?stepsA ?finA
      case startA =>
        intro L v hno
        exact ⟨HRD.out.src.kept fun _ _ => rfl, ⟨rfl, rfl, rfl, Nat.le_refl _, fun _ _ _ => rfl⟩, fun h => (hno _ h).elim, fun h => (hno _ h).elim, fun h => (hno _ h).elim, fun h => (hno _ h).elim, fun h _ => (hno _ h).elim, fun h => (hno _ h).elim, fun h => (hno _ h).elim⟩
      case stepsA =>
        refine ⟨?_, ?_, ?_, ?_, ?_, ?_, trivial⟩
        · refine ⟨rfl, fun L v W ρ hC hn hd kc kf ks ki => ?_⟩
          have hx := HX.out.grown hC.gr HB0.out HBX.out
          have t3 : ρ (.tmp 3) = .pointer (some ⟨X, 0, none⟩) := ki 3 (by decide)
          have e0 := blk_cell hx.blk 0
          have e1 := blk_cell hx.blk 1
          simp at e0 e1
          simp [execOp, go_sem, t3, e0, e1]
          simp only [RanS]
          exact ⟨hC.src, hC.gr, (fun _ => rfl), (fun h => hC.p1 (h.resolve_right (by omega))), (fun h => hC.k2 (h.resolve_right (by omega))), (fun h => by obtain ⟨lo, hi, a1, a2, a3, a4⟩ := hC.r3 (h.resolve_right (by omega)); exact ⟨lo, hi, a1, a2, a3, fun l4 g eg => a4 (l4.resolve_right (by omega)) g eg⟩), (fun h g => hC.z4 (h.resolve_right (by omega)) (fun x => g (.inl x))), (fun h => ⟨.inl (hC.c5 (h.resolve_right (by omega))).1, .inl (hC.c5 (h.resolve_right (by omega))).2⟩), (fun h => hC.s5 (h.resolve_right (by omega)))⟩
        · refine ⟨rfl, fun L v W ρ hC hn hd kc kf ks ki => ?_⟩
          have t0 : ρ (.tmp 0) = .pointer (some ⟨B, 0, none⟩) := ki 0 (by decide)
          simp [execOp, go_sem, t0]
          simp only [RanS]
          exact ⟨hC.src, hC.gr, (fun h => hC.p0 (h.resolve_right (by omega))), (fun _ => rfl), (fun h => hC.k2 (h.resolve_right (by omega))), (fun h => by obtain ⟨lo, hi, a1, a2, a3, a4⟩ := hC.r3 (h.resolve_right (by omega)); exact ⟨lo, hi, a1, a2, a3, fun l4 g eg => a4 (l4.resolve_right (by omega)) g eg⟩), (fun h g => hC.z4 (h.resolve_right (by omega)) (fun x => g (.inl x))), (fun h => ⟨.inl (hC.c5 (h.resolve_right (by omega))).1, .inl (hC.c5 (h.resolve_right (by omega))).2⟩), (fun h => hC.s5 (h.resolve_right (by omega)))⟩
        · refine ⟨rfl, fun L v W ρ hC hn hd kc kf ks ki => ?_⟩
          have L1 : L 1 := by first | exact hd _ (mem0 rfl) rfl | exact hd _ (mem1 rfl) rfl | exact hd _ (mem2 rfl) rfl
          have t21 : ρ (.tmp 21) = .pointer (some ⟨B, 0, none⟩) := (ks 1 21 (by decide) rfl).trans (hC.p1 L1)
          simp [execOp, go_sem, t21, kf]
          simp only [RanS]
          refine (srcKey_any B a len cap W hC.src).mono fun e W' h => ?_
          obtain ⟨r, rfl, r0, r1, hS', hg'⟩ := h
          have hC' := hC.later hS' hg' HLT.out
          exact ⟨_, rfl, ⟨hC'.src, hC'.gr, (fun h => hC'.p0 (h.resolve_right (by omega))), (fun h => hC'.p1 (h.resolve_right (by omega))), (fun _ => ⟨r, rfl, r0, r1⟩), (fun h => by obtain ⟨lo, hi, a1, a2, a3, a4⟩ := hC'.r3 (h.resolve_right (by omega)); exact ⟨lo, hi, a1, a2, a3, fun l4 g eg => a4 (l4.resolve_right (by omega)) g eg⟩), (fun h g => hC'.z4 (h.resolve_right (by omega)) (fun x => g (.inl x))), (fun h => ⟨.inl (hC'.c5 (h.resolve_right (by omega))).1, .inl (hC'.c5 (h.resolve_right (by omega))).2⟩), (fun h => hC'.s5 (h.resolve_right (by omega)))⟩⟩
        · refine ⟨rfl, fun L v W ρ hC hn hd kc kf ks ki => ?_⟩
          have L0 : L 0 := by first | exact hd _ (mem0 rfl) rfl | exact hd _ (mem1 rfl) rfl | exact hd _ (mem2 rfl) rfl
          have L2 : L 2 := by first | exact hd _ (mem0 rfl) rfl | exact hd _ (mem1 rfl) rfl | exact hd _ (mem2 rfl) rfl
          obtain ⟨r, er, r0, r1⟩ := hC.k2 L2
          have t20 : ρ (.tmp 20) = .agg #[.slice (some ⟨b2, o2, none⟩) t.slots.length cS, .slice (some ⟨b3, o3, none⟩) t.heads.length cH] := (ks 0 20 (by decide) rfl).trans (hC.p0 L0)
          have t22 : ρ (.tmp 22) = .int .i64 r := (ks 2 22 (by decide) rfl).trans er
          have hx := HX.out.grown hC.gr HB0.out HBX.out
          simp [execOp, go_sem, t20, t22, kf]
          simp only [RanS]
          refine (addR r W hx.read HN.out.1 HN.out.2).mono fun e W' h => ?_
          obtain ⟨vv, rfl, hV, hb⟩ := out_val h
          have hC' := hC.later (src_keep hC.src hb) (grown_below hb) HLT.out
          exact ⟨_, rfl, ⟨hC'.src, hC'.gr, (fun h => hC'.p0 (h.resolve_right (by omega))), (fun h => hC'.p1 (h.resolve_right (by omega))), (fun h => hC'.k2 (h.resolve_right (by omega))), (fun _ => ⟨W.heap.size, W'.heap.size, hC.gr.size, hb.size, hV, fun l4 g eg => by obtain ⟨g', e', _, q⟩ := hC.z4 (l4.resolve_right (by omega)) (fun h5 => hn (hC.c5 h5).1); have eg : v 4 = .pointer (some ⟨g, 0, none⟩) := eg; rw [e'] at eg; injection eg with eg; injection eg with eg; injection eg with eg; subst eg; exact .inl (blk_lt q)⟩), (fun h g => hC'.z4 (h.resolve_right (by omega)) (fun x => g (.inl x))), (fun h => (hn (hC.c5 (h.resolve_right (by omega))).1).elim), (fun h => (hn (hC.c5 (h.resolve_right (by omega))).1).elim)⟩⟩
        · refine ⟨rfl, fun L v W ρ hC hn hd kc kf ks ki => ?_⟩
          have hg' := World.grownBy_alloc W (.cells #[.slice none 0 0, .slice none 0 0, .int .i64 0, .int .i64 0] 30) (some B)
          have hC' := hC.later (hC.src.kept fun k hk => Below.heap_alloc _ _ _ (by have := hC.src.lt; omega)) hg' HLT.out
          simp [execOp, go_sem]
          simp only [RanS]
          exact ⟨hC'.src, hC'.gr, (fun h => hC'.p0 (h.resolve_right (by omega))), (fun h => hC'.p1 (h.resolve_right (by omega))), (fun h => hC'.k2 (h.resolve_right (by omega))), (fun h => by obtain ⟨lo, hi, a1, a2, a3, a4⟩ := hC.r3 (h.resolve_right (by omega)); have hh := a3.hi_le; refine ⟨lo, hi, a1, a2, a3.ex (B := B) (Y := B) (Ex2.of_grown hg') (.inl (by have := HLT.out; omega)) (.inl (by have := HLT.out; omega)), fun _ g eg => ?_⟩; have eg : Value.pointer (some ⟨W.heap.size, 0, none⟩) = .pointer (some ⟨g, 0, none⟩) := eg; injection eg with eg; injection eg with eg; injection eg with eg; subst eg; exact .inr hh), (fun _ _ => ⟨W.heap.size, rfl, hC.gr.size, heap_newG W (.cells #[.slice none 0 0, .slice none 0 0, .int .i64 0, .int .i64 0] 30)⟩), (fun h => (hn (hC.c5 (h.resolve_right (by omega))).2).elim), (fun h => (hn (hC.c5 (h.resolve_right (by omega))).2).elim)⟩
        · refine ⟨rfl, fun L v W ρ hC hn hd kc kf ks ki => ?_⟩
          have L3 : L 3 := by first | exact hd _ (mem0 rfl) rfl | exact hd _ (mem1 rfl) rfl | exact hd _ (mem2 rfl) rfl
          have L4 : L 4 := by first | exact hd _ (mem0 rfl) rfl | exact hd _ (mem1 rfl) rfl | exact hd _ (mem2 rfl) rfl
          obtain ⟨lo, hi, a1, a2, a3, a4⟩ := hC.r3 L3
          obtain ⟨g, eg, hg, hz⟩ := hC.z4 L4 hn
          have hgap := a4 L4 g eg
          have a3' := a3
          obtain ⟨u, ua, uc, aS, aH, kS, kH, eu, o1, o2, o3⟩ := a3
          have t5 : ρ (.tmp 5) = .pointer (some ⟨g, 0, none⟩) := (ks 4 5 (by decide) rfl).trans eg
          have t23 : ρ (.tmp 23) = .agg #[.slice aS u.slots.length kS, .slice aH u.heads.length kH, .int .i64 ua, .int .i64 uc] := (ks 3 23 (by decide) rfl).trans eu
          have hth : W.there g 0 4 := fun j hj => ⟨by simp [World.cell?, hz]; omega, by simp [World.frozen?, hz]⟩
          have hrun := run_storeAt_mid (P := Try.prog) W g 0 30 #[.slice aS u.slots.length kS, .slice aH u.heads.length kH, .int .i64 ua, .int .i64 uc] hth (by kernel_rfl) (by simp [Value.oneCell'])
          have hset : W.setCells g 0 (#[.slice aS u.slots.length kS, .slice aH u.heads.length kH, .int .i64 ua, .int .i64 uc] : Array Value).toList = ((((W.setCell ⟨g, 0, none⟩ (.slice aS u.slots.length kS)).setCell ⟨g, 1, none⟩ (.slice aH u.heads.length kH)).setCell ⟨g, 2, none⟩ (.int .i64 ua)).setCell ⟨g, 3, none⟩ (.int .i64 uc)) := rfl
          rw [hset] at hrun
          have hst : ((((W.setCell ⟨g, 0, none⟩ (.slice aS u.slots.length kS)).setCell ⟨g, 1, none⟩ (.slice aH u.heads.length kH)).setCell ⟨g, 2, none⟩ (.int .i64 ua)).setCell ⟨g, 3, none⟩ (.int .i64 uc)).heap[g]? = some (.cells #[.slice aS u.slots.length kS, .slice aH u.heads.length kH, .int .i64 ua, .int .i64 uc] 30) := by
            have := blk_set (blk_set (blk_set (blk_set hz 0 (.slice aS u.slots.length kS)) 1 (.slice aH u.heads.length kH)) 2 (.int .i64 ua)) 3 (.int .i64 uc)
            simpa using this
          have hex : Ex2 B g W ((((W.setCell ⟨g, 0, none⟩ (.slice aS u.slots.length kS)).setCell ⟨g, 1, none⟩ (.slice aH u.heads.length kH)).setCell ⟨g, 2, none⟩ (.int .i64 ua)).setCell ⟨g, 3, none⟩ (.int .i64 uc)) := ((((Ex2.refl B g W).cells 0 (.slice aS u.slots.length kS)).cells 1 (.slice aH u.heads.length kH)).cells 2 (.int .i64 ua)).cells 3 (.int .i64 uc)
          have hV' : OutV lo hi (.agg #[.slice aS u.slots.length kS, .slice aH u.heads.length kH, .int .i64 ua, .int .i64 uc]) ((((W.setCell ⟨g, 0, none⟩ (.slice aS u.slots.length kS)).setCell ⟨g, 1, none⟩ (.slice aH u.heads.length kH)).setCell ⟨g, 2, none⟩ (.int .i64 ua)).setCell ⟨g, 3, none⟩ (.int .i64 uc)) := by
            rw [← eu]
            exact a3'.ex hex (.inl (by have := HLT.out; omega)) hgap
          have hsrc : Src B a len cap ((((W.setCell ⟨g, 0, none⟩ (.slice aS u.slots.length kS)).setCell ⟨g, 1, none⟩ (.slice aH u.heads.length kH)).setCell ⟨g, 2, none⟩ (.int .i64 ua)).setCell ⟨g, 3, none⟩ (.int .i64 uc)) := hC.src.kept fun k hk => by
            have h0 : ∀ j, j ≠ g → ((((W.setCell ⟨g, 0, none⟩ (.slice aS u.slots.length kS)).setCell ⟨g, 1, none⟩ (.slice aH u.heads.length kH)).setCell ⟨g, 2, none⟩ (.int .i64 ua)).setCell ⟨g, 3, none⟩ (.int .i64 uc)).heap[j]? = W.heap[j]? := fun j hj => (Below.heap_setCell _ ⟨g, 3, none⟩ _ j hj).trans ((Below.heap_setCell _ ⟨g, 2, none⟩ _ j hj).trans ((Below.heap_setCell _ ⟨g, 1, none⟩ _ j hj).trans (Below.heap_setCell _ ⟨g, 0, none⟩ _ j hj)))
            exact h0 k (by have := HLT.out; omega)
          have hgr : wr.grownBy ((((W.setCell ⟨g, 0, none⟩ (.slice aS u.slots.length kS)).setCell ⟨g, 1, none⟩ (.slice aH u.heads.length kH)).setCell ⟨g, 2, none⟩ (.int .i64 ua)).setCell ⟨g, 3, none⟩ (.int .i64 uc)) (some B) := grown_ex hC.gr hex hg
          simp only [execOp, t5, t23, Sem.run_bind, hrun, Result.andThen_ok, Sem.run_pure]
          simp only [RanS]
          exact ⟨hsrc, hgr, (fun h => hC.p0 (h.resolve_right (by omega))), (fun h => hC.p1 (h.resolve_right (by omega))), (fun h => hC.k2 (h.resolve_right (by omega))), (fun _ => ⟨lo, hi, a1, a2, by show OutV lo hi (v 3) _; rw [eu]; exact hV', fun l4 g eg => a4 L4 g eg⟩), (fun _ gg => (gg (.inr rfl)).elim), (fun _ => ⟨.inl L3, .inl L4⟩), (fun _ => ⟨g, #[.slice aS u.slots.length kS, .slice aH u.heads.length kH, .int .i64 ua, .int .i64 uc], eg, hg, eu, hst⟩)⟩
      case finA =>
        intro L v W hC hall
        obtain ⟨Y, cs, eg, hg, e3, hgb⟩ := hC.s5 (hall 5 (by decide))
        obtain ⟨lo, hi, a1, a2, a3, a4⟩ := hC.r3 (hall 3 (by decide))
        have hgap := a4 (hall 4 (by decide)) Y eg
        rw [e3] at a3
        have HM : Hid (MdSt B a len cap w X b2 o2 cS b3 o3 cH t Y W) := by
          have hx := HRD.out.x
          have l1 := blk_lt hx.blk
          have l2 := hx.slots.lt
          have l3 := hx.heads.lt
          exact hidS ⟨HRD.out.grown hC.src hC.gr, by omega, by omega, by omega, cs, lo, hi, hgb, a3, hgap, by omega⟩
        simp [upto, Act.put]
        rw [eg]
        clear hC hall eg e3 hgb a3 a4 hgap a1 a2 hg HX HB0 HBX HLT HN HRD
        have hkm : ((k - 1 : Nat) : Int) = (k : Int) - 1 := by omega
        go_wp2_with fail
        refine (srcN_any B a len cap 5 _ HM.out.rd.src (by omega)).mono ?_
        rintro _ W1 ⟨c, rfl, cc0, cc1, hS1, hO1⟩
        have HM1 := hidS (HM.out.grown hS1 hO1.grown)
        clear hS1 hO1 HM
        by_cases hc0 : c = 0
        · have hcb : (c == 0) = true := beq_iff_eq.2 hc0
          clear hc0 cc0 cc1
          go_wp2_with fail
          have KEEPa : Hid (∀ i v W W', kpOf [isP (.agg #[.slice (some ⟨b2, o2, none⟩) t.slots.length cS, .slice (some ⟨b3, o3, none⟩) t.heads.length cH]), isP (.pointer (some ⟨B, 0, none⟩)), (fun v _ => ∃ r : Int, v = .int .i64 r), OutK B X Y, anyP] i v W → Ex2 B Y W W' → kpOf [isP (.agg #[.slice (some ⟨b2, o2, none⟩) t.slots.length cS, .slice (some ⟨b3, o3, none⟩) t.heads.length cH]), isP (.pointer (some ⟨B, 0, none⟩)), (fun v _ => ∃ r : Int, v = .int .i64 r), OutK B X Y, anyP] i v W') := by
            refine hidS (fun i v W W' h hr => ?_)
            match i, h with
            | 0, h => exact h
            | 1, h => exact h
            | 2, h => exact h
            | 3, h => exact h.ex hr
            | 4, h => exact h
            | n + 5, h => exact (trivial : True)
          refine grow_res (fun W => MdSt B a len cap w X b2 o2 cS b3 o3 cH t Y W) (fun W W' => Ex2 B Y W W') (kpOf [isP (.agg #[.slice (some ⟨b2, o2, none⟩) t.slots.length cS, .slice (some ⟨b3, o3, none⟩) t.heads.length cH]), isP (.pointer (some ⟨B, 0, none⟩)), (fun v _ => ∃ r : Int, v = .int .i64 r), OutK B X Y, anyP]) (by kernel_rfl) (by kernel_rfl) KEEPa.out (HM1.out.grown (HM1.out.rd.src.kept fun _ _ => rfl) ⟨rfl, rfl, rfl, Nat.le_refl _, fun _ _ _ => rfl⟩) ?stepsa ?fina
          case stepsa =>
            refine ⟨?_, ?_, ?_, ?_, ?_, trivial⟩
            · refine ⟨rfl, fun v W ρ hC kc kf ks ki kd => ?_⟩
              have t3 : ρ (.tmp 3) = .pointer (some ⟨X, 0, none⟩) := ki 3 (by decide)
              have e0 := blk_cell hC.rd.x.blk 0
              have e1 := blk_cell hC.rd.x.blk 1
              simp at e0 e1
              simp [execOp, go_sem, t3, e0, e1]
              simp only [RanS]
              exact ⟨hC, Ex2.refl _ _ _, rfl⟩
            · refine ⟨rfl, fun v W ρ hC kc kf ks ki kd => ?_⟩
              have t0 : ρ (.tmp 0) = .pointer (some ⟨B, 0, none⟩) := ki 0 (by decide)
              simp [execOp, go_sem, t0]
              simp only [RanS]
              exact ⟨hC, Ex2.refl _ _ _, rfl⟩
            · refine ⟨rfl, fun v W ρ hC kc kf ks ki kd => ?_⟩
              have d1 : v 1 = .pointer (some ⟨B, 0, none⟩) := by first | exact kd _ (mem0 rfl) rfl | exact kd _ (mem1 rfl) rfl | exact kd _ (mem2 rfl) rfl
              have t1 : ρ (.tmp 29) = .pointer (some ⟨B, 0, none⟩) := (ks 1 29 (by decide) rfl).trans d1
              simp [execOp, go_sem, t1, kf]
              simp only [RanS]
              refine (srcKey_any B a len cap W hC.rd.src).mono fun e W' h => ?_
              obtain ⟨r, rfl, _, _, hS', hg'⟩ := h
              exact ⟨_, rfl, hC.grown hS' hg', Ex2.of_grown hg', r, rfl⟩
            · refine ⟨rfl, fun v W ρ hC kc kf ks ki kd => ?_⟩
              have d0 : v 0 = .agg #[.slice (some ⟨b2, o2, none⟩) t.slots.length cS, .slice (some ⟨b3, o3, none⟩) t.heads.length cH] := by first | exact kd _ (mem0 rfl) rfl | exact kd _ (mem1 rfl) rfl | exact kd _ (mem2 rfl) rfl
              have t0 : ρ (.tmp 28) = .agg #[.slice (some ⟨b2, o2, none⟩) t.slots.length cS, .slice (some ⟨b3, o3, none⟩) t.heads.length cH] := (ks 0 28 (by decide) rfl).trans d0
              obtain ⟨r, er⟩ : ∃ r : Int, v 2 = .int .i64 r := by first | exact kd _ (mem0 rfl) rfl | exact kd _ (mem1 rfl) rfl | exact kd _ (mem2 rfl) rfl
              have tr : ρ (.tmp 30) = .int .i64 r := (ks 2 30 (by decide) rfl).trans er
              simp [execOp, go_sem, t0, tr, kf]
              simp only [RanS]
              refine (cutR r W hC.rd.x.read n2 n4).mono fun e W' h => ?_
              obtain ⟨vv, rfl, hV, hb⟩ := out_val h
              have hz := hC.rd.bx
              have hzy := hC.xy
              obtain ⟨_, _, _, qy, _⟩ := hC.y
              have hly := blk_lt qy
              exact ⟨_, rfl, hC.below hb, Ex2.of_grown (grown_below hb), W.heap.size, W'.heap.size, hV, by omega, hly, by omega⟩
            · refine ⟨rfl, fun v W ρ hC kc kf ks ki kd => ?_⟩
              obtain ⟨lo, hi, hV, z1, z2, z3⟩ : OutK B X Y (v 3) W := by first | exact kd _ (mem0 rfl) rfl | exact kd _ (mem1 rfl) rfl | exact kd _ (mem2 rfl) rfl
              have hV0 := hV
              obtain ⟨u, ua, uc, aS, aH, kS, kH, eu, _, _, _⟩ := hV0
              rw [eu] at hV
              obtain ⟨hrun, hM, hE⟩ := hC.store hV z1 z2 z3
              have t5 : ρ (.tmp 5) = .pointer (some ⟨Y, 0, none⟩) := ki 5 (by decide)
              have ta : ρ (.tmp 31) = .agg #[.slice aS u.slots.length kS, .slice aH u.heads.length kH, .int .i64 ua, .int .i64 uc] := (ks 3 31 (by decide) rfl).trans eu
              simp only [execOp, t5, ta, Sem.run_bind, hrun, Result.andThen_ok, Sem.run_pure]
              simp only [RanS]
              exact ⟨hM, hE, trivial⟩
          intro va Wa hCa halla
          have HMa := hidS hCa
          clear hCa halla KEEPa
          simp [upto, Act.put]
          obtain ⟨cs, lo, hi, yq1, yq2, yq3, yq4⟩ := HMa.out.y
          obtain ⟨u, ua, uc, aS, aH, kS, kH, ecs, so1, so2, so3⟩ := agg_four yq2
          subst ecs
          have y3 := blk_cell yq1 3
          have y0 := blk_cell yq1 0
          have y1 := blk_cell yq1 1
          simp at y0 y1 y3
          have HQ3 := hidS yq3
          clear yq3
          by_cases huc : uc = 0
          · obtain ⟨_, m1, m2, m3, m4⟩ := right_leads (so3 huc)
            obtain ⟨c2, p2, c3, p3, rfl, rfl, l2, l3, hne, P, Q⟩ := out_rows so1 m1 m3
            have hub : (uc == 0) = true := beq_iff_eq.2 huc
            have HT := hidS (HMa.out.turn (kS := kS) (kH := kH) (so3 huc) l2 l3 hne yq4 P Q)
            have xq := HMa.out.rd.x.blk
            have x0 := blk_cell xq 0
            have x1 := blk_cell xq 1
            have xf := blk_free xq
            simp at x0 x1
            clear huc so1 so3 yq1 yq2 P Q xq HMa
            go_wp2_with fail
            go_roundw
            case rel => exact ⟨k - 1, c2, p2, kS, c3, p3, kH, u, by rw [hkm], by omega, HT.out⟩
            case measure => simp [intOf]; omega
          · have hub : (uc == 0) = false := beq_eq_false_iff_ne.2 huc
            clear huc so1 so3 yq1 yq2
            go_wp2_with fail
            go_roundw
            case rel => exact ⟨k - 1, b2, o2, cS, b3, o3, cH, t, by rw [hkm], by omega, HMa.out.rd⟩
            case measure => simp [intOf]; omega
        have hcb : (c == 0) = false := beq_eq_false_iff_ne.2 hc0
        by_cases hc1 : c = 1
        · have hcb1 : (c == 1) = true := beq_iff_eq.2 hc1
          clear hc0 hc1 cc0 cc1
          go_wp2_with fail
          have KEEPb : Hid (∀ i v W W', kpOf [isP (.agg #[.slice (some ⟨b2, o2, none⟩) t.slots.length cS, .slice (some ⟨b3, o3, none⟩) t.heads.length cH]), isP (.pointer (some ⟨B, 0, none⟩)), isP (.pointer (some ⟨X, 0, none⟩)), isP (.slice (some ⟨b2, o2, none⟩) t.slots.length cS), isP (.int .i64 (t.slots.length : Int)), (fun v _ => ∃ r : Int, v = .int .i64 r), OutK B X Y, anyP] i v W → Ex2 B Y W W' → kpOf [isP (.agg #[.slice (some ⟨b2, o2, none⟩) t.slots.length cS, .slice (some ⟨b3, o3, none⟩) t.heads.length cH]), isP (.pointer (some ⟨B, 0, none⟩)), isP (.pointer (some ⟨X, 0, none⟩)), isP (.slice (some ⟨b2, o2, none⟩) t.slots.length cS), isP (.int .i64 (t.slots.length : Int)), (fun v _ => ∃ r : Int, v = .int .i64 r), OutK B X Y, anyP] i v W') := by
            refine hidS (fun i v W W' h hr => ?_)
            match i, h with
            | 0, h => exact h
            | 1, h => exact h
            | 2, h => exact h
            | 3, h => exact h
            | 4, h => exact h
            | 5, h => exact h
            | 6, h => exact h.ex hr
            | 7, h => exact h
            | n + 8, h => exact (trivial : True)
          refine grow_res (fun W => MdSt B a len cap w X b2 o2 cS b3 o3 cH t Y W) (fun W W' => Ex2 B Y W W') (kpOf [isP (.agg #[.slice (some ⟨b2, o2, none⟩) t.slots.length cS, .slice (some ⟨b3, o3, none⟩) t.heads.length cH]), isP (.pointer (some ⟨B, 0, none⟩)), isP (.pointer (some ⟨X, 0, none⟩)), isP (.slice (some ⟨b2, o2, none⟩) t.slots.length cS), isP (.int .i64 (t.slots.length : Int)), (fun v _ => ∃ r : Int, v = .int .i64 r), OutK B X Y, anyP]) (by kernel_rfl) (by kernel_rfl) KEEPb.out (HM1.out.grown (HM1.out.rd.src.kept fun _ _ => rfl) ⟨rfl, rfl, rfl, Nat.le_refl _, fun _ _ _ => rfl⟩) ?stepsb ?finb
          case stepsb =>
            refine ⟨?_, ?_, ?_, ?_, ?_, ?_, ?_, ?_, trivial⟩
            · refine ⟨rfl, fun v W ρ hC kc kf ks ki kd => ?_⟩
              have t3 : ρ (.tmp 3) = .pointer (some ⟨X, 0, none⟩) := ki 3 (by decide)
              have e0 := blk_cell hC.rd.x.blk 0
              have e1 := blk_cell hC.rd.x.blk 1
              simp at e0 e1
              simp [execOp, go_sem, t3, e0, e1]
              simp only [RanS]
              exact ⟨hC, Ex2.refl _ _ _, rfl⟩
            · refine ⟨rfl, fun v W ρ hC kc kf ks ki kd => ?_⟩
              have t0 : ρ (.tmp 0) = .pointer (some ⟨B, 0, none⟩) := ki 0 (by decide)
              simp [execOp, go_sem, t0]
              simp only [RanS]
              exact ⟨hC, Ex2.refl _ _ _, rfl⟩
            · refine ⟨rfl, fun v W ρ hC kc kf ks ki kd => ?_⟩
              have t3 : ρ (.tmp 3) = .pointer (some ⟨X, 0, none⟩) := ki 3 (by decide)
              simp [execOp, go_sem, t3]
              simp only [RanS]
              exact ⟨hC, Ex2.refl _ _ _, rfl⟩
            · refine ⟨rfl, fun v W ρ hC kc kf ks ki kd => ?_⟩
              have d2 : v 2 = .pointer (some ⟨X, 0, none⟩) := by first | exact kd _ (mem0 rfl) rfl | exact kd _ (mem1 rfl) rfl | exact kd _ (mem2 rfl) rfl
              have t2 : ρ (.tmp 36) = .pointer (some ⟨X, 0, none⟩) := (ks 2 36 (by decide) rfl).trans d2
              have e0 := blk_cell hC.rd.x.blk 0
              simp at e0
              simp [execOp, go_sem, t2, e0]
              simp only [RanS]
              exact ⟨hC, Ex2.refl _ _ _, rfl⟩
            · refine ⟨rfl, fun v W ρ hC kc kf ks ki kd => ?_⟩
              have d3 : v 3 = .slice (some ⟨b2, o2, none⟩) t.slots.length cS := by first | exact kd _ (mem0 rfl) rfl | exact kd _ (mem1 rfl) rfl | exact kd _ (mem2 rfl) rfl
              have t3 : ρ (.tmp 37) = .slice (some ⟨b2, o2, none⟩) t.slots.length cS := (ks 3 37 (by decide) rfl).trans d3
              simp [execOp, go_sem, t3]
              simp only [RanS]
              exact ⟨hC, Ex2.refl _ _ _, rfl⟩
            · refine ⟨rfl, fun v W ρ hC kc kf ks ki kd => ?_⟩
              have d1 : v 1 = .pointer (some ⟨B, 0, none⟩) := by first | exact kd _ (mem0 rfl) rfl | exact kd _ (mem1 rfl) rfl | exact kd _ (mem2 rfl) rfl
              have t1 : ρ (.tmp 35) = .pointer (some ⟨B, 0, none⟩) := (ks 1 35 (by decide) rfl).trans d1
              have d4 : v 4 = .int .i64 (t.slots.length : Int) := by first | exact kd _ (mem0 rfl) rfl | exact kd _ (mem1 rfl) rfl | exact kd _ (mem2 rfl) rfl
              have t4 : ρ (.tmp 38) = .int .i64 (t.slots.length : Int) := (ks 4 38 (by decide) rfl).trans d4
              simp [execOp, go_sem, t1, t4, kf]
              simp only [RanS]
              refine (srcN_any B a len cap (t.slots.length : Int) W hC.rd.src (by omega)).mono fun e W' h => ?_
              obtain ⟨r, rfl, _, _, hS', hO'⟩ := h
              exact ⟨_, rfl, hC.grown hS' hO'.grown, Ex2.of_grown hO'.grown, r, rfl⟩
            · refine ⟨rfl, fun v W ρ hC kc kf ks ki kd => ?_⟩
              have d0 : v 0 = .agg #[.slice (some ⟨b2, o2, none⟩) t.slots.length cS, .slice (some ⟨b3, o3, none⟩) t.heads.length cH] := by first | exact kd _ (mem0 rfl) rfl | exact kd _ (mem1 rfl) rfl | exact kd _ (mem2 rfl) rfl
              have t0 : ρ (.tmp 34) = .agg #[.slice (some ⟨b2, o2, none⟩) t.slots.length cS, .slice (some ⟨b3, o3, none⟩) t.heads.length cH] := (ks 0 34 (by decide) rfl).trans d0
              obtain ⟨r, er⟩ : ∃ r : Int, v 5 = .int .i64 r := by first | exact kd _ (mem0 rfl) rfl | exact kd _ (mem1 rfl) rfl | exact kd _ (mem2 rfl) rfl
              have tr : ρ (.tmp 39) = .int .i64 r := (ks 5 39 (by decide) rfl).trans er
              simp [execOp, go_sem, t0, tr, kf]
              simp only [RanS]
              refine (getR r W hC.rd.x.read n2 n4).mono fun e W' h => ?_
              obtain ⟨vv, rfl, hV, hb⟩ := out_val h
              have hz := hC.rd.bx
              have hzy := hC.xy
              obtain ⟨_, _, _, qy, _⟩ := hC.y
              have hly := blk_lt qy
              exact ⟨_, rfl, hC.below hb, Ex2.of_grown (grown_below hb), W.heap.size, W'.heap.size, hV, by omega, hly, by omega⟩
            · refine ⟨rfl, fun v W ρ hC kc kf ks ki kd => ?_⟩
              obtain ⟨lo, hi, hV, z1, z2, z3⟩ : OutK B X Y (v 6) W := by first | exact kd _ (mem0 rfl) rfl | exact kd _ (mem1 rfl) rfl | exact kd _ (mem2 rfl) rfl
              have hV0 := hV
              obtain ⟨u, ua, uc, aS, aH, kS, kH, eu, _, _, _⟩ := hV0
              rw [eu] at hV
              obtain ⟨hrun, hM, hE⟩ := hC.store hV z1 z2 z3
              have t5 : ρ (.tmp 5) = .pointer (some ⟨Y, 0, none⟩) := ki 5 (by decide)
              have ta : ρ (.tmp 40) = .agg #[.slice aS u.slots.length kS, .slice aH u.heads.length kH, .int .i64 ua, .int .i64 uc] := (ks 6 40 (by decide) rfl).trans eu
              simp only [execOp, t5, ta, Sem.run_bind, hrun, Result.andThen_ok, Sem.run_pure]
              simp only [RanS]
              exact ⟨hM, hE, trivial⟩
          intro vb Wb hCb hallb
          have HMb := hidS hCb
          clear hCb hallb KEEPb
          simp [upto, Act.put]
          go_wp2_with fail
          refine (srcOne_any B a len cap 2 _ HMb.out.rd.src (by omega)).mono ?_
          rintro _ W3 ⟨bb, rfl, hS3, hO3⟩
          have HM3 := hidS (HMb.out.grown hS3 hO3.grown)
          clear hS3 hO3 HMb
          cases bb
          · obtain ⟨cs, lo, hi, yq1, yq2, yq3, yq4⟩ := HM3.out.y
            obtain ⟨u, ua, uc, aS, aH, kS, kH, ecs, so1, so2, so3⟩ := agg_four yq2
            subst ecs
            have y3 := blk_cell yq1 3
            have y0 := blk_cell yq1 0
            have y1 := blk_cell yq1 1
            simp at y0 y1 y3
            have HQ3 := hidS yq3
            clear yq3
            by_cases huc : uc = 0
            · obtain ⟨_, m1, m2, m3, m4⟩ := right_leads (so3 huc)
              obtain ⟨c2, p2, c3, p3, rfl, rfl, l2, l3, hne, P, Q⟩ := out_rows so1 m1 m3
              have hub : (uc == 0) = true := beq_iff_eq.2 huc
              have HT := hidS (HM3.out.turn (kS := kS) (kH := kH) (so3 huc) l2 l3 hne yq4 P Q)
              have xq := HM3.out.rd.x.blk
              have x0 := blk_cell xq 0
              have x1 := blk_cell xq 1
              have xf := blk_free xq
              simp at x0 x1
              clear huc so1 so3 yq1 yq2 P Q xq HM3
              go_wp2_with fail
              go_roundw
              case rel => exact ⟨k - 1, c2, p2, kS, c3, p3, kH, u, by rw [hkm], by omega, HT.out⟩
              case measure => simp [intOf]; omega
            · have hub : (uc == 0) = false := beq_eq_false_iff_ne.2 huc
              clear huc so1 so3 yq1 yq2
              go_wp2_with fail
              go_roundw
              case rel => exact ⟨k - 1, b2, o2, cS, b3, o3, cH, t, by rw [hkm], by omega, HM3.out.rd⟩
              case measure => simp [intOf]; omega
          · go_wp2_with fail
            have KEEPc : Hid (∀ i v W W', kpOf [isP (.agg #[.slice (some ⟨b2, o2, none⟩) t.slots.length cS, .slice (some ⟨b3, o3, none⟩) t.heads.length cH]), isP (.pointer (some ⟨B, 0, none⟩)), isP (.pointer (some ⟨X, 0, none⟩)), isP (.slice (some ⟨b2, o2, none⟩) t.slots.length cS), isP (.int .i64 (t.slots.length : Int)), (fun v _ => ∃ r : Int, v = .int .i64 r), OutK B X Y, anyP] i v W → Ex2 B Y W W' → kpOf [isP (.agg #[.slice (some ⟨b2, o2, none⟩) t.slots.length cS, .slice (some ⟨b3, o3, none⟩) t.heads.length cH]), isP (.pointer (some ⟨B, 0, none⟩)), isP (.pointer (some ⟨X, 0, none⟩)), isP (.slice (some ⟨b2, o2, none⟩) t.slots.length cS), isP (.int .i64 (t.slots.length : Int)), (fun v _ => ∃ r : Int, v = .int .i64 r), OutK B X Y, anyP] i v W') := by
              refine hidS (fun i v W W' h hr => ?_)
              match i, h with
              | 0, h => exact h
              | 1, h => exact h
              | 2, h => exact h
              | 3, h => exact h
              | 4, h => exact h
              | 5, h => exact h
              | 6, h => exact h.ex hr
              | 7, h => exact h
              | n + 8, h => exact (trivial : True)
            refine grow_res (fun W => MdSt B a len cap w X b2 o2 cS b3 o3 cH t Y W) (fun W W' => Ex2 B Y W W') (kpOf [isP (.agg #[.slice (some ⟨b2, o2, none⟩) t.slots.length cS, .slice (some ⟨b3, o3, none⟩) t.heads.length cH]), isP (.pointer (some ⟨B, 0, none⟩)), isP (.pointer (some ⟨X, 0, none⟩)), isP (.slice (some ⟨b2, o2, none⟩) t.slots.length cS), isP (.int .i64 (t.slots.length : Int)), (fun v _ => ∃ r : Int, v = .int .i64 r), OutK B X Y, anyP]) (by kernel_rfl) (by kernel_rfl) KEEPc.out (HM3.out.grown (HM3.out.rd.src.kept fun _ _ => rfl) ⟨rfl, rfl, rfl, Nat.le_refl _, fun _ _ _ => rfl⟩) ?stepsc ?finc
            case stepsc =>
              refine ⟨?_, ?_, ?_, ?_, ?_, ?_, ?_, ?_, trivial⟩
              · refine ⟨rfl, fun v W ρ hC kc kf ks ki kd => ?_⟩
                have t3 : ρ (.tmp 3) = .pointer (some ⟨X, 0, none⟩) := ki 3 (by decide)
                have e0 := blk_cell hC.rd.x.blk 0
                have e1 := blk_cell hC.rd.x.blk 1
                simp at e0 e1
                simp [execOp, go_sem, t3, e0, e1]
                simp only [RanS]
                exact ⟨hC, Ex2.refl _ _ _, rfl⟩
              · refine ⟨rfl, fun v W ρ hC kc kf ks ki kd => ?_⟩
                have t0 : ρ (.tmp 0) = .pointer (some ⟨B, 0, none⟩) := ki 0 (by decide)
                simp [execOp, go_sem, t0]
                simp only [RanS]
                exact ⟨hC, Ex2.refl _ _ _, rfl⟩
              · refine ⟨rfl, fun v W ρ hC kc kf ks ki kd => ?_⟩
                have t3 : ρ (.tmp 3) = .pointer (some ⟨X, 0, none⟩) := ki 3 (by decide)
                simp [execOp, go_sem, t3]
                simp only [RanS]
                exact ⟨hC, Ex2.refl _ _ _, rfl⟩
              · refine ⟨rfl, fun v W ρ hC kc kf ks ki kd => ?_⟩
                have d2 : v 2 = .pointer (some ⟨X, 0, none⟩) := by first | exact kd _ (mem0 rfl) rfl | exact kd _ (mem1 rfl) rfl | exact kd _ (mem2 rfl) rfl
                have t2 : ρ (.tmp 45) = .pointer (some ⟨X, 0, none⟩) := (ks 2 45 (by decide) rfl).trans d2
                have e0 := blk_cell hC.rd.x.blk 0
                simp at e0
                simp [execOp, go_sem, t2, e0]
                simp only [RanS]
                exact ⟨hC, Ex2.refl _ _ _, rfl⟩
              · refine ⟨rfl, fun v W ρ hC kc kf ks ki kd => ?_⟩
                have d3 : v 3 = .slice (some ⟨b2, o2, none⟩) t.slots.length cS := by first | exact kd _ (mem0 rfl) rfl | exact kd _ (mem1 rfl) rfl | exact kd _ (mem2 rfl) rfl
                have t3 : ρ (.tmp 46) = .slice (some ⟨b2, o2, none⟩) t.slots.length cS := (ks 3 46 (by decide) rfl).trans d3
                simp [execOp, go_sem, t3]
                simp only [RanS]
                exact ⟨hC, Ex2.refl _ _ _, rfl⟩
              · refine ⟨rfl, fun v W ρ hC kc kf ks ki kd => ?_⟩
                have d1 : v 1 = .pointer (some ⟨B, 0, none⟩) := by first | exact kd _ (mem0 rfl) rfl | exact kd _ (mem1 rfl) rfl | exact kd _ (mem2 rfl) rfl
                have t1 : ρ (.tmp 44) = .pointer (some ⟨B, 0, none⟩) := (ks 1 44 (by decide) rfl).trans d1
                have d4 : v 4 = .int .i64 (t.slots.length : Int) := by first | exact kd _ (mem0 rfl) rfl | exact kd _ (mem1 rfl) rfl | exact kd _ (mem2 rfl) rfl
                have t4 : ρ (.tmp 47) = .int .i64 (t.slots.length : Int) := (ks 4 47 (by decide) rfl).trans d4
                simp [execOp, go_sem, t1, t4, kf]
                simp only [RanS]
                refine (srcN_any B a len cap (t.slots.length : Int) W hC.rd.src (by omega)).mono fun e W' h => ?_
                obtain ⟨r, rfl, _, _, hS', hO'⟩ := h
                exact ⟨_, rfl, hC.grown hS' hO'.grown, Ex2.of_grown hO'.grown, r, rfl⟩
              · refine ⟨rfl, fun v W ρ hC kc kf ks ki kd => ?_⟩
                have d0 : v 0 = .agg #[.slice (some ⟨b2, o2, none⟩) t.slots.length cS, .slice (some ⟨b3, o3, none⟩) t.heads.length cH] := by first | exact kd _ (mem0 rfl) rfl | exact kd _ (mem1 rfl) rfl | exact kd _ (mem2 rfl) rfl
                have t0 : ρ (.tmp 43) = .agg #[.slice (some ⟨b2, o2, none⟩) t.slots.length cS, .slice (some ⟨b3, o3, none⟩) t.heads.length cH] := (ks 0 43 (by decide) rfl).trans d0
                obtain ⟨r, er⟩ : ∃ r : Int, v 5 = .int .i64 r := by first | exact kd _ (mem0 rfl) rfl | exact kd _ (mem1 rfl) rfl | exact kd _ (mem2 rfl) rfl
                have tr : ρ (.tmp 48) = .int .i64 r := (ks 5 48 (by decide) rfl).trans er
                simp [execOp, go_sem, t0, tr, kf]
                simp only [RanS]
                refine (putR r W hC.rd.x.read n2 n4).mono fun e W' h => ?_
                obtain ⟨vv, rfl, hV, hb⟩ := out_val h
                have hz := hC.rd.bx
                have hzy := hC.xy
                obtain ⟨_, _, _, qy, _⟩ := hC.y
                have hly := blk_lt qy
                exact ⟨_, rfl, hC.below hb, Ex2.of_grown (grown_below hb), W.heap.size, W'.heap.size, hV, by omega, hly, by omega⟩
              · refine ⟨rfl, fun v W ρ hC kc kf ks ki kd => ?_⟩
                obtain ⟨lo, hi, hV, z1, z2, z3⟩ : OutK B X Y (v 6) W := by first | exact kd _ (mem0 rfl) rfl | exact kd _ (mem1 rfl) rfl | exact kd _ (mem2 rfl) rfl
                have hV0 := hV
                obtain ⟨u, ua, uc, aS, aH, kS, kH, eu, _, _, _⟩ := hV0
                rw [eu] at hV
                obtain ⟨hrun, hM, hE⟩ := hC.store hV z1 z2 z3
                have t5 : ρ (.tmp 5) = .pointer (some ⟨Y, 0, none⟩) := ki 5 (by decide)
                have ta : ρ (.tmp 49) = .agg #[.slice aS u.slots.length kS, .slice aH u.heads.length kH, .int .i64 ua, .int .i64 uc] := (ks 6 49 (by decide) rfl).trans eu
                simp only [execOp, t5, ta, Sem.run_bind, hrun, Result.andThen_ok, Sem.run_pure]
                simp only [RanS]
                exact ⟨hM, hE, trivial⟩
            intro vc Wc hCc hallc
            have HMc := hidS hCc
            clear hCc hallc KEEPc
            simp [upto, Act.put]
            obtain ⟨cs, lo, hi, yq1, yq2, yq3, yq4⟩ := HMc.out.y
            obtain ⟨u, ua, uc, aS, aH, kS, kH, ecs, so1, so2, so3⟩ := agg_four yq2
            subst ecs
            have y3 := blk_cell yq1 3
            have y0 := blk_cell yq1 0
            have y1 := blk_cell yq1 1
            simp at y0 y1 y3
            have HQ3 := hidS yq3
            clear yq3
            by_cases huc : uc = 0
            · obtain ⟨_, m1, m2, m3, m4⟩ := right_leads (so3 huc)
              obtain ⟨c2, p2, c3, p3, rfl, rfl, l2, l3, hne, P, Q⟩ := out_rows so1 m1 m3
              have hub : (uc == 0) = true := beq_iff_eq.2 huc
              have HT := hidS (HMc.out.turn (kS := kS) (kH := kH) (so3 huc) l2 l3 hne yq4 P Q)
              have xq := HMc.out.rd.x.blk
              have x0 := blk_cell xq 0
              have x1 := blk_cell xq 1
              have xf := blk_free xq
              simp at x0 x1
              clear huc so1 so3 yq1 yq2 P Q xq HMc
              go_wp2_with fail
              go_roundw
              case rel => exact ⟨k - 1, c2, p2, kS, c3, p3, kH, u, by rw [hkm], by omega, HT.out⟩
              case measure => simp [intOf]; omega
            · have hub : (uc == 0) = false := beq_eq_false_iff_ne.2 huc
              clear huc so1 so3 yq1 yq2
              go_wp2_with fail
              go_roundw
              case rel => exact ⟨k - 1, b2, o2, cS, b3, o3, cH, t, by rw [hkm], by omega, HMc.out.rd⟩
              case measure => simp [intOf]; omega
        · have hcb1 : (c == 1) = false := beq_eq_false_iff_ne.2 hc1
          clear hc0 hc1 cc0 cc1
          obtain ⟨cs, lo, hi, yq1, yq2, yq3, yq4⟩ := HM1.out.y
          obtain ⟨u, ua, uc, aS, aH, kS, kH, ecs, so1, so2, so3⟩ := agg_four yq2
          subst ecs
          have y3 := blk_cell yq1 3
          have y0 := blk_cell yq1 0
          have y1 := blk_cell yq1 1
          simp at y0 y1 y3
          have HQ3 := hidS yq3
          clear yq3
          by_cases huc : uc = 0
          · obtain ⟨_, m1, m2, m3, m4⟩ := right_leads (so3 huc)
            obtain ⟨c2, p2, c3, p3, rfl, rfl, l2, l3, hne, P, Q⟩ := out_rows so1 m1 m3
            have hub : (uc == 0) = true := beq_iff_eq.2 huc
            have HT := hidS (HM1.out.turn (kS := kS) (kH := kH) (so3 huc) l2 l3 hne yq4 P Q)
            have xq := HM1.out.rd.x.blk
            have x0 := blk_cell xq 0
            have x1 := blk_cell xq 1
            have xf := blk_free xq
            simp at x0 x1
            clear huc so1 so3 yq1 yq2 P Q xq HM1
            go_wp2_with fail
            go_roundw
            case rel => exact ⟨k - 1, c2, p2, kS, c3, p3, kH, u, by rw [hkm], by omega, HT.out⟩
            case measure => simp [intOf]; omega
          · have hub : (uc == 0) = false := beq_eq_false_iff_ne.2 huc
            clear huc so1 so3 yq1 yq2
            go_wp2_with fail
            go_roundw
            case rel => exact ⟨k - 1, b2, o2, cS, b3, o3, cH, t, by rw [hkm], by omega, HM1.out.rd⟩
            case measure => simp [intOf]; omega
    · have hk0' : ¬ (0 : Int) < (k : Int) := by omega
      have HF0 := hidS HRD.out.fin
      clear HRD hk0
      go_wp2_with fail
      refine (srcOne_any B a len cap 12 _ HF0.out.src (by omega)).mono ?_
      rintro _ W1 ⟨bb, rfl, hS1, hO1⟩
      have HF1 := hidS (HF0.out.grown hS1 hO1.grown)
      clear hS1 hO1 HF0
      cases bb
      · obtain ⟨t', e1, e2, hfit, hx⟩ := HF1.out.ex
        have kX := HF1.out.cellsX
        obtain ⟨x0, x1⟩ := kX
        have kR := blk_cell HF1.out.r
        have fR := blk_free HF1.out.r
        have HFX := hidS hx
        have HFT := hidS hfit
        have HE1 := hidS e1
        have HE2 := hidS e2
        have hbx := HF1.out.bx
        have HSRC := hidS HF1.out.src
        have HGR := hidS HF1.out.gr
        clear hx hfit e1 e2 HF1
        go_wp2_with fail
        refine bodyPost_ret (v := .agg #[.slice (some ⟨b2, o2, none⟩) t.slots.length cS, .slice (some ⟨b3, o3, none⟩) t.heads.length cH]) (by simp [results, Try.results37, go_sem, *]) rfl ?_
        have l2 := HFX.out.lo2
        have l3 := HFX.out.lo3
        refine ⟨t', b2, o2, cS, b3, o3, cH, by rw [HE1.out, HE2.out], ⟨by rw [HE1.out]; exact n1, by rw [HE1.out]; exact n2, by rw [HE2.out]; exact n3, by rw [HE2.out]; exact n4, HFT.out⟩, HFX.out.ne, by omega, by omega, ?_, ?_, ?_, ?_⟩
        · repeat (refine RowB.other ?_ (by omega))
          exact HFX.out.slots
        · repeat (refine RowB.other ?_ (by omega))
          exact HFX.out.heads
        · exact HSRC.out.kept fun k hk => (Below.heap_setCell _ ⟨w.heap.size, 1, none⟩ _ k (show k ≠ w.heap.size by omega)).trans (Below.heap_setCell _ ⟨w.heap.size, 0, none⟩ _ k (show k ≠ w.heap.size by omega))
        · exact grown_ex HGR.out (((Ex2.refl B w.heap.size _).cells 0 _).cells 1 _) (Nat.le_refl _)
      obtain ⟨x0, x1⟩ := HF1.out.cellsX
      go_wp2_with fail
      refine (srcN_any B a len cap (t.slots.length : Int) _ HF1.out.src (by omega)).mono ?_
      rintro _ W2 ⟨j, rfl, j0, j1, hS2, hO2⟩
      have HF2 := hidS (HF1.out.grown hS2 hO2.grown)
      clear hS2 hO2 HF1 x0 x1
      obtain ⟨J, rfl⟩ : ∃ J : Nat, j = (J : Int) := ⟨j.toNat, by omega⟩
      have hJ : J < t.slots.length := by omega
      have hJJ : (0 : Int) ≤ (J : Int) ∧ (J : Int) < (t.slots.length : Int) := by omega
      clear j0 j1
      go_wp2_with fail
      refine (srcN_any B a len cap 5 _ HF2.out.src (by omega)).mono ?_
      rintro _ W3 ⟨c, rfl, cc0, cc1, hS3, hO3⟩
      have HF3 := hidS (HF2.out.grown hS3 hO3.grown)
      clear hS3 hO3 HF2
      obtain ⟨m0, hm0⟩ : ∃ m0, W3.heap.size = m0 := ⟨_, rfl⟩
      have HM0 : Hid (m0 ≤ W3.heap.size ∧ B < m0 ∧ b2 < m0 ∧ b3 < m0) := by
        obtain ⟨t', _, _, _, hx⟩ := HF3.out.ex
        have l1 := hx.slots.lt
        have l2 := hx.heads.lt
        have l3 := HF3.out.src.lt
        exact hidS ⟨by omega, by omega, by omega, by omega⟩
      clear hm0
      by_cases hc0 : c = 0
      · have hcb : (c == 0) = true := beq_iff_eq.2 hc0
        clear hc0 cc0 cc1
        go_wp2_with fail
        have KEEPd : Hid (∀ i v W W', kpOf [isP (.pointer (some ⟨X, 0, none⟩)), isP (.slice (some ⟨b2, o2, none⟩) t.slots.length cS), isP (.int .i64 (J : Int)), isP (.pointer (some ⟨B, 0, none⟩)), (fun v _ => ∃ r : Int, v = .int .i64 r ∧ 0 ≤ r ∧ r < 9), (fun v _ => ∃ r : Int, v = .int .i64 r ∧ -4 ≤ r ∧ r ≤ 4), isP (.pointer (some ⟨b2, o2 + J * 4, none⟩)), isP (.pointer (some ⟨b2, o2 + J * 4 + 3, none⟩)), anyP] i v W → Up m0 W W' → kpOf [isP (.pointer (some ⟨X, 0, none⟩)), isP (.slice (some ⟨b2, o2, none⟩) t.slots.length cS), isP (.int .i64 (J : Int)), isP (.pointer (some ⟨B, 0, none⟩)), (fun v _ => ∃ r : Int, v = .int .i64 r ∧ 0 ≤ r ∧ r < 9), (fun v _ => ∃ r : Int, v = .int .i64 r ∧ -4 ≤ r ∧ r ≤ 4), isP (.pointer (some ⟨b2, o2 + J * 4, none⟩)), isP (.pointer (some ⟨b2, o2 + J * 4 + 3, none⟩)), anyP] i v W') := by
          refine hidS (fun i v W W' h hr => ?_)
          match i, h with
          | 0, h => exact h
          | 1, h => exact h
          | 2, h => exact h
          | 3, h => exact h
          | 4, h => exact h
          | 5, h => exact h
          | 6, h => exact h
          | 7, h => exact h
          | 8, h => exact h
          | n + 9, h => exact (trivial : True)
        refine grow_res (fun W => FnSt B a len cap w X b2 o2 cS b3 o3 cH t.slots.length t.heads.length W ∧ m0 ≤ W.heap.size ∧ B < m0 ∧ b2 < m0 ∧ b3 < m0) (fun W W' => Up m0 W W') (kpOf [isP (.pointer (some ⟨X, 0, none⟩)), isP (.slice (some ⟨b2, o2, none⟩) t.slots.length cS), isP (.int .i64 (J : Int)), isP (.pointer (some ⟨B, 0, none⟩)), (fun v _ => ∃ r : Int, v = .int .i64 r ∧ 0 ≤ r ∧ r < 9), (fun v _ => ∃ r : Int, v = .int .i64 r ∧ -4 ≤ r ∧ r ≤ 4), isP (.pointer (some ⟨b2, o2 + J * 4, none⟩)), isP (.pointer (some ⟨b2, o2 + J * 4 + 3, none⟩)), anyP]) (by kernel_rfl) (by kernel_rfl) KEEPd.out ⟨HF3.out.grown (HF3.out.src.kept fun _ _ => rfl) ⟨rfl, rfl, rfl, Nat.le_refl _, fun _ _ _ => rfl⟩, HM0.out⟩ ?stepsd ?find
        case stepsd =>
          refine ⟨?_, ?_, ?_, ?_, ?_, ?_, ?_, ?_, ?_, trivial⟩
          · refine ⟨rfl, fun v W ρ hC kc kf ks ki kd => ?_⟩
            have t3 : ρ (.tmp 3) = .pointer (some ⟨X, 0, none⟩) := ki 3 (by decide)
            simp [execOp, go_sem, t3]
            simp only [RanS]
            exact ⟨hC, (fun _ _ _ => rfl), rfl⟩
          · refine ⟨rfl, fun v W ρ hC kc kf ks ki kd => ?_⟩
            have d : v 0 = .pointer (some ⟨X, 0, none⟩) := by first | exact kd _ (mem0 rfl) rfl | exact kd _ (mem1 rfl) rfl | exact kd _ (mem2 rfl) rfl
            have tt : ρ (.tmp 76) = .pointer (some ⟨X, 0, none⟩) := (ks 0 76 (by decide) rfl).trans d
            have e0 := hC.1.cellsX.1
            simp [execOp, go_sem, tt, e0]
            simp only [RanS]
            exact ⟨hC, (fun _ _ _ => rfl), rfl⟩
          · refine ⟨rfl, fun v W ρ hC kc kf ks ki kd => ?_⟩
            have t6 : ρ (.tmp 6) = .int .i64 (J : Int) := ki 6 (by decide)
            simp [execOp, go_sem, t6]
            simp only [RanS]
            exact ⟨hC, (fun _ _ _ => rfl), rfl⟩
          · refine ⟨rfl, fun v W ρ hC kc kf ks ki kd => ?_⟩
            have t0 : ρ (.tmp 0) = .pointer (some ⟨B, 0, none⟩) := ki 0 (by decide)
            simp [execOp, go_sem, t0]
            simp only [RanS]
            exact ⟨hC, (fun _ _ _ => rfl), rfl⟩
          · refine ⟨rfl, fun v W ρ hC kc kf ks ki kd => ?_⟩
            have d : v 3 = .pointer (some ⟨B, 0, none⟩) := by first | exact kd _ (mem0 rfl) rfl | exact kd _ (mem1 rfl) rfl | exact kd _ (mem2 rfl) rfl
            have tt : ρ (.tmp 79) = .pointer (some ⟨B, 0, none⟩) := (ks 3 79 (by decide) rfl).trans d
            simp [execOp, go_sem, tt, kf, kc]
            simp only [RanS]
            refine (srcN_any B a len cap 9 W hC.1.src (by omega)).mono fun e W' h => ?_
            obtain ⟨r, rfl, r0, r1, hS', hO'⟩ := h
            have hsz := hO'.size
            exact ⟨_, rfl, ⟨hC.1.grown hS' hO'.grown, by omega, hC.2.2⟩, fun k hk hm => hO'.block k (by have := hC.2.2.1; omega), r, rfl, r0, by omega⟩
          · refine ⟨rfl, fun v W ρ hC kc kf ks ki kd => ?_⟩
            obtain ⟨r, er, r0, r1⟩ : ∃ r : Int, v 4 = .int .i64 r ∧ 0 ≤ r ∧ r < 9 := by first | exact kd _ (mem0 rfl) rfl | exact kd _ (mem1 rfl) rfl | exact kd _ (mem2 rfl) rfl
            have tt : ρ (.tmp 80) = .int .i64 r := (ks 4 80 (by decide) rfl).trans er
            have hw : IntKind.i64.wrap (r - 4) = r - 4 := IntWalk.i64_in _ ⟨by omega, by omega⟩
            simp [execOp, go_sem, tt, kc, hw]
            simp only [RanS]
            exact ⟨hC, (fun _ _ _ => rfl), r - 4, rfl, by omega, by omega⟩
          · refine ⟨rfl, fun v W ρ hC kc kf ks ki kd => ?_⟩
            have d1 : v 1 = .slice (some ⟨b2, o2, none⟩) t.slots.length cS := by first | exact kd _ (mem0 rfl) rfl | exact kd _ (mem1 rfl) rfl | exact kd _ (mem2 rfl) rfl
            have d2 : v 2 = .int .i64 (J : Int) := by first | exact kd _ (mem0 rfl) rfl | exact kd _ (mem1 rfl) rfl | exact kd _ (mem2 rfl) rfl
            have t1 : ρ (.tmp 77) = .slice (some ⟨b2, o2, none⟩) t.slots.length cS := (ks 1 77 (by decide) rfl).trans d1
            have t2 : ρ (.tmp 78) = .int .i64 (J : Int) := (ks 2 78 (by decide) rfl).trans d2
            simp [execOp, go_sem, t1, t2, hJJ]
            simp only [RanS]
            exact ⟨hC, (fun _ _ _ => rfl), rfl⟩
          · refine ⟨rfl, fun v W ρ hC kc kf ks ki kd => ?_⟩
            have d : v 6 = .pointer (some ⟨b2, o2 + J * 4, none⟩) := by first | exact kd _ (mem0 rfl) rfl | exact kd _ (mem1 rfl) rfl | exact kd _ (mem2 rfl) rfl
            have tt : ρ (.tmp 82) = .pointer (some ⟨b2, o2 + J * 4, none⟩) := (ks 6 82 (by decide) rfl).trans d
            simp [execOp, go_sem, tt]
            simp only [RanS]
            exact ⟨hC, (fun _ _ _ => rfl), rfl⟩
          · refine ⟨rfl, fun v W ρ hC kc kf ks ki kd => ?_⟩
            have d1 : v 7 = .pointer (some ⟨b2, o2 + J * 4 + 3, none⟩) := by first | exact kd _ (mem0 rfl) rfl | exact kd _ (mem1 rfl) rfl | exact kd _ (mem2 rfl) rfl
            obtain ⟨r, er, r0, r1⟩ : ∃ r : Int, v 5 = .int .i64 r ∧ -4 ≤ r ∧ r ≤ 4 := by first | exact kd _ (mem0 rfl) rfl | exact kd _ (mem1 rfl) rfl | exact kd _ (mem2 rfl) rfl
            have t1 : ρ (.tmp 83) = .pointer (some ⟨b2, o2 + J * 4 + 3, none⟩) := (ks 7 83 (by decide) rfl).trans d1
            have t2 : ρ (.tmp 81) = .int .i64 r := (ks 5 81 (by decide) rfl).trans er
            obtain ⟨⟨y, y0⟩, y1, y2⟩ := hC.1.turn (j := J) (f := 3) (z := r) hJ (by omega) (fit_of (by omega) (by omega))
            simp [execOp, go_sem, t1, t2, y0, y1]
            simp only [RanS]
            refine ⟨⟨y2, by simp only [World.setCell, Array.size_modify]; exact hC.2.1, hC.2.2⟩, fun k hk hm => ?_, trivial⟩
            exact Below.heap_setCell W ⟨b2, _, none⟩ _ k (show k ≠ b2 by have := hC.2.2; omega)
        intro vd Wd hCd halld
        have HFd := hidS hCd.1
        clear hCd halld KEEPd
        simp [upto, Act.put]
        obtain ⟨t', e1, e2, hfit, hx⟩ := HFd.out.ex
        have kX := HFd.out.cellsX
        obtain ⟨x0, x1⟩ := kX
        have kR := blk_cell HFd.out.r
        have fR := blk_free HFd.out.r
        have HFX := hidS hx
        have HFT := hidS hfit
        have HE1 := hidS e1
        have HE2 := hidS e2
        have hbx := HFd.out.bx
        have HSRC := hidS HFd.out.src
        have HGR := hidS HFd.out.gr
        clear hx hfit e1 e2 HFd
        go_wp2_with fail
        refine bodyPost_ret (v := .agg #[.slice (some ⟨b2, o2, none⟩) t.slots.length cS, .slice (some ⟨b3, o3, none⟩) t.heads.length cH]) (by simp [results, Try.results37, go_sem, *]) rfl ?_
        have l2 := HFX.out.lo2
        have l3 := HFX.out.lo3
        refine ⟨t', b2, o2, cS, b3, o3, cH, by rw [HE1.out, HE2.out], ⟨by rw [HE1.out]; exact n1, by rw [HE1.out]; exact n2, by rw [HE2.out]; exact n3, by rw [HE2.out]; exact n4, HFT.out⟩, HFX.out.ne, by omega, by omega, ?_, ?_, ?_, ?_⟩
        · repeat (refine RowB.other ?_ (by omega))
          exact HFX.out.slots
        · repeat (refine RowB.other ?_ (by omega))
          exact HFX.out.heads
        · exact HSRC.out.kept fun k hk => (Below.heap_setCell _ ⟨w.heap.size, 1, none⟩ _ k (show k ≠ w.heap.size by omega)).trans (Below.heap_setCell _ ⟨w.heap.size, 0, none⟩ _ k (show k ≠ w.heap.size by omega))
        · exact grown_ex HGR.out (((Ex2.refl B w.heap.size _).cells 0 _).cells 1 _) (Nat.le_refl _)
      have hcb0 : (c == 0) = false := beq_eq_false_iff_ne.2 hc0
      clear hc0
      by_cases hc1 : c = 1
      · have hcb : (c == 1) = true := beq_iff_eq.2 hc1
        clear hc1 cc0 cc1
        go_wp2_with fail
        have KEEPe : Hid (∀ i v W W', kpOf [isP (.pointer (some ⟨X, 0, none⟩)), isP (.slice (some ⟨b2, o2, none⟩) t.slots.length cS), isP (.int .i64 (J : Int)), rowZ 4 [-1, 0, 1000000, 1000001] m0, isP (.pointer (some ⟨B, 0, none⟩)), (fun v _ => ∃ r : Int, v = .int .i64 r ∧ 0 ≤ r ∧ r < 4), ptrZ 4 [-1, 0, 1000000, 1000001] m0, (fun v _ => ∃ r : Int, v = .int .i64 r ∧ -1 ≤ r ∧ r ≤ 1000001), isP (.pointer (some ⟨b2, o2 + J * 4, none⟩)), isP (.pointer (some ⟨b2, o2 + J * 4 + 2, none⟩)), anyP] i v W → Up m0 W W' → kpOf [isP (.pointer (some ⟨X, 0, none⟩)), isP (.slice (some ⟨b2, o2, none⟩) t.slots.length cS), isP (.int .i64 (J : Int)), rowZ 4 [-1, 0, 1000000, 1000001] m0, isP (.pointer (some ⟨B, 0, none⟩)), (fun v _ => ∃ r : Int, v = .int .i64 r ∧ 0 ≤ r ∧ r < 4), ptrZ 4 [-1, 0, 1000000, 1000001] m0, (fun v _ => ∃ r : Int, v = .int .i64 r ∧ -1 ≤ r ∧ r ≤ 1000001), isP (.pointer (some ⟨b2, o2 + J * 4, none⟩)), isP (.pointer (some ⟨b2, o2 + J * 4 + 2, none⟩)), anyP] i v W') := by
          refine hidS (fun i v W W' h hr => ?_)
          match i, h with
          | 0, h => exact h
          | 1, h => exact h
          | 2, h => exact h
          | 3, h => exact rowZ_last h hr
          | 4, h => exact h
          | 5, h => exact h
          | 6, h => exact ptrZ_last h hr
          | 7, h => exact h
          | 8, h => exact h
          | 9, h => exact h
          | 10, h => exact h
          | n + 11, h => exact (trivial : True)
        refine grow_res (fun W => FnSt B a len cap w X b2 o2 cS b3 o3 cH t.slots.length t.heads.length W ∧ m0 ≤ W.heap.size ∧ B < m0 ∧ b2 < m0 ∧ b3 < m0) (fun W W' => Up m0 W W') (kpOf [isP (.pointer (some ⟨X, 0, none⟩)), isP (.slice (some ⟨b2, o2, none⟩) t.slots.length cS), isP (.int .i64 (J : Int)), rowZ 4 [-1, 0, 1000000, 1000001] m0, isP (.pointer (some ⟨B, 0, none⟩)), (fun v _ => ∃ r : Int, v = .int .i64 r ∧ 0 ≤ r ∧ r < 4), ptrZ 4 [-1, 0, 1000000, 1000001] m0, (fun v _ => ∃ r : Int, v = .int .i64 r ∧ -1 ≤ r ∧ r ≤ 1000001), isP (.pointer (some ⟨b2, o2 + J * 4, none⟩)), isP (.pointer (some ⟨b2, o2 + J * 4 + 2, none⟩)), anyP]) (by kernel_rfl) (by kernel_rfl) KEEPe.out ⟨HF3.out.grown (HF3.out.src.kept fun _ _ => rfl) ⟨rfl, rfl, rfl, Nat.le_refl _, fun _ _ _ => rfl⟩, HM0.out⟩ ?stepse ?fine
        case stepse =>
          refine ⟨?_, ?_, ?_, ?_, ?_, ?_, ?_, ?_, ?_, ?_, ?_, trivial⟩
          · refine ⟨rfl, fun v W ρ hC kc kf ks ki kd => ?_⟩
            have t3 : ρ (.tmp 3) = .pointer (some ⟨X, 0, none⟩) := ki 3 (by decide)
            simp [execOp, go_sem, t3]
            simp only [RanS]
            exact ⟨hC, (fun _ _ _ => rfl), rfl⟩
          · refine ⟨rfl, fun v W ρ hC kc kf ks ki kd => ?_⟩
            have d : v 0 = .pointer (some ⟨X, 0, none⟩) := by first | exact kd _ (mem0 rfl) rfl | exact kd _ (mem1 rfl) rfl | exact kd _ (mem2 rfl) rfl
            have tt : ρ (.tmp 86) = .pointer (some ⟨X, 0, none⟩) := (ks 0 86 (by decide) rfl).trans d
            have e0 := hC.1.cellsX.1
            simp [execOp, go_sem, tt, e0]
            simp only [RanS]
            exact ⟨hC, (fun _ _ _ => rfl), rfl⟩
          · refine ⟨rfl, fun v W ρ hC kc kf ks ki kd => ?_⟩
            have t6 : ρ (.tmp 6) = .int .i64 (J : Int) := ki 6 (by decide)
            simp [execOp, go_sem, t6]
            simp only [RanS]
            exact ⟨hC, (fun _ _ _ => rfl), rfl⟩
          · refine ⟨rfl, fun v W ρ hC kc kf ks ki kd => ?_⟩
            have hg' := World.grownBy_alloc W (.cells #[.int .i64 (-1), .int .i64 0, .int .i64 1000000, .int .i64 1000001] 2) (some B)
            simp [execOp, go_sem, kc]
            simp only [RanS]
            refine ⟨⟨hC.1.grown (hC.1.src.kept fun k hk => Below.heap_alloc _ _ _ (by have := hC.1.src.lt; omega)) hg', by simp; have := hC.2.1; omega, hC.2.2⟩, fun k hk _ => Below.heap_alloc _ _ _ hk, W.heap.size, rfl, hC.2.1, heap_newG W (.cells #[.int .i64 (-1), .int .i64 0, .int .i64 1000000, .int .i64 1000001] 2)⟩
          · refine ⟨rfl, fun v W ρ hC kc kf ks ki kd => ?_⟩
            have t0 : ρ (.tmp 0) = .pointer (some ⟨B, 0, none⟩) := ki 0 (by decide)
            simp [execOp, go_sem, t0]
            simp only [RanS]
            exact ⟨hC, (fun _ _ _ => rfl), rfl⟩
          · refine ⟨rfl, fun v W ρ hC kc kf ks ki kd => ?_⟩
            have d : v 4 = .pointer (some ⟨B, 0, none⟩) := by first | exact kd _ (mem0 rfl) rfl | exact kd _ (mem1 rfl) rfl | exact kd _ (mem2 rfl) rfl
            have tt : ρ (.tmp 90) = .pointer (some ⟨B, 0, none⟩) := (ks 4 90 (by decide) rfl).trans d
            simp [execOp, go_sem, tt, kf, kc]
            simp only [RanS]
            refine (srcN_any B a len cap 4 W hC.1.src (by omega)).mono fun e W' h => ?_
            obtain ⟨r, rfl, r0, r1, hS', hO'⟩ := h
            have hsz := hO'.size
            exact ⟨_, rfl, ⟨hC.1.grown hS' hO'.grown, by omega, hC.2.2⟩, fun k hk hm => hO'.block k (by have := hC.2.2.1; omega), r, rfl, r0, by omega⟩
          · refine ⟨rfl, fun v W ρ hC kc kf ks ki kd => ?_⟩
            obtain ⟨g, eg, hm, hz⟩ : rowZ 4 [-1, 0, 1000000, 1000001] m0 (v 3) W := by first | exact kd _ (mem0 rfl) rfl | exact kd _ (mem1 rfl) rfl | exact kd _ (mem2 rfl) rfl
            obtain ⟨r, er, r0, r1⟩ : ∃ r : Int, v 5 = .int .i64 r ∧ 0 ≤ r ∧ r < 4 := by first | exact kd _ (mem0 rfl) rfl | exact kd _ (mem1 rfl) rfl | exact kd _ (mem2 rfl) rfl
            obtain ⟨i, rfl⟩ : ∃ i : Nat, r = (i : Int) := ⟨r.toNat, by omega⟩
            have hii : (0 : Int) ≤ (i : Int) ∧ (i : Int) < 4 := ⟨r0, r1⟩
            have ta : ρ (.tmp 89) = .slice (some ⟨g, 0, none⟩) 4 4 := (ks 3 89 (by decide) rfl).trans eg
            have tb : ρ (.tmp 91) = .int .i64 (i : Int) := (ks 5 91 (by decide) rfl).trans er
            simp [execOp, go_sem, ta, tb, hii]
            simp only [RanS]
            exact ⟨hC, (fun _ _ _ => rfl), g, i, rfl, by omega, hm, hz⟩
          · refine ⟨rfl, fun v W ρ hC kc kf ks ki kd => ?_⟩
            obtain ⟨g, i, eg, hi, hm, hz⟩ : ptrZ 4 [-1, 0, 1000000, 1000001] m0 (v 6) W := by first | exact kd _ (mem0 rfl) rfl | exact kd _ (mem1 rfl) rfl | exact kd _ (mem2 rfl) rfl
            have ta : ρ (.tmp 92) = .pointer (some ⟨g, i, none⟩) := (ks 6 92 (by decide) rfl).trans eg
            have e0 := (blk_cell hz i).trans (intCells_get [-1, 0, 1000000, 1000001] i (by simpa using hi))
            simp [execOp, go_sem, ta, e0]
            simp only [RanS]
            refine ⟨hC, (fun _ _ _ => rfl), _, rfl, ?_⟩
            rcases (by omega : i = 0 ∨ i = 1 ∨ i = 2 ∨ i = 3) with q | q | q | q <;> subst q <;> simp
          · refine ⟨rfl, fun v W ρ hC kc kf ks ki kd => ?_⟩
            have d1 : v 1 = .slice (some ⟨b2, o2, none⟩) t.slots.length cS := by first | exact kd _ (mem0 rfl) rfl | exact kd _ (mem1 rfl) rfl | exact kd _ (mem2 rfl) rfl
            have d2 : v 2 = .int .i64 (J : Int) := by first | exact kd _ (mem0 rfl) rfl | exact kd _ (mem1 rfl) rfl | exact kd _ (mem2 rfl) rfl
            have t1 : ρ (.tmp 87) = .slice (some ⟨b2, o2, none⟩) t.slots.length cS := (ks 1 87 (by decide) rfl).trans d1
            have t2 : ρ (.tmp 88) = .int .i64 (J : Int) := (ks 2 88 (by decide) rfl).trans d2
            simp [execOp, go_sem, t1, t2, hJJ]
            simp only [RanS]
            exact ⟨hC, (fun _ _ _ => rfl), rfl⟩
          · refine ⟨rfl, fun v W ρ hC kc kf ks ki kd => ?_⟩
            have d : v 8 = .pointer (some ⟨b2, o2 + J * 4, none⟩) := by first | exact kd _ (mem0 rfl) rfl | exact kd _ (mem1 rfl) rfl | exact kd _ (mem2 rfl) rfl
            have tt : ρ (.tmp 94) = .pointer (some ⟨b2, o2 + J * 4, none⟩) := (ks 8 94 (by decide) rfl).trans d
            simp [execOp, go_sem, tt]
            simp only [RanS]
            exact ⟨hC, (fun _ _ _ => rfl), rfl⟩
          · refine ⟨rfl, fun v W ρ hC kc kf ks ki kd => ?_⟩
            have d1 : v 9 = .pointer (some ⟨b2, o2 + J * 4 + 2, none⟩) := by first | exact kd _ (mem0 rfl) rfl | exact kd _ (mem1 rfl) rfl | exact kd _ (mem2 rfl) rfl
            obtain ⟨r, er, r0, r1⟩ : ∃ r : Int, v 7 = .int .i64 r ∧ -1 ≤ r ∧ r ≤ 1000001 := by first | exact kd _ (mem0 rfl) rfl | exact kd _ (mem1 rfl) rfl | exact kd _ (mem2 rfl) rfl
            have t1 : ρ (.tmp 95) = .pointer (some ⟨b2, o2 + J * 4 + 2, none⟩) := (ks 9 95 (by decide) rfl).trans d1
            have t2 : ρ (.tmp 93) = .int .i64 r := (ks 7 93 (by decide) rfl).trans er
            obtain ⟨⟨y, y0⟩, y1, y2⟩ := hC.1.turn (j := J) (f := 2) (z := r) hJ (by omega) (fit_of (by omega) (by omega))
            simp [execOp, go_sem, t1, t2, y0, y1]
            simp only [RanS]
            refine ⟨⟨y2, by simp only [World.setCell, Array.size_modify]; exact hC.2.1, hC.2.2⟩, fun k hk hm => ?_, trivial⟩
            exact Below.heap_setCell W ⟨b2, _, none⟩ _ k (show k ≠ b2 by have := hC.2.2; omega)
        intro ve We hCe halle
        have HFe := hidS hCe.1
        clear hCe halle KEEPe
        simp [upto, Act.put]
        obtain ⟨t', e1, e2, hfit, hx⟩ := HFe.out.ex
        have kX := HFe.out.cellsX
        obtain ⟨x0, x1⟩ := kX
        have kR := blk_cell HFe.out.r
        have fR := blk_free HFe.out.r
        have HFX := hidS hx
        have HFT := hidS hfit
        have HE1 := hidS e1
        have HE2 := hidS e2
        have hbx := HFe.out.bx
        have HSRC := hidS HFe.out.src
        have HGR := hidS HFe.out.gr
        clear hx hfit e1 e2 HFe
        go_wp2_with fail
        refine bodyPost_ret (v := .agg #[.slice (some ⟨b2, o2, none⟩) t.slots.length cS, .slice (some ⟨b3, o3, none⟩) t.heads.length cH]) (by simp [results, Try.results37, go_sem, *]) rfl ?_
        have l2 := HFX.out.lo2
        have l3 := HFX.out.lo3
        refine ⟨t', b2, o2, cS, b3, o3, cH, by rw [HE1.out, HE2.out], ⟨by rw [HE1.out]; exact n1, by rw [HE1.out]; exact n2, by rw [HE2.out]; exact n3, by rw [HE2.out]; exact n4, HFT.out⟩, HFX.out.ne, by omega, by omega, ?_, ?_, ?_, ?_⟩
        · repeat (refine RowB.other ?_ (by omega))
          exact HFX.out.slots
        · repeat (refine RowB.other ?_ (by omega))
          exact HFX.out.heads
        · exact HSRC.out.kept fun k hk => (Below.heap_setCell _ ⟨w.heap.size, 1, none⟩ _ k (show k ≠ w.heap.size by omega)).trans (Below.heap_setCell _ ⟨w.heap.size, 0, none⟩ _ k (show k ≠ w.heap.size by omega))
        · exact grown_ex HGR.out (((Ex2.refl B w.heap.size _).cells 0 _).cells 1 _) (Nat.le_refl _)
      have hcb1 : (c == 1) = false := beq_eq_false_iff_ne.2 hc1
      clear hc1
      by_cases hc2 : c = 2
      · have hcb : (c == 2) = true := beq_iff_eq.2 hc2
        clear hc2 cc0 cc1
        go_wp2_with fail
        have KEEPf : Hid (∀ i v W W', kpOf [isP (.pointer (some ⟨X, 0, none⟩)), isP (.slice (some ⟨b2, o2, none⟩) t.slots.length cS), isP (.int .i64 (J : Int)), isP (.pointer (some ⟨B, 0, none⟩)), (fun v _ => ∃ r : Int, v = .int .i64 r ∧ -1 ≤ r ∧ r ≤ 1000), isP (.pointer (some ⟨b2, o2 + J * 4, none⟩)), isP (.pointer (some ⟨b2, o2 + J * 4, none⟩)), anyP] i v W → Up m0 W W' → kpOf [isP (.pointer (some ⟨X, 0, none⟩)), isP (.slice (some ⟨b2, o2, none⟩) t.slots.length cS), isP (.int .i64 (J : Int)), isP (.pointer (some ⟨B, 0, none⟩)), (fun v _ => ∃ r : Int, v = .int .i64 r ∧ -1 ≤ r ∧ r ≤ 1000), isP (.pointer (some ⟨b2, o2 + J * 4, none⟩)), isP (.pointer (some ⟨b2, o2 + J * 4, none⟩)), anyP] i v W') := by
          refine hidS (fun i v W W' h hr => ?_)
          match i, h with
          | 0, h => exact h
          | 1, h => exact h
          | 2, h => exact h
          | 3, h => exact h
          | 4, h => exact h
          | 5, h => exact h
          | 6, h => exact h
          | 7, h => exact h
          | n + 8, h => exact (trivial : True)
        refine grow_res (fun W => FnSt B a len cap w X b2 o2 cS b3 o3 cH t.slots.length t.heads.length W ∧ m0 ≤ W.heap.size ∧ B < m0 ∧ b2 < m0 ∧ b3 < m0) (fun W W' => Up m0 W W') (kpOf [isP (.pointer (some ⟨X, 0, none⟩)), isP (.slice (some ⟨b2, o2, none⟩) t.slots.length cS), isP (.int .i64 (J : Int)), isP (.pointer (some ⟨B, 0, none⟩)), (fun v _ => ∃ r : Int, v = .int .i64 r ∧ -1 ≤ r ∧ r ≤ 1000), isP (.pointer (some ⟨b2, o2 + J * 4, none⟩)), isP (.pointer (some ⟨b2, o2 + J * 4, none⟩)), anyP]) (by kernel_rfl) (by kernel_rfl) KEEPf.out ⟨HF3.out.grown (HF3.out.src.kept fun _ _ => rfl) ⟨rfl, rfl, rfl, Nat.le_refl _, fun _ _ _ => rfl⟩, HM0.out⟩ ?stepsf ?finf
        case stepsf =>
          refine ⟨?_, ?_, ?_, ?_, ?_, ?_, ?_, ?_, trivial⟩
          · refine ⟨rfl, fun v W ρ hC kc kf ks ki kd => ?_⟩
            have t3 : ρ (.tmp 3) = .pointer (some ⟨X, 0, none⟩) := ki 3 (by decide)
            simp [execOp, go_sem, t3]
            simp only [RanS]
            exact ⟨hC, (fun _ _ _ => rfl), rfl⟩
          · refine ⟨rfl, fun v W ρ hC kc kf ks ki kd => ?_⟩
            have d : v 0 = .pointer (some ⟨X, 0, none⟩) := by first | exact kd _ (mem0 rfl) rfl | exact kd _ (mem1 rfl) rfl | exact kd _ (mem2 rfl) rfl
            have tt : ρ (.tmp 98) = .pointer (some ⟨X, 0, none⟩) := (ks 0 98 (by decide) rfl).trans d
            have e0 := hC.1.cellsX.1
            simp [execOp, go_sem, tt, e0]
            simp only [RanS]
            exact ⟨hC, (fun _ _ _ => rfl), rfl⟩
          · refine ⟨rfl, fun v W ρ hC kc kf ks ki kd => ?_⟩
            have t6 : ρ (.tmp 6) = .int .i64 (J : Int) := ki 6 (by decide)
            simp [execOp, go_sem, t6]
            simp only [RanS]
            exact ⟨hC, (fun _ _ _ => rfl), rfl⟩
          · refine ⟨rfl, fun v W ρ hC kc kf ks ki kd => ?_⟩
            have t0 : ρ (.tmp 0) = .pointer (some ⟨B, 0, none⟩) := ki 0 (by decide)
            simp [execOp, go_sem, t0]
            simp only [RanS]
            exact ⟨hC, (fun _ _ _ => rfl), rfl⟩
          · refine ⟨rfl, fun v W ρ hC kc kf ks ki kd => ?_⟩
            have d : v 3 = .pointer (some ⟨B, 0, none⟩) := by first | exact kd _ (mem0 rfl) rfl | exact kd _ (mem1 rfl) rfl | exact kd _ (mem2 rfl) rfl
            have tt : ρ (.tmp 101) = .pointer (some ⟨B, 0, none⟩) := (ks 3 101 (by decide) rfl).trans d
            simp [execOp, go_sem, tt, kf]
            simp only [RanS]
            refine (srcKey_any B a len cap W hC.1.src).mono fun e W' h => ?_
            obtain ⟨r, rfl, r0, r1, hS', hg'⟩ := h
            have hsz := hg'.size
            exact ⟨_, rfl, ⟨hC.1.grown hS' hg', by omega, hC.2.2⟩, fun k hk hm => hg'.block k hk (fun e => by injection e with e; have := hC.2.2.1; omega), r, rfl, r0, r1⟩
          · refine ⟨rfl, fun v W ρ hC kc kf ks ki kd => ?_⟩
            have d1 : v 1 = .slice (some ⟨b2, o2, none⟩) t.slots.length cS := by first | exact kd _ (mem0 rfl) rfl | exact kd _ (mem1 rfl) rfl | exact kd _ (mem2 rfl) rfl
            have d2 : v 2 = .int .i64 (J : Int) := by first | exact kd _ (mem0 rfl) rfl | exact kd _ (mem1 rfl) rfl | exact kd _ (mem2 rfl) rfl
            have t1 : ρ (.tmp 99) = .slice (some ⟨b2, o2, none⟩) t.slots.length cS := (ks 1 99 (by decide) rfl).trans d1
            have t2 : ρ (.tmp 100) = .int .i64 (J : Int) := (ks 2 100 (by decide) rfl).trans d2
            simp [execOp, go_sem, t1, t2, hJJ]
            simp only [RanS]
            exact ⟨hC, (fun _ _ _ => rfl), rfl⟩
          · refine ⟨rfl, fun v W ρ hC kc kf ks ki kd => ?_⟩
            have d : v 5 = .pointer (some ⟨b2, o2 + J * 4, none⟩) := by first | exact kd _ (mem0 rfl) rfl | exact kd _ (mem1 rfl) rfl | exact kd _ (mem2 rfl) rfl
            have tt : ρ (.tmp 103) = .pointer (some ⟨b2, o2 + J * 4, none⟩) := (ks 5 103 (by decide) rfl).trans d
            simp [execOp, go_sem, tt]
            simp only [RanS]
            exact ⟨hC, (fun _ _ _ => rfl), rfl⟩
          · refine ⟨rfl, fun v W ρ hC kc kf ks ki kd => ?_⟩
            have d1 : v 6 = .pointer (some ⟨b2, o2 + J * 4, none⟩) := by first | exact kd _ (mem0 rfl) rfl | exact kd _ (mem1 rfl) rfl | exact kd _ (mem2 rfl) rfl
            obtain ⟨r, er, r0, r1⟩ : ∃ r : Int, v 4 = .int .i64 r ∧ -1 ≤ r ∧ r ≤ 1000 := by first | exact kd _ (mem0 rfl) rfl | exact kd _ (mem1 rfl) rfl | exact kd _ (mem2 rfl) rfl
            have t1 : ρ (.tmp 104) = .pointer (some ⟨b2, o2 + J * 4, none⟩) := (ks 6 104 (by decide) rfl).trans d1
            have t2 : ρ (.tmp 102) = .int .i64 r := (ks 4 102 (by decide) rfl).trans er
            obtain ⟨⟨y, y0⟩, y1, y2⟩ := hC.1.turn (j := J) (f := 0) (z := r) hJ (by omega) (fit_of (by omega) (by omega))
            simp only [Nat.add_zero] at y0 y1 y2
            simp [execOp, go_sem, t1, t2, y0, y1]
            simp only [RanS]
            refine ⟨⟨y2, by simp only [World.setCell, Array.size_modify]; exact hC.2.1, hC.2.2⟩, fun k hk hm => ?_, trivial⟩
            exact Below.heap_setCell W ⟨b2, _, none⟩ _ k (show k ≠ b2 by have := hC.2.2; omega)
        intro vf Wf hCf hallf
        have HFf := hidS hCf.1
        clear hCf hallf KEEPf
        simp [upto, Act.put]
        obtain ⟨t', e1, e2, hfit, hx⟩ := HFf.out.ex
        have kX := HFf.out.cellsX
        obtain ⟨x0, x1⟩ := kX
        have kR := blk_cell HFf.out.r
        have fR := blk_free HFf.out.r
        have HFX := hidS hx
        have HFT := hidS hfit
        have HE1 := hidS e1
        have HE2 := hidS e2
        have hbx := HFf.out.bx
        have HSRC := hidS HFf.out.src
        have HGR := hidS HFf.out.gr
        clear hx hfit e1 e2 HFf
        go_wp2_with fail
        refine bodyPost_ret (v := .agg #[.slice (some ⟨b2, o2, none⟩) t.slots.length cS, .slice (some ⟨b3, o3, none⟩) t.heads.length cH]) (by simp [results, Try.results37, go_sem, *]) rfl ?_
        have l2 := HFX.out.lo2
        have l3 := HFX.out.lo3
        refine ⟨t', b2, o2, cS, b3, o3, cH, by rw [HE1.out, HE2.out], ⟨by rw [HE1.out]; exact n1, by rw [HE1.out]; exact n2, by rw [HE2.out]; exact n3, by rw [HE2.out]; exact n4, HFT.out⟩, HFX.out.ne, by omega, by omega, ?_, ?_, ?_, ?_⟩
        · repeat (refine RowB.other ?_ (by omega))
          exact HFX.out.slots
        · repeat (refine RowB.other ?_ (by omega))
          exact HFX.out.heads
        · exact HSRC.out.kept fun k hk => (Below.heap_setCell _ ⟨w.heap.size, 1, none⟩ _ k (show k ≠ w.heap.size by omega)).trans (Below.heap_setCell _ ⟨w.heap.size, 0, none⟩ _ k (show k ≠ w.heap.size by omega))
        · exact grown_ex HGR.out (((Ex2.refl B w.heap.size _).cells 0 _).cells 1 _) (Nat.le_refl _)
      have hcb2 : (c == 2) = false := beq_eq_false_iff_ne.2 hc2
      clear hc2
      by_cases hc3 : c = 3
      · have hcb : (c == 3) = true := beq_iff_eq.2 hc3
        clear hc3 cc0 cc1
        go_wp2_with fail
        have KEEPg : Hid (∀ i v W W', kpOf [isP (.pointer (some ⟨X, 1, none⟩)), isP (.slice (some ⟨b3, o3, none⟩) t.heads.length cH), isP (.pointer (some ⟨B, 0, none⟩)), (fun v _ => ∃ r : Int, v = .int .i64 r ∧ 0 ≤ r ∧ r < 9), (fun v _ => ∃ r : Int, v = .int .i64 r ∧ -4 ≤ r ∧ r ≤ 4), isP (.pointer (some ⟨b3, o3, none⟩)), anyP] i v W → Up m0 W W' → kpOf [isP (.pointer (some ⟨X, 1, none⟩)), isP (.slice (some ⟨b3, o3, none⟩) t.heads.length cH), isP (.pointer (some ⟨B, 0, none⟩)), (fun v _ => ∃ r : Int, v = .int .i64 r ∧ 0 ≤ r ∧ r < 9), (fun v _ => ∃ r : Int, v = .int .i64 r ∧ -4 ≤ r ∧ r ≤ 4), isP (.pointer (some ⟨b3, o3, none⟩)), anyP] i v W') := by
          refine hidS (fun i v W W' h hr => ?_)
          match i, h with
          | 0, h => exact h
          | 1, h => exact h
          | 2, h => exact h
          | 3, h => exact h
          | 4, h => exact h
          | 5, h => exact h
          | 6, h => exact h
          | n + 7, h => exact (trivial : True)
        refine grow_res (fun W => FnSt B a len cap w X b2 o2 cS b3 o3 cH t.slots.length t.heads.length W ∧ m0 ≤ W.heap.size ∧ B < m0 ∧ b2 < m0 ∧ b3 < m0) (fun W W' => Up m0 W W') (kpOf [isP (.pointer (some ⟨X, 1, none⟩)), isP (.slice (some ⟨b3, o3, none⟩) t.heads.length cH), isP (.pointer (some ⟨B, 0, none⟩)), (fun v _ => ∃ r : Int, v = .int .i64 r ∧ 0 ≤ r ∧ r < 9), (fun v _ => ∃ r : Int, v = .int .i64 r ∧ -4 ≤ r ∧ r ≤ 4), isP (.pointer (some ⟨b3, o3, none⟩)), anyP]) (by kernel_rfl) (by kernel_rfl) KEEPg.out ⟨HF3.out.grown (HF3.out.src.kept fun _ _ => rfl) ⟨rfl, rfl, rfl, Nat.le_refl _, fun _ _ _ => rfl⟩, HM0.out⟩ ?stepsg ?fing
        case stepsg =>
          refine ⟨?_, ?_, ?_, ?_, ?_, ?_, ?_, trivial⟩
          · refine ⟨rfl, fun v W ρ hC kc kf ks ki kd => ?_⟩
            have t3 : ρ (.tmp 3) = .pointer (some ⟨X, 0, none⟩) := ki 3 (by decide)
            simp [execOp, go_sem, t3]
            simp only [RanS]
            exact ⟨hC, (fun _ _ _ => rfl), rfl⟩
          · refine ⟨rfl, fun v W ρ hC kc kf ks ki kd => ?_⟩
            have d : v 0 = .pointer (some ⟨X, 1, none⟩) := by first | exact kd _ (mem0 rfl) rfl | exact kd _ (mem1 rfl) rfl | exact kd _ (mem2 rfl) rfl
            have tt : ρ (.tmp 107) = .pointer (some ⟨X, 1, none⟩) := (ks 0 107 (by decide) rfl).trans d
            have e0 := hC.1.cellsX.2
            simp [execOp, go_sem, tt, e0]
            simp only [RanS]
            exact ⟨hC, (fun _ _ _ => rfl), rfl⟩
          · refine ⟨rfl, fun v W ρ hC kc kf ks ki kd => ?_⟩
            have t0 : ρ (.tmp 0) = .pointer (some ⟨B, 0, none⟩) := ki 0 (by decide)
            simp [execOp, go_sem, t0]
            simp only [RanS]
            exact ⟨hC, (fun _ _ _ => rfl), rfl⟩
          · refine ⟨rfl, fun v W ρ hC kc kf ks ki kd => ?_⟩
            have d : v 2 = .pointer (some ⟨B, 0, none⟩) := by first | exact kd _ (mem0 rfl) rfl | exact kd _ (mem1 rfl) rfl | exact kd _ (mem2 rfl) rfl
            have tt : ρ (.tmp 109) = .pointer (some ⟨B, 0, none⟩) := (ks 2 109 (by decide) rfl).trans d
            simp [execOp, go_sem, tt, kf, kc]
            simp only [RanS]
            refine (srcN_any B a len cap 9 W hC.1.src (by omega)).mono fun e W' h => ?_
            obtain ⟨r, rfl, r0, r1, hS', hO'⟩ := h
            have hsz := hO'.size
            exact ⟨_, rfl, ⟨hC.1.grown hS' hO'.grown, by omega, hC.2.2⟩, fun k hk hm => hO'.block k (by have := hC.2.2.1; omega), r, rfl, r0, by omega⟩
          · refine ⟨rfl, fun v W ρ hC kc kf ks ki kd => ?_⟩
            obtain ⟨r, er, r0, r1⟩ : ∃ r : Int, v 3 = .int .i64 r ∧ 0 ≤ r ∧ r < 9 := by first | exact kd _ (mem0 rfl) rfl | exact kd _ (mem1 rfl) rfl | exact kd _ (mem2 rfl) rfl
            have tt : ρ (.tmp 110) = .int .i64 r := (ks 3 110 (by decide) rfl).trans er
            have hw : IntKind.i64.wrap (r - 4) = r - 4 := IntWalk.i64_in _ ⟨by omega, by omega⟩
            simp [execOp, go_sem, tt, kc, hw]
            simp only [RanS]
            exact ⟨hC, (fun _ _ _ => rfl), r - 4, rfl, by omega, by omega⟩
          · refine ⟨rfl, fun v W ρ hC kc kf ks ki kd => ?_⟩
            have d1 : v 1 = .slice (some ⟨b3, o3, none⟩) t.heads.length cH := by first | exact kd _ (mem0 rfl) rfl | exact kd _ (mem1 rfl) rfl | exact kd _ (mem2 rfl) rfl
            have t1 : ρ (.tmp 108) = .slice (some ⟨b3, o3, none⟩) t.heads.length cH := (ks 1 108 (by decide) rfl).trans d1
            have hz : (0 : Int) < (t.heads.length : Int) := by omega
            have hz2 : 0 < t.heads.length := by omega
            have hz3 : ¬ t.heads = [] := fun e => by rw [e] at hz2; simp at hz2
            simp [execOp, go_sem, t1, kc, hz, hz2, hz3]
            simp only [RanS]
            exact ⟨hC, (fun _ _ _ => rfl), rfl⟩
          · refine ⟨rfl, fun v W ρ hC kc kf ks ki kd => ?_⟩
            have d1 : v 5 = .pointer (some ⟨b3, o3, none⟩) := by first | exact kd _ (mem0 rfl) rfl | exact kd _ (mem1 rfl) rfl | exact kd _ (mem2 rfl) rfl
            obtain ⟨r, er, r0, r1⟩ : ∃ r : Int, v 4 = .int .i64 r ∧ -4 ≤ r ∧ r ≤ 4 := by first | exact kd _ (mem0 rfl) rfl | exact kd _ (mem1 rfl) rfl | exact kd _ (mem2 rfl) rfl
            have t1 : ρ (.tmp 112) = .pointer (some ⟨b3, o3, none⟩) := (ks 5 112 (by decide) rfl).trans d1
            have t2 : ρ (.tmp 111) = .int .i64 r := (ks 4 111 (by decide) rfl).trans er
            obtain ⟨⟨y, y0⟩, y1, y2⟩ := hC.1.turnH (j := 0) (z := r) (by omega) (fit_of (by omega) (by omega))
            simp only [Nat.add_zero] at y0 y1 y2
            simp [execOp, go_sem, t1, t2, y0, y1]
            simp only [RanS]
            refine ⟨⟨y2, by simp only [World.setCell, Array.size_modify]; exact hC.2.1, hC.2.2⟩, fun k hk hm => ?_, trivial⟩
            exact Below.heap_setCell W ⟨b3, _, none⟩ _ k (show k ≠ b3 by have := hC.2.2; omega)
        intro vg Wg hCg hallg
        have HFg := hidS hCg.1
        clear hCg hallg KEEPg
        simp [upto, Act.put]
        obtain ⟨t', e1, e2, hfit, hx⟩ := HFg.out.ex
        have kX := HFg.out.cellsX
        obtain ⟨x0, x1⟩ := kX
        have kR := blk_cell HFg.out.r
        have fR := blk_free HFg.out.r
        have HFX := hidS hx
        have HFT := hidS hfit
        have HE1 := hidS e1
        have HE2 := hidS e2
        have hbx := HFg.out.bx
        have HSRC := hidS HFg.out.src
        have HGR := hidS HFg.out.gr
        clear hx hfit e1 e2 HFg
        go_wp2_with fail
        refine bodyPost_ret (v := .agg #[.slice (some ⟨b2, o2, none⟩) t.slots.length cS, .slice (some ⟨b3, o3, none⟩) t.heads.length cH]) (by simp [results, Try.results37, go_sem, *]) rfl ?_
        have l2 := HFX.out.lo2
        have l3 := HFX.out.lo3
        refine ⟨t', b2, o2, cS, b3, o3, cH, by rw [HE1.out, HE2.out], ⟨by rw [HE1.out]; exact n1, by rw [HE1.out]; exact n2, by rw [HE2.out]; exact n3, by rw [HE2.out]; exact n4, HFT.out⟩, HFX.out.ne, by omega, by omega, ?_, ?_, ?_, ?_⟩
        · repeat (refine RowB.other ?_ (by omega))
          exact HFX.out.slots
        · repeat (refine RowB.other ?_ (by omega))
          exact HFX.out.heads
        · exact HSRC.out.kept fun k hk => (Below.heap_setCell _ ⟨w.heap.size, 1, none⟩ _ k (show k ≠ w.heap.size by omega)).trans (Below.heap_setCell _ ⟨w.heap.size, 0, none⟩ _ k (show k ≠ w.heap.size by omega))
        · exact grown_ex HGR.out (((Ex2.refl B w.heap.size _).cells 0 _).cells 1 _) (Nat.le_refl _)
      have hcb3 : (c == 3) = false := beq_eq_false_iff_ne.2 hc3
      clear hc3
      clear cc0 cc1
      go_wp2_with fail
      have KEEPh : Hid (∀ i v W W', kpOf [isP (.pointer (some ⟨X, 0, none⟩)), isP (.slice (some ⟨b2, o2, none⟩) t.slots.length cS), isP (.int .i64 (J : Int)), rowZ 3 [-1, 1000000, 1000001] m0, isP (.pointer (some ⟨B, 0, none⟩)), (fun v _ => ∃ r : Int, v = .int .i64 r ∧ 0 ≤ r ∧ r < 3), ptrZ 3 [-1, 1000000, 1000001] m0, (fun v _ => ∃ r : Int, v = .int .i64 r ∧ -1 ≤ r ∧ r ≤ 1000001), isP (.pointer (some ⟨b2, o2 + J * 4, none⟩)), isP (.pointer (some ⟨b2, o2 + J * 4 + 1, none⟩)), anyP] i v W → Up m0 W W' → kpOf [isP (.pointer (some ⟨X, 0, none⟩)), isP (.slice (some ⟨b2, o2, none⟩) t.slots.length cS), isP (.int .i64 (J : Int)), rowZ 3 [-1, 1000000, 1000001] m0, isP (.pointer (some ⟨B, 0, none⟩)), (fun v _ => ∃ r : Int, v = .int .i64 r ∧ 0 ≤ r ∧ r < 3), ptrZ 3 [-1, 1000000, 1000001] m0, (fun v _ => ∃ r : Int, v = .int .i64 r ∧ -1 ≤ r ∧ r ≤ 1000001), isP (.pointer (some ⟨b2, o2 + J * 4, none⟩)), isP (.pointer (some ⟨b2, o2 + J * 4 + 1, none⟩)), anyP] i v W') := by
        refine hidS (fun i v W W' h hr => ?_)
        match i, h with
        | 0, h => exact h
        | 1, h => exact h
        | 2, h => exact h
        | 3, h => exact rowZ_last h hr
        | 4, h => exact h
        | 5, h => exact h
        | 6, h => exact ptrZ_last h hr
        | 7, h => exact h
        | 8, h => exact h
        | 9, h => exact h
        | 10, h => exact h
        | n + 11, h => exact (trivial : True)
      refine grow_res (fun W => FnSt B a len cap w X b2 o2 cS b3 o3 cH t.slots.length t.heads.length W ∧ m0 ≤ W.heap.size ∧ B < m0 ∧ b2 < m0 ∧ b3 < m0) (fun W W' => Up m0 W W') (kpOf [isP (.pointer (some ⟨X, 0, none⟩)), isP (.slice (some ⟨b2, o2, none⟩) t.slots.length cS), isP (.int .i64 (J : Int)), rowZ 3 [-1, 1000000, 1000001] m0, isP (.pointer (some ⟨B, 0, none⟩)), (fun v _ => ∃ r : Int, v = .int .i64 r ∧ 0 ≤ r ∧ r < 3), ptrZ 3 [-1, 1000000, 1000001] m0, (fun v _ => ∃ r : Int, v = .int .i64 r ∧ -1 ≤ r ∧ r ≤ 1000001), isP (.pointer (some ⟨b2, o2 + J * 4, none⟩)), isP (.pointer (some ⟨b2, o2 + J * 4 + 1, none⟩)), anyP]) (by kernel_rfl) (by kernel_rfl) KEEPh.out ⟨HF3.out.grown (HF3.out.src.kept fun _ _ => rfl) ⟨rfl, rfl, rfl, Nat.le_refl _, fun _ _ _ => rfl⟩, HM0.out⟩ ?stepsh ?finh
      case stepsh =>
        refine ⟨?_, ?_, ?_, ?_, ?_, ?_, ?_, ?_, ?_, ?_, ?_, trivial⟩
        · refine ⟨rfl, fun v W ρ hC kc kf ks ki kd => ?_⟩
          have t3 : ρ (.tmp 3) = .pointer (some ⟨X, 0, none⟩) := ki 3 (by decide)
          simp [execOp, go_sem, t3]
          simp only [RanS]
          exact ⟨hC, (fun _ _ _ => rfl), rfl⟩
        · refine ⟨rfl, fun v W ρ hC kc kf ks ki kd => ?_⟩
          have d : v 0 = .pointer (some ⟨X, 0, none⟩) := by first | exact kd _ (mem0 rfl) rfl | exact kd _ (mem1 rfl) rfl | exact kd _ (mem2 rfl) rfl
          have tt : ρ (.tmp 64) = .pointer (some ⟨X, 0, none⟩) := (ks 0 64 (by decide) rfl).trans d
          have e0 := hC.1.cellsX.1
          simp [execOp, go_sem, tt, e0]
          simp only [RanS]
          exact ⟨hC, (fun _ _ _ => rfl), rfl⟩
        · refine ⟨rfl, fun v W ρ hC kc kf ks ki kd => ?_⟩
          have t6 : ρ (.tmp 6) = .int .i64 (J : Int) := ki 6 (by decide)
          simp [execOp, go_sem, t6]
          simp only [RanS]
          exact ⟨hC, (fun _ _ _ => rfl), rfl⟩
        · refine ⟨rfl, fun v W ρ hC kc kf ks ki kd => ?_⟩
          have hg' := World.grownBy_alloc W (.cells #[.int .i64 (-1), .int .i64 1000000, .int .i64 1000001] 2) (some B)
          simp [execOp, go_sem, kc]
          simp only [RanS]
          refine ⟨⟨hC.1.grown (hC.1.src.kept fun k hk => Below.heap_alloc _ _ _ (by have := hC.1.src.lt; omega)) hg', by simp; have := hC.2.1; omega, hC.2.2⟩, fun k hk _ => Below.heap_alloc _ _ _ hk, W.heap.size, rfl, hC.2.1, heap_newG W (.cells #[.int .i64 (-1), .int .i64 1000000, .int .i64 1000001] 2)⟩
        · refine ⟨rfl, fun v W ρ hC kc kf ks ki kd => ?_⟩
          have t0 : ρ (.tmp 0) = .pointer (some ⟨B, 0, none⟩) := ki 0 (by decide)
          simp [execOp, go_sem, t0]
          simp only [RanS]
          exact ⟨hC, (fun _ _ _ => rfl), rfl⟩
        · refine ⟨rfl, fun v W ρ hC kc kf ks ki kd => ?_⟩
          have d : v 4 = .pointer (some ⟨B, 0, none⟩) := by first | exact kd _ (mem0 rfl) rfl | exact kd _ (mem1 rfl) rfl | exact kd _ (mem2 rfl) rfl
          have tt : ρ (.tmp 68) = .pointer (some ⟨B, 0, none⟩) := (ks 4 68 (by decide) rfl).trans d
          simp [execOp, go_sem, tt, kf, kc]
          simp only [RanS]
          refine (srcN_any B a len cap 3 W hC.1.src (by omega)).mono fun e W' h => ?_
          obtain ⟨r, rfl, r0, r1, hS', hO'⟩ := h
          have hsz := hO'.size
          exact ⟨_, rfl, ⟨hC.1.grown hS' hO'.grown, by omega, hC.2.2⟩, fun k hk hm => hO'.block k (by have := hC.2.2.1; omega), r, rfl, r0, by omega⟩
        · refine ⟨rfl, fun v W ρ hC kc kf ks ki kd => ?_⟩
          obtain ⟨g, eg, hm, hz⟩ : rowZ 3 [-1, 1000000, 1000001] m0 (v 3) W := by first | exact kd _ (mem0 rfl) rfl | exact kd _ (mem1 rfl) rfl | exact kd _ (mem2 rfl) rfl
          obtain ⟨r, er, r0, r1⟩ : ∃ r : Int, v 5 = .int .i64 r ∧ 0 ≤ r ∧ r < 3 := by first | exact kd _ (mem0 rfl) rfl | exact kd _ (mem1 rfl) rfl | exact kd _ (mem2 rfl) rfl
          obtain ⟨i, rfl⟩ : ∃ i : Nat, r = (i : Int) := ⟨r.toNat, by omega⟩
          have hii : (0 : Int) ≤ (i : Int) ∧ (i : Int) < 3 := ⟨r0, r1⟩
          have ta : ρ (.tmp 67) = .slice (some ⟨g, 0, none⟩) 3 3 := (ks 3 67 (by decide) rfl).trans eg
          have tb : ρ (.tmp 69) = .int .i64 (i : Int) := (ks 5 69 (by decide) rfl).trans er
          simp [execOp, go_sem, ta, tb, hii]
          simp only [RanS]
          exact ⟨hC, (fun _ _ _ => rfl), g, i, rfl, by omega, hm, hz⟩
        · refine ⟨rfl, fun v W ρ hC kc kf ks ki kd => ?_⟩
          obtain ⟨g, i, eg, hi, hm, hz⟩ : ptrZ 3 [-1, 1000000, 1000001] m0 (v 6) W := by first | exact kd _ (mem0 rfl) rfl | exact kd _ (mem1 rfl) rfl | exact kd _ (mem2 rfl) rfl
          have ta : ρ (.tmp 70) = .pointer (some ⟨g, i, none⟩) := (ks 6 70 (by decide) rfl).trans eg
          have e0 := (blk_cell hz i).trans (intCells_get [-1, 1000000, 1000001] i (by simpa using hi))
          simp [execOp, go_sem, ta, e0]
          simp only [RanS]
          refine ⟨hC, (fun _ _ _ => rfl), _, rfl, ?_⟩
          rcases (by omega : i = 0 ∨ i = 1 ∨ i = 2) with q | q | q <;> subst q <;> simp
        · refine ⟨rfl, fun v W ρ hC kc kf ks ki kd => ?_⟩
          have d1 : v 1 = .slice (some ⟨b2, o2, none⟩) t.slots.length cS := by first | exact kd _ (mem0 rfl) rfl | exact kd _ (mem1 rfl) rfl | exact kd _ (mem2 rfl) rfl
          have d2 : v 2 = .int .i64 (J : Int) := by first | exact kd _ (mem0 rfl) rfl | exact kd _ (mem1 rfl) rfl | exact kd _ (mem2 rfl) rfl
          have t1 : ρ (.tmp 65) = .slice (some ⟨b2, o2, none⟩) t.slots.length cS := (ks 1 65 (by decide) rfl).trans d1
          have t2 : ρ (.tmp 66) = .int .i64 (J : Int) := (ks 2 66 (by decide) rfl).trans d2
          simp [execOp, go_sem, t1, t2, hJJ]
          simp only [RanS]
          exact ⟨hC, (fun _ _ _ => rfl), rfl⟩
        · refine ⟨rfl, fun v W ρ hC kc kf ks ki kd => ?_⟩
          have d : v 8 = .pointer (some ⟨b2, o2 + J * 4, none⟩) := by first | exact kd _ (mem0 rfl) rfl | exact kd _ (mem1 rfl) rfl | exact kd _ (mem2 rfl) rfl
          have tt : ρ (.tmp 72) = .pointer (some ⟨b2, o2 + J * 4, none⟩) := (ks 8 72 (by decide) rfl).trans d
          simp [execOp, go_sem, tt]
          simp only [RanS]
          exact ⟨hC, (fun _ _ _ => rfl), rfl⟩
        · refine ⟨rfl, fun v W ρ hC kc kf ks ki kd => ?_⟩
          have d1 : v 9 = .pointer (some ⟨b2, o2 + J * 4 + 1, none⟩) := by first | exact kd _ (mem0 rfl) rfl | exact kd _ (mem1 rfl) rfl | exact kd _ (mem2 rfl) rfl
          obtain ⟨r, er, r0, r1⟩ : ∃ r : Int, v 7 = .int .i64 r ∧ -1 ≤ r ∧ r ≤ 1000001 := by first | exact kd _ (mem0 rfl) rfl | exact kd _ (mem1 rfl) rfl | exact kd _ (mem2 rfl) rfl
          have t1 : ρ (.tmp 73) = .pointer (some ⟨b2, o2 + J * 4 + 1, none⟩) := (ks 9 73 (by decide) rfl).trans d1
          have t2 : ρ (.tmp 71) = .int .i64 r := (ks 7 71 (by decide) rfl).trans er
          obtain ⟨⟨y, y0⟩, y1, y2⟩ := hC.1.turn (j := J) (f := 1) (z := r) hJ (by omega) (fit_of (by omega) (by omega))
          simp [execOp, go_sem, t1, t2, y0, y1]
          simp only [RanS]
          refine ⟨⟨y2, by simp only [World.setCell, Array.size_modify]; exact hC.2.1, hC.2.2⟩, fun k hk hm => ?_, trivial⟩
          exact Below.heap_setCell W ⟨b2, _, none⟩ _ k (show k ≠ b2 by have := hC.2.2; omega)
      intro vh Wh hCh hallh
      have HFh := hidS hCh.1
      clear hCh hallh KEEPh
      simp [upto, Act.put]
      obtain ⟨t', e1, e2, hfit, hx⟩ := HFh.out.ex
      have kX := HFh.out.cellsX
      obtain ⟨x0, x1⟩ := kX
      have kR := blk_cell HFh.out.r
      have fR := blk_free HFh.out.r
      have HFX := hidS hx
      have HFT := hidS hfit
      have HE1 := hidS e1
      have HE2 := hidS e2
      have hbx := HFh.out.bx
      have HSRC := hidS HFh.out.src
      have HGR := hidS HFh.out.gr
      clear hx hfit e1 e2 HFh
      go_wp2_with fail
      refine bodyPost_ret (v := .agg #[.slice (some ⟨b2, o2, none⟩) t.slots.length cS, .slice (some ⟨b3, o3, none⟩) t.heads.length cH]) (by simp [results, Try.results37, go_sem, *]) rfl ?_
      have l2 := HFX.out.lo2
      have l3 := HFX.out.lo3
      refine ⟨t', b2, o2, cS, b3, o3, cH, by rw [HE1.out, HE2.out], ⟨by rw [HE1.out]; exact n1, by rw [HE1.out]; exact n2, by rw [HE2.out]; exact n3, by rw [HE2.out]; exact n4, HFT.out⟩, HFX.out.ne, by omega, by omega, ?_, ?_, ?_, ?_⟩
      · repeat (refine RowB.other ?_ (by omega))
        exact HFX.out.slots
      · repeat (refine RowB.other ?_ (by omega))
        exact HFX.out.heads
      · exact HSRC.out.kept fun k hk => (Below.heap_setCell _ ⟨w.heap.size, 1, none⟩ _ k (show k ≠ w.heap.size by omega)).trans (Below.heap_setCell _ ⟨w.heap.size, 0, none⟩ _ k (show k ≠ w.heap.size by omega))
      · exact grown_ex HGR.out (((Ex2.refl B w.heap.size _).cells 0 _).cells 1 _) (Nat.le_refl _)
end Go.Proofs.Ytcopfejonbbmnaa
