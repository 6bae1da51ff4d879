/- Proved here: spec.l06Find and spec.SlabFind answer the linked slot of a key; all old memory stays (conditions: the slab's rows can be read; at most 2^20 numbers). -/
import Derived.Test.YtfjgofmjhccdkaaAll8
import Derived.Test.YtfjgofmjhccdkaaAll1
import Derived.Test.YtfjgofmjhccdkaaAll12
import Derived.Test.YtfjgofmjhccdkaaAll2
namespace Go.Proofs.Ytfjgofmjhccdkaa
open Go.ChangeShapes Go.WideShapes Go.ChangeAt Go.RowKit
set_option linter.unusedVariables false
set_option linter.unusedSimpArgs false
set_option maxRecDepth 100000

def tupK (lo : Nat) (l : List Int) (en : Int) : Kp := fun v W => ∃ (al : Option Addr) (cl hi : Nat), v = .tuple #[.slice al l.length cl, .int .i64 en] ∧ OwnR lo hi al l W
def sliK (lo : Nat) (l : List Int) : Kp := fun v W => ∃ (al : Option Addr) (cl hi : Nat), v = .slice al l.length cl ∧ OwnR lo hi al l W
def FindC (s : Slb) (key : Int) (l : List Int) (w : World) (lo hi : Nat) (al : Option Addr) (oA : Obj) (ii : Value) (wr : World) : Prop :=
  ∃ i : Nat, ii = .int .i64 (i : Int) ∧ i ≤ l.length ∧ findL s key l = findL s key (l.drop i) ∧ wr.heap[w.heap.size]? = some oA ∧ OwnR lo hi al l wr ∧ Below w.heap.size w wr
set_option maxHeartbeats 4000000 in
theorem l06Find_any (aS aH : Option Addr) (cS cH : Nat) (s : Slb) (key : Int) (w : World) (hR : SlabZ aS aH s w) (hL : Leads s) (h1 : s.slots.length ≤ 24) (h2 : s.heads.length ≤ 4) (h3 : 1 ≤ s.heads.length) (hk0 : 0 ≤ key) :
    Calls Try.prog 75 #[.agg #[.slice aS s.slots.length cS, .slice aH s.heads.length cH], .int .i64 key] w fun e w' => e = .returned (.int .i64 (findSl s key)) ∧ Below w.heap.size w w' := by
  obtain ⟨c, hmod⟩ : ∃ c : Nat, key.tmod s.heads.length = (c : Int) := ⟨(key.tmod s.heads.length).toNat, by have := Int.tmod_nonneg (s.heads.length : Int) hk0; omega⟩
  have hcl : c < s.heads.length := by have := Int.tmod_lt_of_pos key (show (0 : Int) < s.heads.length by omega); omega
  have HF : Hid (findSl s key = findL s key (chainOf s c).1) := by show _ = _; unfold findSl; rw [hmod]
  have HIN : Hid (∀ n ∈ (chainOf s c).1, 0 ≤ n ∧ n < s.slots.length) := hidS (chain_in hL _ _ (hL.heads c hcl))
  have hlen : (chainOf s c).1.length ≤ s.slots.length + 1 := chain_len s _ _
  have HCH := hidS (fun W (h : Below w.heap.size w W) => l06Chain_any aS aH cS cH s c W (hR.later h) hL (by omega) hcl (by omega))
  have HR := hidS hR
  clear hR hL
  generalize chainOf s (c : Int) = ch at HF HIN HCH hlen
  obtain ⟨l, en⟩ := ch
  have hlen : l.length ≤ 25 := by have : l.length ≤ s.slots.length + 1 := hlen; omega
  have hne : s.heads ≠ [] := fun e => by rw [e] at h3; simp at h3
  have HA := hidS (heap_newG w (.cells #[.slice aS s.slots.length cS, .slice aH s.heads.length cH] 26))
  have HB0 := hidS ((Below.refl w.heap.size w).alloc (Nat.le_refl _) (.cells #[.slice aS s.slots.length cS, .slice aH s.heads.length cH] 26))
  go_enter Try.func75, Try.ntmps75
  go_wp2_with fail
  generalize w.alloc (.cells #[.slice aS s.slots.length cS, .slice aH s.heads.length cH] 26) = w0 at HA HB0 ⊢
  refine grow_res (fun W => Below w0.heap.size w0 W) (fun W W' => Below W.heap.size W W') (kpOf [isP (.agg #[.slice aS s.slots.length cS, .slice aH s.heads.length cH]), isP (.int .i64 key), isP (.pointer (some ⟨w.heap.size, 1, none⟩)), isP (.slice aH s.heads.length cH), isP (.int .i64 (s.heads.length : Int)), isP (.int .i64 (c : Int)), tupK w0.heap.size l en, tupK w0.heap.size l en, sliK w0.heap.size l, isP (.int .i64 en), sliK w0.heap.size l, isP (.int .i64 en)]) (by kernel_rfl) (by kernel_rfl) (all_lastB _ ⟨(fun v W W' h _ => h), (fun v W W' h _ => h), (fun v W W' h _ => h), (fun v W W' h _ => h), (fun v W W' h _ => h), (fun v W W' h _ => h), (fun v W W' h hR => by obtain ⟨al, cl, hi, e, ho⟩ := h; exact ⟨al, cl, hi, e, ho.later hR⟩), (fun v W W' h hR => by obtain ⟨al, cl, hi, e, ho⟩ := h; exact ⟨al, cl, hi, e, ho.later hR⟩), (fun v W W' h hR => by obtain ⟨al, cl, hi, e, ho⟩ := h; exact ⟨al, cl, hi, e, ho.later hR⟩), (fun v W W' h _ => h), (fun v W W' h hR => by obtain ⟨al, cl, hi, e, ho⟩ := h; exact ⟨al, cl, hi, e, ho.later hR⟩), (fun v W W' h _ => h), trivial⟩) (Below.refl _ _).drew ?steps1 ?fin1
  case steps1 =>
    refine ⟨?_, ?_, ?_, ?_, ?_, ?_, ?_, ?_, ?_, ?_, ?_, ?_, trivial⟩
    · refine ⟨rfl, fun v W ρ hC kc kf ks ki kd => ?_⟩
      have t2 : ρ (.tmp 2) = .pointer (some ⟨w.heap.size, 0, none⟩) := ki 2 (by decide)
      have e0 := blk_cell (blk_later HA.out hC) 0
      have e1 := blk_cell (blk_later HA.out hC) 1
      simp at e0 e1
      simp [execOp, go_sem, kc, t2, e0, e1]
      simp only [RanS]
      exact ⟨hC, Below.refl _ _, rfl⟩
    · refine ⟨rfl, fun v W ρ hC kc kf ks ki kd => ?_⟩
      have t1 : ρ (.tmp 1) = .int .i64 key := ki 1 (by decide)
      simp [execOp, go_sem, kc, t1]
      simp only [RanS]
      exact ⟨hC, Below.refl _ _, rfl⟩
    · refine ⟨rfl, fun v W ρ hC kc kf ks ki kd => ?_⟩
      have t2 : ρ (.tmp 2) = .pointer (some ⟨w.heap.size, 0, none⟩) := ki 2 (by decide)
      simp [execOp, go_sem, kc, t2]
      simp only [RanS]
      exact ⟨hC, Below.refl _ _, rfl⟩
    · refine ⟨rfl, fun v W ρ hC kc kf ks ki kd => ?_⟩
      have d2 : v 2 = .pointer (some ⟨w.heap.size, 1, none⟩) := (kdj kd 2 rfl :)
      have t11 : ρ (.tmp 11) = .pointer (some ⟨w.heap.size, 1, none⟩) := (ks 2 11 (by decide) rfl).trans d2
      have e1 := blk_cell (blk_later HA.out hC) 1
      simp at e1
      simp [execOp, go_sem, kc, t11, e1]
      simp only [RanS]
      exact ⟨hC, Below.refl _ _, rfl⟩
    · refine ⟨rfl, fun v W ρ hC kc kf ks ki kd => ?_⟩
      have d3 : v 3 = .slice aH s.heads.length cH := (kdj kd 3 rfl :)
      have t12 : ρ (.tmp 12) = .slice aH s.heads.length cH := (ks 3 12 (by decide) rfl).trans d3
      simp [execOp, go_sem, kc, t12]
      simp only [RanS]
      exact ⟨hC, Below.refl _ _, rfl⟩
    · refine ⟨rfl, fun v W ρ hC kc kf ks ki kd => ?_⟩
      have d1 : v 1 = .int .i64 key := (kdj kd 1 rfl :)
      have t10 : ρ (.tmp 10) = .int .i64 key := (ks 1 10 (by decide) rfl).trans d1
      have d4 : v 4 = .int .i64 (s.heads.length : Int) := (kdj kd 4 rfl :)
      have t13 : ρ (.tmp 13) = .int .i64 (s.heads.length : Int) := (ks 4 13 (by decide) rfl).trans d4
      simp [execOp, go_sem, kc, t10, t13, hmod, hne]
      simp only [RanS]
      exact ⟨hC, Below.refl _ _, rfl⟩
    · refine ⟨rfl, fun v W ρ hC kc kf ks ki kd => ?_⟩
      have d0 : v 0 = .agg #[.slice aS s.slots.length cS, .slice aH s.heads.length cH] := (kdj kd 0 rfl :)
      have t9 : ρ (.tmp 9) = .agg #[.slice aS s.slots.length cS, .slice aH s.heads.length cH] := (ks 0 9 (by decide) rfl).trans d0
      have d5 : v 5 = .int .i64 (c : Int) := (kdj kd 5 rfl :)
      have t14 : ρ (.tmp 14) = .int .i64 (c : Int) := (ks 5 14 (by decide) rfl).trans d5
      simp [execOp, go_sem, kf, kc, t9, t14]
      simp only [RanS]
      refine Calls.mono (HCH.out W (HB0.out.trans (hC.mono HB0.out.size))) (fun e x h => ?_)
      obtain ⟨al, cl, rfl, ho, hb⟩ := h
      have hC2 : Below w0.heap.size w0 x := hC.trans (hb.mono hC.size)
      refine ⟨_, rfl, hC2, hb, al, cl, x.heap.size, rfl, ?_⟩
      rcases ho with e | ⟨b, p, e, q1, q2, q3⟩
      · exact .inl e
      · exact .inr ⟨b, p, e, Nat.le_trans hC.size q1, q2, q3⟩
    · refine ⟨rfl, fun v W ρ hC kc kf ks ki kd => ?_⟩
      obtain ⟨al, cl, hi, hv, ho⟩ : ∃ (al : Option Addr) (cl hi : Nat), v 6 = .tuple #[.slice al l.length cl, .int .i64 en] ∧ OwnR w0.heap.size hi al l W := by first | exact kd _ (mem0 rfl) rfl | exact kd _ (mem1 rfl) rfl | exact kd _ (mem2 rfl) rfl
      have t15 : ρ (.tmp 15) = .tuple #[.slice al l.length cl, .int .i64 en] := (ks 6 15 (by decide) rfl).trans hv
      simp [execOp, go_sem, kf, kc, t15]
      simp only [RanS]
      exact ⟨hC, Below.refl _ _, al, cl, hi, rfl, ho⟩
    · refine ⟨rfl, fun v W ρ hC kc kf ks ki kd => ?_⟩
      obtain ⟨al, cl, hi, hv, ho⟩ : ∃ (al : Option Addr) (cl hi : Nat), v 7 = .tuple #[.slice al l.length cl, .int .i64 en] ∧ OwnR w0.heap.size hi al l W := by first | exact kd _ (mem0 rfl) rfl | exact kd _ (mem1 rfl) rfl | exact kd _ (mem2 rfl) rfl
      have t8 : ρ (.tmp 8) = .tuple #[.slice al l.length cl, .int .i64 en] := (ks 7 8 (by decide) rfl).trans hv
      simp [execOp, go_sem, kf, kc, t8]
      simp only [RanS]
      exact ⟨hC, Below.refl _ _, al, cl, hi, rfl, ho⟩
    · refine ⟨rfl, fun v W ρ hC kc kf ks ki kd => ?_⟩
      obtain ⟨al, cl, hi, hv, ho⟩ : ∃ (al : Option Addr) (cl hi : Nat), v 7 = .tuple #[.slice al l.length cl, .int .i64 en] ∧ OwnR w0.heap.size hi al l W := by first | exact kd _ (mem0 rfl) rfl | exact kd _ (mem1 rfl) rfl | exact kd _ (mem2 rfl) rfl
      have t8 : ρ (.tmp 8) = .tuple #[.slice al l.length cl, .int .i64 en] := (ks 7 8 (by decide) rfl).trans hv
      simp [execOp, go_sem, kc, t8]
      simp only [RanS]
      exact ⟨hC, Below.refl _ _, rfl⟩
    · refine ⟨rfl, fun v W ρ hC kc kf ks ki kd => ?_⟩
      obtain ⟨al, cl, hi, hv, ho⟩ : ∃ (al : Option Addr) (cl hi : Nat), v 8 = .slice al l.length cl ∧ OwnR w0.heap.size hi al l W := by first | exact kd _ (mem0 rfl) rfl | exact kd _ (mem1 rfl) rfl | exact kd _ (mem2 rfl) rfl
      have t16 : ρ (.tmp 16) = .slice al l.length cl := (ks 8 16 (by decide) rfl).trans hv
      simp [execOp, go_sem, kf, kc, t16]
      simp only [RanS]
      exact ⟨hC, Below.refl _ _, al, cl, hi, rfl, ho⟩
    · refine ⟨rfl, fun v W ρ hC kc kf ks ki kd => ?_⟩
      have d9 : v 9 = .int .i64 en := (kdj kd 9 rfl :)
      have t17 : ρ (.tmp 17) = .int .i64 en := (ks 9 17 (by decide) rfl).trans d9
      simp [execOp, go_sem, kc, t17]
      simp only [RanS]
      exact ⟨hC, Below.refl _ _, rfl⟩
  intro v1 w1 hb1 hall
  obtain ⟨al, cl, hi, e5, ho⟩ : ∃ (al : Option Addr) (cl hi : Nat), v1 10 = .slice al l.length cl ∧ OwnR w0.heap.size hi al l w1 := hall 10 (by decide)
  simp [upto, Act.put]
  rw [e5]
  have hA1 := hidS (blk_later HA.out hb1)
  have hB1 := hidS (HB0.out.trans (hb1.mono HB0.out.size))
  have hO1 := hidS ho
  clear hb1 hall e5 ho HA HB0 HCH hmod
  go_wp2_with fail
  generalize w0.heap.size = lo at hO1
  go_loopw [7] (fun ii wr => FindC s key l w lo hi al (.cells #[.slice aS s.slots.length cS, .slice aH s.heads.length cH] 26) ii wr) (fun ii _ => (l.length - (intOf ii).toNat))
  case atStart => exact ⟨0, rfl, Nat.zero_le _, by simp, hA1.out, hO1.out, hB1.out⟩
  case round =>
    obtain ⟨i, rfl, hi', hf, hA, hO, hb⟩ := hrel
    have HF2 := hidS hf
    have HA := hidS hA
    have HO := hidS hO
    have HB := hidS hb
    have a0 := blk_cell hA 0
    simp at a0
    clear hA1 hO1 hB1 hf hA hO
    by_cases hil : ¬ i < l.length
    · have e : i = l.length := by omega
      have hge : ¬ (i : Int) < (l.length : Int) := by omega
      have EZ : Hid (findSl s key = -1) := by show _ = _; rw [HF.out]; show findL s key l = -1; rw [HF2.out, e, List.drop_length]; rfl
      clear e hil hb
      go_wp2_with fail
      go_ret
      exact ⟨by rw [EZ.out]; rfl, HB.out⟩
    have hil := Classical.not_not.1 hil
    have hil' : (0 : Int) ≤ (i : Int) ∧ (i : Int) < (l.length : Int) := by omega
    have hi25 : (i : Int) < 25 := by omega
    obtain ⟨bl, ol, el, ll, cl0⟩ := HO.out.read i hil
    obtain ⟨j, hj⟩ : ∃ j : Nat, l.getD i 0 = (j : Int) := ⟨(l.getD i 0).toNat, by have := HIN.out (l.getD i 0) (by rw [List.getD_eq_getElem?_getD, List.getElem?_eq_getElem hil]; exact List.getElem_mem _); omega⟩
    have hjl : j < s.slots.length := by have := HIN.out (l.getD i 0) (by rw [List.getD_eq_getElem?_getD, List.getElem?_eq_getElem hil]; exact List.getElem_mem _); omega
    obtain ⟨bS, oS, eS, lS, c0, c1, c2, c3⟩ := (HR.out.slots.later hb).slot hjl
    have HFS : Hid (findL s key l = if (slotN s (j : Int)).key = key then (j : Int) else findL s key (l.drop (i + 1))) := by
      show _ = _
      rw [HF2.out, drop_get hil, hj]
      rfl
    obtain ⟨x, hx⟩ : ∃ x, s.slots.getD j zeroSlt = x := ⟨_, rfl⟩
    have EX : Hid (slotN s (j : Int) = x) := by show _ = _; rw [slot_nat]; exact hx
    rw [hx] at c0
    rw [hj] at cl0
    rw [eS] at a0
    have hjj : (0 : Int) ≤ (j : Int) ∧ (j : Int) < (s.slots.length : Int) := by omega
    have hale := el
    have HEL := hidS el
    clear hx hj el eS HF2 hb c1 c2 c3
    by_cases hkx : x.key = key
    · have EZ : Hid (findSl s key = (j : Int)) := by show _ = _; rw [HF.out]; show findL s key l = _; rw [HFS.out, EX.out, if_pos hkx]
      rw [hkx] at c0
      clear hkx HFS
      go_wp2_with fail
      go_quiet (fail)
      go_wp2_with fail
      go_ret
      exact ⟨by rw [EZ.out]; rfl, below_drewN HB.out _⟩
    · have hkb : (x.key == key) = false := beq_eq_false_iff_ne.2 hkx
      have HG : Hid (findL s key l = findL s key (l.drop (i + 1))) := by show _ = _; rw [HFS.out, EX.out, if_neg hkx]
      clear hkx HFS
      go_wp2_with fail
      go_quiet (fail)
      go_wp2_with fail
      go_roundw
      case rel => exact ⟨i + 1, by simp, by omega, HG.out, HA.out, by first | exact HO.out | (rw [← HEL.out]; exact HO.out), below_drewN HB.out _⟩
      case measure => simp [intOf]; omega
end Go.Proofs.Ytfjgofmjhccdkaa
