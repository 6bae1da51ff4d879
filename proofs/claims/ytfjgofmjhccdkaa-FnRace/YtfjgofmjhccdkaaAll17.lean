/- Proved here: spec.SlabNew makes a slab of so many zero slots and empty chains, in memory of its own; all old memory stays (no conditions). · Proved here: nothing of a program: a right slab stays right; what is added is found, what is cut is not, all others are. -/
import Derived.Test.YtfjgofmjhccdkaaAll10
import Derived.Deep.OwnRows
import Derived.Maps.AppendAt
import Derived.Test.YtfjgofmjhccdkaaAll13
import Derived.Test.YtfjgofmjhccdkaaAll11
import Derived.Test.YtfjgofmjhccdkaaSlabAddS
section
namespace Go.Proofs.Ytfjgofmjhccdkaa
open Go.ChangeShapes Go.WideShapes Go.ChangeAt Go.RowKit
set_option linter.unusedVariables false
set_option linter.unusedSimpArgs false
set_option maxRecDepth 100000

/-- so many zero slots, whose Next is -1 -/
def zeroSlots (n : Nat) : List Slt := List.replicate n ⟨0, 0, 0, -1⟩
def ends (m : Nat) : List Int := (List.range m).map fun i : Nat => -1 - (i : Int)
def newB (n m : Int) : Bool := (decide (1 ≤ n) && decide (n ≤ 24)) && (decide (1 ≤ m) && decide (m ≤ 4))
def newSl (n m : Int) : Slb := if newB n m = true then ⟨zeroSlots n.toNat, ends m.toNat⟩ else ⟨[], []⟩
theorem zeroSlots_snoc (k : Nat) : flat (zeroSlots (k + 1)) = flat (zeroSlots k) ++ [0, 0, 0, -1] := by
  unfold zeroSlots
  rw [List.replicate_succ', flat_app]
  rfl
theorem ends_snoc (k : Nat) : ends (k + 1) = ends k ++ [-1 - (k : Int)] := by
  unfold ends
  rw [List.range_succ, List.map_append]
  rfl
def New1 (w : World) (n : Nat) (ii : Value) (wr : World) : Prop :=
  ∃ (k : Nat) (v : Value), ii = .int .i64 (k : Int) ∧ k ≤ n ∧ wr.ownsRow (w.heap.size + 2) 45 4 v k ((flat (zeroSlots k)).map (.int .i64)) ∧ wr.heap[w.heap.size]? = some (.cells #[.slice none 0 0, .slice none 0 0] 26) ∧ wr.heap[w.heap.size + 1]? = some (.cells #[v, .slice none 0 0] 26) ∧ Below w.heap.size w wr
def New2 (w : World) (n m : Nat) (v : Value) (ii : Value) (wr : World) : Prop :=
  ∃ (k : Nat) (u : Value), ii = .int .i64 (k : Int) ∧ k ≤ m ∧ wr.ownsRow (w.heap.size + 2) 45 4 v n ((flat (zeroSlots n)).map (.int .i64)) ∧ wr.ownsRow (w.heap.size + 2) 2 1 u k ((ends k).map (.int .i64)) ∧ (∀ q, v.ownBlock = some q → u.ownBlock ≠ some q) ∧ wr.heap[w.heap.size]? = some (.cells #[.slice none 0 0, .slice none 0 0] 26) ∧ wr.heap[w.heap.size + 1]? = some (.cells #[v, u] 26) ∧ Below w.heap.size w wr
set_option maxHeartbeats 4000000 in
theorem specSlabNew_any (n m : Int) (w : World) :
    Calls Try.prog 23 #[.int .i64 n, .int .i64 m] w fun e w' => SlabAns (newSl n m) w e w' := by
  have HI1 := hidS (fun W => l02Is_any n 1 24 W)
  have HI2 := hidS (fun W => l02Is_any m 1 4 W)
  have hR0 := hidS (heap_newG w (.cells #[.slice none 0 0, .slice none 0 0] 26))
  have hb0 := hidS ((Below.refl w.heap.size w).alloc (Nat.le_refl _) (.cells #[.slice none 0 0, .slice none 0 0] 26))
  cases hn : (decide (1 ≤ n) && decide (n ≤ 24))
  · have EN : Hid (newSl n m = ⟨[], []⟩) := by show _ = _; unfold newSl newB; rw [hn]; rfl
    rw [hn] at HI1
    clear hn
    go_enter Try.func23, Try.ntmps23
    go_wp2_with fail
    refine (HI1.out _).mono ?_
    rintro e w1 ⟨rfl, rfl⟩
    go_wp2_with fail
    exact bodyPost_ret (v := .agg #[.slice none 0 0, .slice none 0 0]) (by simp [results, Try.results23, go_sem]) rfl (by rw [EN.out]; exact ⟨none, 0, none, 0, rfl, ⟨.inl rfl, .inl rfl, fun b o c p e => by cases e⟩, hb0.out⟩)
  rw [hn] at HI1
  cases hm : (decide (1 ≤ m) && decide (m ≤ 4))
  · have EN : Hid (newSl n m = ⟨[], []⟩) := by show _ = _; unfold newSl newB; rw [hn, hm]; rfl
    rw [hm] at HI2
    clear hn hm
    go_enter Try.func23, Try.ntmps23
    go_wp2_with fail
    refine (HI1.out _).mono ?_
    rintro e w1 ⟨rfl, rfl⟩
    go_wp2_with fail
    refine (HI2.out _).mono ?_
    rintro e w1 ⟨rfl, rfl⟩
    go_wp2_with fail
    exact bodyPost_ret (v := .agg #[.slice none 0 0, .slice none 0 0]) (by simp [results, Try.results23, go_sem]) rfl (by rw [EN.out]; exact ⟨none, 0, none, 0, rfl, ⟨.inl rfl, .inl rfl, fun b o c p e => by cases e⟩, hb0.out⟩)
  rw [hm] at HI2
  have hn' : 1 ≤ n ∧ n ≤ 24 := by simpa using hn
  have hm' : 1 ≤ m ∧ m ≤ 4 := by simpa using hm
  obtain ⟨N, rfl⟩ : ∃ N : Nat, n = N := ⟨n.toNat, by omega⟩
  obtain ⟨M, rfl⟩ : ∃ M : Nat, m = M := ⟨m.toNat, by omega⟩
  have EN : Hid (newSl (N : Int) (M : Int) = ⟨zeroSlots N, ends M⟩) := by show _ = _; unfold newSl newB; rw [hn, hm]; rfl
  have hN : N ≤ 24 := by omega
  have hM : M ≤ 4 := by omega
  clear hn hm hn' hm' hR0 hb0
  obtain ⟨i0, hi, hz0, hz1, hz2⟩ := info_parts infoI64
  obtain ⟨i4, gi, gz⟩ := Option.map_eq_some_iff.1 infoSlot
  simp only [Prod.mk.injEq] at gz
  obtain ⟨gz0, gz1, gz2⟩ := gz
  have hR1 : Hid (((w.alloc (.cells #[.slice none 0 0, .slice none 0 0] 26)).alloc (.cells #[.slice none 0 0, .slice none 0 0] 26)).heap[w.heap.size]? = some (.cells #[.slice none 0 0, .slice none 0 0] 26)) := hidS (blk_alloc (heap_newG w (.cells #[.slice none 0 0, .slice none 0 0] 26)) (.cells #[.slice none 0 0, .slice none 0 0] 26))
  have hO1 : Hid (((w.alloc (.cells #[.slice none 0 0, .slice none 0 0] 26)).alloc (.cells #[.slice none 0 0, .slice none 0 0] 26)).heap[w.heap.size + 1]? = some (.cells #[.slice none 0 0, .slice none 0 0] 26)) := by
    show _ = _
    have := heap_newG (w.alloc (.cells #[.slice none 0 0, .slice none 0 0] 26)) (.cells #[.slice none 0 0, .slice none 0 0] 26)
    simpa using this
  have hb1 : Hid (Below w.heap.size w ((w.alloc (.cells #[.slice none 0 0, .slice none 0 0] 26)).alloc (.cells #[.slice none 0 0, .slice none 0 0] 26))) := hidS (((Below.refl w.heap.size w).alloc (Nat.le_refl _) (.cells #[.slice none 0 0, .slice none 0 0] 26)).alloc (by simp) (.cells #[.slice none 0 0, .slice none 0 0] 26))
  go_enter Try.func23, Try.ntmps23
  go_wp2_with fail
  refine (HI1.out _).mono ?_
  rintro e w1 ⟨rfl, rfl⟩
  go_wp2_with fail
  refine (HI2.out _).mono ?_
  rintro e w1 ⟨rfl, rfl⟩
  clear HI1 HI2
  go_wp2_with fail
  generalize ((w.alloc (.cells #[.slice none 0 0, .slice none 0 0] 26)).alloc (.cells #[.slice none 0 0, .slice none 0 0] 26)) = w1 at hR1 hO1 hb1 ⊢
  go_loopw [6] (fun ii wr => New1 w N ii wr) (fun ii _ => (N - (intOf ii).toNat))
  case atStart => exact ⟨0, .slice none 0 0, rfl, Nat.zero_le _, ⟨rfl, .inl ⟨rfl, rfl⟩⟩, hR1.out, hO1.out, hb1.out⟩
  case round =>
    obtain ⟨k, v, rfl, hk, hown, hR, hO, hb⟩ := hrel
    obtain ⟨av, cv, rfl⟩ := own_form4 hown
    have HOW := hidS hown
    have HR := hidS hR
    have HO := hidS hO
    have HB := hidS hb
    have lO := blk_lt hO
    have o0 := blk_cell hO 0
    have o1 := blk_cell hO 1
    simp at o0 o1
    clear hR1 hO1 hb1 hown hR hO hb
    by_cases hkn : k < N
    · have hkn' : (k : Int) < (N : Int) := by omega
      go_wp2_with (at_builtin; refine wpList_append_own _ rfl _ _ 23 rfl (w.heap.size + 2) 45 i4 (.agg #[.int .i64 0, .int .i64 0, .int .i64 0, .int .i64 0]) 4 32 Try.underlying23 gi gz0 gz1 gz2 rfl (by decide) _ _ _ rfl (HOW.out.alloc _) ⟨wr.heap.size, 0, none⟩ 1 1 [.int .i64 0, .int .i64 0, .int .i64 0, .int .i64 (-1)] rfl rfl (cell_four_new _ _ _ _ _ _) ?c2 ?c3 ?c4 ?c5 ?_)
      case c2 => intro x hx; simp at hx; rcases hx with rfl | rfl <;> rfl
      case c3 => unfold maxLen; omega
      case c4 => omega
      case c5 => simp; omega
      intro v' w2 hown' hgrow _
      have hB2 : Below w.heap.size w w2 := (HB.out.alloc (by omega) _).grown hgrow (by simp; omega) (fun q hq => by have := (HOW.out.lt q hq).1; omega)
      have hR2 := (hgrow.block w.heap.size (by simp; omega) (fun e => by have := (HOW.out.lt w.heap.size e.symm).1; omega)).trans (blk_alloc HR.out _)
      have hO2 := (hgrow.block (w.heap.size + 1) (by simp; omega) (fun e => by have := (HOW.out.lt (w.heap.size + 1) e.symm).1; omega)).trans (blk_alloc HO.out _)
      obtain ⟨av', cv', rfl⟩ := own_form4 hown'
      have ho : ∀ q, q ≠ w.heap.size + 1 → (w2.setCell ⟨w.heap.size + 1, 0, none⟩ (.slice av' (k + 1) cv')).heap[q]? = w2.heap[q]? := fun q hq => Below.heap_setCell w2 ⟨w.heap.size + 1, 0, none⟩ _ q hq
      have HR3 := hidS ((ho w.heap.size (by omega)).trans hR2)
      have HO3 : Hid ((w2.setCell ⟨w.heap.size + 1, 0, none⟩ (.slice av' (k + 1) cv')).heap[w.heap.size + 1]? = some (.cells #[.slice av' (k + 1) cv', .slice none 0 0] 26)) := by
        show _ = _
        have := blk_set hO2 0 (.slice av' (k + 1) cv')
        simpa using this
      have HB3 := hidS (below_at (k := 0) (b := w.heap.size + 1) (v := .slice av' (k + 1) cv') hB2 (by omega))
      have HW3 : Hid ((w2.setCell ⟨w.heap.size + 1, 0, none⟩ (.slice av' (k + 1) cv')).ownsRow (w.heap.size + 2) 45 4 (.slice av' (k + 1) cv') (k + 1) ((flat (zeroSlots (k + 1))).map (.int .i64))) := by
        show World.ownsRow _ _ _ _ _ _ _
        refine own_set ?_ _ _ _ (by omega)
        rw [zeroSlots_snoc]
        simpa using hown'
      have k0 := blk_cell hO2 0
      have f0 := blk_free hO2 0
      simp at k0
      clear o0 o1 HOW HR HO HB hown' hgrow hB2 hR2 hO2 ho
      go_wp2_with fail
      go_roundw
      case rel => exact ⟨k + 1, _, by simp, by omega, HW3.out, HR3.out, HO3.out, HB3.out⟩
      case measure => simp [intOf]; omega
    · have e : k = N := by omega
      subst e
      have hge : ¬ (k : Int) < (k : Int) := by omega
      clear hkn hk
      go_wp2_with fail
      clear o0 o1
      go_loopw [7] (fun ii wr => New2 w k M (.slice av k cv) ii wr) (fun ii _ => (M - (intOf ii).toNat))
      case atStart => exact ⟨0, .slice none 0 0, rfl, Nat.zero_le _, HOW.out, ⟨rfl, .inl ⟨rfl, rfl⟩⟩, (fun q _ h => by cases h), HR.out, HO.out, HB.out⟩
      case round =>
        obtain ⟨i, u, rfl, hi2, hownS, hownH, hap, hR, hO, hb⟩ := hrel
        obtain ⟨au, cu, rfl⟩ := own_form hownH
        have HWS := hidS hownS
        have HWH := hidS hownH
        have HAP := hidS hap
        have lO2 := blk_lt hO
        have o0 := blk_cell hO 0
        have o1 := blk_cell hO 1
        simp at o0 o1
        have HR9 := hidS hR
        have HO9 := hidS hO
        have HB9 := hidS hb
        clear HOW HR HO HB hownS hownH hap hR hO hb
        by_cases him : i < M
        · have him' : (i : Int) < (M : Int) := by omega
          go_wp2_with (at_builtin; refine wpList_append_own_at _ rfl _ _ 24 rfl (w.heap.size + 2) 2 i0 (.int .i64 0) 1 8 Try.underlying24 hi hz0 hz1 hz2 rfl (by decide) _ _ _ rfl (HWH.out.alloc _) ⟨wr.heap.size, 0, none⟩ 1 1 [.int .i64 (-1 - (i : Int))] rfl rfl (cell_one_new _ _ _) ?c2 ?c3 ?c4 ?c5 ?_)
          case c2 => intro x hx; simp at hx; subst hx; rfl
          case c3 => unfold maxLen; omega
          case c4 => omega
          case c5 => simp; omega
          intro v' w2 hown' hgrow _ hob
          have hB2 : Below w.heap.size w w2 := (HB9.out.alloc (by omega) _).grown hgrow (by simp; omega) (fun q hq => by have := (HWH.out.lt q hq).1; omega)
          have hR2 := (hgrow.block w.heap.size (by simp; omega) (fun e => by have := (HWH.out.lt w.heap.size e.symm).1; omega)).trans (blk_alloc HR9.out _)
          have hO2 := (hgrow.block (w.heap.size + 1) (by simp; omega) (fun e => by have := (HWH.out.lt (w.heap.size + 1) e.symm).1; omega)).trans (blk_alloc HO9.out _)
          have hS2 := own_keep (HWS.out.alloc (.cells #[.int .i64 (-1 - (i : Int))] 2)) hgrow (fun q hq => HAP.out q hq)
          have hap2 : ∀ q, (Value.slice av k cv).ownBlock = some q → v'.ownBlock ≠ some q := fun q hq e => by
            rcases hob with h | h
            · rw [h] at e; exact HAP.out q hq e
            · rw [h] at e
              injection e with e
              have := (HWS.out.lt q hq).2
              have e' : wr.heap.size + 1 = q := by simpa using e
              omega
          obtain ⟨au', cu', rfl⟩ := own_form hown'
          have ho : ∀ q, q ≠ w.heap.size + 1 → (w2.setCell ⟨w.heap.size + 1, 1, none⟩ (.slice au' (i + 1) cu')).heap[q]? = w2.heap[q]? := fun q hq => Below.heap_setCell w2 ⟨w.heap.size + 1, 1, none⟩ _ q hq
          have HR3 := hidS ((ho w.heap.size (by omega)).trans hR2)
          have HO3 : Hid ((w2.setCell ⟨w.heap.size + 1, 1, none⟩ (.slice au' (i + 1) cu')).heap[w.heap.size + 1]? = some (.cells #[.slice av k cv, .slice au' (i + 1) cu'] 26)) := by
            show _ = _
            have := blk_set hO2 1 (.slice au' (i + 1) cu')
            simpa using this
          have HB3 := hidS (below_at (k := 1) (b := w.heap.size + 1) (v := .slice au' (i + 1) cu') hB2 (by omega))
          have HS3 := hidS (own_set hS2 (w.heap.size + 1) 1 (.slice au' (i + 1) cu') (by omega))
          have HW3 : Hid ((w2.setCell ⟨w.heap.size + 1, 1, none⟩ (.slice au' (i + 1) cu')).ownsRow (w.heap.size + 2) 2 1 (.slice au' (i + 1) cu') (i + 1) ((ends (i + 1)).map (.int .i64))) := by
            show World.ownsRow _ _ _ _ _ _ _
            refine own_set ?_ _ _ _ (by omega)
            rw [ends_snoc]
            simpa using hown'
          have HAP3 := hidS hap2
          have k0 := blk_cell hO2 1
          have f0 := blk_free hO2 1
          simp at k0
          clear o0 o1 HWS HWH HAP HR9 HO9 HB9 hown' hgrow hB2 hR2 hO2 ho hS2 hap2 hob
          go_wp2_with fail
          go_roundw
          case rel => exact ⟨i + 1, _, by simp, by omega, HS3.out, HW3.out, HAP3.out, HR3.out, HO3.out, HB3.out⟩
          case measure => simp [intOf]; omega
        · have e : i = M := by omega
          subst e
          have hge2 : ¬ (i : Int) < (i : Int) := by omega
          have r0 := blk_cell HR9.out 0
          have r1 := blk_cell HR9.out 1
          have fr := blk_free HR9.out
          simp at r0 r1
          have ho : Hid (∀ q, q ≠ w.heap.size → ((wr.setCell ⟨w.heap.size, 0, none⟩ (.slice av k cv)).setCell ⟨w.heap.size, 1, none⟩ (.slice au i cu)).heap[q]? = wr.heap[q]?) := hidS (fun q hq => (Below.heap_setCell _ ⟨w.heap.size, 1, none⟩ _ q hq).trans (Below.heap_setCell wr ⟨w.heap.size, 0, none⟩ _ q hq))
          have HS4 := hidS (own_set (own_set HWS.out w.heap.size 0 (.slice av k cv) (by omega)) w.heap.size 1 (.slice au i cu) (by omega))
          have HW4 := hidS (own_set (own_set HWH.out w.heap.size 0 (.slice av k cv) (by omega)) w.heap.size 1 (.slice au i cu) (by omega))
          have HB4 := hidS (below_at (k := 1) (b := w.heap.size) (v := .slice au i cu) (below_at (k := 0) (b := w.heap.size) (v := .slice av k cv) HB9.out (Nat.le_refl _)) (Nat.le_refl _))
          clear him hi2 HR9 HO9 HB9
          go_wp2_with fail
          refine bodyPost_ret (v := .agg #[.slice av k cv, .slice au i cu]) (by simp [results, Try.results23, go_sem, *]) rfl ?_
          rw [EN.out]
          refine ⟨av, cv, au, cu, by simp [zeroSlots, ends], ⟨own_slots HS4.out (by omega), own_of_row HW4.out (by omega), ?_⟩, HB4.out⟩
          rintro b o c p e1 e2 _ _ e3
          subst e1 e2 e3
          exact HAP.out b rfl rfl
end Go.Proofs.Ytfjgofmjhccdkaa
end

section
namespace Go.Proofs.Ytfjgofmjhccdkaa
open Go.ChangeShapes Go.WideShapes Go.ChangeAt Go.RowKit
set_option linter.unusedVariables false
set_option linter.unusedSimpArgs false
set_option maxRecDepth 100000

theorem free_at : ∀ ss : List Slt, freeK ss < ss.length → ¬ 0 < (ss.getD (freeK ss) zeroSlt).refs
  | [], h => by simp [freeK] at h
  | x :: ss, h => by
    unfold freeK at h ⊢
    by_cases hx : 0 < x.refs
    · rw [if_pos hx] at h ⊢
      simp only [List.length_cons] at h
      simpa using free_at ss (by omega)
    · rw [if_neg hx]
      simpa using hx
theorem new_right {n m : Int} (h : newB n m = true) : rightSl (newSl n m) = true := by
  have e : newSl n m = ⟨zeroSlots n.toNat, ends m.toNat⟩ := by unfold newSl; rw [if_pos h]
  unfold newB at h
  simp only [Bool.and_eq_true, decide_eq_true_eq] at h
  rw [e]
  refine of_rt ⟨?_, ?_, ?_⟩
  · unfold sizesB; simp [zeroSlots, ends]; omega
  · refine List.all_eq_true.2 fun x hx => ?_
    have : x = ⟨0, 0, 0, -1⟩ := by
      have := (List.mem_replicate.1 (show x ∈ List.replicate n.toNat (⟨0, 0, 0, -1⟩ : Slt) from hx)).2
      exact this
    subst this
    simp [okS, keyB, timeB, nextB, endB, zeroSlots, ends]
    omega
  · intro c hc
    refine ⟨[], ?_, fun y hy => by simp at hy, List.nodup_nil⟩
    have hc : c < m.toNat := by simpa [ends] using hc
    show (ends m.toNat).getD c 0 = -1 - (c : Int)
    simp [ends, hc]
end Go.Proofs.Ytfjgofmjhccdkaa
end
