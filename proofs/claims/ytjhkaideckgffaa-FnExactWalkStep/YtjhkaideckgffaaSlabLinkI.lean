/- Proved here: impl.linkTo gives the link that leads to the slot of a key, or to the end of its chain; all old memory stays (conditions: the slab's rows can be read; it is right; it may be a key). -/
import Derived.Test.YtjhkaideckgffaaSlabLookI
namespace Go.Proofs.Ytjhkaideckgffaa
open Go.ChangeShapes Go.WideShapes Go.ChangeAt Go.RowKit
set_option linter.unusedVariables false
set_option linter.unusedSimpArgs false
set_option maxRecDepth 100000

/-- the chain of a key -/
def chN (s : Slb) (key : Int) : Nat := (key.tmod s.heads.length).toNat
theorem chN_lt {s : Slb} {key : Int} (hk : 0 ≤ key) (h : 1 ≤ s.heads.length) : chN s key < s.heads.length ∧ ((chN s key : Nat) : Int) = key.tmod s.heads.length := by
  have h0 := Int.tmod_nonneg (s.heads.length : Int) hk
  have h1 : key.tmod s.heads.length < s.heads.length := Int.tmod_lt_of_pos key (by omega)
  unfold chN
  omega
/-- the link of a key -/
def linkP (s : Slb) (key : Int) : Option Int := (lookC s key (chN s key)).1
/-- where it leads -/
def linkN (s : Slb) (key : Int) : Int := linkV s (chN s key) (linkP s key)
theorem find_neg {s : Slb} {key : Int} : ∀ {l : List Int}, (∀ y ∈ l, 0 ≤ y ∧ y < s.slots.length) → findL s key l = -1 ∨ (0 ≤ findL s key l ∧ findL s key l < s.slots.length ∧ findL s key l ∈ l)
  | [], _ => .inl rfl
  | y :: l, h => by
    unfold findL
    by_cases e : (slotN s y).key = key
    · rw [if_pos e]; exact .inr ⟨(h y (by simp)).1, (h y (by simp)).2, by simp⟩
    · rw [if_neg e]
      rcases find_neg (s := s) (key := key) (l := l) (fun z hz => h z (List.mem_cons_of_mem _ hz)) with q | ⟨q1, q2, q3⟩
      · exact .inl q
      · exact .inr ⟨q1, q2, List.mem_cons_of_mem _ q3⟩
theorem look_find {s : Slb} {key : Int} {c : Nat} : ∀ {l : List Int} {p : Option Int} {x : Int}, (∀ y ∈ l, 0 ≤ y) → IsChain s c x l → (lookL s key p x l).2 = if findL s key l = -1 then -1 - (c : Int) else findL s key l
  | [], p, x, _, h => by
    have h : x = -1 - (c : Int) := h
    unfold lookL findL
    rw [if_pos rfl, h]
  | y :: l, p, x, h0, h => by
    obtain ⟨e, h⟩ := h
    have := h0 y (by simp)
    unfold lookL findL
    by_cases hk : (slotN s y).key = key
    · rw [if_pos (by simpa using hk), if_pos hk, if_neg (by omega)]
    · rw [if_neg (by simpa using hk), if_neg hk]
      rw [← e] at h
      exact look_find (fun z hz => h0 z (List.mem_cons_of_mem _ hz)) h
theorem link_find {s : Slb} {key : Int} (hr : rightSl s = true) (hk : 0 ≤ key) : LinkOk s (linkP s key) ∧ ((findSl s key = -1 ∧ linkN s key = -1 - (chN s key : Int)) ∨ (0 ≤ findSl s key ∧ findSl s key < s.slots.length ∧ linkN s key = findSl s key)) := by
  obtain ⟨_, n1, n2, n3, n4⟩ := right_leads hr
  obtain ⟨hc, he⟩ := chN_lt (s := s) hk n3
  obtain ⟨h1, h2, h3⟩ := right_chain hr hc
  obtain ⟨q1, q2⟩ := look_ok (s := s) (key := key) (c := chN s key) (p := none) h3 trivial h1
  have q3 := look_find (s := s) (key := key) (c := chN s key) (p := none) (fun y hy => (h3 y hy).1) h1
  refine ⟨q1, ?_⟩
  have q4 : linkN s key = (lookL s key none (s.heads.getD (chN s key) 0) (chainOf s (chN s key)).1).2 := q2.symm
  have q5 : findSl s key = findL s key (chainOf s (chN s key)).1 := by unfold findSl; rw [he]
  rw [q4, q3, q5]
  rcases find_neg (s := s) (key := key) h3 with e | ⟨e1, e2, e3⟩
  · rw [if_pos e]; exact .inl ⟨e, rfl⟩
  · rw [if_neg (by omega)]; exact .inr ⟨e1, e2, rfl⟩
set_option maxHeartbeats 2000000 in
theorem linkTo_any (bS oS bH oH cS cH : Nat) (s : Slb) (key : Int) (w : World) (hR : SlabZ (some ⟨bS, oS, none⟩) (some ⟨bH, oH, none⟩) s w) (hr : rightSl s = true) (hk0 : 0 ≤ key) (hk1 : key ≤ 999) :
    Calls Try.prog 73 #[.agg #[.slice (some ⟨bS, oS, none⟩) s.slots.length cS, .slice (some ⟨bH, oH, none⟩) s.heads.length cH], .int .i64 key] w fun e w' => e = .returned (.pointer (some ⟨(adrL bS oS bH oH (chN s key) (linkP s key)).1, (adrL bS oS bH oH (chN s key) (linkP s key)).2, none⟩)) ∧ Below w.heap.size w w' := by
  obtain ⟨_, n1, n2, n3, n4⟩ := right_leads hr
  obtain ⟨hc, he⟩ := chN_lt (s := s) hk0 n3
  have HF := hidS (fun W => chainFor_any (some ⟨bS, oS, none⟩) (some ⟨bH, oH, none⟩) s.slots.length cS s.heads.length cH key W hk0 hk1 (by omega) n3)
  rw [← he] at HF
  have HL := hidS (fun W (h : Below w.heap.size w W) => lookAlong_any bS oS bH oH cS cH s key (chN s key) W (hR.later h) hr hc)
  have HP : Hid ((lookC s key (chN s key)).1 = linkP s key) := hidS rfl
  rw [HP.out] at HL
  clear HP
  generalize (adrL bS oS bH oH (chN s key) (linkP s key)).1 = B at HL ⊢
  generalize (adrL bS oS bH oH (chN s key) (linkP s key)).2 = O at HL ⊢
  generalize chN s key = c at HF HL
  have HA := hidS (heap_newG w (.cells #[.slice (some ⟨bS, oS, none⟩) s.slots.length cS, .slice (some ⟨bH, oH, none⟩) s.heads.length cH] 32))
  have HB0 := hidS ((Below.refl w.heap.size w).alloc (Nat.le_refl _) (.cells #[.slice (some ⟨bS, oS, none⟩) s.slots.length cS, .slice (some ⟨bH, oH, none⟩) s.heads.length cH] 32))
  clear hR hr hk0 hk1 hc he n1 n2 n3 n4
  go_enter Try.func73, Try.ntmps73
  go_wp2_with fail
  generalize w.alloc (.cells #[.slice (some ⟨bS, oS, none⟩) s.slots.length cS, .slice (some ⟨bH, oH, none⟩) s.heads.length cH] 32) = w0 at HA HB0 ⊢
  refine grow_guarded 8 [.is (.agg #[.slice (some ⟨bS, oS, none⟩) s.slots.length cS, .slice (some ⟨bH, oH, none⟩) s.heads.length cH]), .is (.agg #[.slice (some ⟨bS, oS, none⟩) s.slots.length cS, .slice (some ⟨bH, oH, none⟩) s.heads.length cH]), .is (.int .i64 key), .is (.int .i64 (c : Int)), .is (.int .i64 key), .is (.func (.func 66) #[.int .i64 key] #[]), .is (.pointer (some ⟨B, O, none⟩)), .is (.pointer (some ⟨B, O, none⟩))] rfl (by kernel_rfl) (by kernel_rfl) ?steps1 ?fin1
  case steps1 =>
    refine ⟨?_, ?_, ?_, ?_, ?_, ?_, ?_, ?_, trivial⟩
    · refine stepW_of_u ⟨rfl, fun v W ρ hC kc kf ks ki kd => ?_⟩
      have t2 : ρ (.tmp 2) = .pointer (some ⟨w.heap.size, 0, none⟩) := ki 2 (by decide)
      have hg := blk_later HA.out hC
      have c0 := blk_cell hg 0
      have c1 := blk_cell hg 1
      simp at c0 c1
      simp [execOp, go_sem, kc, t2, c0, c1]
      exact ⟨hC, Below.refl _ _, rfl⟩
    · refine stepW_of_u ⟨rfl, fun v W ρ hC kc kf ks ki kd => ?_⟩
      have t2 : ρ (.tmp 2) = .pointer (some ⟨w.heap.size, 0, none⟩) := ki 2 (by decide)
      have hg := blk_later HA.out hC
      have c0 := blk_cell hg 0
      have c1 := blk_cell hg 1
      simp at c0 c1
      simp [execOp, go_sem, kc, t2, c0, c1]
      exact ⟨hC, Below.refl _ _, rfl⟩
    · refine stepW_of_u ⟨rfl, fun v W ρ hC kc kf ks ki kd => ?_⟩
      have t1 : ρ (.tmp 1) = .int .i64 key := ki 1 (by decide)
      simp [execOp, go_sem, kc, t1]
      exact ⟨hC, Below.refl _ _, rfl⟩
    · refine stepW_of_u ⟨rfl, fun v W ρ hC kc kf ks ki kd => ?_⟩
      have d1 : v 1 = .agg #[.slice (some ⟨bS, oS, none⟩) s.slots.length cS, .slice (some ⟨bH, oH, none⟩) s.heads.length cH] := by first | exact kd _ (mem0 rfl) rfl | exact kd _ (mem1 rfl) rfl | exact kd _ (mem2 rfl) rfl | exact kd _ (mem3 rfl) rfl | exact kd _ (mem4 rfl) rfl | exact kd _ (mem5 rfl) rfl
      have t6 : ρ (.tmp 6) = .agg #[.slice (some ⟨bS, oS, none⟩) s.slots.length cS, .slice (some ⟨bH, oH, none⟩) s.heads.length cH] := (ks 1 6 (by decide) rfl).trans d1
      have d2 : v 2 = .int .i64 key := by first | exact kd _ (mem0 rfl) rfl | exact kd _ (mem1 rfl) rfl | exact kd _ (mem2 rfl) rfl | exact kd _ (mem3 rfl) rfl | exact kd _ (mem4 rfl) rfl | exact kd _ (mem5 rfl) rfl
      have t7 : ρ (.tmp 7) = .int .i64 key := (ks 2 7 (by decide) rfl).trans d2
      simp [execOp, go_sem, t6, t7, kf]
      exact Calls.mono (HF.out W) (fun e x h => ⟨_, h.1, hC.trans (h.2.mono hC.size), h.2, rfl⟩)
    · refine stepW_of_u ⟨rfl, fun v W ρ hC kc kf ks ki kd => ?_⟩
      have t1 : ρ (.tmp 1) = .int .i64 key := ki 1 (by decide)
      simp [execOp, go_sem, kc, t1]
      exact ⟨hC, Below.refl _ _, rfl⟩
    · refine stepW_of_u ⟨rfl, fun v W ρ hC kc kf ks ki kd => ?_⟩
      have d4 : v 4 = .int .i64 key := by first | exact kd _ (mem0 rfl) rfl | exact kd _ (mem1 rfl) rfl | exact kd _ (mem2 rfl) rfl | exact kd _ (mem3 rfl) rfl | exact kd _ (mem4 rfl) rfl | exact kd _ (mem5 rfl) rfl
      have t9 : ρ (.tmp 9) = .int .i64 key := (ks 4 9 (by decide) rfl).trans d4
      simp [execOp, go_sem, kc, t9]
      exact ⟨hC, Below.refl _ _, rfl⟩
    · refine stepW_of_u ⟨rfl, fun v W ρ hC kc kf ks ki kd => ?_⟩
      have d0 : v 0 = .agg #[.slice (some ⟨bS, oS, none⟩) s.slots.length cS, .slice (some ⟨bH, oH, none⟩) s.heads.length cH] := by first | exact kd _ (mem0 rfl) rfl | exact kd _ (mem1 rfl) rfl | exact kd _ (mem2 rfl) rfl | exact kd _ (mem3 rfl) rfl | exact kd _ (mem4 rfl) rfl | exact kd _ (mem5 rfl) rfl
      have t5 : ρ (.tmp 5) = .agg #[.slice (some ⟨bS, oS, none⟩) s.slots.length cS, .slice (some ⟨bH, oH, none⟩) s.heads.length cH] := (ks 0 5 (by decide) rfl).trans d0
      have d3 : v 3 = .int .i64 (c : Int) := by first | exact kd _ (mem0 rfl) rfl | exact kd _ (mem1 rfl) rfl | exact kd _ (mem2 rfl) rfl | exact kd _ (mem3 rfl) rfl | exact kd _ (mem4 rfl) rfl | exact kd _ (mem5 rfl) rfl
      have t8 : ρ (.tmp 8) = .int .i64 (c : Int) := (ks 3 8 (by decide) rfl).trans d3
      have d5 : v 5 = .func (.func 66) #[.int .i64 key] #[] := by first | exact kd _ (mem0 rfl) rfl | exact kd _ (mem1 rfl) rfl | exact kd _ (mem2 rfl) rfl | exact kd _ (mem3 rfl) rfl | exact kd _ (mem4 rfl) rfl | exact kd _ (mem5 rfl) rfl
      have t10 : ρ (.tmp 10) = .func (.func 66) #[.int .i64 key] #[] := (ks 5 10 (by decide) rfl).trans d5
      simp [execOp, go_sem, t5, t8, t10, kf]
      exact Calls.mono (HL.out W (HB0.out.trans (hC.mono HB0.out.size))) (fun e x h => ⟨_, h.1, hC.trans (h.2.mono hC.size), h.2, rfl⟩)
    · refine stepW_of_u ⟨rfl, fun v W ρ hC kc kf ks ki kd => ?_⟩
      have d6 : v 6 = .pointer (some ⟨B, O, none⟩) := by first | exact kd _ (mem0 rfl) rfl | exact kd _ (mem1 rfl) rfl | exact kd _ (mem2 rfl) rfl | exact kd _ (mem3 rfl) rfl | exact kd _ (mem4 rfl) rfl | exact kd _ (mem5 rfl) rfl
      have t11 : ρ (.tmp 11) = .pointer (some ⟨B, O, none⟩) := (ks 6 11 (by decide) rfl).trans d6
      simp [execOp, go_sem, kc, t11]
      exact ⟨hC, Below.refl _ _, rfl⟩
  intro v1 W1 hb1 hall
  have hv1 : v1 7 = .pointer (some ⟨B, O, none⟩) := hall 7 (by decide)
  simp [upto, Act.put]
  rw [hv1]
  clear hall hv1
  go_wp2_with fail
  go_ret
  exact ⟨rfl, HB0.out.trans (hb1.mono HB0.out.size)⟩
end Go.Proofs.Ytjhkaideckgffaa
