/- Proved here: impl.NextState answers the next state; all old memory stays (no conditions). -/
import Derived.Test.YtbhemimhmkgfiaaTcpI
import Derived.Laws.EntriesVeiled
namespace Go.Proofs.Ytbhemimhmkgfiaa
open Go.ChangeShapes Go.WideShapes Go.ChangeAt Go.RowKit
set_option linter.unusedVariables false
set_option maxRecDepth 100000

theorem field_lead (f : Nat) (W : World) : (Instr.field 81 (.agg #[.func (.func f) #[] #[]]) 0).run Try.prog W = .ok (.func (.func f) #[] #[]) W := by
  first
  | rfl
  | kernel_rfl
  | (simp [Instr.field, go_sem])
theorem leadOf_rst (s : Int) (w : World) :
    Calls Try.prog 70 #[.int .i64 s, .int .i64 5] w fun e w' => e = .returned (.agg #[.func (.func 73) #[] #[]]) ∧ Below w.heap.size w w' := by
  go_enter Try.func70, Try.ntmps70
  go_wp2
  refine bodyPost_ret (v := .agg #[.func (.func 73) #[] #[]]) (by simp [results, Try.results70, go_sem]) rfl ⟨rfl, (Below.refl _ _).alloc (Nat.le_refl _) _⟩
theorem leadOf_syn (s : Int) (w : World) :
    Calls Try.prog 70 #[.int .i64 s, .int .i64 1] w fun e w' => e = .returned (.agg #[.func (.func 74) #[] #[]]) ∧ Below w.heap.size w w' := by
  go_enter Try.func70, Try.ntmps70
  go_wp2
  refine bodyPost_ret (v := .agg #[.func (.func 74) #[] #[]]) (by simp [results, Try.results70, go_sem]) rfl ⟨rfl, (Below.refl _ _).alloc (Nat.le_refl _) _⟩
theorem leadOf_both (s : Int) (w : World) :
    Calls Try.prog 70 #[.int .i64 s, .int .i64 2] w fun e w' => e = .returned (.agg #[.func (.func 75) #[] #[]]) ∧ Below w.heap.size w w' := by
  go_enter Try.func70, Try.ntmps70
  go_wp2
  refine bodyPost_ret (v := .agg #[.func (.func 75) #[] #[]]) (by simp [results, Try.results70, go_sem]) rfl ⟨rfl, (Below.refl _ _).alloc (Nat.le_refl _) _⟩
theorem leadOf_ack (s : Int) (w : World) :
    Calls Try.prog 70 #[.int .i64 s, .int .i64 4] w fun e w' => e = .returned (.agg #[.func (.func 78) #[] #[]]) ∧ Below w.heap.size w w' := by
  go_enter Try.func70, Try.ntmps70
  go_wp2
  refine bodyPost_ret (v := .agg #[.func (.func 78) #[] #[]]) (by simp [results, Try.results70, go_sem]) rfl ⟨rfl, (Below.refl _ _).alloc (Nat.le_refl _) _⟩
theorem leadOf_fin (s : Int) (w : World) (h : stB s = true) (he : endedB s = false) :
    Calls Try.prog 70 #[.int .i64 s, .int .i64 3] w fun e w' => e = .returned (.agg #[.func (.func 77) #[] #[]]) ∧ Below w.heap.size w w' := by
  have HE := hidS (fun W => isEnded_any s W h)
  rw [he] at HE
  clear h he
  go_enter Try.func70, Try.ntmps70
  go_wp2_with (go_at_call 76; refine (HE.out _).mono ?_; rintro e w1 ⟨rfl, rfl⟩)
  refine bodyPost_ret (v := .agg #[.func (.func 77) #[] #[]]) (by simp [results, Try.results70, go_sem]) rfl ⟨rfl, (Below.refl _ _).alloc (Nat.le_refl _) _⟩
theorem leadOf_finE (s : Int) (w : World) (h : stB s = true) (he : endedB s = true) :
    Calls Try.prog 70 #[.int .i64 s, .int .i64 3] w fun e w' => e = .returned (.agg #[.func (.func 78) #[] #[]]) ∧ Below w.heap.size w w' := by
  have HE := hidS (fun W => isEnded_any s W h)
  rw [he] at HE
  clear h he
  go_enter Try.func70, Try.ntmps70
  go_wp2_with (go_at_call 76; refine (HE.out _).mono ?_; rintro e w1 ⟨rfl, rfl⟩)
  refine bodyPost_ret (v := .agg #[.func (.func 78) #[] #[]]) (by simp [results, Try.results70, go_sem]) rfl ⟨rfl, (Below.refl _ _).alloc (Nat.le_refl _) _⟩
theorem leadOf_no (s : Int) (g : Int) (w : World) (h1 : g ≠ 1) (h2 : g ≠ 2) (h3 : g ≠ 3) (h4 : g ≠ 4) (h5 : g ≠ 5) :
    Calls Try.prog 70 #[.int .i64 s, .int .i64 g] w fun e w' => e = .returned (.agg #[.func (.func 79) #[] #[]]) ∧ Below w.heap.size w w' := by
  have n1 : (g == 1) = false := beq_eq_false_iff_ne.2 h1
  have n2 : (g == 2) = false := beq_eq_false_iff_ne.2 h2
  go_enter Try.func70, Try.ntmps70
  go_wp2
  refine bodyPost_ret (v := .agg #[.func (.func 79) #[] #[]]) (by simp [results, Try.results70, go_sem]) rfl ⟨rfl, (Below.refl _ _).alloc (Nat.le_refl _) _⟩
set_option maxHeartbeats 2000000 in
theorem next_step (s : Int) (b : Bool) (g : Int) (w : World) (f : Nat) (r : Int) (h : stB s = true)
    (HL : ∀ W, Calls Try.prog 70 #[.int .i64 s, .int .i64 g] W fun e w' => e = .returned (.agg #[.func (.func f) #[] #[]]) ∧ Below W.heap.size W w')
    (hc : ∀ W, (callFunc f #[.int .i64 s, .bool b]).run Try.prog W = .ok (.enter f #[.int .i64 s, .bool b]) W)
    (HA : ∀ W, Calls Try.prog f #[.int .i64 s, .bool b] W fun e w' => e = .returned (.int .i64 r) ∧ w' = W) :
    Calls Try.prog 53 #[.int .i64 s, .bool b, .int .i64 g] w fun e w' => e = .returned (.int .i64 r) ∧ Below w.heap.size w w' := by
  have HS := hidS (fun W => isState_any s W)
  rw [h] at HS
  have HL := hidS HL
  have HA := hidS HA
  have HC := hidS hc
  clear h hc
  go_enter Try.func53, Try.ntmps53
  go_wp2_with fail
  refine (HS.out _).mono ?_
  rintro e w1 ⟨rfl, rfl⟩
  go_wp2_with fail
  refine (HL.out _).mono ?_
  rintro e w2 ⟨rfl, hb⟩
  have hF := field_lead f
  go_wp2_with fail
  rw [HC.out, Oper.upon_enter]
  refine (HA.out _).mono ?_
  rintro e w3 ⟨rfl, rfl⟩
  go_wp2
  go_ret
  exact ⟨rfl, hb⟩
theorem fin_ack {s : Int} (b : Bool) (h : stB s = true) (he : endedB s = true) : ackZ s b = finZ s := by
  rcases states h with rfl | rfl | rfl | rfl | rfl | rfl | rfl | rfl | rfl <;> first | rfl | cases he
theorem implNext_any (s : Int) (b : Bool) (g : Int) (w : World) :
    Calls Try.prog 53 #[.int .i64 s, .bool b, .int .i64 g] w fun e w' => e = .returned (.int .i64 (nextZ s b g)) ∧ Below w.heap.size w w' := by
  cases h : stB s
  · have HS := hidS (fun W => isState_any s W)
    rw [h] at HS
    rw [next_no b g h]
    clear h
    go_enter Try.func53, Try.ntmps53
    go_wp2_with fail
    refine (HS.out _).mono ?_
    rintro e w1 ⟨rfl, rfl⟩
    go_wp2
    go_ret
    exact ⟨rfl, Below.refl _ _⟩
  · rw [next_at b g h]
    by_cases h5 : g = 5
    · rw [if_pos h5]; subst h5
      exact next_step s b 5 w _ _ h (fun W => leadOf_rst s W) (fun W => by kernel_rfl) (fun W => afterReset_any s b W h)
    rw [if_neg h5]
    by_cases h1 : g = 1
    · rw [if_pos h1]; subst h1
      exact next_step s b 1 w _ _ h (fun W => leadOf_syn s W) (fun W => by kernel_rfl) (fun W => afterSyn_any s b W h)
    rw [if_neg h1]
    by_cases h2 : g = 2
    · rw [if_pos h2]; subst h2
      exact next_step s b 2 w _ _ h (fun W => leadOf_both s W) (fun W => by kernel_rfl) (fun W => afterBoth_any s b W h)
    rw [if_neg h2]
    by_cases h3 : g = 3
    · rw [if_pos h3]; subst h3
      cases he : endedB s
      · exact next_step s b 3 w _ _ h (fun W => leadOf_fin s W h he) (fun W => by kernel_rfl) (fun W => afterFin_any s b W h he)
      · rw [← fin_ack b h he]
        exact next_step s b 3 w _ _ h (fun W => leadOf_finE s W h he) (fun W => by kernel_rfl) (fun W => afterAck_any s b W h)
    rw [if_neg h3]
    by_cases h4 : g = 4
    · rw [if_pos h4]; subst h4
      exact next_step s b 4 w _ _ h (fun W => leadOf_ack s W) (fun W => by kernel_rfl) (fun W => afterAck_any s b W h)
    rw [if_neg h4]
    exact next_step s b g w _ _ h (fun W => leadOf_no s g W h1 h2 h3 h4 h5) (fun W => by kernel_rfl) (fun W => nowhere_any s b W)
end Go.Proofs.Ytbhemimhmkgfiaa
