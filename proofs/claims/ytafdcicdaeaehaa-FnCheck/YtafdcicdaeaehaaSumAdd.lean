/- Proved here: what SumAdd answers, of impl and of spec; all old memory stays (no conditions). -/
import Derived.Test.YtafdcicdaeaehaaWords
namespace Go.Proofs.Ytafdcicdaeaehaa
open Go.ChangeShapes Go.WideShapes Go.ChangeAt Go.RowKit
open Go.ChangeMaps (open_string shut_string)
set_option linter.unusedVariables false

theorem specSumAdd_any (a b : Int) (w : World) :
    Calls Try.prog 26 #[.int .i64 a, .int .i64 b] w fun e w' => e = .returned (.int .i64 (addAns a b)) ∧ w' = w := by
  by_cases h1 : wordB a = true
  · by_cases h2 : wordB b = true
    · have e : Hid (addAns a b = (foldN (a + b).toNat : Int)) := if_pos ⟨h1, h2⟩
      obtain ⟨n, rfl⟩ : ∃ n : Nat, a = n := ⟨a.toNat, by have := wordB_iff.1 h1; omega⟩
      obtain ⟨m, rfl⟩ : ∃ m : Nat, b = m := ⟨b.toNat, by have := wordB_iff.1 h2; omega⟩
      have hn := (wordB_iff.1 h1).2
      have hm := (wordB_iff.1 h2).2
      have F := hidS (l02Fold_any (n + m) w (by omega))
      go_enter Try.func26, Try.ntmps26
      go_wp2_with (go_at_call 49; refine (l02Word_any _ _).mono ?_; rintro e w1 ⟨rfl, rfl⟩)
      refine F.out.mono ?_
      rintro e w1 ⟨rfl, rfl⟩
      go_wp2
      go_ret
      exact ⟨ret_intS (by rw [e.out]; congr 2), rfl⟩
    · have h2' : wordB b = false := by simpa using h2
      have e : Hid (addAns a b = -1) := if_neg (fun g => h2 g.2)
      clear h2
      go_enter Try.func26, Try.ntmps26
      go_wp2_with (go_at_call 49; refine (l02Word_any _ _).mono ?_; rintro e w1 ⟨rfl, rfl⟩)
      go_ret
      exact ⟨by rw [e.out]; rfl, rfl⟩
  · have h1' : wordB a = false := by simpa using h1
    have e : Hid (addAns a b = -1) := if_neg (fun g => h1 g.1)
    clear h1
    go_enter Try.func26, Try.ntmps26
    go_wp2_with (go_at_call 49; refine (l02Word_any _ _).mono ?_; rintro e w1 ⟨rfl, rfl⟩)
    go_ret
    exact ⟨by rw [e.out]; rfl, rfl⟩
theorem implSumAdd_any (a b : Int) (w : World) :
    Calls Try.prog 25 #[.int .i64 a, .int .i64 b] w fun e w' => e = .returned (.int .i64 (addAns a b)) ∧ Below w.heap.size w w' := by
  have hB := fun o => (Below.refl w.heap.size w).alloc (Nat.le_refl _) o
  have HB := hidS hB
  clear hB
  by_cases h : allW [a, b] = true
  · obtain ⟨h1, h2⟩ : wordB a = true ∧ wordB b = true := by simpa [allW] using h
    have e : Hid (addAns a b = (foldN (a + b).toNat : Int)) := if_pos ⟨h1, h2⟩
    obtain ⟨n, rfl⟩ : ∃ n : Nat, a = n := ⟨a.toNat, by have := wordB_iff.1 h1; omega⟩
    obtain ⟨m, rfl⟩ : ∃ m : Nat, b = m := ⟨b.toNat, by have := wordB_iff.1 h2; omega⟩
    have hn := (wordB_iff.1 h1).2
    have hm := (wordB_iff.1 h2).2
    have F := hidS (fun W => foldSum_any (n + m) W (by omega))
    clear h1 h2
    go_enter Try.func25, Try.ntmps25
    go_wp2_with fail
    refine (areWords_any w.heap.size [(n : Int), (m : Int)] _ (two_cells _ _ _ _) (by simp)).mono ?_
    rintro e w1 ⟨rfl, rfl⟩
    rw [h]
    go_wp2_with fail
    refine (F.out _).mono ?_
    rintro e w1 ⟨rfl, rfl⟩
    go_wp2
    go_ret
    exact ⟨ret_intS (by rw [e.out]; congr 2), HB.out _⟩
  · have e : Hid (addAns a b = -1) := if_neg (fun g => h (by simpa [allW] using g))
    have h' : allW [a, b] = false := by simpa using h
    clear h
    go_enter Try.func25, Try.ntmps25
    go_wp2_with fail
    refine (areWords_any w.heap.size [a, b] _ (two_cells _ _ _ _) (by simp)).mono ?_
    rintro e w1 ⟨rfl, rfl⟩
    rw [h']
    go_wp2
    go_ret
    exact ⟨by rw [e.out]; rfl, HB.out _⟩
end Go.Proofs.Ytafdcicdaeaehaa
