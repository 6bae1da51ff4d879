/- Proved here: what CheckTurn answers, of impl and of spec; all old memory stays (no conditions). -/
import Derived.Test.YtafdcicdaeaehaaWords
namespace Go.Proofs.Ytafdcicdaeaehaa
open Go.ChangeShapes Go.WideShapes Go.ChangeAt Go.RowKit
open Go.ChangeMaps (open_string shut_string)
set_option linter.unusedVariables false

theorem implCheckTurn_any (c a b : Int) (w : World) :
    Calls Try.prog 27 #[.int .i64 c, .int .i64 a, .int .i64 b] w fun e w' => e = .returned (.int .i64 (turnAns c a b)) ∧ Below w.heap.size w w' := by
  have hB := fun o => (Below.refl w.heap.size w).alloc (Nat.le_refl _) o
  have HB := hidS hB
  clear hB
  by_cases h : allW [c, a, b] = true
  · obtain ⟨h0, h1, h2⟩ : wordB c = true ∧ wordB a = true ∧ wordB b = true := by simpa [allW] using h
    have e : Hid (turnAns c a b = 65535 - (foldN (65535 - c + (65535 - a) + b).toNat : Int)) := if_pos ⟨h0, h1, h2⟩
    obtain ⟨l, rfl⟩ : ∃ n : Nat, c = n := ⟨c.toNat, by have := wordB_iff.1 h0; omega⟩
    obtain ⟨n, rfl⟩ : ∃ n : Nat, a = n := ⟨a.toNat, by have := wordB_iff.1 h1; omega⟩
    obtain ⟨m, rfl⟩ : ∃ m : Nat, b = m := ⟨b.toNat, by have := wordB_iff.1 h2; omega⟩
    have hl := (wordB_iff.1 h0).2
    have hn := (wordB_iff.1 h1).2
    have hm := (wordB_iff.1 h2).2
    have hle := foldN_le (65535 - (l : Int) + (65535 - (n : Int)) + (m : Int)).toNat
    obtain ⟨x, hx⟩ : ∃ x : Nat, x = (65535 - (l : Int) + (65535 - (n : Int)) + (m : Int)).toNat := ⟨_, rfl⟩
    rw [← hx] at hle e
    have hx' : (65535 : Int) - (l : Int) + 65535 - (n : Int) + (m : Int) = (x : Int) := by omega
    have F := hidS (fun W => foldSum_any x W (by omega))
    clear h0 h1 h2 hx
    go_enter Try.func27, Try.ntmps27
    go_wp2_with fail
    refine (areWords_any w.heap.size [(l : Int), (n : Int), (m : Int)] _ (three_cells _ _ _ _ _) (by simp)).mono ?_
    rintro e w1 ⟨rfl, rfl⟩
    rw [h]
    go_wp2_with fail
    refine (F.out _).mono ?_
    rintro e w1 ⟨rfl, rfl⟩
    go_wp2
    go_ret
    exact ⟨ret_intS (by rw [e.out]), HB.out _⟩
  · have e : Hid (turnAns c a b = -1) := if_neg (fun g => h (by simpa [allW] using g))
    have h' : allW [c, a, b] = false := by simpa using h
    clear h
    go_enter Try.func27, Try.ntmps27
    go_wp2_with fail
    refine (areWords_any w.heap.size [c, a, b] _ (three_cells _ _ _ _ _) (by simp)).mono ?_
    rintro e w1 ⟨rfl, rfl⟩
    rw [h']
    go_wp2
    go_ret
    exact ⟨by rw [e.out]; rfl, HB.out _⟩
theorem specCheckTurn_any (c a b : Int) (w : World) :
    Calls Try.prog 28 #[.int .i64 c, .int .i64 a, .int .i64 b] w fun e w' => e = .returned (.int .i64 (turnAns c a b)) ∧ w' = w := by
  cases h0 : wordB c
  · have e : Hid (turnAns c a b = -1) := if_neg (fun g => by rw [h0] at g; cases g.1)
    go_enter Try.func28, Try.ntmps28
    go_wp2_with (go_at_call 49; refine (l02Word_any _ _).mono ?_; rintro e w1 ⟨rfl, rfl⟩)
    go_ret
    exact ⟨by rw [e.out]; rfl, rfl⟩
  cases h1 : wordB a
  · have e : Hid (turnAns c a b = -1) := if_neg (fun g => by rw [h1] at g; cases g.2.1)
    go_enter Try.func28, Try.ntmps28
    go_wp2_with (go_at_call 49; refine (l02Word_any _ _).mono ?_; rintro e w1 ⟨rfl, rfl⟩)
    go_ret
    exact ⟨by rw [e.out]; rfl, rfl⟩
  cases h2 : wordB b
  · have e : Hid (turnAns c a b = -1) := if_neg (fun g => by rw [h2] at g; cases g.2.2)
    go_enter Try.func28, Try.ntmps28
    go_wp2_with (go_at_call 49; refine (l02Word_any _ _).mono ?_; rintro e w1 ⟨rfl, rfl⟩)
    go_ret
    exact ⟨by rw [e.out]; rfl, rfl⟩
  have e : Hid (turnAns c a b = 65535 - (foldN (65535 - c + (65535 - a) + b).toNat : Int)) := if_pos ⟨h0, h1, h2⟩
  obtain ⟨l, rfl⟩ : ∃ n : Nat, c = n := ⟨c.toNat, by have := wordB_iff.1 h0; omega⟩
  obtain ⟨n, rfl⟩ : ∃ n : Nat, a = n := ⟨a.toNat, by have := wordB_iff.1 h1; omega⟩
  obtain ⟨m, rfl⟩ : ∃ m : Nat, b = m := ⟨b.toNat, by have := wordB_iff.1 h2; omega⟩
  have hl := (wordB_iff.1 h0).2
  have hn := (wordB_iff.1 h1).2
  have hm := (wordB_iff.1 h2).2
  have hle := foldN_le (65535 - (l : Int) + (65535 - (n : Int)) + (m : Int)).toNat
  obtain ⟨x, hx⟩ : ∃ x : Nat, x = (65535 - (l : Int) + (65535 - (n : Int)) + (m : Int)).toNat := ⟨_, rfl⟩
  rw [← hx] at hle e
  have hx' : (65535 : Int) - (l : Int) + 65535 - (n : Int) + (m : Int) = (x : Int) := by omega
  have F := hidS (fun W => l02Fold_any x W (by omega))
  clear hx
  go_enter Try.func28, Try.ntmps28
  go_wp2_with (first | (go_at_call 49; refine (l02Word_any _ _).mono ?_; rintro e w1 ⟨rfl, rfl⟩) | (go_at_call 46; refine (F.out _).mono ?_; rintro e w1 ⟨rfl, rfl⟩))
  go_ret
  exact ⟨ret_intS (by rw [e.out]), rfl⟩
end Go.Proofs.Ytafdcicdaeaehaa
