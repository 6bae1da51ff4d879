/- Proved here: what WordText answers, of impl; all old memory stays (no conditions). -/
import Derived.Test.YtokjhfgbnpdfnafWords
import Derived.Test.YtokjhfgbnpdfnafTwo
namespace Go.Proofs.Ytokjhfgbnpdfnaf
open Go.ChangeShapes Go.WideShapes Go.ChangeAt Go.RowKit
open Go.ChangeMaps (open_string shut_string)
set_option linter.unusedVariables false

theorem implWordText_any (n : Int) (w : World) :
    Calls Try.prog 10 #[.int .i64 n] w fun e w' => e = .returned (.string (wordT n)) ∧ Below w.heap.size w w' := by
  have hB := fun o => (Below.refl w.heap.size w).alloc (Nat.le_refl _) o
  have HB := hidS hB
  clear hB
  by_cases h : allW [n] = true
  · have h1 : wordB n = true := by simpa [allW] using h
    have e : Hid (wordT n = ⟨#[UInt8.ofNat (n.toNat / 256), UInt8.ofNat (n.toNat % 256)]⟩) := if_pos h1
    obtain ⟨m, rfl⟩ : ∃ m : Nat, n = m := ⟨n.toNat, by have := wordB_iff.1 h1; omega⟩
    have hm := (wordB_iff.1 h1).2
    clear h1
    go_enter Try.func10, Try.ntmps10
    go_wp2_with fail
    refine (areWords_any w.heap.size [(m : Int)] _ (one_cell _ _ _) (by simp)).mono ?_
    rintro e w1 ⟨rfl, rfl⟩
    rw [h]
    have hcv := conv_two ((w.alloc (.cells #[.int .i64 (m : Int)] 2)).alloc (.cells #[.int .u8 ((m : Int) / 256), .int .u8 ((m : Int) % 256)] 5)) (w.heap.size + 1) m (by omega) (cell_at1 _ _ _ _) (cell_at1 _ _ _ _)
    have hbb := hidS ((HB.out (.cells #[.int .i64 (m : Int)] 2)).alloc (by simp) (.cells #[.int .u8 ((m : Int) / 256), .int .u8 ((m : Int) % 256)] 5))
    go_wp2
    go_ret
    exact ⟨by rw [e.out]; rfl, hbb.out⟩
  · have e : Hid (wordT n = ⟨#[]⟩) := if_neg (fun g => h (by simpa [allW] using g))
    have h' : allW [n] = false := by simpa using h
    clear h
    go_enter Try.func10, Try.ntmps10
    go_wp2_with fail
    refine (areWords_any w.heap.size [n] _ (one_cell _ _ _) (by simp)).mono ?_
    rintro e w1 ⟨rfl, rfl⟩
    rw [h']
    go_wp2
    go_ret
    exact ⟨by rw [e.out]; rfl, HB.out _⟩
end Go.Proofs.Ytokjhfgbnpdfnaf
