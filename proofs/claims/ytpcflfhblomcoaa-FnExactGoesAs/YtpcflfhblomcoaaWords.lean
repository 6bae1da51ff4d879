/- Proved here: impl.areWords answers whether all of a row are words, and leaves memory alone (condition: at most 1000 of them). -/
import Derived.Test.YtpcflfhblomcoaaAll28
namespace Go.Proofs.Ytpcflfhblomcoaa
open Go.ChangeShapes Go.WideShapes Go.ChangeAt Go.RowKit
open Go.ChangeMaps (open_string shut_string)
set_option linter.unusedVariables false

/-- all of them are words -/
def allW (zs : List Int) : Bool := zs.all wordB
theorem all_take_succ (zs : List Int) (k : Nat) (h : k < zs.length) : allW (zs.take (k + 1)) = (allW (zs.take k) && wordB zs[k]) := by
  unfold allW; rw [List.take_succ_eq_append_getElem h, List.all_append]; simp
theorem all_bad (zs : List Int) (k : Nat) (h : k < zs.length) (hb : wordB zs[k] = false) : allW zs = false := by
  cases e : allW zs
  · rfl
  · have := List.all_eq_true.1 e zs[k] (List.getElem_mem h); rw [hb] at this; cases this
set_option maxHeartbeats 400000 in
theorem areWords_any (g : Nat) (zs : List Int) (w : World) (hc : ∀ j, (h : j < zs.length) → w.cell? ⟨g, j, none⟩ = some (.int .i64 zs[j])) (hl : zs.length ≤ 1000) :
    Calls Try.prog 96 #[.slice (some ⟨g, 0, none⟩) zs.length zs.length] w fun e w' => e = .returned (.bool (allW zs)) ∧ w' = w := by
  have HC := hidS hc
  clear hc
  go_enter Try.func96, Try.ntmps96
  go_wp2
  go_loop [7] (fun i => ∃ k : Nat, k ≤ zs.length ∧ i = .int .i64 k ∧ Hid (allW (zs.take k) = true)) (fun i => zs.length - (intOf i).toNat)
  case atStart => exact ⟨0, by omega, rfl, rfl⟩
  case round =>
    obtain ⟨k, hk, rfl, hX⟩ := hrel
    by_cases h : k < zs.length
    · have h' : (k : Int) < (zs.length : Int) := by omega
      have hck := HC.out k h
      have hA := hidS (all_bad zs k h)
      have hB : Hid (wordB zs[k] = true → allW (zs.take (k + 1)) = true) := by intro q; rw [all_take_succ zs k h, hX.out, q]; rfl
      generalize zs[k] = z at *
      clear hX
      by_cases h1 : z < 0
      · have hE : Hid (allW zs = false) := hA.out (by simp [wordB]; omega)
        clear hA hB
        go_wp2
        go_ret
        exact ⟨by rw [hE.out]; rfl, rfl⟩
      · by_cases h2 : 65535 < z
        · have hE : Hid (allW zs = false) := hA.out (by simp [wordB]; omega)
          clear hA hB
          go_wp2
          go_ret
          exact ⟨by rw [hE.out]; rfl, rfl⟩
        · have hE := hidS (hB.out (by simp [wordB]; omega))
          clear hA hB
          go_wp2
          go_round
          case rel => exact ⟨k + 1, by omega, by go_num, hE⟩
          case measure => simp [intOf]; omega
    · have hE : Hid (allW zs = true) := by have := hX.out; rw [List.take_of_length_le (by omega)] at this; exact this
      clear hX
      go_wp2
      go_ret
      exact ⟨by rw [hE.out]; rfl, rfl⟩
theorem two_cells (W : World) (a b : Int) (t : TypeId) : ∀ j, (h : j < [a, b].length) → (W.alloc (.cells #[.int .i64 a, .int .i64 b] t)).cell? ⟨W.heap.size, j, none⟩ = some (.int .i64 [a, b][j]) := by
  intro j hj
  rcases (by simp at hj; omega : j = 0 ∨ j = 1) with rfl | rfl <;> simp
theorem three_cells (W : World) (a b c : Int) (t : TypeId) : ∀ j, (h : j < [a, b, c].length) → (W.alloc (.cells #[.int .i64 a, .int .i64 b, .int .i64 c] t)).cell? ⟨W.heap.size, j, none⟩ = some (.int .i64 [a, b, c][j]) := by
  intro j hj
  rcases (by simp at hj; omega : j = 0 ∨ j = 1 ∨ j = 2) with rfl | rfl | rfl <;> simp
theorem one_cell (W : World) (a : Int) (t : TypeId) : ∀ j, (h : j < [a].length) → (W.alloc (.cells #[.int .i64 a] t)).cell? ⟨W.heap.size, j, none⟩ = some (.int .i64 [a][j]) := by
  intro j hj
  obtain rfl : j = 0 := by simp at hj; omega
  simp
end Go.Proofs.Ytpcflfhblomcoaa
