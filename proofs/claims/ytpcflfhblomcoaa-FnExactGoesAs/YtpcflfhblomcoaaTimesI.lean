/- Proved here: impl.areTimes answers whether all of a row are times, and leaves memory alone (condition: at most 1000 of them). -/
import Derived.Test.YtpcflfhblomcoaaWords
import Derived.Test.YtpcflfhblomcoaaAll51
namespace Go.Proofs.Ytpcflfhblomcoaa
open Go.ChangeShapes Go.WideShapes Go.ChangeAt Go.RowKit
open Go.ChangeMaps (open_string shut_string)
set_option linter.unusedVariables false

/-- all of them are times -/
def allTm (zs : List Int) : Bool := zs.all tmB
theorem allTm_take_succ (zs : List Int) (k : Nat) (h : k < zs.length) : allTm (zs.take (k + 1)) = (allTm (zs.take k) && tmB zs[k]) := by
  unfold allTm; rw [List.take_succ_eq_append_getElem h, List.all_append]; simp
theorem allTm_bad (zs : List Int) (k : Nat) (h : k < zs.length) (hb : tmB zs[k] = false) : allTm zs = false := by
  cases e : allTm zs
  · rfl
  · have := List.all_eq_true.1 e zs[k] (List.getElem_mem h); rw [hb] at this; cases this
set_option maxHeartbeats 400000 in
theorem areTm_any (g : Nat) (zs : List Int) (w : World) (hc : ∀ j, (h : j < zs.length) → w.cell? ⟨g, j, none⟩ = some (.int .i64 zs[j])) (hl : zs.length ≤ 1000) :
    Calls Try.prog 65 #[.slice (some ⟨g, 0, none⟩) zs.length zs.length] w fun e w' => e = .returned (.bool (allTm zs)) ∧ w' = w := by
  have HC := hidS hc
  clear hc
  go_enter Try.func65, Try.ntmps65
  go_wp2
  go_loop [7] (fun i => ∃ k : Nat, k ≤ zs.length ∧ i = .int .i64 k ∧ Hid (allTm (zs.take k) = true)) (fun i => zs.length - (intOf i).toNat)
  case atStart => exact ⟨0, by omega, rfl, rfl⟩
  case round =>
    obtain ⟨k, hk, rfl, hX⟩ := hrel
    by_cases h : k < zs.length
    · have h' : (k : Int) < (zs.length : Int) := by omega
      have hck := HC.out k h
      have hA := hidS (allTm_bad zs k h)
      have hB : Hid (tmB zs[k] = true → allTm (zs.take (k + 1)) = true) := by intro q; rw [allTm_take_succ zs k h, hX.out, q]; rfl
      generalize zs[k] = z at *
      clear hX
      by_cases h1 : z < 0
      · have hE : Hid (allTm zs = false) := hA.out (by simp [tmB]; omega)
        clear hA hB
        go_wp2
        go_ret
        exact ⟨by rw [hE.out]; rfl, rfl⟩
      · by_cases h2 : 1000000 < z
        · have hE : Hid (allTm zs = false) := hA.out (by simp [tmB]; omega)
          clear hA hB
          go_wp2
          go_ret
          exact ⟨by rw [hE.out]; rfl, rfl⟩
        · have hE := hidS (hB.out (by simp [tmB]; omega))
          clear hA hB
          go_wp2
          go_round
          case rel => exact ⟨k + 1, by omega, by go_num, hE⟩
          case measure => simp [intOf]; omega
    · have hE : Hid (allTm zs = true) := by have := hX.out; rw [List.take_of_length_le (by omega)] at this; exact this
      clear hX
      go_wp2
      go_ret
      exact ⟨by rw [hE.out]; rfl, rfl⟩
theorem areTm_one (g : Nat) (a : Int) (w : World) (hc : w.cell? ⟨g, 0, none⟩ = some (.int .i64 a)) :
    Calls Try.prog 65 #[.slice (some ⟨g, 0, none⟩) 1 1] w fun e w' => e = .returned (.bool (tmB a)) ∧ w' = w := by
  have := areTm_any g [a] w (fun j h => by obtain rfl : j = 0 := by simp at h; omega
                                           exact hc) (by simp)
  have e : allTm [a] = tmB a := by simp [allTm]
  rw [e] at this
  exact this
theorem areTm_two (g : Nat) (a b : Int) (w : World) (h0 : w.cell? ⟨g, 0, none⟩ = some (.int .i64 a)) (h1 : w.cell? ⟨g, 1, none⟩ = some (.int .i64 b)) :
    Calls Try.prog 65 #[.slice (some ⟨g, 0, none⟩) 2 2] w fun e w' => e = .returned (.bool (tmB a && tmB b)) ∧ w' = w := by
  have := areTm_any g [a, b] w (fun j h => by
    obtain rfl | rfl : j = 0 ∨ j = 1 := by simp at h; omega
    · exact h0
    · exact h1) (by simp)
  have e : allTm [a, b] = (tmB a && tmB b) := by simp [allTm]
  rw [e] at this
  exact this
end Go.Proofs.Ytpcflfhblomcoaa
