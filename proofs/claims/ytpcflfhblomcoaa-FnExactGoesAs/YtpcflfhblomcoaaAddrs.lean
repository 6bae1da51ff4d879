/- Proved here: impl.areAddrs answers whether all of a row are addresses, and leaves memory alone (condition: at most 1000 of them). -/
import Derived.Test.YtpcflfhblomcoaaWords
import Derived.Test.YtpcflfhblomcoaaAll4
namespace Go.Proofs.Ytpcflfhblomcoaa
open Go.ChangeShapes Go.WideShapes Go.ChangeAt Go.RowKit
open Go.ChangeMaps (open_string shut_string)
set_option linter.unusedVariables false

/-- all of them are addresses -/
def allA (zs : List Int) : Bool := zs.all addrB
theorem allA_take_succ (zs : List Int) (k : Nat) (h : k < zs.length) : allA (zs.take (k + 1)) = (allA (zs.take k) && addrB zs[k]) := by
  unfold allA; rw [List.take_succ_eq_append_getElem h, List.all_append]; simp
theorem allA_bad (zs : List Int) (k : Nat) (h : k < zs.length) (hb : addrB zs[k] = false) : allA zs = false := by
  cases e : allA zs
  · rfl
  · have := List.all_eq_true.1 e zs[k] (List.getElem_mem h); rw [hb] at this; cases this
set_option maxHeartbeats 400000 in
theorem areAddrs_any (g : Nat) (zs : List Int) (w : World) (hc : ∀ j, (h : j < zs.length) → w.cell? ⟨g, j, none⟩ = some (.int .i64 zs[j])) (hl : zs.length ≤ 1000) :
    Calls Try.prog 84 #[.slice (some ⟨g, 0, none⟩) zs.length zs.length] w fun e w' => e = .returned (.bool (allA zs)) ∧ w' = w := by
  have HC := hidS hc
  clear hc
  go_enter Try.func84, Try.ntmps84
  go_wp2
  go_loop [7] (fun i => ∃ k : Nat, k ≤ zs.length ∧ i = .int .i64 k ∧ Hid (allA (zs.take k) = true)) (fun i => zs.length - (intOf i).toNat)
  case atStart => exact ⟨0, by omega, rfl, rfl⟩
  case round =>
    obtain ⟨k, hk, rfl, hX⟩ := hrel
    by_cases h : k < zs.length
    · have h' : (k : Int) < (zs.length : Int) := by omega
      have hck := HC.out k h
      have hA := hidS (allA_bad zs k h)
      have hB : Hid (addrB zs[k] = true → allA (zs.take (k + 1)) = true) := by intro q; rw [allA_take_succ zs k h, hX.out, q]; rfl
      generalize zs[k] = z at *
      clear hX
      by_cases h1 : z < 0
      · have hE : Hid (allA zs = false) := hA.out (by simp [addrB]; omega)
        clear hA hB
        go_wp2
        go_ret
        exact ⟨by rw [hE.out]; rfl, rfl⟩
      · by_cases h2 : 4294967295 < z
        · have hE : Hid (allA zs = false) := hA.out (by simp [addrB]; omega)
          clear hA hB
          go_wp2
          go_ret
          exact ⟨by rw [hE.out]; rfl, rfl⟩
        · have hE := hidS (hB.out (by simp [addrB]; omega))
          clear hA hB
          go_wp2
          go_round
          case rel => exact ⟨k + 1, by omega, by go_num, hE⟩
          case measure => simp [intOf]; omega
    · have hE : Hid (allA zs = true) := by have := hX.out; rw [List.take_of_length_le (by omega)] at this; exact this
      clear hX
      go_wp2
      go_ret
      exact ⟨by rw [hE.out]; rfl, rfl⟩
end Go.Proofs.Ytpcflfhblomcoaa
