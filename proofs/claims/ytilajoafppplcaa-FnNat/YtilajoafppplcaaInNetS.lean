/- Proved here: spec.InNet answers whether the first bits of two addresses are the same, and leaves memory alone (no conditions). -/
import Derived.Test.YtilajoafppplcaaAll18
import Derived.Test.YtilajoafppplcaaAll11
namespace Go.Proofs.Ytilajoafppplcaa
open Go.ChangeShapes Go.WideShapes Go.ChangeAt Go.RowKit
set_option linter.unusedVariables false
set_option linter.unusedSimpArgs false

set_option maxHeartbeats 2000000 in
theorem specInNet_any (a n b : Int) (w : World) :
    Calls Try.prog 29 #[.int .i64 a, .int .i64 n, .int .i64 b] w fun e w' => e = .returned (.bool (inNetB a n b)) ∧ w' = w := by
  have hE : Hid (inNetB a n b = (addrB a && addrB n && bitsB b && headN a b == headN n b)) := rfl
  have HA := hidS (fun W => l02Addr_any a W)
  have HN := hidS (fun W => l02Addr_any n W)
  have HB := hidS (fun W => l02Is_any b 0 32 W)
  have eB : Hid ((decide ((0:Int) ≤ b) && decide (b ≤ 32)) = bitsB b) := rfl
  rw [eB.out] at HB
  cases h0 : addrB a
  · rw [h0] at HA
    have E : Hid (inNetB a n b = false) := hE.out.trans (by rw [h0] <;> simp)
    clear hE
    go_enter Try.func29, Try.ntmps29
    go_wp2_with fail
    refine (HA.out _).mono ?_
    rintro _ v9 ⟨rfl, rfl⟩
    go_wp2_with fail
    go_ret
    exact ⟨by rw [E.out]; rfl, rfl⟩
  rw [h0] at HA
  cases h1 : addrB n
  · rw [h1] at HN
    have E : Hid (inNetB a n b = false) := hE.out.trans (by rw [h1] <;> simp)
    clear hE
    go_enter Try.func29, Try.ntmps29
    go_wp2_with fail
    refine (HA.out _).mono ?_
    rintro _ v9 ⟨rfl, rfl⟩
    go_wp2_with fail
    refine (HN.out _).mono ?_
    rintro _ v9 ⟨rfl, rfl⟩
    go_wp2_with fail
    go_ret
    exact ⟨by rw [E.out]; rfl, rfl⟩
  rw [h1] at HN
  cases h2 : bitsB b
  · rw [h2] at HB
    have E : Hid (inNetB a n b = false) := hE.out.trans (by rw [h2] <;> simp)
    clear hE
    go_enter Try.func29, Try.ntmps29
    go_wp2_with fail
    refine (HA.out _).mono ?_
    rintro _ v9 ⟨rfl, rfl⟩
    go_wp2_with fail
    refine (HN.out _).mono ?_
    rintro _ v9 ⟨rfl, rfl⟩
    go_wp2_with fail
    refine (HB.out _).mono ?_
    rintro _ v9 ⟨rfl, rfl⟩
    go_wp2_with fail
    go_ret
    exact ⟨by rw [E.out]; rfl, rfl⟩
  rw [h2] at HB
  have E : Hid (inNetB a n b = (headN a b == headN n b)) := hE.out.trans (by rw [h0, h1, h2] <;> simp only [Bool.true_and])
  have H1 := hidS (fun W => l08Head_any a b (addr_iff.1 h0).1 (addr_iff.1 h0).2 (bits_iff.1 h2).1 (bits_iff.1 h2).2 W)
  have H2 := hidS (fun W => l08Head_any n b (addr_iff.1 h1).1 (addr_iff.1 h1).2 (bits_iff.1 h2).1 (bits_iff.1 h2).2 W)
  clear hE h0 h1 h2
  go_enter Try.func29, Try.ntmps29
  go_wp2_with fail
  refine (HA.out _).mono ?_
  rintro _ v9 ⟨rfl, rfl⟩
  go_wp2_with fail
  refine (HN.out _).mono ?_
  rintro _ v9 ⟨rfl, rfl⟩
  go_wp2_with fail
  refine (HB.out _).mono ?_
  rintro _ v9 ⟨rfl, rfl⟩
  go_wp2_with fail
  refine (H1.out _).mono ?_
  rintro _ v9 ⟨rfl, rfl⟩
  go_wp2_with fail
  refine (H2.out _).mono ?_
  rintro _ v9 ⟨rfl, rfl⟩
  go_wp2_with fail
  go_ret
  exact ⟨by rw [E.out]; rfl, rfl⟩
end Go.Proofs.Ytilajoafppplcaa
