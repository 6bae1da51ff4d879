/- Proved here: two cells of a new block (no program of its own). · Proved here: impl.InNet answers whether the first bits of two addresses are the same; all old memory stays (no conditions). -/
import Derived.Test.YtpcflfhblomcoaaWords
import Derived.Test.YtpcflfhblomcoaaNetI
section
namespace Go.Proofs.Ytpcflfhblomcoaa
open Go.ChangeShapes Go.WideShapes Go.ChangeAt Go.RowKit
set_option linter.unusedVariables false

theorem two_cells1 (W : World) (o : Obj) (a b : Int) (t : TypeId) : ∀ j, (h : j < [a, b].length) → ((W.alloc o).alloc (.cells #[.int .i64 a, .int .i64 b] t)).cell? ⟨W.heap.size + 1, j, none⟩ = some (.int .i64 [a, b][j]) := by
  have := two_cells (W.alloc o) a b t
  simpa using this
theorem two_cells2 (W : World) (o o2 : Obj) (a b : Int) (t : TypeId) : ∀ j, (h : j < [a, b].length) → (((W.alloc o).alloc o2).alloc (.cells #[.int .i64 a, .int .i64 b] t)).cell? ⟨W.heap.size + 2, j, none⟩ = some (.int .i64 [a, b][j]) := by
  have := two_cells ((W.alloc o).alloc o2) a b t
  simpa using this
end Go.Proofs.Ytpcflfhblomcoaa
end

section
namespace Go.Proofs.Ytpcflfhblomcoaa
open Go.ChangeShapes Go.WideShapes Go.ChangeAt Go.RowKit
set_option linter.unusedVariables false
set_option linter.unusedSimpArgs false

set_option maxHeartbeats 2000000 in
theorem implInNet_any (a n b : Int) (w : World) :
    Calls Try.prog 26 #[.int .i64 a, .int .i64 n, .int .i64 b] w fun e w' => e = .returned (.bool (inNetB a n b)) ∧ Below w.heap.size w w' := by
  have hE : Hid (inNetB a n b = (addrB a && addrB n && bitsB b && headN a b == headN n b)) := rfl
  have HL := hidS ((Below.refl w.heap.size w).alloc (Nat.le_refl _) (.cells #[.int .i64 a, .int .i64 n] 2))
  have HA := hidS (areAddrs_any w.heap.size [a, n] (w.alloc (.cells #[.int .i64 a, .int .i64 n] 2)) (two_cells w a n 2) (by simp))
  have hA2 : allA [a, n] = (addrB a && addrB n) := by simp [allA]
  rw [hA2] at HA
  clear hA2
  have HB := hidS (fun W => areBits_any b W)
  cases h0 : addrB a && addrB n
  · rw [h0] at HA
    have E : Hid (inNetB a n b = false) := hE.out.trans (by rw [h0] <;> simp)
    clear hE
    go_enter Try.func26, Try.ntmps26
    go_wp2_with fail
    refine HA.out.mono ?_
    rintro _ v9 ⟨rfl, rfl⟩
    go_wp2_with fail
    go_ret
    exact ⟨by rw [E.out]; rfl, HL.out⟩
  rw [h0] at HA
  cases h2 : bitsB b
  · rw [h2] at HB
    have E : Hid (inNetB a n b = false) := hE.out.trans (by rw [h2] <;> simp)
    clear hE
    go_enter Try.func26, Try.ntmps26
    go_wp2_with fail
    refine HA.out.mono ?_
    rintro _ v9 ⟨rfl, rfl⟩
    go_wp2_with fail
    refine (HB.out _).mono ?_
    rintro _ v9 ⟨rfl, rfl⟩
    go_wp2_with fail
    go_ret
    exact ⟨by rw [E.out]; rfl, HL.out⟩
  rw [h2] at HB
  have E : Hid (inNetB a n b = (headN a b == headN n b)) := hE.out.trans (by rw [h0, h2] <;> simp only [Bool.true_and])
  obtain ⟨ha, hn⟩ : addrB a = true ∧ addrB n = true := by simpa using h0
  have H1 := hidS (fun W => netOf_any a b (addr_iff.1 ha).1 (addr_iff.1 ha).2 (bits_iff.1 h2).1 (bits_iff.1 h2).2 W)
  have H2 := hidS (fun W => netOf_any n b (addr_iff.1 hn).1 (addr_iff.1 hn).2 (bits_iff.1 h2).1 (bits_iff.1 h2).2 W)
  clear hE h0 ha hn h2
  go_enter Try.func26, Try.ntmps26
  go_wp2_with fail
  refine HA.out.mono ?_
  rintro _ v9 ⟨rfl, rfl⟩
  go_wp2_with fail
  refine (HB.out _).mono ?_
  rintro _ v9 ⟨rfl, rfl⟩
  go_wp2_with fail
  refine (H1.out _).mono ?_
  rintro _ v9 ⟨rfl, rfl⟩
  go_wp2_with fail
  refine (H2.out _).mono ?_
  rintro _ v9 ⟨rfl, rfl⟩
  go_wp2_with fail
  go_ret
  exact ⟨by rw [E.out]; rfl, HL.out⟩
end Go.Proofs.Ytpcflfhblomcoaa
end
