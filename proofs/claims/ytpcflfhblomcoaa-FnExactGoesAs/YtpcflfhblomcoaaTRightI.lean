/- Proved here: impl.TupleRight answers whether a tuple is right; all old memory stays (no conditions). -/
import Derived.Test.YtpcflfhblomcoaaAll4
import Derived.Test.YtpcflfhblomcoaaIsEcho
import Derived.Test.YtpcflfhblomcoaaAddrs
import Derived.Test.YtpcflfhblomcoaaAll39
namespace Go.Proofs.Ytpcflfhblomcoaa
open Go.ChangeShapes Go.WideShapes Go.ChangeAt Go.RowKit
set_option linter.unusedVariables false

theorem right_of_cases (t : Tp) : rightT t = (allA [t.src, t.dst] && allW [t.sport, t.dport] && (if t.proto = 1 then echoB t.kind && decide (t.sport = t.dport) else (decide (t.proto = 6) || decide (t.proto = 17)) && decide (t.kind = 0))) := by
  unfold rightT allA allW; simp [Bool.and_assoc]

set_option maxHeartbeats 2000000 in
theorem implTRight_any (t : Tp) (w : World) :
    Calls Try.prog 76 #[.agg #[.int .i64 t.proto, .int .i64 t.src, .int .i64 t.sport, .int .i64 t.dst, .int .i64 t.dport, .int .i64 t.kind]] w fun e w' => e = .returned (.bool (rightT t)) ∧ Below w.heap.size w w' := by
  have HB2 := fun o o2 => hidS (((Below.refl w.heap.size w).alloc (Nat.le_refl _) o).alloc (by simp) o2)
  have HB3 := fun o o2 o3 => hidS ((((Below.refl w.heap.size w).alloc (Nat.le_refl _) o).alloc (by simp) o2).alloc (by simp; omega) o3)
  cases h1 : allA [t.src, t.dst]
  · have e : Hid (rightT t = false) := by unfold Hid; rw [right_of_cases]; simp_all
    go_enter Try.func76, Try.ntmps76
    go_wp2_with fail
    refine (areAddrs_any (w.heap.size + 1) [t.src, t.dst] _ (two_cells1 _ _ _ _ _) (by simp)).mono ?_
    rintro _ w1 ⟨rfl, rfl⟩
    rw [h1]
    go_wp2_with fail
    go_ret
    exact ⟨by rw [e.out]; rfl, (HB2 _ _).out⟩
  cases h2 : allW [t.sport, t.dport]
  · have e : Hid (rightT t = false) := by unfold Hid; rw [right_of_cases]; simp_all
    go_enter Try.func76, Try.ntmps76
    go_wp2_with fail
    refine (areAddrs_any (w.heap.size + 1) [t.src, t.dst] _ (two_cells1 _ _ _ _ _) (by simp)).mono ?_
    rintro _ w1 ⟨rfl, rfl⟩
    rw [h1]
    go_wp2_with fail
    refine (areWords_any (w.heap.size + 2) [t.sport, t.dport] _ (two_cells2 _ _ _ _ _ _) (by simp)).mono ?_
    rintro _ w1 ⟨rfl, rfl⟩
    rw [h2]
    go_wp2_with fail
    go_ret
    exact ⟨by rw [e.out]; rfl, (HB3 _ _ _).out⟩
  by_cases p6 : t.proto = 6
  · have p6' : (t.proto == 6) = true := beq_iff_eq.2 p6
    by_cases hk : t.kind = 0
    · have hk' : (t.kind == 0) = true := beq_iff_eq.2 hk
      have e : Hid (rightT t = true) := by unfold Hid; rw [right_of_cases]; simp_all
      go_enter Try.func76, Try.ntmps76
      go_wp2_with fail
      refine (areAddrs_any (w.heap.size + 1) [t.src, t.dst] _ (two_cells1 _ _ _ _ _) (by simp)).mono ?_
      rintro _ w1 ⟨rfl, rfl⟩
      rw [h1]
      go_wp2_with fail
      refine (areWords_any (w.heap.size + 2) [t.sport, t.dport] _ (two_cells2 _ _ _ _ _ _) (by simp)).mono ?_
      rintro _ w1 ⟨rfl, rfl⟩
      rw [h2]
      go_wp2_with fail
      go_ret
      exact ⟨by rw [e.out]; rfl, (HB3 _ _ _).out⟩
    · have hk' : (t.kind == 0) = false := beq_eq_false_iff_ne.2 hk
      have e : Hid (rightT t = false) := by unfold Hid; rw [right_of_cases]; simp_all
      go_enter Try.func76, Try.ntmps76
      go_wp2_with fail
      refine (areAddrs_any (w.heap.size + 1) [t.src, t.dst] _ (two_cells1 _ _ _ _ _) (by simp)).mono ?_
      rintro _ w1 ⟨rfl, rfl⟩
      rw [h1]
      go_wp2_with fail
      refine (areWords_any (w.heap.size + 2) [t.sport, t.dport] _ (two_cells2 _ _ _ _ _ _) (by simp)).mono ?_
      rintro _ w1 ⟨rfl, rfl⟩
      rw [h2]
      go_wp2_with fail
      go_ret
      exact ⟨by rw [e.out]; rfl, (HB3 _ _ _).out⟩
  · have p6' : (t.proto == 6) = false := beq_eq_false_iff_ne.2 p6
    by_cases p17 : t.proto = 17
    · have p17' : (t.proto == 17) = true := beq_iff_eq.2 p17
      by_cases hk : t.kind = 0
      · have hk' : (t.kind == 0) = true := beq_iff_eq.2 hk
        have e : Hid (rightT t = true) := by unfold Hid; rw [right_of_cases]; simp_all
        go_enter Try.func76, Try.ntmps76
        go_wp2_with fail
        refine (areAddrs_any (w.heap.size + 1) [t.src, t.dst] _ (two_cells1 _ _ _ _ _) (by simp)).mono ?_
        rintro _ w1 ⟨rfl, rfl⟩
        rw [h1]
        go_wp2_with fail
        refine (areWords_any (w.heap.size + 2) [t.sport, t.dport] _ (two_cells2 _ _ _ _ _ _) (by simp)).mono ?_
        rintro _ w1 ⟨rfl, rfl⟩
        rw [h2]
        go_wp2_with fail
        go_ret
        exact ⟨by rw [e.out]; rfl, (HB3 _ _ _).out⟩
      · have hk' : (t.kind == 0) = false := beq_eq_false_iff_ne.2 hk
        have e : Hid (rightT t = false) := by unfold Hid; rw [right_of_cases]; simp_all
        go_enter Try.func76, Try.ntmps76
        go_wp2_with fail
        refine (areAddrs_any (w.heap.size + 1) [t.src, t.dst] _ (two_cells1 _ _ _ _ _) (by simp)).mono ?_
        rintro _ w1 ⟨rfl, rfl⟩
        rw [h1]
        go_wp2_with fail
        refine (areWords_any (w.heap.size + 2) [t.sport, t.dport] _ (two_cells2 _ _ _ _ _ _) (by simp)).mono ?_
        rintro _ w1 ⟨rfl, rfl⟩
        rw [h2]
        go_wp2_with fail
        go_ret
        exact ⟨by rw [e.out]; rfl, (HB3 _ _ _).out⟩
    · have p17' : (t.proto == 17) = false := beq_eq_false_iff_ne.2 p17
      by_cases p1 : t.proto = 1
      · have p1' : (t.proto == 1) = true := beq_iff_eq.2 p1
        cases hk : echoB t.kind
        · have e : Hid (rightT t = false) := by unfold Hid; rw [right_of_cases]; simp_all
          go_enter Try.func76, Try.ntmps76
          go_wp2_with fail
          refine (areAddrs_any (w.heap.size + 1) [t.src, t.dst] _ (two_cells1 _ _ _ _ _) (by simp)).mono ?_
          rintro _ w1 ⟨rfl, rfl⟩
          rw [h1]
          go_wp2_with fail
          refine (areWords_any (w.heap.size + 2) [t.sport, t.dport] _ (two_cells2 _ _ _ _ _ _) (by simp)).mono ?_
          rintro _ w1 ⟨rfl, rfl⟩
          rw [h2]
          go_wp2_with fail
          refine (isEcho_any _ _).mono ?_
          rintro _ w1 ⟨rfl, rfl⟩
          rw [hk]
          go_wp2_with fail
          go_ret
          exact ⟨by rw [e.out]; rfl, (HB3 _ _ _).out⟩
        by_cases hp : t.sport = t.dport
        · have hp' : (t.sport == t.dport) = true := beq_iff_eq.2 hp
          have e : Hid (rightT t = true) := by unfold Hid; rw [right_of_cases]; simp_all
          clear hp
          go_enter Try.func76, Try.ntmps76
          go_wp2_with fail
          refine (areAddrs_any (w.heap.size + 1) [t.src, t.dst] _ (two_cells1 _ _ _ _ _) (by simp)).mono ?_
          rintro _ w1 ⟨rfl, rfl⟩
          rw [h1]
          go_wp2_with fail
          refine (areWords_any (w.heap.size + 2) [t.sport, t.dport] _ (two_cells2 _ _ _ _ _ _) (by simp)).mono ?_
          rintro _ w1 ⟨rfl, rfl⟩
          rw [h2]
          go_wp2_with fail
          refine (isEcho_any _ _).mono ?_
          rintro _ w1 ⟨rfl, rfl⟩
          rw [hk]
          go_wp2_with fail
          go_ret
          exact ⟨by rw [e.out]; rfl, (HB3 _ _ _).out⟩
        · have hp' : (t.sport == t.dport) = false := beq_eq_false_iff_ne.2 hp
          have e : Hid (rightT t = false) := by unfold Hid; rw [right_of_cases]; simp_all
          clear hp
          go_enter Try.func76, Try.ntmps76
          go_wp2_with fail
          refine (areAddrs_any (w.heap.size + 1) [t.src, t.dst] _ (two_cells1 _ _ _ _ _) (by simp)).mono ?_
          rintro _ w1 ⟨rfl, rfl⟩
          rw [h1]
          go_wp2_with fail
          refine (areWords_any (w.heap.size + 2) [t.sport, t.dport] _ (two_cells2 _ _ _ _ _ _) (by simp)).mono ?_
          rintro _ w1 ⟨rfl, rfl⟩
          rw [h2]
          go_wp2_with fail
          refine (isEcho_any _ _).mono ?_
          rintro _ w1 ⟨rfl, rfl⟩
          rw [hk]
          go_wp2_with fail
          go_ret
          exact ⟨by rw [e.out]; rfl, (HB3 _ _ _).out⟩
      · have p1' : (t.proto == 1) = false := beq_eq_false_iff_ne.2 p1
        have e : Hid (rightT t = false) := by unfold Hid; rw [right_of_cases]; simp_all
        go_enter Try.func76, Try.ntmps76
        go_wp2_with fail
        refine (areAddrs_any (w.heap.size + 1) [t.src, t.dst] _ (two_cells1 _ _ _ _ _) (by simp)).mono ?_
        rintro _ w1 ⟨rfl, rfl⟩
        rw [h1]
        go_wp2_with fail
        refine (areWords_any (w.heap.size + 2) [t.sport, t.dport] _ (two_cells2 _ _ _ _ _ _) (by simp)).mono ?_
        rintro _ w1 ⟨rfl, rfl⟩
        rw [h2]
        go_wp2_with fail
        go_ret
        exact ⟨by rw [e.out]; rfl, (HB3 _ _ _).out⟩
end Go.Proofs.Ytpcflfhblomcoaa
