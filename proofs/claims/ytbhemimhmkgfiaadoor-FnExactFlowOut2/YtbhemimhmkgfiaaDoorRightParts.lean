/- Proved here: what the parts' methods right and fields answer; all old memory stays (condition: a body is a string). -/
import Derived.Test.YtbhemimhmkgfiaaDoorPartOf
import Derived.Test.YtbhemimhmkgfiaaDoorAll25
namespace Go.Proofs.YtbhemimhmkgfiaaDoor
open Go.ChangeShapes Go.WideShapes Go.ChangeAt Go.RowKit
open Go.ChangeMaps (open_string shut_string)
set_option linter.unusedVariables false

set_option maxHeartbeats 1000000 in
theorem tcpRight_any (a b q k f : Int) (s : ByteArray) (w : World) :
    Calls Tryd.prog 110 #[.agg #[.int .i64 a, .int .i64 b, .int .i64 q, .int .i64 k, .int .i64 f, .string s]] w fun e w' => e = .returned (.bool (allW [a, b] && allA [q, k] && flagB f)) ∧ Below w.heap.size w w' := by
  have HB := fun o => hidS ((Below.refl w.heap.size w).alloc (Nat.le_refl _) o)
  have HB2 := fun o o2 => hidS (((Below.refl w.heap.size w).alloc (Nat.le_refl _) o).alloc (by simp) o2)
  have HB3 := fun o o2 o3 => hidS ((((Below.refl w.heap.size w).alloc (Nat.le_refl _) o).alloc (by simp) o2).alloc (by simp; omega) o3)
  cases h1 : allW [a, b]
  · go_enter Tryd.func110, Tryd.ntmps110
    go_wp2_with fail
    refine (areWords_any (w.heap.size + 1) [a, b] _ (two_cells1 _ _ _ _ _) (by simp)).mono ?_
    rintro e w1 ⟨rfl, rfl⟩
    rw [h1]
    go_wp2
    go_ret
    exact ⟨rfl, (HB2 _ _).out⟩
  cases h2 : allA [q, k]
  · go_enter Tryd.func110, Tryd.ntmps110
    go_wp2_with fail
    refine (areWords_any (w.heap.size + 1) [a, b] _ (two_cells1 _ _ _ _ _) (by simp)).mono ?_
    rintro e w1 ⟨rfl, rfl⟩
    rw [h1]
    go_wp2_with fail
    refine (areAddrs_any (w.heap.size + 2) [q, k] _ (two_cells2 _ _ _ _ _ _) (by simp)).mono ?_
    rintro e w1 ⟨rfl, rfl⟩
    rw [h2]
    go_wp2
    go_ret
    exact ⟨rfl, (HB3 _ _ _).out⟩
  by_cases h3 : 0 ≤ f
  · by_cases h4 : f ≤ 63
    · have e : Hid (flagB f = true) := flagB_iff.2 ⟨h3, h4⟩
      go_enter Tryd.func110, Tryd.ntmps110
      go_wp2_with fail
      refine (areWords_any (w.heap.size + 1) [a, b] _ (two_cells1 _ _ _ _ _) (by simp)).mono ?_
      rintro e w1 ⟨rfl, rfl⟩
      rw [h1]
      go_wp2_with fail
      refine (areAddrs_any (w.heap.size + 2) [q, k] _ (two_cells2 _ _ _ _ _ _) (by simp)).mono ?_
      rintro e w1 ⟨rfl, rfl⟩
      rw [h2]
      go_wp2
      go_ret
      exact ⟨by rw [e.out]; rfl, (HB3 _ _ _).out⟩
    · have e : Hid (flagB f = false) := by show _ = _; simp [flagB]; omega
      have h4' : decide (f ≤ 63) = false := by simpa using h4
      go_enter Tryd.func110, Tryd.ntmps110
      go_wp2_with fail
      refine (areWords_any (w.heap.size + 1) [a, b] _ (two_cells1 _ _ _ _ _) (by simp)).mono ?_
      rintro e w1 ⟨rfl, rfl⟩
      rw [h1]
      go_wp2_with fail
      refine (areAddrs_any (w.heap.size + 2) [q, k] _ (two_cells2 _ _ _ _ _ _) (by simp)).mono ?_
      rintro e w1 ⟨rfl, rfl⟩
      rw [h2]
      go_wp2
      go_ret
      exact ⟨by rw [e.out]; rfl, (HB3 _ _ _).out⟩
  · have e : Hid (flagB f = false) := by show _ = _; simp [flagB]; omega
    have h3' : decide (0 ≤ f) = false := by simpa using h3
    go_enter Tryd.func110, Tryd.ntmps110
    go_wp2_with fail
    refine (areWords_any (w.heap.size + 1) [a, b] _ (two_cells1 _ _ _ _ _) (by simp)).mono ?_
    rintro e w1 ⟨rfl, rfl⟩
    rw [h1]
    go_wp2_with fail
    refine (areAddrs_any (w.heap.size + 2) [q, k] _ (two_cells2 _ _ _ _ _ _) (by simp)).mono ?_
    rintro e w1 ⟨rfl, rfl⟩
    rw [h2]
    go_wp2
    go_ret
    exact ⟨by rw [e.out]; rfl, (HB3 _ _ _).out⟩

theorem udpRight_any (a b : Int) (s : ByteArray) (w : World) :
    Calls Tryd.prog 113 #[.agg #[.int .i64 a, .int .i64 b, .string s]] w fun e w' => e = .returned (.bool (allW [a, b])) ∧ Below w.heap.size w w' := by
  have HB2 := fun o o2 => hidS (((Below.refl w.heap.size w).alloc (Nat.le_refl _) o).alloc (by simp) o2)
  go_enter Tryd.func113, Tryd.ntmps113
  go_wp2_with fail
  refine (areWords_any (w.heap.size + 1) [a, b] _ (two_cells1 _ _ _ _ _) (by simp)).mono ?_
  rintro e w1 ⟨rfl, rfl⟩
  go_wp2
  go_ret
  exact ⟨rfl, (HB2 _ _).out⟩

theorem errRight_any (s : ByteArray) (w : World) (hs : s.size ≤ maxLen) :
    Calls Tryd.prog 116 #[.agg #[.string s]] w fun e w' => e = .returned (.bool (decide (28 ≤ s.size))) ∧ Below w.heap.size w w' := by
  have hs' : s.size ≤ 2 ^ 63 - 1 := hs
  have HB := fun o => hidS ((Below.refl w.heap.size w).alloc (Nat.le_refl _) o)
  have e : Hid (decide ((28 : Int) ≤ (s.size : Int)) = decide (28 ≤ s.size)) := by show _ = _; rw [decide_eq_decide]; omega
  go_enter Tryd.func116, Tryd.ntmps116
  go_wp2
  go_ret
  exact ⟨by rw [← e.out]; rfl, (HB _).out⟩

theorem echoRight_any (c a q : Int) (s : ByteArray) (w : World) :
    Calls Tryd.prog 119 #[.agg #[.int .i64 c, .int .i64 a, .int .i64 q, .string s]] w fun e w' => e = .returned (.bool ((decide (c = 8) || decide (c = 0)) && allW [a, q])) ∧ Below w.heap.size w w' := by
  have HB := fun o => hidS ((Below.refl w.heap.size w).alloc (Nat.le_refl _) o)
  have HB2 := fun o o2 => hidS (((Below.refl w.heap.size w).alloc (Nat.le_refl _) o).alloc (by simp) o2)
  have HE := hidS (isEcho_any c)
  show Calls Tryd.prog 119 #[.agg #[.int .i64 c, .int .i64 a, .int .i64 q, .string s]] w fun e w' => e = .returned (.bool (echoB c && allW [a, q])) ∧ Below w.heap.size w w'
  cases h : echoB c
  · rw [h] at HE
    go_enter Tryd.func119, Tryd.ntmps119
    go_wp2_with fail
    refine (HE.out _).mono ?_
    rintro _ w1 ⟨rfl, rfl⟩
    go_wp2_with fail
    go_ret
    exact ⟨rfl, (HB _).out⟩
  · rw [h] at HE
    go_enter Tryd.func119, Tryd.ntmps119
    go_wp2_with fail
    refine (HE.out _).mono ?_
    rintro _ w1 ⟨rfl, rfl⟩
    go_wp2_with fail
    refine (areWords_any (w.heap.size + 1) [a, q] _ (two_cells1 _ _ _ _ _) (by simp)).mono ?_
    rintro e w1 ⟨rfl, rfl⟩
    go_wp2
    go_ret
    exact ⟨by simp, (HB2 _ _).out⟩

theorem tcpFields_any (a b q k f : Int) (s : ByteArray) (w : World) :
    Calls Tryd.prog 109 #[.agg #[.int .i64 a, .int .i64 b, .int .i64 q, .int .i64 k, .int .i64 f, .string s]] w fun e w' => e = .returned (.agg #[.int .i64 0, .int .i64 0, .int .i64 6, .int .i64 a, .int .i64 b, .int .i64 0, .int .i64 f, .int .i64 q, .int .i64 k, .string s]) ∧ Below w.heap.size w w' := by
  go_enter Tryd.func109, Tryd.ntmps109
  go_wp2
  go_returns
  exact ⟨rfl, by go_grown⟩
theorem udpFields_any (a b : Int) (s : ByteArray) (w : World) :
    Calls Tryd.prog 112 #[.agg #[.int .i64 a, .int .i64 b, .string s]] w fun e w' => e = .returned (.agg #[.int .i64 0, .int .i64 0, .int .i64 17, .int .i64 a, .int .i64 b, .int .i64 0, .int .i64 0, .int .i64 0, .int .i64 0, .string s]) ∧ Below w.heap.size w w' := by
  go_enter Tryd.func112, Tryd.ntmps112
  go_wp2
  go_returns
  exact ⟨rfl, by go_grown⟩
theorem errFields_any (s : ByteArray) (w : World) :
    Calls Tryd.prog 115 #[.agg #[.string s]] w fun e w' => e = .returned (.agg #[.int .i64 0, .int .i64 0, .int .i64 1, .int .i64 0, .int .i64 0, .int .i64 3, .int .i64 0, .int .i64 0, .int .i64 0, .string s]) ∧ Below w.heap.size w w' := by
  go_enter Tryd.func115, Tryd.ntmps115
  go_wp2
  go_returns
  exact ⟨rfl, by go_grown⟩
theorem echoFields_any (c a q : Int) (s : ByteArray) (w : World) :
    Calls Tryd.prog 118 #[.agg #[.int .i64 c, .int .i64 a, .int .i64 q, .string s]] w fun e w' => e = .returned (.agg #[.int .i64 0, .int .i64 0, .int .i64 1, .int .i64 a, .int .i64 0, .int .i64 c, .int .i64 0, .int .i64 q, .int .i64 0, .string s]) ∧ Below w.heap.size w w' := by
  go_enter Tryd.func118, Tryd.ntmps118
  go_wp2
  go_returns
  exact ⟨rfl, by go_grown⟩
end Go.Proofs.YtbhemimhmkgfiaaDoor
