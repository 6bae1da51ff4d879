/- Proved here: spec.GetNum returns what the plain reading function gives, and leaves all old memory alone (no conditions but that a string is one and the place fits int64). -/
import Derived.Test.YtldaebdioljnladDoorRd
import Derived.Test.YtldaebdioljnladDoorProg
import Derived.WalkKit
import Derived.WalkSpells
import Derived.Handy
import Derived.Below
namespace Go.Proofs.YtldaebdioljnladDoor
open Go.RowKit
set_option linter.unusedVariables false

theorem ret3 {a b c a' b' c' : Int} (h1 : a = a') (h2 : b = b') (h3 : c = c') : Ending.returned (.agg #[.int .i64 a, .int .i64 b, .int .i64 c]) = .returned (.agg #[.int .i64 a', .int .i64 b', .int .i64 c']) := by rw [h1, h2, h3]
theorem rdHid {s : ByteArray} {p k u : Nat} {r : Int × Int × Int} (h : k < 10) (hR : rd s p (10 - k) k u = r) : rd s p (9 - k + 1) k u = r := by
  rw [show 9 - k + 1 = 10 - k from by omega]; exact hR

set_option maxRecDepth 100000 in
set_option maxHeartbeats 2000000 in
theorem specGetNum_in (s : ByteArray) (p : Nat) (w : World) (hs : s.size ≤ 8000) (rn ra rc : Int) (hr : Hid (rd s p 10 0 0 = (rn, ra, rc))) :
    Calls Tryd.prog 5 #[.string s, .int .i64 (p : Int)] w fun e w' => e = .returned (.agg #[.int .i64 rn, .int .i64 ra, .int .i64 rc]) ∧ Below w.heap.size w w' := by
  have d1 : decide ((8000 : Int) < (s.size : Int)) = false := by simp; omega
  have d2 : decide ((p : Int) < 0) = false := by simp
  have hs' : (s.size : Int) ≤ 8000 := by omega
  clear hs
  go_enter Tryd.func5, Tryd.ntmps5
  go_wp2
  go_loop [5, 6] (fun v i => ∃ k u : Nat, k ≤ 10 ∧ i = .int .i64 k ∧ v = .int .u64 u ∧ Hid (u < 128 ^ k ∧ rd s p (10 - k) k u = (rn, ra, rc))) (fun _ i => 10 - (intOf i).toNat)
  case atStart => exact ⟨0, 0, by omega, rfl, rfl, ⟨by simp, hr.out⟩⟩
  case round =>
    clear hr
    obtain ⟨k, u, hk, rfl, rfl, hR⟩ := hrel
    by_cases hlt : k < 10
    · have hR1 := hR.out.1
      have hR2 := rdHid hlt hR.out.2
      clear hR
      by_cases hin : p + k < s.size
      · have hin' : ¬ ((s.size : Int) - (k : Int) ≤ (p : Int)) := by omega
        have hc : (s[p + k].toNat : Int) < 256 := by have := s[p + k].toNat_lt; omega
        by_cases h9 : k = 9 ∧ 1 < s[p + k].toNat
        · obtain ⟨rfl, rfl, rfl⟩ := three ((rd_nine hin h9.1 h9.2).symm.trans hR2)
          obtain ⟨rfl, h91⟩ := h9
          have h91' : (1 : Int) < (s[p + 9].toNat : Int) := by omega
          clear hR1 hR2
          go_wp2
          go_returns
          exact ⟨rfl, by go_grown⟩
        · have h9a : (((k : Int) == 9) && decide ((1 : Int) < (s[p + k].toNat : Int))) = false := by
            simp; omega
          by_cases h128 : s[p + k].toNat < 128
          · have h128' : (s[p + k].toNat : Int) < 128 := by omega
            by_cases hz : s[p + k].toNat = 0 ∧ 0 < k
            · obtain ⟨rfl, rfl, rfl⟩ := three ((rd_zero hin h9 hz.1 hz.2).symm.trans hR2)
              have hz1 : ((s[p + k].toNat : Int) == 0) = true := by rw [hz.1]; rfl
              have hz3 : ¬ ((1 : Int) < (s[p + k].toNat : Int)) := by omega
              have hz2 : (0 : Int) < (k : Int) := by omega
              clear hR1 hR2 h9 h9a hz
              by_cases hk9 : ((k : Int) == 9) = true
              · go_wp2
                go_returns
                exact ⟨rfl, by go_grown⟩
              · simp only [Bool.not_eq_true] at hk9
                go_wp2
                go_returns
                exact ⟨rfl, by go_grown⟩
            · obtain ⟨rfl, rfl, rfl⟩ := three ((rd_last hin h9 h128 hz).symm.trans hR2)
              have hv := acc_val (y := (s[p + k].toNat : Int) % 128) (x := s[p + k].toNat) (by omega) hR1 (by omega) h128 h9
              have hvl := acc_lt hR1 (by omega) h128 h9
              obtain ⟨v, hgen⟩ : ∃ v, u + s[p + k].toNat * 128 ^ k = v := ⟨_, rfl⟩
              rw [hgen] at hv hvl
              have HG : Hid (u + s[p + k].toNat * 128 ^ k = v) := hgen
              have hvl' : (v : Int) ≤ 18446744073709551615 := by omega
              have hz1 : s[p + k].toNat = 0 → k = 0 := fun e => by omega
              have HZ : Hid (s[p + k].toNat = 0 → k = 0) := hz1
              clear hR1 hR2 hvl h9a hgen hz1 hz
              by_cases hk9 : ((k : Int) == 9) = true
              · have hk9' : k = 9 := by simp at hk9; omega
                have h91 : ¬ ((1 : Int) < (s[p + k].toNat : Int)) := by omega
                have hc0 : ((s[p + k].toNat : Int) == 0) = false := beq_eq_false_iff_ne.2 (fun e => by have := HZ.out (by omega); omega)
                clear hk9' h9
                by_cases hodd : ((v : Int) % 2 == 1) = true
                · have HU : Hid (-((v : Int) / 2) - 1 = unzig v) := unzig_odd (v := v) (by simp at hodd; omega) rfl
                  go_wp2
                  go_returns
                  exact ⟨ret3 (by rw [HG.out]; exact HU.out) (by omega) rfl, by go_grown⟩
                · have HU : Hid ((v : Int) / 2 = unzig v) := unzig_even (v := v) (by simp at hodd; omega) rfl
                  simp only [Bool.not_eq_true] at hodd
                  go_wp2
                  go_returns
                  exact ⟨ret3 (by rw [HG.out]; exact HU.out) (by omega) rfl, by go_grown⟩
              · simp only [Bool.not_eq_true] at hk9
                clear h9
                by_cases hk0 : k = 0
                · have hk00 : ¬ ((0 : Int) < (k : Int)) := by omega
                  clear hk0
                  by_cases hc0 : ((s[p + k].toNat : Int) == 0) = true
                  · by_cases hodd : ((v : Int) % 2 == 1) = true
                    · have HU : Hid (-((v : Int) / 2) - 1 = unzig v) := unzig_odd (v := v) (by simp at hodd; omega) rfl
                      go_wp2
                      go_returns
                      exact ⟨ret3 (by rw [HG.out]; exact HU.out) (by omega) rfl, by go_grown⟩
                    · have HU : Hid ((v : Int) / 2 = unzig v) := unzig_even (v := v) (by simp at hodd; omega) rfl
                      simp only [Bool.not_eq_true] at hodd
                      go_wp2
                      go_returns
                      exact ⟨ret3 (by rw [HG.out]; exact HU.out) (by omega) rfl, by go_grown⟩
                  · simp only [Bool.not_eq_true] at hc0
                    by_cases hodd : ((v : Int) % 2 == 1) = true
                    · have HU : Hid (-((v : Int) / 2) - 1 = unzig v) := unzig_odd (v := v) (by simp at hodd; omega) rfl
                      go_wp2
                      go_returns
                      exact ⟨ret3 (by rw [HG.out]; exact HU.out) (by omega) rfl, by go_grown⟩
                    · have HU : Hid ((v : Int) / 2 = unzig v) := unzig_even (v := v) (by simp at hodd; omega) rfl
                      simp only [Bool.not_eq_true] at hodd
                      go_wp2
                      go_returns
                      exact ⟨ret3 (by rw [HG.out]; exact HU.out) (by omega) rfl, by go_grown⟩
                · have hc0 : ((s[p + k].toNat : Int) == 0) = false := beq_eq_false_iff_ne.2 (fun e => by have := HZ.out (by omega); omega)
                  by_cases hodd : ((v : Int) % 2 == 1) = true
                  · have HU : Hid (-((v : Int) / 2) - 1 = unzig v) := unzig_odd (v := v) (by simp at hodd; omega) rfl
                    go_wp2
                    go_returns
                    exact ⟨ret3 (by rw [HG.out]; exact HU.out) (by omega) rfl, by go_grown⟩
                  · have HU : Hid ((v : Int) / 2 = unzig v) := unzig_even (v := v) (by simp at hodd; omega) rfl
                    simp only [Bool.not_eq_true] at hodd
                    go_wp2
                    go_returns
                    exact ⟨ret3 (by rw [HG.out]; exact HU.out) (by omega) rfl, by go_grown⟩
          · have h128' : ¬ ((s[p + k].toNat : Int) < 128) := by omega
            have hk9n : k ≠ 9 := fun e => h9 ⟨e, by omega⟩
            have hk9 : ((k : Int) == 9) = false := beq_eq_false_iff_ne.2 (by omega)
            have hR3 := (rd_more (f := 9 - k) (u := u) hin h9 h128).symm.trans hR2
            have hv := acc_val (y := (s[p + k].toNat : Int) % 128) (x := s[p + k].toNat % 128) (by omega) hR1 (by omega) (by omega) (fun e => hk9n e.1)
            have hvp := acc_pow (x := s[p + k].toNat % 128) hR1 (by omega)
            have hvl := acc_lt (x := s[p + k].toNat % 128) hR1 (by omega) (by omega) (fun e => hk9n e.1)
            generalize u + s[p + k].toNat % 128 * 128 ^ k = v at hv hvp hvl hR3
            have HN : Hid (v < 128 ^ (k + 1) ∧ rd s p (10 - (k + 1)) (k + 1) v = (rn, ra, rc)) := ⟨hvp, by rw [show 10 - (k + 1) = 9 - k from by omega]; exact hR3⟩
            clear hR1 hR2 hR3 hvp h9 h9a hvl
            go_wp2
            go_round
            case rel => exact ⟨k + 1, v, by omega, by go_num, rfl, HN⟩
            case measure => simp [intOf]; omega
      · obtain ⟨rfl, rfl, rfl⟩ := three ((rd_short hin).symm.trans hR2)
        have hin' : (s.size : Int) - (k : Int) ≤ (p : Int) := by omega
        clear hR1 hR2
        go_wp2
        go_returns
        exact ⟨rfl, by go_grown⟩
    · have hk10 : k = 10 := by omega
      subst hk10
      obtain ⟨rfl, rfl, rfl⟩ := three (show (0, 0, 3) = (rn, ra, rc) from hR.out.2)
      clear hR
      go_wp2
      go_returns
      exact ⟨rfl, by go_grown⟩
end Go.Proofs.YtldaebdioljnladDoor
