/- Proved here: impl.GetNum returns what the plain reading function gives, and leaves all old memory alone (condition: the package variable errors.errorType holds the type error). -/
import Derived.Test.YtldaebdioljnlaaDoorReadNum
import Derived.Test.YtldaebdioljnlaaDoorAs
namespace Go.Proofs.YtldaebdioljnlaaDoor
open Go.RowKit Go.Extern.Stop Go.Stop Go.Extern
set_option linter.unusedVariables false

theorem bcell {W w1 : World} (hb : Below W.heap.size W w1) : (∀ b o, b < W.heap.size → w1.cell? ⟨b, o, none⟩ = W.cell? ⟨b, o, none⟩) ∧ (∀ b o, b < W.heap.size → w1.frozen? ⟨b, o, none⟩ = W.frozen? ⟨b, o, none⟩) :=
  ⟨fun b o h => hb.cell (p := ⟨b, o, none⟩) h, fun b o h => hb.frozen (p := ⟨b, o, none⟩) h⟩

theorem as_fault (c : Int) (w1 : World) (hg : w1.cell? ⟨0, 0, none⟩ = some (.iface 70 (.agg #[.pointer (some ⟨1, 41, none⟩)]))) :
    Calls Tryd.prog 17 #[.iface 45 (.agg #[.int .i64 c]), .iface 47 (.pointer (some ⟨w1.heap.size, 0, none⟩))] (w1.alloc (.cells #[.int .i64 0] 45)) fun e w' =>
      e = .returned (.bool true) ∧ Below w1.heap.size w1 w' ∧ w1.heap.size < w'.heap.size ∧ w'.cell? ⟨w1.heap.size, 0, none⟩ = some (.int .i64 c) := by
  have hlt : 0 < w1.heap.size := by
    rcases Nat.eq_zero_or_pos w1.heap.size with h0 | h
    · simp [World.cell?, h0] at hg
    · exact h
  refine (as_hit c ⟨w1.heap.size, 0, none⟩ (.int .i64 0) (w1.alloc (.cells #[.int .i64 0] 45)) (by rw [World.cell?_alloc_lt _ _ ⟨0, 0, none⟩ hlt]; exact hg) (by simp) (by simp)).mono ?_
  rintro e w' ⟨rfl, rfl⟩
  refine ⟨rfl, by go_grown, by simp; omega, ?_⟩
  simp [go_sem]

set_option maxRecDepth 100000 in
set_option maxHeartbeats 2000000 in
theorem implGetNum_in (s : ByteArray) (p : Nat) (w : World) (hs : s.size ≤ 8000) (hg : w.cell? ⟨0, 0, none⟩ = some (.iface 70 (.agg #[.pointer (some ⟨1, 41, none⟩)]))) (rn ra rc : Int) (hr : Hid (rd s p 10 0 0 = (rn, ra, rc))) (h0 : Hid (rc ≠ 0 → rn = 0 ∧ ra = 0)) :
    Calls Tryd.prog 7 #[.string s, .int .i64 (p : Int)] w fun e w' => e = .returned (.agg #[.int .i64 rn, .int .i64 ra, .int .i64 rc]) ∧ Below w.heap.size w w' := by
  have d1 : ¬ ((8000 : Int) < (s.size : Int)) := by omega
  have hlt : 0 < w.heap.size := by
    rcases Nat.eq_zero_or_pos w.heap.size with h0 | h
    · simp [World.cell?, h0] at hg
    · exact h
  by_cases hc : rc = 0
  · subst hc
    go_enter Tryd.func7, Tryd.ntmps7
    go_wp2_with fail
    refine (readNum_in s p _ hs rn ra 0 hr).mono ?_
    rintro e w1 ⟨rfl, hb1⟩
    have hE : errV 0 = .nilIface := rfl
    rw [hE]
    obtain ⟨hc, hf⟩ := bcell hb1
    have hz : w.heap.size < w1.heap.size := by have := hb1.size; simp at this; omega
    have hb2 : Below w.heap.size w w1 := ((Below.refl _ _).alloc (Nat.le_refl _) _).trans (hb1.mono (by simp))
    go_wp2_with (go_at_call 17; refine (as_nil _ _).mono ?_; rintro e w2 ⟨rfl, rfl⟩)
    exact bodyPost_ret (v := .agg #[.int .i64 rn, .int .i64 ra, .int .i64 0]) (by simp [results, Tryd.results7, go_sem, hc, hz]) rfl ⟨rfl, by go_grown⟩
  · obtain ⟨rfl, rfl⟩ := h0.out hc
    have hE : errV rc = .iface 45 (.agg #[.int .i64 rc]) := if_neg hc
    go_enter Tryd.func7, Tryd.ntmps7
    go_wp2_with fail
    refine (readNum_in s p _ hs 0 0 rc hr).mono ?_
    rintro e w1 ⟨rfl, hb1⟩
    rw [hE]
    clear hE
    obtain ⟨hcl, hf⟩ := bcell hb1
    have hz : w.heap.size < w1.heap.size := by have := hb1.size; simp at this; omega
    have hb2 : Below w.heap.size w w1 := ((Below.refl _ _).alloc (Nat.le_refl _) _).trans (hb1.mono (by simp))
    have hg1 : w1.cell? ⟨0, 0, none⟩ = some (.iface 70 (.agg #[.pointer (some ⟨1, 41, none⟩)])) := (hb2.cell (p := ⟨0, 0, none⟩) hlt).trans hg
    go_wp2_with fail
    refine (as_fault rc w1 hg1).mono ?_
    rintro e w3 ⟨rfl, hb3, hz3, hc3⟩
    obtain ⟨hcl3, hf3⟩ := bcell hb3
    have hb4 : Below w.heap.size w w3 := hb2.trans (hb3.mono (by omega))
    go_wp2
    exact bodyPost_ret (v := .agg #[.int .i64 0, .int .i64 0, .int .i64 rc]) (by simp [results, Tryd.results7, go_sem, hcl3, hz, hcl]) rfl ⟨rfl, by go_grown⟩

theorem rd_codes (s : ByteArray) (p f i u : Nat) : (rd s p f i u).2.2 ≠ 0 → (rd s p f i u).1 = 0 ∧ (rd s p f i u).2.1 = 0 := by
  induction f generalizing i u with
  | zero => intro _; exact ⟨rfl, rfl⟩
  | succ f ih =>
    simp only [rd]
    split
    · split
      · intro _; exact ⟨rfl, rfl⟩
      · split
        · split
          · intro _; exact ⟨rfl, rfl⟩
          · intro h; exact absurd rfl h
        · exact ih _ _
    · intro _; exact ⟨rfl, rfl⟩

set_option maxRecDepth 100000 in
theorem implGetNum_any (s : ByteArray) (a : Int) (w : World) (hs : s.size ≤ maxLen) (hg : w.cell? ⟨0, 0, none⟩ = some (.iface 70 (.agg #[.pointer (some ⟨1, 41, none⟩)]))) :
    Calls Tryd.prog 7 #[.string s, .int .i64 a] w fun e w' => e = .returned (.agg #[.int .i64 (rdAll s a).1, .int .i64 (rdAll s a).2.1, .int .i64 (rdAll s a).2.2]) ∧ Below w.heap.size w w' := by
  have hs' : s.size ≤ 2 ^ 63 - 1 := hs
  by_cases h1 : 8000 < s.size
  · have e1 : rdAll s a = (0, 0, 2) := if_pos h1
    rw [e1]
    clear e1
    go_enter Tryd.func7, Tryd.ntmps7
    go_wp2
    go_returns
    exact ⟨rfl, by go_grown⟩
  by_cases h2 : a < 0
  · have e1 : rdAll s a = (0, 0, 1) := by unfold rdAll; rw [if_neg h1, if_pos h2]
    rw [e1]
    clear e1
    go_enter Tryd.func7, Tryd.ntmps7
    go_wp2
    go_returns
    exact ⟨rfl, by go_grown⟩
  · have e1 : rdAll s a = rd s a.toNat 10 0 0 := by unfold rdAll; rw [if_neg h1, if_neg h2]
    rw [e1]
    obtain ⟨n, rfl⟩ : ∃ n : Nat, a = n := ⟨a.toNat, by omega⟩
    rw [Int.toNat_natCast]
    exact implGetNum_in s n w (by omega) hg _ _ _ rfl (rd_codes s n 10 0 0)
end Go.Proofs.YtldaebdioljnlaaDoor
