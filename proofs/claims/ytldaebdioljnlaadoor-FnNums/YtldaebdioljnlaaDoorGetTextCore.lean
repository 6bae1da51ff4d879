/- Proved here: what impl.GetText hands back, of what GetNum does, and it leaves all old memory alone (condition: the package variable errors.errorType holds the type error). -/
import Derived.Test.YtldaebdioljnlaaDoorGetNumCore
import Derived.Test.YtldaebdioljnlaaDoorClone
import Derived.Deep.RegionHeld3
import Derived.BigRegion
namespace Go.Proofs.YtldaebdioljnlaaDoor
open Go.RowKit Go.Extern.Stop Go.Stop Go.Extern
set_option linter.unusedVariables false

theorem rd_at (s : ByteArray) (p f i u : Nat) : (rd s p f i u).2.2 = 0 → 0 ≤ (rd s p f i u).2.1 ∧ (rd s p f i u).2.1 ≤ (s.size : Int) := by
  induction f generalizing i u with
  | zero => intro h; exact absurd h (by simp [rd])
  | succ f ih =>
    simp only [rd]
    split
    · rename_i hin
      split
      · intro h; exact absurd h (by simp)
      · split
        · split
          · intro h; exact absurd h (by simp)
          · intro _; exact ⟨by simp; omega, by simp; omega⟩
        · exact ih _ _
    · intro h; exact absurd h (by simp)
theorem rdAll_at (s : ByteArray) (a : Int) : (rdAll s a).2.2 = 0 → 0 ≤ (rdAll s a).2.1 ∧ (rdAll s a).2.1 ≤ (s.size : Int) ∧ s.size ≤ 8000 := by
  unfold rdAll
  split
  · intro h; exact absurd h (by simp)
  · split
    · intro h; exact absurd h (by simp)
    · intro h
      have := rd_at s a.toNat 10 0 0 h
      exact ⟨this.1, this.2, by omega⟩

/-- what GetText is to answer, of what GetNum answered: the text -/
def gtT (s : ByteArray) (n a c : Int) : ByteArray := if c ≠ 0 ∨ n < 0 ∨ 8000 < n ∨ (s.size : Int) < a + n then ⟨#[]⟩ else s.extract a.toNat (a + n).toNat
/-- .. the place behind it -/
def gtA (s : ByteArray) (n a c : Int) : Int := if c ≠ 0 ∨ n < 0 ∨ 8000 < n ∨ (s.size : Int) < a + n then 0 else a + n
/-- .. the code -/
def gtC (s : ByteArray) (n a c : Int) : Int := if c ≠ 0 then c else if n < 0 ∨ 8000 < n then 3 else if (s.size : Int) < a + n then 4 else 0

set_option maxRecDepth 100000 in
set_option maxHeartbeats 2000000 in
theorem implGetText_in (s : ByteArray) (a n b c : Int) (w : World)
    (hI : Hid (∀ W : World, W.cell? ⟨0, 0, none⟩ = some (.iface 70 (.agg #[.pointer (some ⟨1, 41, none⟩)])) → Calls Tryd.prog 7 #[.string s, .int .i64 a] W fun e w' => e = .returned (.agg #[.int .i64 n, .int .i64 b, .int .i64 c]) ∧ Below W.heap.size W w'))
    (hat : c = 0 → 0 ≤ b ∧ b ≤ (s.size : Int) ∧ s.size ≤ 8000)
    (hg : w.cell? ⟨0, 0, none⟩ = some (.iface 70 (.agg #[.pointer (some ⟨1, 41, none⟩)]))) :
    Calls Tryd.prog 11 #[.string s, .int .i64 a] w fun e w' => e = .returned (.agg #[.string (gtT s n b c), .int .i64 (gtA s n b c), .int .i64 (gtC s n b c)]) ∧ Below w.heap.size w w' := by
  have hlt : 0 < w.heap.size := by
    rcases Nat.eq_zero_or_pos w.heap.size with h0 | h
    · simp [World.cell?, h0] at hg
    · exact h
  by_cases hc0 : c = 0
  · obtain ⟨h1, h2, h3⟩ := hat hc0
    subst hc0
    clear hat
    by_cases hn : n < 0 ∨ 8000 < n
    · have eT : gtT s n b 0 = ⟨#[]⟩ := if_pos (by omega)
      have eA : gtA s n b 0 = 0 := if_pos (by omega)
      have eC : gtC s n b 0 = 3 := by unfold gtC; rw [if_neg (by omega), if_pos hn]
      rw [eT, eA, eC]
      clear eT eA eC
      by_cases hn1 : n < 0
      · clear hn
        go_enter Tryd.func11, Tryd.ntmps11
        go_wp2_with fail
        refine (hI.out _ (by rw [World.cell?_alloc_lt _ _ ⟨0, 0, none⟩ hlt]; exact hg)).mono ?_
        rintro e w1 ⟨rfl, hb1⟩
        obtain ⟨hcl, hf⟩ := bcell hb1
        have hz : w.heap.size < w1.heap.size := by have := hb1.size; simp at this; omega
        have hb2 : Below w.heap.size w w1 := ((Below.refl _ _).alloc (Nat.le_refl _) _).trans (hb1.mono (by simp))
        go_wp2
        exact bodyPost_ret (v := .agg #[.string (⟨#[]⟩), .int .i64 (0), .int .i64 (3)]) (by simp [results, Tryd.results11, go_sem, hcl, hz]) rfl ⟨rfl, by go_grown⟩
      · have hn2 : 8000 < n := by omega
        clear hn
        go_enter Tryd.func11, Tryd.ntmps11
        go_wp2_with fail
        refine (hI.out _ (by rw [World.cell?_alloc_lt _ _ ⟨0, 0, none⟩ hlt]; exact hg)).mono ?_
        rintro e w1 ⟨rfl, hb1⟩
        obtain ⟨hcl, hf⟩ := bcell hb1
        have hz : w.heap.size < w1.heap.size := by have := hb1.size; simp at this; omega
        have hb2 : Below w.heap.size w w1 := ((Below.refl _ _).alloc (Nat.le_refl _) _).trans (hb1.mono (by simp))
        go_wp2
        exact bodyPost_ret (v := .agg #[.string (⟨#[]⟩), .int .i64 (0), .int .i64 (3)]) (by simp [results, Tryd.results11, go_sem, hcl, hz]) rfl ⟨rfl, by go_grown⟩
    · by_cases hend : (s.size : Int) < b + n
      · have eT : gtT s n b 0 = ⟨#[]⟩ := if_pos (by omega)
        have eA : gtA s n b 0 = 0 := if_pos (by omega)
        have eC : gtC s n b 0 = 4 := by unfold gtC; rw [if_neg (by omega), if_neg hn, if_pos hend]
        rw [eT, eA, eC]
        clear eT eA eC
        have hn1 : ¬ n < 0 := by omega
        have hn2 : ¬ 8000 < n := by omega
        have h3' : (s.size : Int) ≤ 8000 := by omega
        have h6 : (s.size : Int) - n < b := by omega
        clear hn
        go_enter Tryd.func11, Tryd.ntmps11
        go_wp2_with fail
        refine (hI.out _ (by rw [World.cell?_alloc_lt _ _ ⟨0, 0, none⟩ hlt]; exact hg)).mono ?_
        rintro e w1 ⟨rfl, hb1⟩
        obtain ⟨hcl, hf⟩ := bcell hb1
        have hz : w.heap.size < w1.heap.size := by have := hb1.size; simp at this; omega
        have hb2 : Below w.heap.size w w1 := ((Below.refl _ _).alloc (Nat.le_refl _) _).trans (hb1.mono (by simp))
        go_wp2
        exact bodyPost_ret (v := .agg #[.string (⟨#[]⟩), .int .i64 (0), .int .i64 (4)]) (by simp [results, Tryd.results11, go_sem, hcl, hz]) rfl ⟨rfl, by go_grown⟩
      · have eT : gtT s n b 0 = s.extract b.toNat (b + n).toNat := if_neg (by omega)
        have eA : gtA s n b 0 = b + n := if_neg (by omega)
        have eC : gtC s n b 0 = 0 := by unfold gtC; rw [if_neg (by omega), if_neg hn, if_neg hend]
        rw [eT, eA, eC]
        clear eT eA eC
        have hn1 : ¬ n < 0 := by omega
        have hn2 : ¬ 8000 < n := by omega
        have h3' : (s.size : Int) ≤ 8000 := by omega
        have h4 : 0 ≤ b + n := by omega
        have h5 : b ≤ b + n := by omega
        have h6 : ¬ ((s.size : Int) - n < b) := by omega
        have hsz : (s.extract b.toNat (b + n).toNat).size ≤ 1099511627776 := by simp only [ByteArray.size_extract]; omega
        clear hn
        go_enter Tryd.func11, Tryd.ntmps11
        go_wp2_with fail
        refine (hI.out _ (by rw [World.cell?_alloc_lt _ _ ⟨0, 0, none⟩ hlt]; exact hg)).mono ?_
        rintro e w1 ⟨rfl, hb1⟩
        obtain ⟨hcl, hf⟩ := bcell hb1
        have hz : w.heap.size < w1.heap.size := by have := hb1.size; simp at this; omega
        have hb2 : Below w.heap.size w w1 := ((Below.refl _ _).alloc (Nat.le_refl _) _).trans (hb1.mono (by simp))
        go_wp2_with fail
        refine (clone_any _ _ hsz).mono ?_
        rintro e w3 ⟨rfl, hb3⟩
        obtain ⟨hcl3, hf3⟩ := bcell hb3
        have hz3 : w.heap.size < w3.heap.size := by have := hb3.size; simp at this; omega
        have hz4 : w1.heap.size < w3.heap.size := by have := hb3.size; simp at this; omega
        have hb4 : Below w.heap.size w w3 := (hb2.alloc hb2.size _).trans (hb3.mono (by simp; omega))
        have hz5 : w.heap.size < w1.heap.size + 1 := by omega
        go_wp2
        exact bodyPost_ret (v := .agg #[.string (s.extract b.toNat (b + n).toNat), .int .i64 (b + n), .int .i64 (0)]) (by simp [results, Tryd.results11, go_sem, hcl3, hcl, hz, hz5]) rfl ⟨rfl, by go_grown⟩
  · have eT : gtT s n b c = ⟨#[]⟩ := if_pos (by omega)
    have eA : gtA s n b c = 0 := if_pos (by omega)
    have eC : gtC s n b c = c := if_pos hc0
    rw [eT, eA, eC]
    clear eT eA eC hat
    have hc1 : (c != 0) = true := by simpa using hc0
    go_enter Tryd.func11, Tryd.ntmps11
    go_wp2_with fail
    refine (hI.out _ (by rw [World.cell?_alloc_lt _ _ ⟨0, 0, none⟩ hlt]; exact hg)).mono ?_
    rintro e w1 ⟨rfl, hb1⟩
    obtain ⟨hcl, hf⟩ := bcell hb1
    have hz : w.heap.size < w1.heap.size := by have := hb1.size; simp at this; omega
    have hb2 : Below w.heap.size w w1 := ((Below.refl _ _).alloc (Nat.le_refl _) _).trans (hb1.mono (by simp))
    go_wp2
    exact bodyPost_ret (v := .agg #[.string (⟨#[]⟩), .int .i64 (0), .int .i64 (c)]) (by simp [results, Tryd.results11, go_sem, hcl, hz]) rfl ⟨rfl, by go_grown⟩
end Go.Proofs.YtldaebdioljnlaaDoor
