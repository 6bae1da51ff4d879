/- Proved here: the laws' markSlab marks a slab's own rows, and turns no other memory that was there (conditions: its rows are its own, in two blocks; at most 2^20 numbers). · Proved here: spec.l02Is answers whether a number lies between two, and leaves memory alone (no conditions). -/
import Derived.Test.YtjhkaideckgffaaLawsSlab2
import Derived.Test.YtjhkaideckgffaaAll6
section
namespace Go.Proofs.Ytjhkaideckgffaa
open Go.ChangeShapes Go.WideShapes Go.ChangeAt Go.RowKit
set_option linter.unusedVariables false
set_option linter.unusedSimpArgs false
set_option maxRecDepth 100000

/-- what marking a row does -/
def Markd (a : Option Addr) (n : Nat) (k0 : Int) (w w' : World) : Prop := n = 0 ∧ w' = w ∨ n ≠ 0 ∧ ∃ b o, a = some ⟨b, o, none⟩ ∧ RowB b o (marks k0 n) w' ∧ Tch b w w'
theorem markSlots_own (a : Option Addr) (cap n : Nat) (zs : List Int) (k0 : Int) (w : World) (hR : zs = [] ∨ ∃ b o, a = some ⟨b, o, none⟩ ∧ RowB b o zs w) (hn : zs.length = 4 * n) (hz : n ≤ 1048576) (hk0 : 0 ≤ k0) (hk1 : k0 ≤ 1099511627776) :
    Calls Try.prog 43 #[.slice a n cap, .int .i64 k0] w fun e w' => e = .returned (.int .i64 (k0 + 4 * n)) ∧ Markd a (4 * n) k0 w w' := by
  by_cases hn0 : n = 0
  · subst hn0
    refine (markSlots_nil a cap k0 w).mono ?_
    rintro e w' ⟨rfl, rfl⟩
    exact ⟨by simp, .inl ⟨rfl, rfl⟩⟩
  · rcases hR with rfl | ⟨b, o, rfl, hr⟩
    · simp at hn; omega
    · refine (markSlots_row b o cap n zs k0 w hr hn hz hk0 hk1).mono ?_
      rintro e w' ⟨rfl, h1, h2⟩
      exact ⟨rfl, .inr ⟨by omega, b, o, rfl, h1, h2⟩⟩
theorem markInts_own (a : Option Addr) (cap : Nat) (zs : List Int) (k0 : Int) (w : World) (hR : zs = [] ∨ ∃ b o, a = some ⟨b, o, none⟩ ∧ RowB b o zs w) (hz : zs.length ≤ 1048576) (hk0 : 0 ≤ k0) (hk1 : k0 ≤ 1099511627776) :
    Calls Try.prog 44 #[.slice a zs.length cap, .int .i64 k0] w fun e w' => e = .returned (.int .i64 (k0 + zs.length)) ∧ Markd a zs.length k0 w w' := by
  by_cases hn0 : zs = []
  · subst hn0
    refine (markInts_nil a cap k0 w).mono ?_
    rintro e w' ⟨rfl, rfl⟩
    exact ⟨by simp, .inl ⟨rfl, rfl⟩⟩
  · rcases hR with e | ⟨b, o, rfl, hr⟩
    · exact (hn0 e).elim
    · refine (markInts_row b o cap zs k0 w hr hz hk0 hk1).mono ?_
      rintro e w' ⟨rfl, h1, h2⟩
      exact ⟨rfl, .inr ⟨by intro h; exact hn0 (List.length_eq_zero_iff.1 h), b, o, rfl, h1, h2⟩⟩
set_option maxHeartbeats 2000000 in
theorem markSlab_any (lo hi : Nat) (aS aH : Option Addr) (cS cH : Nat) (s : Slb) (k0 : Int) (w : World) (hO : SlabO lo hi aS aH s w) (hhi : hi ≤ w.heap.size) (h1 : s.slots.length ≤ 1048576) (h2 : s.heads.length ≤ 1048576) (hk0 : 0 ≤ k0) (hk1 : k0 ≤ 1073741824) :
    Calls Try.prog 16 #[.agg #[.slice aS s.slots.length cS, .slice aH s.heads.length cH], .int .i64 k0] w fun e w' => e = .returned (.int .i64 (k0 + 4 * s.slots.length + s.heads.length)) ∧ OwnR lo hi aS (marks k0 (4 * s.slots.length)) w' ∧ OwnR lo hi aH (marks (k0 + 4 * s.slots.length) s.heads.length) w' ∧ Mid lo hi w w' := by
  have HO := hidS hO
  clear hO
  have hA0 := hidS (heap_newG w (.cells #[.slice aS s.slots.length cS, .slice aH s.heads.length cH] 32))
  have hM0 : Hid (Mid lo hi w (w.alloc (.cells #[.slice aS s.slots.length cS, .slice aH s.heads.length cH] 32))) := hidS (Below.mid ((Below.refl w.heap.size w).alloc (Nat.le_refl _) (.cells #[.slice aS s.slots.length cS, .slice aH s.heads.length cH] 32)))
  have hb0 := hidS ((Below.refl w.heap.size w).alloc (Nat.le_refl _) (.cells #[.slice aS s.slots.length cS, .slice aH s.heads.length cH] 32))
  have hS0 : Hid (flat s.slots = [] ∨ ∃ b o, aS = some ⟨b, o, none⟩ ∧ RowB b o (flat s.slots) (w.alloc (.cells #[.slice aS s.slots.length cS, .slice aH s.heads.length cH] 32))) := hidS (by
    rcases (HO.out.slots.later hb0.out) with e | ⟨b, o, e, _, _, hr⟩
    · exact .inl e
    · exact .inr ⟨b, o, e, hr⟩)
  go_enter Try.func16, Try.ntmps16
  go_wp2_with fail
  generalize w.alloc (.cells #[.slice aS s.slots.length cS, .slice aH s.heads.length cH] 32) = w0 at hA0 hM0 hb0 hS0 ⊢
  refine (markSlots_own aS cS s.slots.length (flat s.slots) k0 w0 hS0.out (flat_len _) h1 hk0 (by omega)).mono ?_
  rintro _ w1 ⟨rfl, hm1⟩
  -- what the first marking leaves
  have key : Hid (w1.heap[w.heap.size]? = some (.cells #[.slice aS s.slots.length cS, .slice aH s.heads.length cH] 32) ∧ OwnR lo hi aS (marks k0 (4 * s.slots.length)) w1 ∧ OwnR lo hi aH s.heads w1 ∧ Mid lo hi w w1 ∧ w.heap.size < w1.heap.size) := by
    show _ ∧ _
    rcases hm1 with ⟨e, rfl⟩ | ⟨hne, b, o, e, hr, ht⟩
    · exact ⟨hA0.out, .inl (by rw [e]; rfl), HO.out.heads.later hb0.out, hM0.out, blk_lt hA0.out⟩
    · by_cases hn : s.slots = []
      · rw [hn] at hne; exact (hne rfl).elim
      · rcases HO.out.slots with e2 | ⟨b2, o2, e2, l1, l2, hr2⟩
        · exact (hn (flat_inj (a := s.slots) (b := []) e2)).elim
        · rw [e] at e2
          injection e2 with e2; injection e2 with e3 e4
          subst e3 e4
          refine ⟨(ht.block _ (blk_lt hA0.out) (by omega)).trans hA0.out, .inr ⟨b, o, e, l1, l2, hr⟩, ?_, hM0.out.trans (ht.mid l1 l2), Nat.lt_of_lt_of_le (blk_lt hA0.out) ht.size⟩
          rcases HO.out.heads.later hb0.out with e5 | ⟨c, p, e5, l3, l4, hr5⟩
          · exact .inl e5
          · by_cases hh : s.heads = []
            · exact .inl hh
            · exact .inr ⟨c, p, e5, l3, l4, hr5.touch ht (fun q => HO.out.two b o c p e e5 hn hh q.symm)⟩
  clear hm1 hA0 hM0 hb0 hS0
  obtain ⟨hA1, hS1, hH1, hM1, lt1⟩ := key.out
  have HS1 := hidS hS1
  have HH1 := hidS hH1
  have HM1 := hidS hM1
  have a1 := blk_cell hA1 1
  simp at a1
  clear key hS1 hH1 hM1 hA1
  go_wp2_with fail
  refine (markInts_own aH cH s.heads (k0 + 4 * s.slots.length) w1 (by
    rcases HH1.out with e | ⟨b, o, e, _, _, hr⟩
    · exact .inl e
    · exact .inr ⟨b, o, e, hr⟩) h2 (by omega) (by omega)).mono ?_
  rintro _ w2 ⟨rfl, hm2⟩
  have key : Hid (OwnR lo hi aS (marks k0 (4 * s.slots.length)) w2 ∧ OwnR lo hi aH (marks (k0 + 4 * s.slots.length) s.heads.length) w2 ∧ Mid lo hi w w2) := by
    show _ ∧ _
    rcases hm2 with ⟨e, rfl⟩ | ⟨hne, c, p, e, hr, ht⟩
    · exact ⟨HS1.out, .inl (by rw [e]; rfl), HM1.out⟩
    · have hh : s.heads ≠ [] := fun q => hne (by rw [q]; rfl)
      rcases HH1.out with e2 | ⟨c2, p2, e2, l3, l4, hr2⟩
      · exact (hh e2).elim
      · rw [e] at e2
        injection e2 with e2; injection e2 with e3 e4
        subst e3 e4
        refine ⟨?_, .inr ⟨c, p, e, l3, l4, hr⟩, HM1.out.trans (ht.mid l3 l4)⟩
        rcases HS1.out with e5 | ⟨b, o, e5, l1, l2, hr5⟩
        · exact .inl e5
        · by_cases hn : s.slots = []
          · exact .inl (by rw [hn]; rfl)
          · exact .inr ⟨b, o, e5, l1, l2, hr5.touch ht (fun q => HO.out.two b o c p e5 e hn hh q)⟩
  clear hm2 HS1 HH1 HM1 HO a1
  go_wp2_with fail
  go_ret
  exact ⟨rfl, key.out⟩
end Go.Proofs.Ytjhkaideckgffaa
end

section
namespace Go.Proofs.Ytjhkaideckgffaa
open Go.ChangeShapes Go.WideShapes Go.ChangeAt Go.RowKit
open Go.ChangeMaps (open_string shut_string)
set_option linter.unusedVariables false

theorem l02Is_any (n lo hi : Int) (w : World) :
    Calls Try.prog 49 #[.int .i64 n, .int .i64 lo, .int .i64 hi] w fun e w' => e = .returned (.bool (decide (lo ≤ n) && decide (n ≤ hi))) ∧ w' = w := by
  by_cases h1 : lo ≤ n
  · by_cases h2 : n ≤ hi
    · go_enter Try.func49, Try.ntmps49
      go_wp2
      go_ret
      exact ⟨by simp [h1, h2], rfl⟩
    · go_enter Try.func49, Try.ntmps49
      go_wp2
      go_ret
      exact ⟨by simp [h2], rfl⟩
  · go_enter Try.func49, Try.ntmps49
    go_wp2
    go_ret
    exact ⟨by simp; omega, rfl⟩
end Go.Proofs.Ytjhkaideckgffaa
end
