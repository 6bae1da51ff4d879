/- Proved here: small facts for walks: equal numbers return alike (no program of its own). · Proved here: the laws' own helpers over rows of numbers: a copy is new, two rows alike are alike, what is marked is held (conditions: the rows can be read, or written; at most 2^20 numbers). -/
import Derived.Test.YtjhkaideckgffaaSumMath
import Derived.Test.YtjhkaideckgffaaSlabHold
import Derived.BigRegion
import Derived.BigQuiet
import Derived.Deep.QuietTactic
import Derived.Deep.OwnRows
section
namespace Go.Proofs.Ytjhkaideckgffaa
open Go.ChangeShapes Go.WideShapes Go.ChangeAt Go.RowKit
open Go.ChangeMaps (open_string shut_string)
set_option linter.unusedVariables false

theorem ret_intS {k : IntKind} {a b : Int} (h : a = b) : Ending.returned (.int k a) = .returned (.int k b) := by rw [h]
theorem val_intS {k : IntKind} {a b : Int} (h : a = b) : Value.int k a = .int k b := by rw [h]
theorem hidS {q : Prop} (h : q) : Hid q := h
theorem w64_small {n : Nat} (h : n < 256) : wrap64 (n : Int) = n := by unfold wrap64; omega
end Go.Proofs.Ytjhkaideckgffaa
end

section
namespace Go.Proofs.Ytjhkaideckgffaa
open Go.ChangeShapes Go.WideShapes Go.ChangeAt Go.RowKit
set_option linter.unusedVariables false
set_option maxRecDepth 100000

set_option maxHeartbeats 2000000 in
theorem toInts_any (a : Option Addr) (cap : Nat) (zs : List Int) (w : World) (hR : RowZ a zs w) (hz : zs.length ≤ 1048576) :
    Calls Try.prog 28 #[.slice a zs.length cap] w fun e w' => ∃ b, e = .returned (.slice (some ⟨b, 0, none⟩) zs.length zs.length) ∧ w.heap.size ≤ b ∧ w'.heap[b]? = some (.cells (intCells zs) 2) ∧ Below w.heap.size w w' := by
  have hmk := make_ints zs.length hz w
  have HR := hidS hR
  clear hR
  have HA := hidS (heap_newG w (.cells (intCells (List.replicate zs.length 0)) 2))
  have HB := hidS ((Below.refl w.heap.size w).alloc (Nat.le_refl _) (.cells (intCells (List.replicate zs.length 0)) 2))
  go_enter Try.func28, Try.ntmps28
  go_wp2
  go_loopw [4] (fun i wr => ∃ k : Nat, i = .int .i64 (k : Int) ∧ k ≤ zs.length ∧ wr.heap[w.heap.size]? = some (.cells (intCells (partZ zs k)) 2) ∧ Below w.heap.size w wr) (fun i _ => (zs.length - (intOf i).toNat))
  case atStart => exact ⟨0, rfl, Nat.zero_le _, by rw [partZ_none]; exact HA.out, HB.out⟩
  case round =>
    obtain ⟨k, rfl, hk, hg, hb⟩ := hrel
    clear HA HB hmk
    by_cases hlt : k < zs.length
    · have hlt' : (k : Int) < (zs.length : Int) := by omega
      obtain ⟨b, o, rfl, hbl, hc⟩ := (HR.out.later hb) k hlt
      have hG := blk_cell hg
      have hF := blk_free hg
      have hs := hidS (blk_set hg k (.int .i64 (zs.getD k 0)))
      have hb2 := hidS (hb.setCell (p := ⟨w.heap.size, k, none⟩) (Nat.le_refl _) (.int .i64 (zs.getD k 0)))
      have hin : (intCells (partZ zs k))[k]? = some (.int .i64 ((partZ zs k).getD k 0)) := intCells_get _ _ (by rw [partZ_len _ _ hk]; exact hlt)
      have hk2 := hidS hk
      obtain ⟨z, hze⟩ : ∃ z, zs.getD k 0 = z := ⟨_, rfl⟩
      rw [hze] at hc hs hb2
      have HZ := hidS hze
      clear hb hg hk hze
      go_wp2
      go_roundw
      case rel => exact ⟨k + 1, by simp, by omega, by rw [hs.out, intCells_set, ← HZ.out, partZ_step zs k hlt], hb2.out⟩
      case measure => simp [intOf]; omega
    · have e : k = zs.length := by omega
      have hge : ¬ (k : Int) < (zs.length : Int) := by omega
      rw [e, partZ_all] at hg
      have HG := hidS hg
      have HB := hidS hb
      clear hg hb e hlt
      go_wp2
      go_ret
      exact ⟨_, rfl, Nat.le_refl _, HG.out, HB.out⟩
set_option maxHeartbeats 2000000 in
theorem eqInts_any (a a' : Option Addr) (cap cap' : Nat) (zs : List Int) (w : World) (hR : RowZ a zs w) (hR' : RowZ a' zs w) (hz : zs.length ≤ 1048576) :
    Calls Try.prog 35 #[.slice a zs.length cap, .slice a' zs.length cap'] w fun e w' => e = .returned (.bool true) ∧ Below w.heap.size w w' := by
  have HR := hidS hR
  have HR' := hidS hR'
  clear hR hR'
  go_enter Try.func35, Try.ntmps35
  go_wp2
  go_loopw [5] (fun i wr => ∃ k : Nat, i = .int .i64 (k : Int) ∧ k ≤ zs.length ∧ Below w.heap.size w wr) (fun i _ => (zs.length - (intOf i).toNat))
  case atStart => exact ⟨0, rfl, Nat.zero_le _, Below.refl _ _⟩
  case round =>
    obtain ⟨k, rfl, hk, hb⟩ := hrel
    by_cases hlt : k < zs.length
    · have hlt' : (k : Int) < (zs.length : Int) := by omega
      obtain ⟨b, o, rfl, hbl, hc⟩ := (HR.out.later hb) k hlt
      obtain ⟨b', o', rfl, hbl', hc'⟩ := (HR'.out.later hb) k hlt
      have hb2 := hidS hb
      generalize zs.getD k 0 = z at hc hc'
      clear hb
      go_wp2
      go_quiet (fail)
      go_wp2
      go_roundw
      case rel => exact ⟨k + 1, by simp, by omega, below_drewN hb2.out _⟩
      case measure => simp [intOf]; omega
    · have hge : ¬ (k : Int) < (zs.length : Int) := by omega
      have HB := hidS hb
      clear hb hlt
      go_wp2
      go_ret
      exact ⟨rfl, HB.out⟩
set_option maxHeartbeats 2000000 in
theorem markInts_row (b o cap : Nat) (zs : List Int) (k0 : Int) (w : World) (hR : RowB b o zs w) (hz : zs.length ≤ 1048576) (hk0 : 0 ≤ k0) (hk1 : k0 ≤ 1099511627776) :
    Calls Try.prog 44 #[.slice (some ⟨b, o, none⟩) zs.length cap, .int .i64 k0] w fun e w' => e = .returned (.int .i64 (k0 + zs.length)) ∧ RowB b o (marks k0 zs.length) w' ∧ Tch b w w' := by
  have HR := hidS hR
  clear hR
  go_enter Try.func44, Try.ntmps44
  go_wp2
  go_loopw [1, 5] (fun k i wr => ∃ j : Nat, i = .int .i64 (j : Int) ∧ k = .int .i64 (k0 + j) ∧ j ≤ zs.length ∧ RowB b o (markd zs k0 j) wr ∧ Tch b w wr) (fun _ i _ => (zs.length - (intOf i).toNat))
  case atStart => exact ⟨0, rfl, by simp, Nat.zero_le _, by rw [markd_none]; exact HR.out, Tch.refl _ _⟩
  case round =>
    obtain ⟨j, rfl, rfl, hj, hr, ht⟩ := hrel
    clear HR
    by_cases hlt : j < zs.length
    · have hlt' : (j : Int) < (zs.length : Int) := by omega
      have hs := hidS (hr.set j (k0 + j) (by rw [markd_len]; exact hlt))
      have ht2 := hidS (ht.set (o + j) (.int .i64 (k0 + j)))
      obtain ⟨cs, t, h1, h2⟩ := hr
      have hc := (blk_cell h1 (o + j)).trans (h2 j (by rw [markd_len]; exact hlt))
      have hf := blk_free h1 (o + j)
      clear h1 h2 ht
      go_wp2
      go_roundw
      case rel => exact ⟨j + 1, by simp, by simp; omega, by omega, by rw [← markd_step zs k0 j hlt]; exact hs.out, ht2.out⟩
      case measure => simp [intOf]; omega
    · have e : j = zs.length := by omega
      have hge : ¬ (j : Int) < (zs.length : Int) := by omega
      subst e
      rw [markd_all] at hr
      have HG := hidS hr
      have HT := hidS ht
      clear hr ht hlt hj
      go_wp2
      go_ret
      exact ⟨rfl, HG.out, HT.out⟩
theorem markInts_nil (a : Option Addr) (cap : Nat) (k0 : Int) (w : World) :
    Calls Try.prog 44 #[.slice a 0 cap, .int .i64 k0] w fun e w' => e = .returned (.int .i64 k0) ∧ w' = w := by
  go_enter Try.func44, Try.ntmps44
  go_wp2
  go_loopw [1, 5] (fun k i wr => k = .int .i64 k0 ∧ i = .int .i64 0 ∧ wr = w) (fun _ _ _ => 0)
  case atStart => exact ⟨rfl, rfl, rfl⟩
  case round =>
    obtain ⟨rfl, rfl, rfl⟩ := hrel
    go_wp2
    go_ret
    exact ⟨rfl, rfl⟩
set_option maxHeartbeats 2000000 in
theorem heldInts_any (a : Option Addr) (cap n : Nat) (k0 : Int) (w : World) (hR : RowZ a (marks k0 n) w) (hz : n ≤ 1048576) (hk0 : 0 ≤ k0) (hk1 : k0 ≤ 1099511627776) :
    Calls Try.prog 63 #[.slice a n cap, .int .i64 k0] w fun e w' => e = .returned (.int .i64 (k0 + n)) ∧ w' = w := by
  have HR := hidS hR
  clear hR
  go_enter Try.func63, Try.ntmps63
  go_wp2
  go_loopw [1, 5] (fun k i wr => ∃ j : Nat, i = .int .i64 (j : Int) ∧ k = .int .i64 (k0 + j) ∧ j ≤ n ∧ wr = w) (fun _ i _ => (n - (intOf i).toNat))
  case atStart => exact ⟨0, rfl, by simp, Nat.zero_le _, rfl⟩
  case round =>
    obtain ⟨j, rfl, rfl, hj, rfl⟩ := hrel
    by_cases hlt : j < n
    · have hlt' : (j : Int) < (n : Int) := by omega
      obtain ⟨b, o, rfl, hbl, hc⟩ := HR.out j (by rw [marks_len]; exact hlt)
      rw [marks_get _ _ _ hlt] at hc
      go_wp2
      go_roundw
      case rel => exact ⟨j + 1, by simp, by simp; omega, by omega, by first | rfl | trivial⟩
      case measure => simp [intOf]; omega
    · have e : j = n := by omega
      have hge : ¬ (j : Int) < (n : Int) := by omega
      subst e
      go_wp2
      go_ret
      exact ⟨rfl, rfl⟩
theorem szInts_any (a : Option Addr) (n cap : Nat) (k : Int) (w : World) (h : n ≤ 9223372036854775807) (h0 : 0 ≤ k) (h1 : k ≤ 1048576) :
    Calls Try.prog 24 #[.slice a n cap, .int .i64 k] w fun e w' => e = .returned (.int .i64 (if k < (n : Int) then -1 else k - n)) ∧ w' = w := by
  by_cases hk : k < (n : Int)
  · rw [if_pos hk]
    go_enter Try.func24, Try.ntmps24
    go_wp2
    go_ret
    exact ⟨rfl, rfl⟩
  · rw [if_neg hk]
    go_enter Try.func24, Try.ntmps24
    go_wp2
    go_ret
    exact ⟨rfl, rfl⟩
end Go.Proofs.Ytjhkaideckgffaa
end
