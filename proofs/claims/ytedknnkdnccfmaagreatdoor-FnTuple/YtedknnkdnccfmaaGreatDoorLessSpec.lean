/- Proved here: spec.TupleLess answers whether a tuple is ahead of another one; all old memory stays (no conditions). -/
import Derived.Test.YtedknnkdnccfmaaGreatDoorLessMath
import Derived.Test.YtedknnkdnccfmaaGreatDoorAll33
import Derived.Test.YtedknnkdnccfmaaGreatDoorAll4
import Derived.Deep.Cut
import Derived.BigQuiet
import Derived.Deep.QuietTactic
import Derived.WalkSmall
namespace Go.Proofs.YtedknnkdnccfmaaGreatDoor
open Go.ChangeShapes Go.WideShapes Go.ChangeAt Go.RowKit
set_option linter.unusedVariables false
set_option maxRecDepth 100000

/-- six numbers lie there -/
def NumsAt (g : Nat) (xs : List Int) (W : World) : Prop := ∀ j, (h : j < xs.length) → W.cell? ⟨g, j, none⟩ = some (.int .i64 xs[j])
theorem nums_blk {W : World} {g : Nat} {xs : List Int} {t : TypeId} (h : W.heap[g]? = some (.cells (xs.map fun x => Value.int .i64 x).toArray t)) : NumsAt g xs W := fun j hj => by
  rw [blk_cell h j]; simp [hj]
theorem NumsAt.same {g : Nat} {xs : List Int} {W W' : World} (h : NumsAt g xs W) (e : ∀ p, W'.cell? p = W.cell? p) : NumsAt g xs W' := fun j hj => (e _).trans (h j hj)

set_option maxHeartbeats 2000000 in
theorem l04Less_any (a b : Tp) (w : World) :
    Calls Tryz.prog 78 #[.agg #[.int .i64 a.proto, .int .i64 a.src, .int .i64 a.sport, .int .i64 a.dst, .int .i64 a.dport, .int .i64 a.kind], .agg #[.int .i64 b.proto, .int .i64 b.src, .int .i64 b.sport, .int .i64 b.dst, .int .i64 b.dport, .int .i64 b.kind]] w fun e w' => e = .returned (.bool (lessT a b)) ∧ Below w.heap.size w w' := by
  rw [← lessT_nums]
  have hGA0 : Hid (((((w.alloc (.cells #[.int .i64 a.proto, .int .i64 a.src, .int .i64 a.sport, .int .i64 a.dst, .int .i64 a.dport, .int .i64 a.kind] 40)).alloc (.cells #[.int .i64 b.proto, .int .i64 b.src, .int .i64 b.sport, .int .i64 b.dst, .int .i64 b.dport, .int .i64 b.kind] 40)).alloc (.cells #[.int .i64 a.proto, .int .i64 a.src, .int .i64 a.sport, .int .i64 a.dst, .int .i64 a.dport, .int .i64 a.kind] 2)).alloc (.cells #[.int .i64 b.proto, .int .i64 b.src, .int .i64 b.sport, .int .i64 b.dst, .int .i64 b.dport, .int .i64 b.kind] 2)).heap[w.heap.size]? = some (.cells #[.int .i64 a.proto, .int .i64 a.src, .int .i64 a.sport, .int .i64 a.dst, .int .i64 a.dport, .int .i64 a.kind] 40)) := by
    show _ = _
    have := blk_alloc (blk_alloc (blk_alloc (heap_newG w (.cells #[.int .i64 a.proto, .int .i64 a.src, .int .i64 a.sport, .int .i64 a.dst, .int .i64 a.dport, .int .i64 a.kind] 40)) (.cells #[.int .i64 b.proto, .int .i64 b.src, .int .i64 b.sport, .int .i64 b.dst, .int .i64 b.dport, .int .i64 b.kind] 40)) (.cells #[.int .i64 a.proto, .int .i64 a.src, .int .i64 a.sport, .int .i64 a.dst, .int .i64 a.dport, .int .i64 a.kind] 2)) (.cells #[.int .i64 b.proto, .int .i64 b.src, .int .i64 b.sport, .int .i64 b.dst, .int .i64 b.dport, .int .i64 b.kind] 2)
    simpa using this
  have hGB0 : Hid (((((w.alloc (.cells #[.int .i64 a.proto, .int .i64 a.src, .int .i64 a.sport, .int .i64 a.dst, .int .i64 a.dport, .int .i64 a.kind] 40)).alloc (.cells #[.int .i64 b.proto, .int .i64 b.src, .int .i64 b.sport, .int .i64 b.dst, .int .i64 b.dport, .int .i64 b.kind] 40)).alloc (.cells #[.int .i64 a.proto, .int .i64 a.src, .int .i64 a.sport, .int .i64 a.dst, .int .i64 a.dport, .int .i64 a.kind] 2)).alloc (.cells #[.int .i64 b.proto, .int .i64 b.src, .int .i64 b.sport, .int .i64 b.dst, .int .i64 b.dport, .int .i64 b.kind] 2)).heap[w.heap.size + 1]? = some (.cells #[.int .i64 b.proto, .int .i64 b.src, .int .i64 b.sport, .int .i64 b.dst, .int .i64 b.dport, .int .i64 b.kind] 40)) := by
    show _ = _
    have := blk_alloc (blk_alloc (heap_newG (w.alloc (.cells #[.int .i64 a.proto, .int .i64 a.src, .int .i64 a.sport, .int .i64 a.dst, .int .i64 a.dport, .int .i64 a.kind] 40)) (.cells #[.int .i64 b.proto, .int .i64 b.src, .int .i64 b.sport, .int .i64 b.dst, .int .i64 b.dport, .int .i64 b.kind] 40)) (.cells #[.int .i64 a.proto, .int .i64 a.src, .int .i64 a.sport, .int .i64 a.dst, .int .i64 a.dport, .int .i64 a.kind] 2)) (.cells #[.int .i64 b.proto, .int .i64 b.src, .int .i64 b.sport, .int .i64 b.dst, .int .i64 b.dport, .int .i64 b.kind] 2)
    simpa using this
  have hGX0 : Hid (((((w.alloc (.cells #[.int .i64 a.proto, .int .i64 a.src, .int .i64 a.sport, .int .i64 a.dst, .int .i64 a.dport, .int .i64 a.kind] 40)).alloc (.cells #[.int .i64 b.proto, .int .i64 b.src, .int .i64 b.sport, .int .i64 b.dst, .int .i64 b.dport, .int .i64 b.kind] 40)).alloc (.cells #[.int .i64 a.proto, .int .i64 a.src, .int .i64 a.sport, .int .i64 a.dst, .int .i64 a.dport, .int .i64 a.kind] 2)).alloc (.cells #[.int .i64 b.proto, .int .i64 b.src, .int .i64 b.sport, .int .i64 b.dst, .int .i64 b.dport, .int .i64 b.kind] 2)).heap[w.heap.size + 2]? = some (.cells #[.int .i64 a.proto, .int .i64 a.src, .int .i64 a.sport, .int .i64 a.dst, .int .i64 a.dport, .int .i64 a.kind] 2)) := by
    show _ = _
    have := blk_alloc (heap_newG ((w.alloc (.cells #[.int .i64 a.proto, .int .i64 a.src, .int .i64 a.sport, .int .i64 a.dst, .int .i64 a.dport, .int .i64 a.kind] 40)).alloc (.cells #[.int .i64 b.proto, .int .i64 b.src, .int .i64 b.sport, .int .i64 b.dst, .int .i64 b.dport, .int .i64 b.kind] 40)) (.cells #[.int .i64 a.proto, .int .i64 a.src, .int .i64 a.sport, .int .i64 a.dst, .int .i64 a.dport, .int .i64 a.kind] 2)) (.cells #[.int .i64 b.proto, .int .i64 b.src, .int .i64 b.sport, .int .i64 b.dst, .int .i64 b.dport, .int .i64 b.kind] 2)
    simpa using this
  have hGY0 : Hid (((((w.alloc (.cells #[.int .i64 a.proto, .int .i64 a.src, .int .i64 a.sport, .int .i64 a.dst, .int .i64 a.dport, .int .i64 a.kind] 40)).alloc (.cells #[.int .i64 b.proto, .int .i64 b.src, .int .i64 b.sport, .int .i64 b.dst, .int .i64 b.dport, .int .i64 b.kind] 40)).alloc (.cells #[.int .i64 a.proto, .int .i64 a.src, .int .i64 a.sport, .int .i64 a.dst, .int .i64 a.dport, .int .i64 a.kind] 2)).alloc (.cells #[.int .i64 b.proto, .int .i64 b.src, .int .i64 b.sport, .int .i64 b.dst, .int .i64 b.dport, .int .i64 b.kind] 2)).heap[w.heap.size + 3]? = some (.cells #[.int .i64 b.proto, .int .i64 b.src, .int .i64 b.sport, .int .i64 b.dst, .int .i64 b.dport, .int .i64 b.kind] 2)) := by
    show _ = _
    have := heap_newG (((w.alloc (.cells #[.int .i64 a.proto, .int .i64 a.src, .int .i64 a.sport, .int .i64 a.dst, .int .i64 a.dport, .int .i64 a.kind] 40)).alloc (.cells #[.int .i64 b.proto, .int .i64 b.src, .int .i64 b.sport, .int .i64 b.dst, .int .i64 b.dport, .int .i64 b.kind] 40)).alloc (.cells #[.int .i64 a.proto, .int .i64 a.src, .int .i64 a.sport, .int .i64 a.dst, .int .i64 a.dport, .int .i64 a.kind] 2)) (.cells #[.int .i64 b.proto, .int .i64 b.src, .int .i64 b.sport, .int .i64 b.dst, .int .i64 b.dport, .int .i64 b.kind] 2)
    simpa using this
  have hL0 := hidS (((((Below.refl w.heap.size w).alloc (Nat.le_refl _) (.cells #[.int .i64 a.proto, .int .i64 a.src, .int .i64 a.sport, .int .i64 a.dst, .int .i64 a.dport, .int .i64 a.kind] 40)).alloc (by simp) (.cells #[.int .i64 b.proto, .int .i64 b.src, .int .i64 b.sport, .int .i64 b.dst, .int .i64 b.dport, .int .i64 b.kind] 40)).alloc (by simp; omega) (.cells #[.int .i64 a.proto, .int .i64 a.src, .int .i64 a.sport, .int .i64 a.dst, .int .i64 a.dport, .int .i64 a.kind] 2)).alloc (by simp; omega) (.cells #[.int .i64 b.proto, .int .i64 b.src, .int .i64 b.sport, .int .i64 b.dst, .int .i64 b.dport, .int .i64 b.kind] 2))
  have hX0 : Hid (NumsAt (w.heap.size + 2) (numsT a) ((((w.alloc (.cells #[.int .i64 a.proto, .int .i64 a.src, .int .i64 a.sport, .int .i64 a.dst, .int .i64 a.dport, .int .i64 a.kind] 40)).alloc (.cells #[.int .i64 b.proto, .int .i64 b.src, .int .i64 b.sport, .int .i64 b.dst, .int .i64 b.dport, .int .i64 b.kind] 40)).alloc (.cells #[.int .i64 a.proto, .int .i64 a.src, .int .i64 a.sport, .int .i64 a.dst, .int .i64 a.dport, .int .i64 a.kind] 2)).alloc (.cells #[.int .i64 b.proto, .int .i64 b.src, .int .i64 b.sport, .int .i64 b.dst, .int .i64 b.dport, .int .i64 b.kind] 2))) := nums_blk hGX0.out
  have hY0 : Hid (NumsAt (w.heap.size + 3) (numsT b) ((((w.alloc (.cells #[.int .i64 a.proto, .int .i64 a.src, .int .i64 a.sport, .int .i64 a.dst, .int .i64 a.dport, .int .i64 a.kind] 40)).alloc (.cells #[.int .i64 b.proto, .int .i64 b.src, .int .i64 b.sport, .int .i64 b.dst, .int .i64 b.dport, .int .i64 b.kind] 40)).alloc (.cells #[.int .i64 a.proto, .int .i64 a.src, .int .i64 a.sport, .int .i64 a.dst, .int .i64 a.dport, .int .i64 a.kind] 2)).alloc (.cells #[.int .i64 b.proto, .int .i64 b.src, .int .i64 b.sport, .int .i64 b.dst, .int .i64 b.dport, .int .i64 b.kind] 2))) := nums_blk hGY0.out
  have hla : (numsT a).length = 6 := rfl
  have hlb : (numsT b).length = 6 := rfl
  clear hGA0 hGB0 hGX0 hGY0
  generalize numsT a = xs at *
  generalize numsT b = ys at *
  go_enter Tryz.func78, Tryz.ntmps78
  go_wp2
  generalize ((((w.alloc (.cells #[.int .i64 a.proto, .int .i64 a.src, .int .i64 a.sport, .int .i64 a.dst, .int .i64 a.dport, .int .i64 a.kind] 40)).alloc (.cells #[.int .i64 b.proto, .int .i64 b.src, .int .i64 b.sport, .int .i64 b.dst, .int .i64 b.dport, .int .i64 b.kind] 40)).alloc (.cells #[.int .i64 a.proto, .int .i64 a.src, .int .i64 a.sport, .int .i64 a.dst, .int .i64 a.dport, .int .i64 a.kind] 2)).alloc (.cells #[.int .i64 b.proto, .int .i64 b.src, .int .i64 b.sport, .int .i64 b.dst, .int .i64 b.dport, .int .i64 b.kind] 2)) = W0 at hX0 hY0 hL0 ⊢
  go_loopw [7] (fun i wr => ∃ k : Nat, k ≤ 6 ∧ i = .int .i64 k ∧ Hid (xs.take k = ys.take k) ∧ Hid (NumsAt (w.heap.size + 2) xs wr) ∧ Hid (NumsAt (w.heap.size + 3) ys wr) ∧ Hid (Below w.heap.size w wr)) (fun i _ => 6 - (intOf i).toNat)
  case atStart => exact ⟨0, by omega, rfl, rfl, hX0, hY0, hL0⟩
  case round =>
    obtain ⟨k, hk, rfl, hE, hX, hY, hL⟩ := hrel
    clear hX0 hY0 hL0
    by_cases h : k < 6
    · have h' : (k : Int) < 6 := by omega
      have kx : k < xs.length := by omega
      have ky : k < ys.length := by omega
      have cx := hX.out k kx
      have cy := hY.out k ky
      by_cases e : xs[k] = ys[k]
      · have hE1 := hidS (take_succ_same kx ky hE.out e)
        have e' : (xs[k] != ys[k]) = false := by simp [e]
        clear e hE
        generalize xs[k] = x at *
        generalize ys[k] = y at *
        go_wp2_with fail
        go_quiet (fail)
        go_wp2_with fail
        go_roundw
        case rel => exact ⟨k + 1, by omega, by go_num, hE1, hX.out.same (by simp), hY.out.same (by simp), below_drewN hL.out nq⟩
        case measure => simp [intOf]; omega
      · have hR := hidS (lessL_at xs ys k kx ky hE.out e)
        have e' : (xs[k] != ys[k]) = true := by simp [e]
        clear e hE
        generalize xs[k] = x at *
        generalize ys[k] = y at *
        go_wp2_with fail
        go_quiet (fail)
        go_wp2_with fail
        go_quiet (fail)
        go_wp2_with fail
        go_ret
        exact ⟨by rw [hR.out]; rfl, below_drewN (below_drewN hL.out _) _⟩
    · have hR : Hid (lessL xs ys = false) := by
        have := hE.out
        rw [List.take_of_length_le (by omega), List.take_of_length_le (by omega)] at this
        rw [this]
        exact lessL_same ys
      clear hE
      have h' : ¬ (k : Int) < 6 := by omega
      go_wp2_with fail
      go_ret
      exact ⟨by rw [hR.out]; rfl, hL.out⟩

set_option maxHeartbeats 2000000 in
theorem specLess_any (a b : Tp) (w : World) :
    Calls Tryz.prog 32 #[.agg #[.int .i64 a.proto, .int .i64 a.src, .int .i64 a.sport, .int .i64 a.dst, .int .i64 a.dport, .int .i64 a.kind], .agg #[.int .i64 b.proto, .int .i64 b.src, .int .i64 b.sport, .int .i64 b.dst, .int .i64 b.dport, .int .i64 b.kind]] w fun e w' => e = .returned (.bool (lessAns a b)) ∧ Below w.heap.size w w' := by
  have HA := hidS (fun W => specTRight_any a W)
  have HB := hidS (fun W => specTRight_any b W)
  have HL := hidS (fun W => l04Less_any a b W)
  unfold lessAns
  generalize lessT a b = l at *
  cases ha : rightT a
  · have hGA0 : Hid (((w.alloc (.cells #[.int .i64 a.proto, .int .i64 a.src, .int .i64 a.sport, .int .i64 a.dst, .int .i64 a.dport, .int .i64 a.kind] 40)).alloc (.cells #[.int .i64 b.proto, .int .i64 b.src, .int .i64 b.sport, .int .i64 b.dst, .int .i64 b.dport, .int .i64 b.kind] 40)).heap[w.heap.size]? = some (.cells #[.int .i64 a.proto, .int .i64 a.src, .int .i64 a.sport, .int .i64 a.dst, .int .i64 a.dport, .int .i64 a.kind] 40)) := by
      show _ = _
      have := blk_alloc (heap_newG w (.cells #[.int .i64 a.proto, .int .i64 a.src, .int .i64 a.sport, .int .i64 a.dst, .int .i64 a.dport, .int .i64 a.kind] 40)) (.cells #[.int .i64 b.proto, .int .i64 b.src, .int .i64 b.sport, .int .i64 b.dst, .int .i64 b.dport, .int .i64 b.kind] 40)
      simpa using this
    have hGB0 : Hid (((w.alloc (.cells #[.int .i64 a.proto, .int .i64 a.src, .int .i64 a.sport, .int .i64 a.dst, .int .i64 a.dport, .int .i64 a.kind] 40)).alloc (.cells #[.int .i64 b.proto, .int .i64 b.src, .int .i64 b.sport, .int .i64 b.dst, .int .i64 b.dport, .int .i64 b.kind] 40)).heap[w.heap.size + 1]? = some (.cells #[.int .i64 b.proto, .int .i64 b.src, .int .i64 b.sport, .int .i64 b.dst, .int .i64 b.dport, .int .i64 b.kind] 40)) := by
      show _ = _
      have := heap_newG (w.alloc (.cells #[.int .i64 a.proto, .int .i64 a.src, .int .i64 a.sport, .int .i64 a.dst, .int .i64 a.dport, .int .i64 a.kind] 40)) (.cells #[.int .i64 b.proto, .int .i64 b.src, .int .i64 b.sport, .int .i64 b.dst, .int .i64 b.dport, .int .i64 b.kind] 40)
      simpa using this
    have hL0 := hidS (((Below.refl w.heap.size w).alloc (Nat.le_refl _) (.cells #[.int .i64 a.proto, .int .i64 a.src, .int .i64 a.sport, .int .i64 a.dst, .int .i64 a.dport, .int .i64 a.kind] 40)).alloc (by simp) (.cells #[.int .i64 b.proto, .int .i64 b.src, .int .i64 b.sport, .int .i64 b.dst, .int .i64 b.dport, .int .i64 b.kind] 40))
    go_enter Tryz.func32, Tryz.ntmps32
    go_wp2_with fail
    refine (HA.out _).mono ?_
    rintro _ w1 ⟨rfl, hb1⟩
    have hGA1 := hidS (blk_later hGA0.out hb1)
    have hGB1 := hidS (blk_later hGB0.out hb1)
    have hL1 := hidS (hL0.out.trans (hb1.mono hL0.out.size))
    clear hb1 hL0 hGA0 hGB0
    rw [ha]
    go_wp2_with fail
    go_ret
    exact ⟨rfl, hL1.out⟩
  cases hb : rightT b
  · have hGA0 : Hid (((w.alloc (.cells #[.int .i64 a.proto, .int .i64 a.src, .int .i64 a.sport, .int .i64 a.dst, .int .i64 a.dport, .int .i64 a.kind] 40)).alloc (.cells #[.int .i64 b.proto, .int .i64 b.src, .int .i64 b.sport, .int .i64 b.dst, .int .i64 b.dport, .int .i64 b.kind] 40)).heap[w.heap.size]? = some (.cells #[.int .i64 a.proto, .int .i64 a.src, .int .i64 a.sport, .int .i64 a.dst, .int .i64 a.dport, .int .i64 a.kind] 40)) := by
      show _ = _
      have := blk_alloc (heap_newG w (.cells #[.int .i64 a.proto, .int .i64 a.src, .int .i64 a.sport, .int .i64 a.dst, .int .i64 a.dport, .int .i64 a.kind] 40)) (.cells #[.int .i64 b.proto, .int .i64 b.src, .int .i64 b.sport, .int .i64 b.dst, .int .i64 b.dport, .int .i64 b.kind] 40)
      simpa using this
    have hGB0 : Hid (((w.alloc (.cells #[.int .i64 a.proto, .int .i64 a.src, .int .i64 a.sport, .int .i64 a.dst, .int .i64 a.dport, .int .i64 a.kind] 40)).alloc (.cells #[.int .i64 b.proto, .int .i64 b.src, .int .i64 b.sport, .int .i64 b.dst, .int .i64 b.dport, .int .i64 b.kind] 40)).heap[w.heap.size + 1]? = some (.cells #[.int .i64 b.proto, .int .i64 b.src, .int .i64 b.sport, .int .i64 b.dst, .int .i64 b.dport, .int .i64 b.kind] 40)) := by
      show _ = _
      have := heap_newG (w.alloc (.cells #[.int .i64 a.proto, .int .i64 a.src, .int .i64 a.sport, .int .i64 a.dst, .int .i64 a.dport, .int .i64 a.kind] 40)) (.cells #[.int .i64 b.proto, .int .i64 b.src, .int .i64 b.sport, .int .i64 b.dst, .int .i64 b.dport, .int .i64 b.kind] 40)
      simpa using this
    have hL0 := hidS (((Below.refl w.heap.size w).alloc (Nat.le_refl _) (.cells #[.int .i64 a.proto, .int .i64 a.src, .int .i64 a.sport, .int .i64 a.dst, .int .i64 a.dport, .int .i64 a.kind] 40)).alloc (by simp) (.cells #[.int .i64 b.proto, .int .i64 b.src, .int .i64 b.sport, .int .i64 b.dst, .int .i64 b.dport, .int .i64 b.kind] 40))
    go_enter Tryz.func32, Tryz.ntmps32
    go_wp2_with fail
    refine (HA.out _).mono ?_
    rintro _ w1 ⟨rfl, hb1⟩
    have hGA1 := hidS (blk_later hGA0.out hb1)
    have hGB1 := hidS (blk_later hGB0.out hb1)
    have hL1 := hidS (hL0.out.trans (hb1.mono hL0.out.size))
    clear hb1 hL0 hGA0 hGB0
    rw [ha]
    have cB0 := blk_cell hGB1.out 0
    have cB1 := blk_cell hGB1.out 1
    have cB2 := blk_cell hGB1.out 2
    have cB3 := blk_cell hGB1.out 3
    have cB4 := blk_cell hGB1.out 4
    have cB5 := blk_cell hGB1.out 5
    simp at cB0 cB1 cB2 cB3 cB4 cB5
    go_wp2_with fail
    refine (HB.out _).mono ?_
    rintro _ w2 ⟨rfl, hb2⟩
    clear cB0 cB1 cB2 cB3 cB4 cB5
    have hGA2 := hidS (blk_later hGA1.out hb2)
    have hGB2 := hidS (blk_later hGB1.out hb2)
    have hL2 := hidS (hL1.out.trans (hb2.mono hL1.out.size))
    clear hb2 hL1 hGA1 hGB1
    rw [hb]
    go_wp2_with fail
    go_ret
    exact ⟨rfl, hL2.out⟩
  · have hGA0 : Hid (((w.alloc (.cells #[.int .i64 a.proto, .int .i64 a.src, .int .i64 a.sport, .int .i64 a.dst, .int .i64 a.dport, .int .i64 a.kind] 40)).alloc (.cells #[.int .i64 b.proto, .int .i64 b.src, .int .i64 b.sport, .int .i64 b.dst, .int .i64 b.dport, .int .i64 b.kind] 40)).heap[w.heap.size]? = some (.cells #[.int .i64 a.proto, .int .i64 a.src, .int .i64 a.sport, .int .i64 a.dst, .int .i64 a.dport, .int .i64 a.kind] 40)) := by
      show _ = _
      have := blk_alloc (heap_newG w (.cells #[.int .i64 a.proto, .int .i64 a.src, .int .i64 a.sport, .int .i64 a.dst, .int .i64 a.dport, .int .i64 a.kind] 40)) (.cells #[.int .i64 b.proto, .int .i64 b.src, .int .i64 b.sport, .int .i64 b.dst, .int .i64 b.dport, .int .i64 b.kind] 40)
      simpa using this
    have hGB0 : Hid (((w.alloc (.cells #[.int .i64 a.proto, .int .i64 a.src, .int .i64 a.sport, .int .i64 a.dst, .int .i64 a.dport, .int .i64 a.kind] 40)).alloc (.cells #[.int .i64 b.proto, .int .i64 b.src, .int .i64 b.sport, .int .i64 b.dst, .int .i64 b.dport, .int .i64 b.kind] 40)).heap[w.heap.size + 1]? = some (.cells #[.int .i64 b.proto, .int .i64 b.src, .int .i64 b.sport, .int .i64 b.dst, .int .i64 b.dport, .int .i64 b.kind] 40)) := by
      show _ = _
      have := heap_newG (w.alloc (.cells #[.int .i64 a.proto, .int .i64 a.src, .int .i64 a.sport, .int .i64 a.dst, .int .i64 a.dport, .int .i64 a.kind] 40)) (.cells #[.int .i64 b.proto, .int .i64 b.src, .int .i64 b.sport, .int .i64 b.dst, .int .i64 b.dport, .int .i64 b.kind] 40)
      simpa using this
    have hL0 := hidS (((Below.refl w.heap.size w).alloc (Nat.le_refl _) (.cells #[.int .i64 a.proto, .int .i64 a.src, .int .i64 a.sport, .int .i64 a.dst, .int .i64 a.dport, .int .i64 a.kind] 40)).alloc (by simp) (.cells #[.int .i64 b.proto, .int .i64 b.src, .int .i64 b.sport, .int .i64 b.dst, .int .i64 b.dport, .int .i64 b.kind] 40))
    go_enter Tryz.func32, Tryz.ntmps32
    go_wp2_with fail
    refine (HA.out _).mono ?_
    rintro _ w1 ⟨rfl, hb1⟩
    have hGA1 := hidS (blk_later hGA0.out hb1)
    have hGB1 := hidS (blk_later hGB0.out hb1)
    have hL1 := hidS (hL0.out.trans (hb1.mono hL0.out.size))
    clear hb1 hL0 hGA0 hGB0
    rw [ha]
    have cB0 := blk_cell hGB1.out 0
    have cB1 := blk_cell hGB1.out 1
    have cB2 := blk_cell hGB1.out 2
    have cB3 := blk_cell hGB1.out 3
    have cB4 := blk_cell hGB1.out 4
    have cB5 := blk_cell hGB1.out 5
    simp at cB0 cB1 cB2 cB3 cB4 cB5
    go_wp2_with fail
    refine (HB.out _).mono ?_
    rintro _ w2 ⟨rfl, hb2⟩
    clear cB0 cB1 cB2 cB3 cB4 cB5
    have hGA2 := hidS (blk_later hGA1.out hb2)
    have hGB2 := hidS (blk_later hGB1.out hb2)
    have hL2 := hidS (hL1.out.trans (hb2.mono hL1.out.size))
    clear hb2 hL1 hGA1 hGB1
    rw [hb]
    have cA0 := blk_cell hGA2.out 0
    have cA1 := blk_cell hGA2.out 1
    have cA2 := blk_cell hGA2.out 2
    have cA3 := blk_cell hGA2.out 3
    have cA4 := blk_cell hGA2.out 4
    have cA5 := blk_cell hGA2.out 5
    simp at cA0 cA1 cA2 cA3 cA4 cA5
    have cB0 := blk_cell hGB2.out 0
    have cB1 := blk_cell hGB2.out 1
    have cB2 := blk_cell hGB2.out 2
    have cB3 := blk_cell hGB2.out 3
    have cB4 := blk_cell hGB2.out 4
    have cB5 := blk_cell hGB2.out 5
    simp at cB0 cB1 cB2 cB3 cB4 cB5
    go_wp2_with fail
    refine (HL.out _).mono ?_
    rintro _ w3 ⟨rfl, hb3⟩
    clear cA0 cA1 cA2 cA3 cA4 cA5 cB0 cB1 cB2 cB3 cB4 cB5
    have hGA3 := hidS (blk_later hGA2.out hb3)
    have hGB3 := hidS (blk_later hGB2.out hb3)
    have hL3 := hidS (hL2.out.trans (hb3.mono hL2.out.size))
    clear hb3 hL2 hGA2 hGB2
    go_wp2_with fail
    go_ret
    exact ⟨rfl, hL3.out⟩
end Go.Proofs.YtedknnkdnccfmaaGreatDoor
