/- Proved here: a source of draws is made of any bytes (condition: at most 2^20 bytes, that can be read). -/
import Derived.Test.YtcopfejonbbmnaaAll0
namespace Go.Proofs.Ytcopfejonbbmnaa
open Go.ChangeShapes Go.WideShapes Go.ChangeAt Go.RowKit
open Go.ChangeMaps (open_string shut_string)
set_option linter.unusedVariables false


theorem Only.grown {B : Nat} {w w' : World} (h : Only B w w') : w.grownBy w' (some B) := ⟨h.os, h.tape, h.output, Nat.le_of_eq h.size.symm, fun k _ hk => h.block k (fun e => hk (by rw [e]))⟩

theorem cellOfHeap {w : World} {g : Nat} {cs : Array Value} {e : TypeId} {fr : Nat × Nat} (h : w.heap[g]? = some (.cells cs e fr)) (j : Nat) : w.cell? ⟨g, j, none⟩ = cs[j]? := by
  simp [World.cell?, h]

theorem srcAtSet2 {B : Nat} {a : Option Addr} {len cap : Nat} {at1 mix sz m : Int} {w : World} (h : SrcAt B a len cap at1 mix sz w) (hm : 0 ≤ m) (hm2 : m ≤ 18446744073709551615) :
    SrcAt B a len cap at1 m sz (w.setCell ⟨B, 2, none⟩ (.int .u64 m)) :=
  ⟨(heap_setCell_same w B 2 _ _ _ h.1).trans rfl, h.2.1, h.2.2.1, hm, hm2⟩
theorem srcAtSet3 {B : Nat} {a : Option Addr} {len cap : Nat} {at1 mix sz s2 : Int} {w : World} (h : SrcAt B a len cap at1 mix sz w) :
    SrcAt B a len cap at1 mix s2 (w.setCell ⟨B, 3, none⟩ (.int .i64 s2)) :=
  ⟨(heap_setCell_same w B 3 _ _ _ h.1).trans rfl, h.2⟩

set_option maxRecDepth 100000 in
set_option maxHeartbeats 2000000 in
attribute [local go_sem] setCell_twice in
theorem source_any (a : Option Addr) (len cap : Nat) (w : World) (hR : RowAt w.heap.size a len w) (hl : len ≤ 1048576) :
    Calls Try.prog 36 #[.slice a len cap] w fun e w' => e = .returned (.pointer (some ⟨w.heap.size, 0, none⟩)) ∧ Src w.heap.size a len cap w' ∧ Below w.heap.size w w' := by
  have hl' : (len : Int) ≤ 1048576 := by omega
  go_enter Try.func36, Try.ntmps36
  go_wp2
  go_loopw [4] (fun i wr => ∃ k : Nat, k ≤ len ∧ k ≤ 64 ∧ i = .int .i64 (k : Int) ∧ (∃ mix, SrcAt w.heap.size a len cap 0 mix 0 wr) ∧ RowAt w.heap.size a len wr ∧ Below w.heap.size w wr ∧ wr.heap.size = w.heap.size + 1) (fun i _ => 64 - (intOf i).toNat)
  case atStart =>
    exact ⟨0, by omega, by omega, rfl, ⟨88172645463325252, heap_new _ _, by omega, by omega, by omega, by omega⟩, hR.below fun k hk => Below.heap_alloc _ _ _ hk, (Below.refl _ _).alloc (Nat.le_refl _) _, by simp⟩
  case round =>
    obtain ⟨k, hk, hk64, rfl, ⟨mix, hA⟩, hRr, hbel, hsz⟩ := hrel
    obtain ⟨c0, c1, c2, c3, f⟩ := srcCells hA
    have f2 := f 2
    have f3 := f 3
    have hm := hA.2.2.2.1
    have hm2 := hA.2.2.2.2
    have HZ : Hid (wr.heap.size = w.heap.size + 1) := hsz
    clear f hsz
    by_cases hlt : k < len
    · by_cases h64 : k < 64
      · obtain ⟨b, o, rfl, hbB, z, hz1, hz2, hc⟩ := hRr k hlt
        have HR : Hid (RowAt w.heap.size (some ⟨b, o, none⟩) len wr) := hRr
        have hlt' : (k : Int) < (len : Int) := by omega
        have h64' : (k : Int) < 64 := by omega
        clear hRr hR
        go_wp2
        go_region
        go_wp2
        go_roundw
        case rel => exact ⟨k + 1, by omega, by omega, by go_num, ⟨_, srcAtSet2 hA (by rw [IntKind.wrap_u64]; omega) (by rw [IntKind.wrap_u64]; omega)⟩, HR.out.below fun j hj => Below.heap_setCell _ _ _ _ (by show j ≠ w.heap.size; omega), (hbel.setCell (Nat.le_refl _) _).drew, by have := HZ.out; simpa [World.setCell] using this⟩
        case measure => simp [intOf]; omega
      · have h64' : ¬ ((k : Int) < 64) := by omega
        have hlt' : (k : Int) < (len : Int) := by omega
        clear hR
        by_cases h12 : 12 < (len : Int) / 20
        · go_wp2
          go_ret
          exact ⟨rfl, ⟨hl, ⟨_, _, _, srcAtSet3 hA⟩, hRr.below fun k hk => Below.heap_setCell _ _ _ _ (by show k ≠ w.heap.size; omega)⟩, hbel.setCell (Nat.le_refl _) _⟩
        · go_wp2
          go_ret
          exact ⟨rfl, ⟨hl, ⟨_, _, _, srcAtSet3 hA⟩, hRr.below fun k hk => Below.heap_setCell _ _ _ _ (by show k ≠ w.heap.size; omega)⟩, hbel.setCell (Nat.le_refl _) _⟩
    · have hlt' : ¬ ((k : Int) < (len : Int)) := by omega
      clear hR
      have h12 : ¬ 12 < (len : Int) / 20 := by omega
      go_wp2
      go_ret
      exact ⟨rfl, ⟨hl, ⟨_, _, _, srcAtSet3 hA⟩, hRr.below fun k hk => Below.heap_setCell _ _ _ _ (by show k ≠ w.heap.size; omega)⟩, hbel.setCell (Nat.le_refl _) _⟩
end Go.Proofs.Ytcopfejonbbmnaa
