/- Proved here: spec.l02Two answers the two bytes of a word; all old memory stays (condition: a word). -/
import Derived.Test.YtokjhfgbnpdfnafWordsH
namespace Go.Proofs.Ytokjhfgbnpdfnaf
open Go.ChangeShapes Go.WideShapes Go.ChangeAt Go.RowKit
open Go.ChangeMaps (open_string shut_string)
set_option linter.unusedVariables false

theorem cell_at1 (w : World) (o : Obj) (cs : Array Value) (t : TypeId) {j : Nat} : ((w.alloc o).alloc (.cells cs t)).cell? ⟨w.heap.size + 1, j, none⟩ = cs[j]? := by
  have h : ((w.alloc o).alloc (.cells cs t)).heap[w.heap.size + 1]? = some (.cells cs t) := by
    show ((w.heap.push o).push (.cells cs t))[w.heap.size + 1]? = _
    rw [Array.getElem?_push, if_pos (by simp)]
  simp only [World.cell?, h]
  simp
theorem conv_two (W : World) (B m : Nat) (hm : m ≤ 65535) (h0 : W.cell? ⟨B, 0, none⟩ = some (.int .u8 ((m : Int) / 256))) (h1 : W.cell? ⟨B, 1, none⟩ = some (.int .u8 ((m : Int) % 256))) :
    (convert 37 9 (.slice (some ⟨B, 0, none⟩) 2 2)).run Try.prog W = .ok (.string ⟨#[UInt8.ofNat ((m : Int).toNat / 256), UInt8.ofNat ((m : Int).toNat % 256)]⟩) W :=
  run_convert_bytes_back (P := Try.prog) W 37 9 5 ⟨B, 0, none⟩ 2 [UInt8.ofNat ((m : Int).toNat / 256), UInt8.ofNat ((m : Int).toNat % 256)] Try.underlying37 Try.underlying5 Try.underlying9 (fun j hj => by
    have e0 : (UInt8.ofNat ((m : Int).toNat / 256)).toNat = m / 256 := by simp; omega
    have e1 : (UInt8.ofNat ((m : Int).toNat % 256)).toNat = m % 256 := by simp
    rw [Addr.add_lit, Nat.zero_add]
    rcases (by simp at hj; omega : j = 0 ∨ j = 1) with rfl | rfl
    · rw [h0, show [UInt8.ofNat ((m : Int).toNat / 256), UInt8.ofNat ((m : Int).toNat % 256)][0] = UInt8.ofNat ((m : Int).toNat / 256) from rfl, e0]
      congr 2
    · rw [h1, show [UInt8.ofNat ((m : Int).toNat / 256), UInt8.ofNat ((m : Int).toNat % 256)][1] = UInt8.ofNat ((m : Int).toNat % 256) from rfl, e1]
      congr 2)
theorem l02Two_any (m : Nat) (w : World) (hm : m ≤ 65535) :
    Calls Try.prog 21 #[.int .i64 (m : Int)] w fun e w' => e = .returned (.string ⟨#[UInt8.ofNat ((m : Int).toNat / 256), UInt8.ofNat ((m : Int).toNat % 256)]⟩) ∧ Below w.heap.size w w' := by
  have hm' : (m : Int) ≤ 65535 := by omega
  have hcv := conv_two (w.alloc (.cells #[.int .u8 ((m : Int) / 256), .int .u8 ((m : Int) % 256)] 5)) w.heap.size m hm (by simp) (by simp)
  have hbb := hidS ((Below.refl w.heap.size w).alloc (Nat.le_refl _) (.cells #[.int .u8 ((m : Int) / 256), .int .u8 ((m : Int) % 256)] 5))
  go_enter Try.func21, Try.ntmps21
  go_wp2
  go_ret
  exact ⟨rfl, hbb.out⟩
end Go.Proofs.Ytokjhfgbnpdfnaf
