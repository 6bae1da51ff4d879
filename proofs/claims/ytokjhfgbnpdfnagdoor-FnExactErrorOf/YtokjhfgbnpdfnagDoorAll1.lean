/- Proved here: spec.l02Two answers the two bytes of a word; all old memory stays (condition: a word). · Proved here: spec.l03Four answers the four bytes of a number; all old memory stays (condition: it is an address). -/
import Derived.Test.YtokjhfgbnpdfnagDoorAll0
section
namespace Go.Proofs.YtokjhfgbnpdfnagDoor
open Go.ChangeShapes Go.WideShapes Go.ChangeAt Go.RowKit
open Go.ChangeMaps (open_string shut_string)
set_option linter.unusedVariables false

theorem cell_at1 (w : World) (o : Obj) (cs : Array Value) (t : TypeId) {j : Nat} : ((w.alloc o).alloc (.cells cs t)).cell? ⟨w.heap.size + 1, j, none⟩ = cs[j]? := by
  have h : ((w.alloc o).alloc (.cells cs t)).heap[w.heap.size + 1]? = some (.cells cs t) := by
    show ((w.heap.push o).push (.cells cs t))[w.heap.size + 1]? = _
    rw [Array.getElem?_push, if_pos (by simp)]
  simp only [World.cell?, h]
  simp
theorem conv_two (W : World) (B m : Nat) (hm : m ≤ 65535) (h0 : W.cell? ⟨B, 0, none⟩ = some (.int .u8 ((m : Int) / 256))) (h1 : W.cell? ⟨B, 1, none⟩ = some (.int .u8 ((m : Int) % 256))) :
    (convert 72 9 (.slice (some ⟨B, 0, none⟩) 2 2)).run Tryd.prog W = .ok (.string ⟨#[UInt8.ofNat ((m : Int).toNat / 256), UInt8.ofNat ((m : Int).toNat % 256)]⟩) W :=
  run_convert_bytes_back (P := Tryd.prog) W 72 9 5 ⟨B, 0, none⟩ 2 [UInt8.ofNat ((m : Int).toNat / 256), UInt8.ofNat ((m : Int).toNat % 256)] Tryd.underlying72 Tryd.underlying5 Tryd.underlying9 (fun j hj => by
    have e0 : (UInt8.ofNat ((m : Int).toNat / 256)).toNat = m / 256 := by simp; omega
    have e1 : (UInt8.ofNat ((m : Int).toNat % 256)).toNat = m % 256 := by simp
    rw [Addr.add_lit, Nat.zero_add]
    rcases (by simp at hj; omega : j = 0 ∨ j = 1) with rfl | rfl
    · rw [h0, show [UInt8.ofNat ((m : Int).toNat / 256), UInt8.ofNat ((m : Int).toNat % 256)][0] = UInt8.ofNat ((m : Int).toNat / 256) from rfl, e0]
      congr 2
    · rw [h1, show [UInt8.ofNat ((m : Int).toNat / 256), UInt8.ofNat ((m : Int).toNat % 256)][1] = UInt8.ofNat ((m : Int).toNat % 256) from rfl, e1]
      congr 2)
theorem l02Two_any (m : Nat) (w : World) (hm : m ≤ 65535) :
    Calls Tryd.prog 49 #[.int .i64 (m : Int)] w fun e w' => e = .returned (.string ⟨#[UInt8.ofNat ((m : Int).toNat / 256), UInt8.ofNat ((m : Int).toNat % 256)]⟩) ∧ Below w.heap.size w w' := by
  have hm' : (m : Int) ≤ 65535 := by omega
  have hcv := conv_two (w.alloc (.cells #[.int .u8 ((m : Int) / 256), .int .u8 ((m : Int) % 256)] 5)) w.heap.size m hm (by simp) (by simp)
  have hbb := hidS ((Below.refl w.heap.size w).alloc (Nat.le_refl _) (.cells #[.int .u8 ((m : Int) / 256), .int .u8 ((m : Int) % 256)] 5))
  go_enter Tryd.func49, Tryd.ntmps49
  go_wp2
  go_ret
  exact ⟨rfl, hbb.out⟩
end Go.Proofs.YtokjhfgbnpdfnagDoor
end

section
namespace Go.Proofs.YtokjhfgbnpdfnagDoor
open Go.ChangeShapes Go.WideShapes Go.ChangeAt Go.RowKit
open Go.ChangeMaps (open_string shut_string)
set_option linter.unusedVariables false

/-- the two bytes of a word -/
def twoT (n : Nat) : ByteArray := ⟨#[UInt8.ofNat (n / 256), UInt8.ofNat (n % 256)]⟩
theorem twoT_size (n : Nat) : (twoT n).size = 2 := rfl
/-- the four bytes of an address -/
def fourT (n : Nat) : ByteArray := twoT (n / 65536) ++ twoT (n % 65536)
theorem fourT_size (n : Nat) : (fourT n).size = 4 := by unfold fourT; rw [ByteArray.size_append]; rfl

theorem l02Two_of {x : Int} (n : Nat) (w : World) (hx : x = (n : Int)) (hn : n ≤ 65535) :
    Calls Tryd.prog 49 #[.int .i64 x] w fun e w' => e = .returned (.string (twoT n)) ∧ Below w.heap.size w w' := by
  subst hx
  exact l02Two_any n w hn

theorem l03Four_of {x : Int} (n : Nat) (w : World) (hx : x = (n : Int)) (hn : n ≤ 4294967295) :
    Calls Tryd.prog 50 #[.int .i64 x] w fun e w' => e = .returned (.string (fourT n)) ∧ Below w.heap.size w w' := by
  subst hx
  have hn' : (n : Int) ≤ 4294967295 := by omega
  have z1 := twoT_size (n / 65536)
  have z2 := twoT_size (n % 65536)
  go_enter Tryd.func50, Tryd.ntmps50
  go_wp2_with fail
  refine (l02Two_of (n / 65536) _ (by omega) (by omega)).mono ?_
  rintro e w1 ⟨rfl, hb1⟩
  go_wp2_with fail
  refine (l02Two_of (n % 65536) _ (by omega) (by omega)).mono ?_
  rintro e w2 ⟨rfl, hb2⟩
  have hb := hidS (hb1.trans (hb2.mono hb1.size))
  clear hb1 hb2
  go_wp2
  go_ret
  exact ⟨rfl, hb.out⟩
theorem l02Two_x (x : Int) (w : World) (h : wordB x = true) :
    Calls Tryd.prog 49 #[.int .i64 x] w fun e w' => e = .returned (.string (twoT x.toNat)) ∧ Below w.heap.size w w' := l02Two_of x.toNat w (by have := wordB_iff.1 h; omega) (by have := wordB_iff.1 h; omega)
theorem l03Four_x (x : Int) (w : World) (h : addrB x = true) :
    Calls Tryd.prog 50 #[.int .i64 x] w fun e w' => e = .returned (.string (fourT x.toNat)) ∧ Below w.heap.size w w' := l03Four_of x.toNat w (by have := addrB_iff.1 h; omega) (by have := addrB_iff.1 h; omega)
end Go.Proofs.YtokjhfgbnpdfnagDoor
end
