/- Proved here: spec.l02Two answers the two bytes of a word; all old memory stays (condition: a word). · Proved here: spec.l03Four answers the four bytes of a number; all old memory stays (condition: it is an address). · Proved here: small facts on a packet that lies in a block (no program of its own). · Proved here: a literal slice of bytes, turned into a string, is these bytes (a bridge; no program of its own). -/
import Derived.Test.YtedknnkdnccfmaaGreatDoorAll1
import Derived.Test.YtedknnkdnccfmaaGreatDoorAll4
import Derived.Test.YtedknnkdnccfmaaGreatDoorGrow
section
namespace Go.Proofs.YtedknnkdnccfmaaGreatDoor
open Go.ChangeShapes Go.WideShapes Go.ChangeAt Go.RowKit
open Go.ChangeMaps (open_string shut_string)
set_option linter.unusedVariables false

theorem cell_at1 (w : World) (o : Obj) (cs : Array Value) (t : TypeId) {j : Nat} : ((w.alloc o).alloc (.cells cs t)).cell? ⟨w.heap.size + 1, j, none⟩ = cs[j]? := by
  have h : ((w.alloc o).alloc (.cells cs t)).heap[w.heap.size + 1]? = some (.cells cs t) := by
    show ((w.heap.push o).push (.cells cs t))[w.heap.size + 1]? = _
    rw [Array.getElem?_push, if_pos (by simp)]
  simp only [World.cell?, h]
  simp
theorem conv_two (W : World) (B m : Nat) (hm : m ≤ 65535) (h0 : W.cell? ⟨B, 0, none⟩ = some (.int .u8 ((m : Int) / 256))) (h1 : W.cell? ⟨B, 1, none⟩ = some (.int .u8 ((m : Int) % 256))) :
    (convert 22 9 (.slice (some ⟨B, 0, none⟩) 2 2)).run Tryz.prog W = .ok (.string ⟨#[UInt8.ofNat ((m : Int).toNat / 256), UInt8.ofNat ((m : Int).toNat % 256)]⟩) W :=
  run_convert_bytes_back (P := Tryz.prog) W 22 9 5 ⟨B, 0, none⟩ 2 [UInt8.ofNat ((m : Int).toNat / 256), UInt8.ofNat ((m : Int).toNat % 256)] Tryz.underlying22 Tryz.underlying5 Tryz.underlying9 (fun j hj => by
    have e0 : (UInt8.ofNat ((m : Int).toNat / 256)).toNat = m / 256 := by simp; omega
    have e1 : (UInt8.ofNat ((m : Int).toNat % 256)).toNat = m % 256 := by simp
    rw [Addr.add_lit, Nat.zero_add]
    rcases (by simp at hj; omega : j = 0 ∨ j = 1) with rfl | rfl
    · rw [h0, show [UInt8.ofNat ((m : Int).toNat / 256), UInt8.ofNat ((m : Int).toNat % 256)][0] = UInt8.ofNat ((m : Int).toNat / 256) from rfl, e0]
      congr 2
    · rw [h1, show [UInt8.ofNat ((m : Int).toNat / 256), UInt8.ofNat ((m : Int).toNat % 256)][1] = UInt8.ofNat ((m : Int).toNat % 256) from rfl, e1]
      congr 2)
theorem l02Two_any (m : Nat) (w : World) (hm : m ≤ 65535) :
    Calls Tryz.prog 134 #[.int .i64 (m : Int)] w fun e w' => e = .returned (.string ⟨#[UInt8.ofNat ((m : Int).toNat / 256), UInt8.ofNat ((m : Int).toNat % 256)]⟩) ∧ Below w.heap.size w w' := by
  have hm' : (m : Int) ≤ 65535 := by omega
  have hcv := conv_two (w.alloc (.cells #[.int .u8 ((m : Int) / 256), .int .u8 ((m : Int) % 256)] 5)) w.heap.size m hm (by simp) (by simp)
  have hbb := hidS ((Below.refl w.heap.size w).alloc (Nat.le_refl _) (.cells #[.int .u8 ((m : Int) / 256), .int .u8 ((m : Int) % 256)] 5))
  go_enter Tryz.func134, Tryz.ntmps134
  go_wp2
  go_ret
  exact ⟨rfl, hbb.out⟩
end Go.Proofs.YtedknnkdnccfmaaGreatDoor
end

section
namespace Go.Proofs.YtedknnkdnccfmaaGreatDoor
open Go.ChangeShapes Go.WideShapes Go.ChangeAt Go.RowKit
open Go.ChangeMaps (open_string shut_string)
set_option linter.unusedVariables false

/-- the two bytes of a word -/
def twoT (n : Nat) : ByteArray := ⟨#[UInt8.ofNat (n / 256), UInt8.ofNat (n % 256)]⟩
theorem twoT_size (n : Nat) : (twoT n).size = 2 := rfl
/-- the four bytes of an address -/
def fourT (n : Nat) : ByteArray := twoT (n / 65536) ++ twoT (n % 65536)
theorem fourT_size (n : Nat) : (fourT n).size = 4 := by unfold fourT; rw [ByteArray.size_append]; rfl

theorem l02Two_of {x : Int} (n : Nat) (w : World) (hx : x = (n : Int)) (hn : n ≤ 65535) :
    Calls Tryz.prog 134 #[.int .i64 x] w fun e w' => e = .returned (.string (twoT n)) ∧ Below w.heap.size w w' := by
  subst hx
  exact l02Two_any n w hn

theorem l03Four_of {x : Int} (n : Nat) (w : World) (hx : x = (n : Int)) (hn : n ≤ 4294967295) :
    Calls Tryz.prog 135 #[.int .i64 x] w fun e w' => e = .returned (.string (fourT n)) ∧ Below w.heap.size w w' := by
  subst hx
  have hn' : (n : Int) ≤ 4294967295 := by omega
  have z1 := twoT_size (n / 65536)
  have z2 := twoT_size (n % 65536)
  go_enter Tryz.func135, Tryz.ntmps135
  go_wp2_with fail
  refine (l02Two_of (n / 65536) _ (by omega) (by omega)).mono ?_
  rintro e w1 ⟨rfl, hb1⟩
  go_wp2_with fail
  refine (l02Two_of (n % 65536) _ (by omega) (by omega)).mono ?_
  rintro e w2 ⟨rfl, hb2⟩
  have hb := hidS (hb1.trans (hb2.mono hb1.size))
  clear hb1 hb2
  go_wp2
  go_ret
  exact ⟨rfl, hb.out⟩
theorem l02Two_x (x : Int) (w : World) (h : wordB x = true) :
    Calls Tryz.prog 134 #[.int .i64 x] w fun e w' => e = .returned (.string (twoT x.toNat)) ∧ Below w.heap.size w w' := l02Two_of x.toNat w (by have := wordB_iff.1 h; omega) (by have := wordB_iff.1 h; omega)
theorem l03Four_x (x : Int) (w : World) (h : addrB x = true) :
    Calls Tryz.prog 135 #[.int .i64 x] w fun e w' => e = .returned (.string (fourT x.toNat)) ∧ Below w.heap.size w w' := l03Four_of x.toNat w (by have := addrB_iff.1 h; omega) (by have := addrB_iff.1 h; omega)
end Go.Proofs.YtedknnkdnccfmaaGreatDoor
end

section
namespace Go.Proofs.YtedknnkdnccfmaaGreatDoor
open Go.ChangeShapes Go.WideShapes Go.ChangeAt Go.RowKit
set_option linter.unusedVariables false

/-- a packet that lies in a block -/
def PkAt (g : Nat) (p : Pk) (W : World) : Prop := W.cell? ⟨g, 0, none⟩ = some (.int .i64 p.src) ∧ W.cell? ⟨g, 1, none⟩ = some (.int .i64 p.dst) ∧ W.cell? ⟨g, 2, none⟩ = some (.int .i64 p.proto) ∧ W.cell? ⟨g, 3, none⟩ = some (.int .i64 p.a) ∧ W.cell? ⟨g, 4, none⟩ = some (.int .i64 p.b) ∧
  W.cell? ⟨g, 5, none⟩ = some (.int .i64 p.kind) ∧ W.cell? ⟨g, 6, none⟩ = some (.int .i64 p.flags) ∧ W.cell? ⟨g, 7, none⟩ = some (.int .i64 p.seq) ∧ W.cell? ⟨g, 8, none⟩ = some (.int .i64 p.ack) ∧ W.cell? ⟨g, 9, none⟩ = some (.string p.body)
theorem PkAt.lt {g : Nat} {p : Pk} {W : World} (h : PkAt g p W) : g < W.heap.size := World.block_lt_of_cell? W ⟨g, 0, none⟩ h.1
theorem PkAt.later {g : Nat} {p : Pk} {W W' : World} (h : PkAt g p W) (hb : Below W.heap.size W W') : PkAt g p W' := by
  have hl := h.lt
  obtain ⟨h0, h1, h2, h3, h4, h5, h6, h7, h8, h9⟩ := h
  have k : ∀ o, W'.cell? ⟨g, o, none⟩ = W.cell? ⟨g, o, none⟩ := fun o => hb.cell (p := ⟨g, o, none⟩) hl
  exact ⟨(k 0).trans h0, (k 1).trans h1, (k 2).trans h2, (k 3).trans h3, (k 4).trans h4, (k 5).trans h5, (k 6).trans h6, (k 7).trans h7, (k 8).trans h8, (k 9).trans h9⟩
theorem PkAt.new (p : Pk) (W : World) : PkAt W.heap.size p (W.alloc (.cells #[.int .i64 p.src, .int .i64 p.dst, .int .i64 p.proto, .int .i64 p.a, .int .i64 p.b, .int .i64 p.kind, .int .i64 p.flags, .int .i64 p.seq, .int .i64 p.ack, .string p.body] 24)) := by
  simp [PkAt]

end Go.Proofs.YtedknnkdnccfmaaGreatDoor
end

section
namespace Go.Proofs.YtedknnkdnccfmaaGreatDoor
open Go.ChangeShapes Go.WideShapes Go.ChangeAt Go.RowKit
set_option linter.unusedVariables false

theorem BytesAt.conv {B : Nat} {l : List UInt8} {W : World} (cap : Nat) (h : BytesAt B l W) : (convert 22 9 (.slice (some ⟨B, 0, none⟩) l.length cap)).run Tryz.prog W = .ok (.string ⟨l.toArray⟩) W :=
  run_convert_bytes_back (P := Tryz.prog) W 22 9 5 ⟨B, 0, none⟩ cap l Tryz.underlying22 Tryz.underlying5 Tryz.underlying9 (fun j hj => by rw [Addr.add_lit, Nat.zero_add]; exact h.2 j hj)
/-- numbers as bytes -/
def rowL (xs : List Int) : List UInt8 := xs.map fun x => UInt8.ofNat x.toNat
def rowT (xs : List Int) : ByteArray := ⟨(rowL xs).toArray⟩
theorem rowT_size (xs : List Int) : (rowT xs).size = xs.length := by show (rowL xs).toArray.size = _; simp [rowL]
theorem row_at {W : World} (xs : List Int) (h : ∀ x ∈ xs, 0 ≤ x ∧ x ≤ 255) : BytesAt W.heap.size (rowL xs) (W.alloc (.cells (xs.map fun x => Value.int .u8 x).toArray 5)) := by
  refine ⟨by simp, fun j hj => ?_⟩
  have hj' : j < xs.length := by simpa [rowL] using hj
  have hx := h xs[j] (List.getElem_mem hj')
  have e : (((rowL xs)[j]).toNat : Int) = xs[j] := by simp [rowL]; omega
  rw [e]
  simp [hj']
end Go.Proofs.YtedknnkdnccfmaaGreatDoor
end
