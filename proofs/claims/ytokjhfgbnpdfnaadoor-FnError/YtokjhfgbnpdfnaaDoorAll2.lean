/- Proved here: draws of packets answer some address, some text; the source stays one, no other memory turns (condition: the source lies in its block). · Proved here: nothing of a program: what a right packet is, and its bytes, as plain functions. -/
import Derived.Test.YtokjhfgbnpdfnaaDoorAll1
section
namespace Go.Proofs.YtokjhfgbnpdfnaaDoor
open Go.ChangeShapes Go.WideShapes Go.ChangeAt Go.RowKit
open Go.ChangeMaps (open_string shut_string)
set_option linter.unusedVariables false
set_option linter.unusedSimpArgs false

theorem grown_trans {a b c : World} {row : Option Nat} (h : a.grownBy b row) (k : b.grownBy c row) : a.grownBy c row :=
  ⟨k.os.trans h.os, k.tape.trans h.tape, k.output.trans h.output, Nat.le_trans h.size k.size, fun i hi hne => (k.block i (Nat.lt_of_lt_of_le hi h.size) hne).trans (h.block i hi hne)⟩
theorem grown_then {a b c : World} {row row' : Option Nat} (h : a.grownBy b row) (k : b.grownBy c row') (hr : ∀ j, row' = some j → a.heap.size ≤ j) : a.grownBy c row :=
  ⟨k.os.trans h.os, k.tape.trans h.tape, k.output.trans h.output, Nat.le_trans h.size k.size, fun i hi hne => (k.block i (Nat.lt_of_lt_of_le hi h.size) (fun e => by have := hr i e.symm; omega)).trans (h.block i hi hne)⟩
theorem grown_refl (w : World) (row : Option Nat) : w.grownBy w row := ⟨rfl, rfl, rfl, Nat.le_refl _, fun _ _ _ => rfl⟩
theorem grown_below {a b : World} {B : Nat} (h : a.grownBy b (some B)) (hB : B < a.heap.size) : Below B a b := ⟨h.os, h.tape, h.output, h.size, fun k hk => h.block k (by omega) (fun e => by injection e with e; omega)⟩
/-- what a drawn number between bounds answers -/
def DrawnR (B : Nat) (a : Option Addr) (len cap : Nat) (lo hi : Int) (w : World) (e : Ending) (w' : World) : Prop :=
  ∃ r : Int, e = .returned (.int .i64 r) ∧ lo ≤ r ∧ r ≤ hi ∧ Src B a len cap w' ∧ w.grownBy w' (some B)

set_option maxRecDepth 100000 in
set_option maxHeartbeats 2000000 in
theorem srcAddr_any (B : Nat) (a : Option Addr) (len cap : Nat) (w : World) (hS : Src B a len cap w) :
    Calls Tryd.prog 33 #[.pointer (some ⟨B, 0, none⟩)] w fun e w' => DrawnR B a len cap (-1) 4294967296 w e w' := by
  have hlt := hS.lt
  go_enter Tryd.func33, Tryd.ntmps33
  go_wp2_with fail
  refine (srcOne_any B a len cap 15 w hS (by omega)).mono ?_
  rintro e w1 ⟨c, rfl, hS1, hO1⟩
  have hlt1 := hS1.lt
  have hb1 := hidS hO1.grown
  clear hO1 hS
  cases c
  · go_wp2_with fail
    refine (srcN_any B a len cap 5 _ (hS1.kept fun k hk => Below.heap_alloc _ _ _ (by omega)) (by omega)).mono ?_
    rintro e w2 ⟨r, rfl, hr1, hr2, hS2, hO2⟩
    have hr3 : r ≤ 4 := by omega
    have hrow : ∃ z : Int, -1 ≤ z ∧ z ≤ 4294967296 ∧ w2.cell? ⟨w1.heap.size, r.toNat, none⟩ = some (.int .i64 z) := by
      have hh := (hO2.block w1.heap.size (by omega)).trans (heap_new _ _)
      obtain ⟨j, rfl⟩ : ∃ j : Nat, r = j := ⟨r.toNat, by omega⟩
      rw [Int.toNat_natCast, cellOfHeap hh]
      rcases (by omega : j = 0 ∨ j = 1 ∨ j = 2 ∨ j = 3 ∨ j = 4) with rfl | rfl | rfl | rfl | rfl
      all_goals exact ⟨_, by decide, by decide, rfl⟩
    obtain ⟨z, hz1, hz2, hc⟩ := hrow
    clear hr2
    have hb2 : w.grownBy w2 (some B) := grown_trans (grown_trans hb1.out (World.grownBy_alloc _ _ _)) hO2.grown
    clear hO2 hb1
    go_wp2
    go_ret
    exact ⟨z, rfl, hz1, hz2, hS2, hb2⟩
  · go_wp2_with fail
    refine (srcN_any B a len cap 4 _ (hS1.kept fun k hk => Below.heap_alloc _ _ _ (by omega)) (by omega)).mono ?_
    rintro e w2 ⟨r, rfl, hr1, hr2, hS2, hO2⟩
    have hr3 : r ≤ 3 := by omega
    have hrow : ∃ z : Int, -1 ≤ z ∧ z ≤ 4294967296 ∧ w2.cell? ⟨w1.heap.size, r.toNat, none⟩ = some (.int .i64 z) := by
      have hh := (hO2.block w1.heap.size (by omega)).trans (heap_new _ _)
      obtain ⟨j, rfl⟩ : ∃ j : Nat, r = j := ⟨r.toNat, by omega⟩
      rw [Int.toNat_natCast, cellOfHeap hh]
      rcases (by omega : j = 0 ∨ j = 1 ∨ j = 2 ∨ j = 3) with rfl | rfl | rfl | rfl
      all_goals exact ⟨_, by decide, by decide, rfl⟩
    obtain ⟨z, hz1, hz2, hc⟩ := hrow
    clear hr2
    have hb2 : w.grownBy w2 (some B) := grown_trans (grown_trans hb1.out (World.grownBy_alloc _ _ _)) hO2.grown
    clear hO2 hb1
    go_wp2
    go_ret
    exact ⟨z, rfl, hz1, hz2, hS2, hb2⟩
end Go.Proofs.YtokjhfgbnpdfnaaDoor
end

section
namespace Go.Proofs.YtokjhfgbnpdfnaaDoor
set_option linter.unusedVariables false

/-- a packet -/
structure Pk where
  src : Int
  dst : Int
  proto : Int
  a : Int
  b : Int
  kind : Int
  flags : Int
  seq : Int
  ack : Int
  body : ByteArray
def zeroPk : Pk := ⟨0, 0, 0, 0, 0, 0, 0, 0, 0, ⟨#[]⟩⟩
/-- an address -/
def addrB (z : Int) : Bool := decide (0 ≤ z) && decide (z ≤ 4294967295)
theorem addrB_iff {z : Int} : addrB z = true ↔ 0 ≤ z ∧ z ≤ 4294967295 := by simp [addrB]
/-- flags -/
def flagB (z : Int) : Bool := decide (0 ≤ z) && decide (z ≤ 63)
theorem flagB_iff {z : Int} : flagB z = true ↔ 0 ≤ z ∧ z ≤ 63 := by simp [flagB]
def tcpB (p : Pk) : Bool := wordB p.a && wordB p.b && decide (p.kind = 0) && flagB p.flags && addrB p.seq && addrB p.ack
def udpB (p : Pk) : Bool := wordB p.a && wordB p.b && decide (p.kind = 0) && decide (p.flags = 0) && decide (p.seq = 0) && decide (p.ack = 0)
def pingB (p : Pk) : Bool := decide (p.b = 0) && decide (p.flags = 0) && decide (p.ack = 0) &&
  (if p.kind = 3 then decide (p.a = 0) && decide (p.seq = 0) && decide (28 ≤ p.body.size) else (decide (p.kind = 8) || decide (p.kind = 0)) && wordB p.a && wordB p.seq)
/-- is it right? -/
def rightB (p : Pk) : Bool := addrB p.src && addrB p.dst && decide (p.body.size ≤ 100) &&
  (if p.proto = 6 then tcpB p else if p.proto = 17 then udpB p else if p.proto = 1 then pingB p else false)
end Go.Proofs.YtokjhfgbnpdfnaaDoor
end
