/- Proved here: spec.l03Word and spec.l03Long answer the number of two, of four bytes at a place of a text; memory stays (condition: the bytes are there). · Proved here: spec.l02Is and spec.l02Word answer whether a number lies there, and leave memory alone (no conditions). · Proved here: impl.areWords answers whether all of a row are words, and leaves memory alone (condition: at most 1000 of them). · Proved here: small facts on byte slices of a call's own: what is written stays, a byte appended, the slice turned into a string. -/
import Derived.Test.YtokjhfgbnpdfnafDoorAll0
import Derived.BigRegion
import Derived.BigQuiet
import Derived.Deep.QuietTactic
import Derived.Test.YtokjhfgbnpdfnafDoorRows
import Derived.WalkKit
import Derived.WalkSpells
import Derived.ProofKit
import Derived.OpenShut
import Derived.ShutString
import Derived.Handy
import Derived.Below
import Derived.Laws.BitsAllLaws
import Derived.Laws.IdiomStrings
section
namespace Go.Proofs.YtokjhfgbnpdfnafDoor
open Go.ChangeShapes Go.WideShapes Go.ChangeAt Go.RowKit
set_option linter.unusedVariables false

/-- the byte at a place -/
def byteN (s : ByteArray) (k : Nat) : Nat := (s.data.getD k 0).toNat
theorem byteN_lt (s : ByteArray) (k : Nat) : byteN s k < 256 := UInt8.toNat_lt _
theorem byteN_get {s : ByteArray} {k : Nat} (h : k < s.size) : s[k].toNat = byteN s k := by
  unfold byteN
  rw [Array.getD_eq_getD_getElem?, Array.getElem?_eq_getElem (by simpa using h)]
  rfl
/-- the number of two, of four bytes at a place -/
def word2 (s : ByteArray) (k : Nat) : Nat := 256 * byteN s k + byteN s (k + 1)
def word4 (s : ByteArray) (k : Nat) : Nat := 65536 * word2 s k + word2 s (k + 2)
theorem word2_lt (s : ByteArray) (k : Nat) : word2 s k < 65536 := by have := byteN_lt s k; have := byteN_lt s (k + 1); unfold word2; omega
theorem word4_lt (s : ByteArray) (k : Nat) : word4 s k < 4294967296 := by have := word2_lt s k; have := word2_lt s (k + 2); unfold word4; omega

theorem l03Word_any (s : ByteArray) (k : Nat) (w : World) (hk : k + 1 < s.size) (hs : s.size ≤ 8000) :
    Calls Tryd.prog 23 #[.string s, .int .i64 (k : Int)] w fun e w' => e = .returned (.int .i64 (word2 s k : Nat)) ∧ Below w.heap.size w w' := by
  have hk' : (k : Int) + 1 < (s.size : Int) := by omega
  have hs' : (s.size : Int) ≤ 8000 := by omega
  have b1 : s[k].toNat < 256 := s[k].toNat_lt
  have b2 : s[k + 1].toNat < 256 := s[k + 1].toNat_lt
  have e : Hid ((256 : Int) * (s[k].toNat : Int) + (s[k + 1].toNat : Int) = ((word2 s k : Nat) : Int)) := by
    rw [byteN_get (by omega), byteN_get hk]; unfold word2 Hid; omega
  have t1 : ((k : Int) + 1).toNat = k + 1 := by omega
  have t2 : k < s.size := by omega
  have t3 : (k : Int) < (s.size : Int) := by omega
  have t4 : (0 : Int) ≤ (k : Int) + 1 := by omega
  go_enter Tryd.func23, Tryd.ntmps23
  go_wp2
  go_region
  go_wp2
  go_ret
  exact ⟨by rw [← e.out]; rfl, (Below.refl _ _).drew⟩

theorem l03Long_any (s : ByteArray) (k : Nat) (w : World) (hk : k + 3 < s.size) (hs : s.size ≤ 8000) :
    Calls Tryd.prog 22 #[.string s, .int .i64 (k : Int)] w fun e w' => e = .returned (.int .i64 (word4 s k : Nat)) ∧ Below w.heap.size w w' := by
  have hk' : (k : Int) + 3 < (s.size : Int) := by omega
  have hs' : (s.size : Int) ≤ 8000 := by omega
  have l1 := word2_lt s k
  have l2 := word2_lt s (k + 2)
  have e : Hid ((65536 : Int) * (word2 s k : Int) + (word2 s (k + 2) : Int) = ((word4 s k : Nat) : Int)) := by unfold word4 Hid; omega
  go_enter Tryd.func22, Tryd.ntmps22
  go_wp2_with fail
  refine (l03Word_any s k _ (by omega) hs).mono ?_
  rintro _ w1 ⟨rfl, hb1⟩
  go_wp2_with fail
  refine (l03Word_any s (k + 2) _ (by omega) hs).mono ?_
  rintro _ w2 ⟨rfl, hb2⟩
  have hB := hidS (hb1.trans (hb2.mono hb1.size))
  clear hb1 hb2
  go_wp2
  go_ret
  exact ⟨by rw [← e.out]; rfl, hB.out⟩
end Go.Proofs.YtokjhfgbnpdfnafDoor
end

section
namespace Go.Proofs.YtokjhfgbnpdfnafDoor
open Go.ChangeShapes Go.WideShapes Go.ChangeAt Go.RowKit
open Go.ChangeMaps (open_string shut_string)
set_option linter.unusedVariables false

theorem l02Is_any (n lo hi : Int) (w : World) :
    Calls Tryd.prog 25 #[.int .i64 n, .int .i64 lo, .int .i64 hi] w fun e w' => e = .returned (.bool (decide (lo ≤ n) && decide (n ≤ hi))) ∧ w' = w := by
  by_cases h1 : lo ≤ n
  · by_cases h2 : n ≤ hi
    · go_enter Tryd.func25, Tryd.ntmps25
      go_wp2
      go_ret
      exact ⟨by simp [h1, h2], rfl⟩
    · go_enter Tryd.func25, Tryd.ntmps25
      go_wp2
      go_ret
      exact ⟨by simp [h2], rfl⟩
  · go_enter Tryd.func25, Tryd.ntmps25
    go_wp2
    go_ret
    exact ⟨by simp; omega, rfl⟩
theorem l02Word_any (n : Int) (w : World) :
    Calls Tryd.prog 24 #[.int .i64 n] w fun e w' => e = .returned (.bool (wordB n)) ∧ w' = w := by
  go_enter Tryd.func24, Tryd.ntmps24
  go_wp2_with fail
  refine (l02Is_any n 0 65535 _).mono ?_
  rintro e w1 ⟨rfl, rfl⟩
  go_wp2
  go_ret
  exact ⟨rfl, rfl⟩
end Go.Proofs.YtokjhfgbnpdfnafDoor
end

section
namespace Go.Proofs.YtokjhfgbnpdfnafDoor
open Go.ChangeShapes Go.WideShapes Go.ChangeAt Go.RowKit
open Go.ChangeMaps (open_string shut_string)
set_option linter.unusedVariables false

/-- all of them are words -/
def allW (zs : List Int) : Bool := zs.all wordB
theorem all_take_succ (zs : List Int) (k : Nat) (h : k < zs.length) : allW (zs.take (k + 1)) = (allW (zs.take k) && wordB zs[k]) := by
  unfold allW; rw [List.take_succ_eq_append_getElem h, List.all_append]; simp
theorem all_bad (zs : List Int) (k : Nat) (h : k < zs.length) (hb : wordB zs[k] = false) : allW zs = false := by
  cases e : allW zs
  · rfl
  · have := List.all_eq_true.1 e zs[k] (List.getElem_mem h); rw [hb] at this; cases this
set_option maxHeartbeats 400000 in
theorem areWords_any (g : Nat) (zs : List Int) (w : World) (hc : ∀ j, (h : j < zs.length) → w.cell? ⟨g, j, none⟩ = some (.int .i64 zs[j])) (hl : zs.length ≤ 1000) :
    Calls Tryd.prog 65 #[.slice (some ⟨g, 0, none⟩) zs.length zs.length] w fun e w' => e = .returned (.bool (allW zs)) ∧ w' = w := by
  have HC := hidS hc
  clear hc
  go_enter Tryd.func65, Tryd.ntmps65
  go_wp2
  go_loop [7] (fun i => ∃ k : Nat, k ≤ zs.length ∧ i = .int .i64 k ∧ Hid (allW (zs.take k) = true)) (fun i => zs.length - (intOf i).toNat)
  case atStart => exact ⟨0, by omega, rfl, rfl⟩
  case round =>
    obtain ⟨k, hk, rfl, hX⟩ := hrel
    by_cases h : k < zs.length
    · have h' : (k : Int) < (zs.length : Int) := by omega
      have hck := HC.out k h
      have hA := hidS (all_bad zs k h)
      have hB : Hid (wordB zs[k] = true → allW (zs.take (k + 1)) = true) := by intro q; rw [all_take_succ zs k h, hX.out, q]; rfl
      generalize zs[k] = z at *
      clear hX
      by_cases h1 : z < 0
      · have hE : Hid (allW zs = false) := hA.out (by simp [wordB]; omega)
        clear hA hB
        go_wp2
        go_ret
        exact ⟨by rw [hE.out]; rfl, rfl⟩
      · by_cases h2 : 65535 < z
        · have hE : Hid (allW zs = false) := hA.out (by simp [wordB]; omega)
          clear hA hB
          go_wp2
          go_ret
          exact ⟨by rw [hE.out]; rfl, rfl⟩
        · have hE := hidS (hB.out (by simp [wordB]; omega))
          clear hA hB
          go_wp2
          go_round
          case rel => exact ⟨k + 1, by omega, by go_num, hE⟩
          case measure => simp [intOf]; omega
    · have hE : Hid (allW zs = true) := by have := hX.out; rw [List.take_of_length_le (by omega)] at this; exact this
      clear hX
      go_wp2
      go_ret
      exact ⟨by rw [hE.out]; rfl, rfl⟩
theorem two_cells (W : World) (a b : Int) (t : TypeId) : ∀ j, (h : j < [a, b].length) → (W.alloc (.cells #[.int .i64 a, .int .i64 b] t)).cell? ⟨W.heap.size, j, none⟩ = some (.int .i64 [a, b][j]) := by
  intro j hj
  rcases (by simp at hj; omega : j = 0 ∨ j = 1) with rfl | rfl <;> simp
theorem three_cells (W : World) (a b c : Int) (t : TypeId) : ∀ j, (h : j < [a, b, c].length) → (W.alloc (.cells #[.int .i64 a, .int .i64 b, .int .i64 c] t)).cell? ⟨W.heap.size, j, none⟩ = some (.int .i64 [a, b, c][j]) := by
  intro j hj
  rcases (by simp at hj; omega : j = 0 ∨ j = 1 ∨ j = 2) with rfl | rfl | rfl <;> simp
theorem one_cell (W : World) (a : Int) (t : TypeId) : ∀ j, (h : j < [a].length) → (W.alloc (.cells #[.int .i64 a] t)).cell? ⟨W.heap.size, j, none⟩ = some (.int .i64 [a][j]) := by
  intro j hj
  obtain rfl : j = 0 := by simp at hj; omega
  simp
end Go.Proofs.YtokjhfgbnpdfnafDoor
end

section
namespace Go.Proofs.YtokjhfgbnpdfnafDoor
open Go.ChangeShapes Go.WideShapes Go.ChangeAt Go.RowKit
open Go.ChangeMaps (open_string shut_string)
set_option linter.unusedVariables false

theorem ret_int' {k : IntKind} {a b : Int} (h : a = b) : Ending.returned (.int k a) = .returned (.int k b) := by rw [h]
theorem val_int' {k : IntKind} {a b : Int} (h : a = b) : Value.int k a = .int k b := by rw [h]

def bytesV (l : List UInt8) : List Value := l.map fun c => .int .u8 (c.toNat : Int)
theorem bytesV_snoc (l : List UInt8) (c : UInt8) : bytesV (l ++ [c]) = bytesV l ++ [.int .u8 (c.toNat : Int)] := by simp [bytesV]

theorem Tryd.infoU8 : (Tryd.prog.info? 5).map (fun i => (i.zero, i.size, i.bytes)) = some (some (.int .u8 0), 1, 1) := by kernel_rfl

theorem heap_new (w : World) (o : Obj) : (w.alloc o).heap[w.heap.size]? = some o := by show (w.heap.push o)[w.heap.size]? = _; simp

/-- a slice that owns the bytes l, as a string -/
theorem conv_own {w : World} {B : Nat} {v : Value} {l : List UInt8} (h : w.ownsRow B 5 1 v l.length (bytesV l)) :
    (convert 60 9 v).run Tryd.prog w = .ok (.string ⟨l.toArray⟩) w := by
  have h0 := h
  rcases h.2 with ⟨rfl, hn⟩ | ⟨g, cap, cur, rfl, hg, hh, hnc, hcp, hcs, htake⟩
  · obtain rfl : l = [] := List.length_eq_zero_iff.1 hn
    rw [run_convert_bytes_string w 60 9 5 none 0 0 Tryd.underlying60 Tryd.underlying5 Tryd.underlying9]
    simp [Conv.bytesToString]
    rfl
  · exact run_convert_bytes_back (P := Tryd.prog) w 60 9 5 ⟨g, 0, none⟩ cap l Tryd.underlying60 Tryd.underlying5 Tryd.underlying9 (fun j hj => by
      rw [Addr.add_lit, Nat.zero_add, h0.cellAt j (by omega)]
      simp [bytesV, hj])

theorem own_snoc {w : World} {B : Nat} {v : Value} {l : List UInt8} {c : UInt8} {x : Int} (hx : x = (c.toNat : Int)) (h : w.ownsRow B 5 1 v (l.length + 1) (bytesV l ++ [.int .u8 x])) :
    w.ownsRow B 5 1 v (l ++ [c]).length (bytesV (l ++ [c])) := by
  rw [bytesV_snoc, List.length_append, ← hx]; exact h

/-- behind a byte that was appended to a slice of the call's own -/
theorem below_app {B : Nat} {w wr w1 : World} {v : Value} {n : Nat} {xs : List Value} {o : Obj} (hbel : Below B w wr) (hB : B ≤ wr.heap.size) (hown : wr.ownsRow B 5 1 v n xs) (hg : (wr.alloc o).grownBy w1 v.ownBlock) : Below B w w1 :=
  (hbel.alloc hB o).grown hg (by simp; omega) (fun k hk => (hown.lt k hk).1)
end Go.Proofs.YtokjhfgbnpdfnafDoor
end
