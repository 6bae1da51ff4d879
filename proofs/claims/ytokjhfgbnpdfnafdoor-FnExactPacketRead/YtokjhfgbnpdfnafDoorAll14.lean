/- Proved here: spec.l03Four answers the four bytes of a number; all old memory stays (condition: it is an address). · Proved here: impl.longText answers the four bytes of a number; all old memory stays (condition: the number is an address). · Proved here: a row of bytes that may be written, and what 'copy' of a string leaves of it (no program of its own). -/
import Derived.Test.YtokjhfgbnpdfnafDoorPacketMath
import Derived.Test.YtokjhfgbnpdfnafDoorAll13
import Derived.Test.YtokjhfgbnpdfnafDoorBlk
import Derived.Test.YtokjhfgbnpdfnafDoorJoin
import Derived.Deep.Upon
section
namespace Go.Proofs.YtokjhfgbnpdfnafDoor
open Go.ChangeShapes Go.WideShapes Go.ChangeAt Go.RowKit
open Go.ChangeMaps (open_string shut_string)
set_option linter.unusedVariables false

/-- the two bytes of a word -/
def twoT (n : Nat) : ByteArray := ⟨#[UInt8.ofNat (n / 256), UInt8.ofNat (n % 256)]⟩
theorem twoT_size (n : Nat) : (twoT n).size = 2 := rfl
/-- the four bytes of an address -/
def fourT (n : Nat) : ByteArray := twoT (n / 65536) ++ twoT (n % 65536)
theorem fourT_size (n : Nat) : (fourT n).size = 4 := by unfold fourT; rw [ByteArray.size_append]; rfl

theorem l02Two_of {x : Int} (n : Nat) (w : World) (hx : x = (n : Int)) (hn : n ≤ 65535) :
    Calls Tryd.prog 41 #[.int .i64 x] w fun e w' => e = .returned (.string (twoT n)) ∧ Below w.heap.size w w' := by
  subst hx
  exact l02Two_any n w hn

theorem l03Four_of {x : Int} (n : Nat) (w : World) (hx : x = (n : Int)) (hn : n ≤ 4294967295) :
    Calls Tryd.prog 42 #[.int .i64 x] w fun e w' => e = .returned (.string (fourT n)) ∧ Below w.heap.size w w' := by
  subst hx
  have hn' : (n : Int) ≤ 4294967295 := by omega
  have z1 := twoT_size (n / 65536)
  have z2 := twoT_size (n % 65536)
  go_enter Tryd.func42, Tryd.ntmps42
  go_wp2_with fail
  refine (l02Two_of (n / 65536) _ (by omega) (by omega)).mono ?_
  rintro e w1 ⟨rfl, hb1⟩
  go_wp2_with fail
  refine (l02Two_of (n % 65536) _ (by omega) (by omega)).mono ?_
  rintro e w2 ⟨rfl, hb2⟩
  have hb := hidS (hb1.trans (hb2.mono hb1.size))
  clear hb1 hb2
  go_wp2
  go_ret
  exact ⟨rfl, hb.out⟩
theorem l02Two_x (x : Int) (w : World) (h : wordB x = true) :
    Calls Tryd.prog 41 #[.int .i64 x] w fun e w' => e = .returned (.string (twoT x.toNat)) ∧ Below w.heap.size w w' := l02Two_of x.toNat w (by have := wordB_iff.1 h; omega) (by have := wordB_iff.1 h; omega)
theorem l03Four_x (x : Int) (w : World) (h : addrB x = true) :
    Calls Tryd.prog 42 #[.int .i64 x] w fun e w' => e = .returned (.string (fourT x.toNat)) ∧ Below w.heap.size w w' := l03Four_of x.toNat w (by have := addrB_iff.1 h; omega) (by have := addrB_iff.1 h; omega)
end Go.Proofs.YtokjhfgbnpdfnafDoor
end

section
namespace Go.Proofs.YtokjhfgbnpdfnafDoor
open Go.ChangeShapes Go.WideShapes Go.ChangeAt Go.RowKit
open Go.ChangeMaps (open_string shut_string)
set_option linter.unusedVariables false
set_option maxRecDepth 100000

theorem wordT_two {x : Int} (h : wordB x = true) : wordT x = twoT x.toNat := if_pos h
theorem implWord_x (x : Int) (w : World) (h : wordB x = true) :
    Calls Tryd.prog 51 #[.int .i64 x] w fun e w' => e = .returned (.string (twoT x.toNat)) ∧ Below w.heap.size w w' := by
  rw [← wordT_two h]; exact implWordText_any x w
theorem implWord_of {x : Int} (n : Nat) (w : World) (hx : x = (n : Int)) (hn : n ≤ 65535) :
    Calls Tryd.prog 51 #[.int .i64 x] w fun e w' => e = .returned (.string (twoT n)) ∧ Below w.heap.size w w' := by
  subst hx; exact implWord_x (n : Int) w (wordB_iff.2 ⟨by omega, by omega⟩)
theorem cat2 (a b : ByteArray) : catT [a, b] = a ++ b := ByteArray.ext (by simp [catT, catL])

set_option maxHeartbeats 1000000 in
theorem longText_x (x : Int) (w : World) (h : addrB x = true) :
    Calls Tryd.prog 62 #[.int .i64 x] w fun e w' => e = .returned (.string (fourT x.toNat)) ∧ Below w.heap.size w w' := by
  obtain ⟨n, rfl⟩ : ∃ n : Nat, x = n := ⟨x.toNat, by have := addrB_iff.1 h; omega⟩
  have hn : n ≤ 4294967295 := by have := (addrB_iff.1 h).2; omega
  have hlow := i64_low16 n (by omega)
  clear h
  go_enter Tryd.func62, Tryd.ntmps62
  go_wp2_with fail
  refine (implWord_of (n / 65536) _ (by omega) (by omega)).mono ?_
  rintro _ w1 ⟨rfl, hb1⟩
  go_wp2_with fail
  refine (implWord_of (n % 65536) _ (by omega) (by omega)).mono ?_
  rintro _ w2 ⟨rfl, hb2⟩
  have hL := hidS (hb1.trans (hb2.mono hb1.size))
  clear hb1 hb2
  have hv := vals_at (W := w2) [.string (twoT (n / 65536)), .string (twoT (n % 65536))] 9
  have hA := hidS (hL.out.alloc hL.out.size (.cells #[.string (twoT (n / 65536)), .string (twoT (n % 65536))] 9))
  have hj := joinTexts_any w2.heap.size [twoT (n / 65536), twoT (n % 65536)] _ (ValsAt.strs (ts := [twoT (n / 65536), twoT (n % 65536)]) hv) hv.1 (by simp) (by simp [twoT_size])
  have HJ := hidS hj
  clear hv hj hL
  go_wp2_with fail
  refine HJ.out.mono ?_
  rintro _ w3 ⟨rfl, hb3⟩
  have hE := hidS (hA.out.trans (hb3.mono hA.out.size))
  rw [cat2]
  clear hb3 hA HJ
  go_wp2_with fail
  go_ret
  exact ⟨rfl, hE.out⟩
end Go.Proofs.YtokjhfgbnpdfnafDoor
end

section
namespace Go.Proofs.YtokjhfgbnpdfnafDoor
open Go.ChangeShapes Go.WideShapes Go.ChangeAt Go.RowKit
set_option linter.unusedVariables false

/-- a row of bytes that may be written -/
def Row8 (g : Nat) (l : List UInt8) (W : World) : Prop := g < W.heap.size ∧ ∀ j, (h : j < l.length) → W.cell? ⟨g, j, none⟩ = some (.int .u8 (l[j].toNat : Int)) ∧ W.frozen? ⟨g, j, none⟩ = false
theorem Row8.later {g : Nat} {l : List UInt8} {W W' : World} (h : Row8 g l W) (hb : Below W.heap.size W W') : Row8 g l W' := ⟨Nat.lt_of_lt_of_le h.1 hb.size, fun j hj => ⟨(hb.cell (p := ⟨g, j, none⟩) h.1).trans (h.2 j hj).1, (hb.frozen (p := ⟨g, j, none⟩) h.1).trans (h.2 j hj).2⟩⟩
theorem Row8.bytes {g : Nat} {l : List UInt8} {W : World} (h : Row8 g l W) : BytesAt g l W := ⟨h.1, fun j hj => (h.2 j hj).1⟩
/-- some bytes over others -/
def over (l : List UInt8) (o : Nat) (m : List UInt8) : List UInt8 := l.take o ++ m ++ l.drop (o + m.length)
theorem over_length {l : List UInt8} {o : Nat} {m : List UInt8} (h : o + m.length ≤ l.length) : (over l o m).length = l.length := by simp [over]; omega
theorem over_in {l : List UInt8} {o : Nat} {m : List UInt8} (h : o + m.length ≤ l.length) (j : Nat) (hj : j < m.length) : (over l o m)[o + j]'(by rw [over_length h]; omega) = m[j] := by
  simp only [over]
  rw [List.getElem_append_left (by simp; omega), List.getElem_append_right (by simp; omega)]
  have e : o + j - (l.take o).length = j := by simp; omega
  simp only [e]
theorem over_out {l : List UInt8} {o : Nat} {m : List UInt8} (h : o + m.length ≤ l.length) (j : Nat) (hj : j < l.length) (hd : j < o ∨ o + m.length ≤ j) : (over l o m)[j]'(by rw [over_length h]; exact hj) = l[j] := by
  simp only [over]
  rcases hd with hd | hd
  · rw [List.getElem_append_left (by simp; omega), List.getElem_append_left (by simp; omega)]
    simp
  · rw [List.getElem_append_right (by simp; omega)]
    simp only [List.getElem_drop]
    congr 1
    simp; omega
theorem getv_cast {l : List UInt8} {i j : Nat} (hi : i < l.length) (e : i = j) : l[i] = l[j]'(e ▸ hi) := by subst e; rfl

/-- 'copy(row[o:], s)' -/
theorem Row8.copy {g : Nat} {l : List UInt8} {W : World} (h : Row8 g l W) (ty : TypeId) (o dLen dCap : Nat) (s : ByteArray) (hle : s.size ≤ dLen) (hfit : o + s.size ≤ l.length) :
    ∃ W', (Builtin.copy_ #[60, 9] ty #[.slice (some ⟨g, o, none⟩) dLen dCap, .string s]).run Tryd.prog W = .ok (.int .i64 (s.size : Int)) W' ∧ Row8 g (over l o s.data.toList) W' ∧
      (∀ B a, B ≤ g → Below B a W → Below B a W') ∧ (∀ b, b < W.heap.size → b ≠ g → W'.heap[b]? = W.heap[b]?) := by
  have hsl : s.data.toList.length = s.size := by simp
  have hml : (s.data.toList.map fun x => Value.int .u8 (x.toNat : Int)).length = s.size := by rw [List.length_map, hsl]
  have hcell : ∀ j, j < s.size → W.cell? ⟨g, o + j, none⟩ = some (.int .u8 (l[o + j]!.toNat : Int)) := fun j hj => by
    rw [(h.2 (o + j) (by omega)).1, getElem!_pos l (o + j) (by omega)]
  have hr := run_copy_string (P := Tryd.prog) W 60 9 ty 5 g o dLen dCap s Tryd.underlying60 Tryd.sizeU8 hle
    (fun j hj => by rw [hcell j hj]; rfl) (fun j hj => (h.2 (o + j) (by omega)).2)
  refine ⟨_, hr, ⟨?_, fun j hj => ?_⟩, fun B a hB hb => below_setCells hB _ _ _ hb, fun b hb hne => World.heap_setCells_other W g o _ hb hne⟩
  · exact Nat.lt_of_lt_of_le h.1 (below_setCells (B := g) (Nat.le_refl g) _ _ _ (Below.refl g W)).size
  · rw [over_length (by rw [hsl]; exact hfit)] at hj
    refine ⟨?_, (World.frozen?_setCells g _ o W _).trans (h.2 j hj).2⟩
    by_cases hd : o ≤ j ∧ j < o + s.size
    · obtain ⟨k, rfl⟩ : ∃ k, j = o + k := ⟨j - o, by omega⟩
      have hk : k < s.size := by omega
      rw [World.cell?_setCells_in g _ o W (fun i hi => by rw [hcell i (by rw [← hml]; exact hi)]; rfl) k (by rw [hml]; exact hk)]
      rw [over_in (by rw [hsl]; exact hfit) k (by rw [hsl]; exact hk)]
      simp
    · rw [World.cell?_setCells_out g _ o W ⟨g, j, none⟩ (fun _ _ => by rw [hml]; show j < o ∨ o + s.size ≤ j; omega), (h.2 j hj).1]
      rw [over_out (by rw [hsl]; exact hfit) j hj (by rw [hsl]; omega)]
end Go.Proofs.YtokjhfgbnpdfnafDoor
end
