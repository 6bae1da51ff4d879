/- Proved here: what more draws of package spec answer: a source is made of any bytes; drawn bytes are a text of so many bytes; an edge is a number; no other memory turns (conditions: at most 2^20 bytes, the source lies in its block). -/
import Derived.Test.YtafdcicdaeaehaaSrc
namespace Go.Proofs.Ytafdcicdaeaehaa
open Go.ChangeShapes Go.WideShapes Go.ChangeAt Go.RowKit
open Go.ChangeMaps (open_string shut_string)
set_option linter.unusedVariables false

theorem Only.grown {B : Nat} {w w' : World} (h : Only B w w') : w.grownBy w' (some B) := ⟨h.os, h.tape, h.output, Nat.le_of_eq h.size.symm, fun k _ hk => h.block k (fun e => hk (by rw [e]))⟩

theorem own_only {B : Nat} {w w' : World} {v : Value} {n : Nat} {xs : List Value} (hO : Only B w w') (hown : w.ownsRow (B + 1) 5 1 v n xs) : w'.ownsRow (B + 1) 5 1 v n xs :=
  hown.kept hO.grown (by
    cases hv : v.ownBlock with
    | none => exact Or.inl rfl
    | some g => exact Or.inr (fun e => by have := (hown.lt g hv).1; injection e with e; omega))

/-- what a drawn text answers -/
def DrawnT (B : Nat) (a : Option Addr) (len cap : Nat) (n : Int) (w : World) (e : Ending) (w' : World) : Prop :=
  ∃ s : ByteArray, e = .returned (.string s) ∧ s.size = n.toNat ∧ Src B a len cap w' ∧ Below B w w'

set_option maxRecDepth 100000 in
set_option maxHeartbeats 2000000 in
theorem srcBytes_any (B : Nat) (a : Option Addr) (len cap : Nat) (n : Int) (w : World) (hS : Src B a len cap w) (hn : n ≤ 1048576) :
    Calls Try.prog 34 #[.pointer (some ⟨B, 0, none⟩), .int .i64 n] w fun e w' => DrawnT B a len cap n w e w' := by
  obtain ⟨i0, hi, hz0, hz1, hz2⟩ := info_parts Try.infoU8
  have hlt := hS.lt
  go_enter Try.func34, Try.ntmps34
  go_wp2
  go_loopw [5, 6] (fun v i wr => ∃ l : List UInt8, i = .int .i64 (l.length : Int) ∧ ((l.length : Int) ≤ n ∨ l.length = 0) ∧ wr.ownsRow (B + 1) 5 1 v l.length (bytesV l) ∧ Src B a len cap wr ∧ Below B w wr ∧ B < wr.heap.size) (fun _ i _ => (n - intOf i).toNat)
  case atStart =>
    exact ⟨[], rfl, Or.inr rfl, ⟨rfl, Or.inr ⟨w.heap.size, 0, #[], rfl, hlt, heap_new _ _, Nat.le_refl _, by simp [maxLen], rfl, rfl⟩⟩, hS.kept fun k hk => Below.heap_alloc _ _ _ (by omega), (Below.refl _ _).alloc (by omega) _, by simp; omega⟩
  case round =>
    obtain ⟨l, rfl, hle, hown, hSr, hbel, hB⟩ := hrel
    by_cases hlt2 : (l.length : Int) < n
    · go_wp2_with fail
      refine (srcN_any B a len cap 256 wr hSr (by omega)).mono ?_
      rintro e w1 ⟨r, rfl, hr1, hr2, hS1, hO1⟩
      have hr3 : r ≤ 255 := by omega
      have hown1 := own_only hO1 hown
      have hb1 := hbel.trans hO1.below
      have hB1 : B < w1.heap.size := hS1.lt
      have hlen : (l.length : Int) < 1048576 := by omega
      clear hown hSr hbel hr2
      go_wp2_with (at_builtin; refine wpList_append_own _ rfl _ _ 22 rfl (B + 1) 5 i0 (.int .u8 0) 1 1 Try.underlying22 hi hz0 hz1 hz2 rfl (by decide) _ _ _ rfl (hown1.alloc _) ⟨w1.heap.size, 0, none⟩ 1 1 [.int .u8 r] rfl rfl (cell_one_new _ _ _) ?c2 ?c3 ?c4 ?c5 ?_)
      case c2 => intro x hx; simp at hx; subst hx; rfl
      case c3 => unfold maxLen; omega
      case c4 => omega
      case c5 => simp; omega
      intro v' w2 hown' hgrow _
      have hown2 := own_snoc (c := UInt8.ofNat r.toNat) (by simp; omega) hown'
      have hS2 : Src B a len cap w2 := hS1.kept fun k hk => by
        rw [hgrow.block k (by simp; omega) (fun e => by have := (hown1.lt k e.symm).1; omega)]
        exact Below.heap_alloc _ _ _ (by omega)
      have hb2 : Below B w w2 := (hb1.alloc (by omega) _).grown hgrow (by simp; omega) (fun k hk => by have := (hown1.lt k hk).1; omega)
      have hz3 : B < w2.heap.size := hS2.lt
      clear hown' hgrow hown1 hS1 hb1 hO1
      go_wp2
      go_roundw
      case rel => exact ⟨_, by simp, by simp; omega, hown2, hS2, hb2, hz3⟩
      case measure => simp [intOf]; omega
    · have hcv := conv_own hown
      have hsz : l.length = n.toNat := by omega
      clear hown
      go_wp2
      go_ret
      exact ⟨_, rfl, by simpa [ByteArray.size] using hsz, hSr, hbel⟩

/-- what a drawn number of any size answers -/
def DrawnI (B : Nat) (a : Option Addr) (len cap : Nat) (w : World) (e : Ending) (w' : World) : Prop :=
  ∃ r : Int, e = .returned (.int .i64 r) ∧ -9223372036854775808 ≤ r ∧ r ≤ 9223372036854775807 ∧ Src B a len cap w' ∧ Below B w w'

theorem cellOfHeap {w : World} {g : Nat} {cs : Array Value} {e : TypeId} {fr : Nat × Nat} (h : w.heap[g]? = some (.cells cs e fr)) (j : Nat) : w.cell? ⟨g, j, none⟩ = cs[j]? := by
  simp [World.cell?, h]

set_option maxRecDepth 100000 in
set_option maxHeartbeats 2000000 in
theorem srcEdge_any (B : Nat) (a : Option Addr) (len cap : Nat) (w : World) (hS : Src B a len cap w) :
    Calls Try.prog 40 #[.pointer (some ⟨B, 0, none⟩)] w fun e w' => DrawnI B a len cap w e w' := by
  have hlt := hS.lt
  go_enter Try.func40, Try.ntmps40
  go_wp2_with fail
  refine (srcN_any B a len cap 14 _ (hS.kept fun k hk => Below.heap_alloc _ _ _ (by omega)) (by omega)).mono ?_
  rintro e w1 ⟨r, rfl, hr1, hr2, hS1, hO1⟩
  have hr3 : r ≤ 13 := by omega
  have hrow : ∃ z : Int, -9223372036854775808 ≤ z ∧ z ≤ 9223372036854775807 ∧ w1.cell? ⟨w.heap.size, r.toNat, none⟩ = some (.int .i64 z) := by
    have hh := (hO1.block w.heap.size (by omega)).trans (heap_new _ _)
    obtain ⟨j, rfl⟩ : ∃ j : Nat, r = j := ⟨r.toNat, by omega⟩
    rw [Int.toNat_natCast, cellOfHeap hh]
    rcases (by omega : j = 0 ∨ j = 1 ∨ j = 2 ∨ j = 3 ∨ j = 4 ∨ j = 5 ∨ j = 6 ∨ j = 7 ∨ j = 8 ∨ j = 9 ∨ j = 10 ∨ j = 11 ∨ j = 12 ∨ j = 13) with rfl | rfl | rfl | rfl | rfl | rfl | rfl | rfl | rfl | rfl | rfl | rfl | rfl | rfl
    all_goals exact ⟨_, by decide, by decide, rfl⟩
  obtain ⟨z, hz1, hz2, hc⟩ := hrow
  clear hr2
  have hb1 : Below B w w1 := ((Below.refl _ _).alloc (by omega) _).trans hO1.below
  go_wp2
  go_ret
  exact ⟨z, rfl, hz1, hz2, hS1, hb1⟩

theorem srcAtSet2 {B : Nat} {a : Option Addr} {len cap : Nat} {at1 mix sz m : Int} {w : World} (h : SrcAt B a len cap at1 mix sz w) (hm : 0 ≤ m) (hm2 : m ≤ 18446744073709551615) :
    SrcAt B a len cap at1 m sz (w.setCell ⟨B, 2, none⟩ (.int .u64 m)) :=
  ⟨(heap_setCell_same w B 2 _ _ _ h.1).trans rfl, h.2.1, h.2.2.1, hm, hm2⟩
theorem srcAtSet3 {B : Nat} {a : Option Addr} {len cap : Nat} {at1 mix sz s2 : Int} {w : World} (h : SrcAt B a len cap at1 mix sz w) :
    SrcAt B a len cap at1 mix s2 (w.setCell ⟨B, 3, none⟩ (.int .i64 s2)) :=
  ⟨(heap_setCell_same w B 3 _ _ _ h.1).trans rfl, h.2⟩

set_option maxRecDepth 100000 in
set_option maxHeartbeats 2000000 in
attribute [local go_sem] setCell_twice in
theorem source_any (a : Option Addr) (len cap : Nat) (w : World) (hR : RowAt w.heap.size a len w) (hl : len ≤ 1048576) :
    Calls Try.prog 31 #[.slice a len cap] w fun e w' => e = .returned (.pointer (some ⟨w.heap.size, 0, none⟩)) ∧ Src w.heap.size a len cap w' ∧ Below w.heap.size w w' := by
  have hl' : (len : Int) ≤ 1048576 := by omega
  go_enter Try.func31, Try.ntmps31
  go_wp2
  go_loopw [4] (fun i wr => ∃ k : Nat, k ≤ len ∧ k ≤ 64 ∧ i = .int .i64 (k : Int) ∧ (∃ mix, SrcAt w.heap.size a len cap 0 mix 0 wr) ∧ RowAt w.heap.size a len wr ∧ Below w.heap.size w wr ∧ wr.heap.size = w.heap.size + 1) (fun i _ => 64 - (intOf i).toNat)
  case atStart =>
    exact ⟨0, by omega, by omega, rfl, ⟨88172645463325252, heap_new _ _, by omega, by omega, by omega, by omega⟩, hR.below fun k hk => Below.heap_alloc _ _ _ hk, (Below.refl _ _).alloc (Nat.le_refl _) _, by simp⟩
  case round =>
    obtain ⟨k, hk, hk64, rfl, ⟨mix, hA⟩, hRr, hbel, hsz⟩ := hrel
    obtain ⟨c0, c1, c2, c3, f⟩ := srcCells hA
    have f2 := f 2
    have f3 := f 3
    have hm := hA.2.2.2.1
    have hm2 := hA.2.2.2.2
    have HZ : Hid (wr.heap.size = w.heap.size + 1) := hsz
    clear f hsz
    by_cases hlt : k < len
    · by_cases h64 : k < 64
      · obtain ⟨b, o, rfl, hbB, z, hz1, hz2, hc⟩ := hRr k hlt
        have HR : Hid (RowAt w.heap.size (some ⟨b, o, none⟩) len wr) := hRr
        have hlt' : (k : Int) < (len : Int) := by omega
        have h64' : (k : Int) < 64 := by omega
        clear hRr hR
        go_wp2
        go_region
        go_wp2
        go_roundw
        case rel => exact ⟨k + 1, by omega, by omega, by go_num, ⟨_, srcAtSet2 hA (by rw [IntKind.wrap_u64]; omega) (by rw [IntKind.wrap_u64]; omega)⟩, HR.out.below fun j hj => Below.heap_setCell _ _ _ _ (by show j ≠ w.heap.size; omega), (hbel.setCell (Nat.le_refl _) _).drew, by have := HZ.out; simpa [World.setCell] using this⟩
        case measure => simp [intOf]; omega
      · have h64' : ¬ ((k : Int) < 64) := by omega
        have hlt' : (k : Int) < (len : Int) := by omega
        clear hR
        by_cases h12 : 12 < (len : Int) / 20
        · go_wp2
          go_ret
          exact ⟨rfl, ⟨hl, ⟨_, _, _, srcAtSet3 hA⟩, hRr.below fun k hk => Below.heap_setCell _ _ _ _ (by show k ≠ w.heap.size; omega)⟩, hbel.setCell (Nat.le_refl _) _⟩
        · go_wp2
          go_ret
          exact ⟨rfl, ⟨hl, ⟨_, _, _, srcAtSet3 hA⟩, hRr.below fun k hk => Below.heap_setCell _ _ _ _ (by show k ≠ w.heap.size; omega)⟩, hbel.setCell (Nat.le_refl _) _⟩
    · have hlt' : ¬ ((k : Int) < (len : Int)) := by omega
      clear hR
      have h12 : ¬ 12 < (len : Int) / 20 := by omega
      go_wp2
      go_ret
      exact ⟨rfl, ⟨hl, ⟨_, _, _, srcAtSet3 hA⟩, hRr.below fun k hk => Below.heap_setCell _ _ _ _ (by show k ≠ w.heap.size; omega)⟩, hbel.setCell (Nat.le_refl _) _⟩
end Go.Proofs.Ytafdcicdaeaehaa
