/- Proved here: what the draws of package spec answer: a number drawn below 'most' lies there; the source stays one; no other memory turns (no conditions but that the source lies in its block). -/
import Derived.Test.YtilajoafppplcaaAll1
import Derived.BigRegion
import Derived.BigQuiet
import Derived.Deep.QuietTactic
namespace Go.Proofs.Ytilajoafppplcaa
open Go.ChangeShapes Go.WideShapes Go.ChangeAt Go.RowKit
open Go.ChangeMaps (open_string shut_string)
set_option linter.unusedVariables false

theorem setCell_twice (w : World) (b o : Nat) (u v : Value) : (w.setCell ⟨b, o, none⟩ u).setCell ⟨b, o, none⟩ v = w.setCell ⟨b, o, none⟩ v := by
  unfold World.setCell
  simp only
  congr 1
  apply Array.ext
  · simp
  · intro i h1 h2
    have h3 : i < w.heap.size := by simpa using h2
    simp only [Array.getElem_modify]
    split
    · cases w.heap[i]'h3 <;> simp
    · rfl
theorem setCell_drewN (w : World) (p : Addr) (v : Value) (n : Nat) : (w.drewN n).setCell p v = (w.setCell p v).drewN n := rfl

/-- where a source lies: its block, what it draws from, how far it is, its mix and size -/
def SrcAt (B : Nat) (a : Option Addr) (len cap : Nat) (at1 mix sz : Int) (w : World) : Prop :=
  w.heap[B]? = some (.cells #[.slice a len cap, .int .i64 at1, .int .u64 mix, .int .i64 sz] 109 (0, 0)) ∧ 0 ≤ at1 ∧ at1 ≤ (len : Int) ∧ 0 ≤ mix ∧ mix ≤ 18446744073709551615
/-- the bytes that are drawn from can be read -/
def RowAt (B : Nat) (a : Option Addr) (len : Nat) (w : World) : Prop := ∀ j, j < len → ∃ b o, a = some ⟨b, o, none⟩ ∧ b < B ∧ ∃ z : Int, 0 ≤ z ∧ z < 256 ∧ w.cell? ⟨b, o + j, none⟩ = some (.int .u8 z)
/-- nothing but block B has turned, and no block has come -/
structure Only (B : Nat) (w w' : World) : Prop where
  os : w'.os = w.os
  tape : w'.tape = w.tape
  output : w'.output = w.output
  size : w'.heap.size = w.heap.size
  block : ∀ k, k ≠ B → w'.heap[k]? = w.heap[k]?
theorem Only.refl (B : Nat) (w : World) : Only B w w := ⟨rfl, rfl, rfl, rfl, fun _ _ => rfl⟩
theorem Only.trans {B : Nat} {a b c : World} (h : Only B a b) (k : Only B b c) : Only B a c :=
  ⟨k.os.trans h.os, k.tape.trans h.tape, k.output.trans h.output, k.size.trans h.size, fun i hi => (k.block i hi).trans (h.block i hi)⟩
theorem Only.setCell {B : Nat} {a w : World} (h : Only B a w) (o : Nat) (v : Value) : Only B a (w.setCell ⟨B, o, none⟩ v) :=
  h.trans ⟨rfl, rfl, rfl, by simp [World.setCell], fun k hk => Below.heap_setCell _ _ _ _ hk⟩
theorem Only.drewN {B : Nat} {a w : World} (h : Only B a w) (n : Nat) : Only B a (w.drewN n) := ⟨h.os, h.tape, h.output, h.size, h.block⟩
theorem Only.drew {B : Nat} {a w : World} (h : Only B a w) : Only B a w.drew := ⟨h.os, h.tape, h.output, h.size, h.block⟩
theorem srcCells {B : Nat} {a : Option Addr} {len cap : Nat} {at1 mix sz : Int} {w : World} (h : SrcAt B a len cap at1 mix sz w) :
    w.cell? ⟨B, 0, none⟩ = some (.slice a len cap) ∧ w.cell? ⟨B, 1, none⟩ = some (.int .i64 at1) ∧ w.cell? ⟨B, 2, none⟩ = some (.int .u64 mix) ∧ w.cell? ⟨B, 3, none⟩ = some (.int .i64 sz) ∧ ∀ o, w.frozen? ⟨B, o, none⟩ = false := by
  obtain ⟨hb, _⟩ := h
  refine ⟨?_, ?_, ?_, ?_, ?_⟩
  · simp [World.cell?, hb]
  · simp [World.cell?, hb]
  · simp [World.cell?, hb]
  · simp [World.cell?, hb]
  · intro o; simp [World.frozen?, hb]

/-- .. wherever it has come to -/
def SrcE (B : Nat) (a : Option Addr) (len cap : Nat) (sz : Int) (w : World) : Prop := ∃ at1 mix, SrcAt B a len cap at1 mix sz w
/-- what a draw below 'most' answers -/
def Drawn (B : Nat) (a : Option Addr) (len cap : Nat) (sz most : Int) (w : World) (e : Ending) (w' : World) : Prop :=
  ∃ r : Int, e = .returned (.int .i64 r) ∧ 0 ≤ r ∧ (r < most ∨ r = 0) ∧ SrcE B a len cap sz w' ∧ Only B w w'

theorem draw_bound {x most : Int} (h1 : 1 < most) (h2 : most ≤ 4611686018427387904) : 0 ≤ wrap64 ((IntKind.u64.wrap x).tmod most) ∧ wrap64 ((IntKind.u64.wrap x).tmod most) < most := by
  have h3 : 0 ≤ IntKind.u64.wrap x := by rw [IntKind.wrap_u64]; omega
  rw [Int.tmod_eq_emod_of_nonneg h3]
  have h4 := Int.emod_nonneg (IntKind.u64.wrap x) (show most ≠ 0 by omega)
  have h5 := Int.emod_lt_of_pos (IntKind.u64.wrap x) (show 0 < most by omega)
  rw [IntWalk.wrap64_in _ (by omega)]
  exact ⟨h4, h5⟩
theorem draw_bound' {x most : Int} (hx : 0 ≤ x) (hx2 : x ≤ 18446744073709551615) (h1 : 1 < most) (h2 : most ≤ 4611686018427387904) : 0 ≤ wrap64 (x.tmod most) ∧ wrap64 (x.tmod most) < most := by
  have := draw_bound (x := x) h1 h2
  rwa [IntWalk.u64_in _ ⟨hx, hx2⟩] at this

theorem srcSet2 {B : Nat} {a : Option Addr} {len cap : Nat} {sz m : Int} {w : World} (h : SrcE B a len cap sz w) (hm : 0 ≤ m) (hm2 : m ≤ 18446744073709551615) :
    SrcE B a len cap sz (w.setCell ⟨B, 2, none⟩ (.int .u64 m)) := by
  obtain ⟨at1, mix, h⟩ := h
  exact ⟨at1, m, (heap_setCell_same w B 2 _ _ _ h.1).trans rfl, h.2.1, h.2.2.1, hm, hm2⟩
theorem srcSet1 {B : Nat} {a : Option Addr} {len cap : Nat} {at2 sz : Int} {w : World} (h : SrcE B a len cap sz w) (hm : 0 ≤ at2) (hm2 : at2 ≤ (len : Int)) :
    SrcE B a len cap sz (w.setCell ⟨B, 1, none⟩ (.int .i64 at2)) := by
  obtain ⟨at1, mix, h⟩ := h
  exact ⟨at2, mix, (heap_setCell_same w B 1 _ _ _ h.1).trans rfl, hm, hm2, h.2.2.2.1, h.2.2.2.2⟩
theorem srcDrew {B : Nat} {a : Option Addr} {len cap : Nat} {sz : Int} {w : World} (h : SrcE B a len cap sz w) : SrcE B a len cap sz w.drew := h
theorem srcDrewN {B : Nat} {a : Option Addr} {len cap : Nat} {sz : Int} {w : World} (h : SrcE B a len cap sz w) (n : Nat) : SrcE B a len cap sz (w.drewN n) := h

set_option maxRecDepth 100000 in
set_option maxHeartbeats 2000000 in
attribute [local go_sem] setCell_twice in
theorem srcN_end (B : Nat) (a : Option Addr) (len cap : Nat) (at1 most mix sz : Int) (w : World) (hS : SrcAt B a len cap at1 mix sz w) (h1 : 1 < most) (h2 : most ≤ 4611686018427387904) (hat : ¬ at1 < (len : Int)) :
    Calls Try.prog 45 #[.pointer (some ⟨B, 0, none⟩), .int .i64 most] w fun e w' => Drawn B a len cap sz most w e w' := by
  obtain ⟨c0, c1, c2, c3, f⟩ := srcCells hS
  have f1 := f 1
  have f2 := f 2
  have hm := hS.2.2.2.1
  have hm2 := hS.2.2.2.2
  clear f
  go_enter Try.func45, Try.ntmps45
  go_wp2
  go_quiet (fail)
  go_wp2
  go_region
  go_wp2
  go_region
  go_wp2
  go_region
  go_wp2
  go_ret
  refine ⟨_, rfl, (draw_bound h1 h2).1, Or.inl (draw_bound h1 h2).2, ?s, ?o⟩
  case s => repeat (first | exact ⟨_, _, hS⟩ | refine srcDrew ?_ | refine srcDrewN ?_ _ | refine srcSet2 ?_ (bits_lo_u64 _ _ _) (bits_hi_u64 _ _ _) | refine srcSet1 ?_ (by omega) (by omega))
  case o => repeat (first | exact Only.refl _ _ | refine Only.drew ?_ | refine Only.drewN ?_ _ | refine Only.setCell ?_ _ _)

set_option maxRecDepth 100000 in
set_option maxHeartbeats 2000000 in
attribute [local go_sem] setCell_twice in
theorem srcN_more (B : Nat) (a : Option Addr) (len cap : Nat) (at1 most mix sz : Int) (w : World) (hS : SrcAt B a len cap at1 mix sz w) (hR : RowAt B a len w) (h1 : 1 < most) (h2 : most ≤ 4611686018427387904) (hat : at1 < (len : Int)) (hl : len ≤ 1048576) :
    Calls Try.prog 45 #[.pointer (some ⟨B, 0, none⟩), .int .i64 most] w fun e w' => Drawn B a len cap sz most w e w' := by
  obtain ⟨c0, c1, c2, c3, f⟩ := srcCells hS
  have f1 := f 1
  have f2 := f 2
  have hm := hS.2.2.2.1
  have hm2 := hS.2.2.2.2
  have ha0 := hS.2.1
  obtain ⟨n, rfl⟩ : ∃ n : Nat, at1 = n := ⟨at1.toNat, by omega⟩
  obtain ⟨b, o, rfl, hbB, z, hz1, hz2, hc⟩ := hR n (by omega)
  have hlen : (len : Int) ≤ 1048576 := by omega
  clear f hR
  go_enter Try.func45, Try.ntmps45
  go_wp2
  go_quiet (fail)
  go_wp2
  go_quiet (fail)
  go_wp2
  go_region
  go_wp2
  go_region
  go_wp2
  go_region
  go_wp2
  go_ret
  refine ⟨_, rfl, (draw_bound h1 h2).1, Or.inl (draw_bound h1 h2).2, ?s, ?o⟩
  case s => repeat (first | exact ⟨_, _, hS⟩ | refine srcDrew ?_ | refine srcDrewN ?_ _ | refine srcSet2 ?_ (bits_lo_u64 _ _ _) (bits_hi_u64 _ _ _) | refine srcSet1 ?_ (by omega) (by omega))
  case o => repeat (first | exact Only.refl _ _ | refine Only.drew ?_ | refine Only.drewN ?_ _ | refine Only.setCell ?_ _ _)

/-- a source that lies in block B and can be drawn from -/
def Src (B : Nat) (a : Option Addr) (len cap : Nat) (w : World) : Prop := len ≤ 1048576 ∧ (∃ at1 mix sz, SrcAt B a len cap at1 mix sz w) ∧ RowAt B a len w
theorem Src.lt {B : Nat} {a : Option Addr} {len cap : Nat} {w : World} (h : Src B a len cap w) : B < w.heap.size := by
  obtain ⟨_, ⟨_, _, _, hb, _⟩, _⟩ := h
  exact (Array.getElem?_eq_some_iff.1 hb).1
theorem RowAt.below {B : Nat} {a : Option Addr} {len : Nat} {w w' : World} (h : RowAt B a len w) (hb : ∀ k, k < B → w'.heap[k]? = w.heap[k]?) : RowAt B a len w' := by
  intro j hj
  obtain ⟨b, o, e, hlt, z, h1, h2, hc⟩ := h j hj
  exact ⟨b, o, e, hlt, z, h1, h2, (World.cell?_of_block (w := w) (hb b hlt)).trans hc⟩
theorem Only.src {B : Nat} {a : Option Addr} {len cap : Nat} {w w' : World} {at1 mix sz : Int} (h : Only B w w') (hS : Src B a len cap w) (hn : SrcAt B a len cap at1 mix sz w') : Src B a len cap w' :=
  ⟨hS.1, ⟨_, _, _, hn⟩, hS.2.2.below fun k hk => h.block k (by omega)⟩
/-- a source stays where no old block turns -/
theorem Src.kept {B : Nat} {a : Option Addr} {len cap : Nat} {w w' : World} (hS : Src B a len cap w) (h : ∀ k, k < B + 1 → w'.heap[k]? = w.heap[k]?) : Src B a len cap w' := by
  obtain ⟨h1, ⟨_, _, _, hb, r⟩, h3⟩ := hS
  exact ⟨h1, ⟨_, _, _, (h B (by omega)).trans hb, r⟩, h3.below fun k hk => h k (by omega)⟩
theorem Only.below {B : Nat} {w w' : World} (h : Only B w w') : Below B w w' := ⟨h.os, h.tape, h.output, Nat.le_of_eq h.size.symm, fun k hk => h.block k (by omega)⟩

/-- what a draw below 'most' answers, of a source -/
def DrawnS (B : Nat) (a : Option Addr) (len cap : Nat) (most : Int) (w : World) (e : Ending) (w' : World) : Prop :=
  ∃ r : Int, e = .returned (.int .i64 r) ∧ 0 ≤ r ∧ (r < most ∨ r = 0) ∧ Src B a len cap w' ∧ Only B w w'

set_option maxRecDepth 100000 in
theorem srcN_any (B : Nat) (a : Option Addr) (len cap : Nat) (most : Int) (w : World) (hS : Src B a len cap w) (h2 : most ≤ 4611686018427387904) :
    Calls Try.prog 45 #[.pointer (some ⟨B, 0, none⟩), .int .i64 most] w fun e w' => DrawnS B a len cap most w e w' := by
  by_cases h1 : 1 < most
  · obtain ⟨hl, ⟨at1, mix, sz, hA⟩, hR⟩ := hS
    have key : Calls Try.prog 45 #[.pointer (some ⟨B, 0, none⟩), .int .i64 most] w fun e w' => Drawn B a len cap sz most w e w' := by
      by_cases hat : at1 < (len : Int)
      · exact srcN_more B a len cap at1 most mix sz w hA hR h1 h2 hat hl
      · exact srcN_end B a len cap at1 most mix sz w hA h1 h2 hat
    refine key.mono fun e w' hd => ?_
    obtain ⟨r, he, h3, h4, ⟨at2, m2, h5⟩, h6⟩ := hd
    exact ⟨r, he, h3, h4, h6.src ⟨hl, ⟨_, _, _, hA⟩, hR⟩ h5, h6⟩
  · have h1' : most ≤ 1 := by omega
    clear h1
    go_enter Try.func45, Try.ntmps45
    go_wp2
    go_ret
    exact ⟨0, rfl, by omega, Or.inr rfl, hS, Only.refl _ _⟩

/-- what a drawn yes or no answers -/
def DrawnB (B : Nat) (a : Option Addr) (len cap : Nat) (w : World) (e : Ending) (w' : World) : Prop :=
  ∃ r : Bool, e = .returned (.bool r) ∧ Src B a len cap w' ∧ Only B w w'

theorem srcOne_any (B : Nat) (a : Option Addr) (len cap : Nat) (most : Int) (w : World) (hS : Src B a len cap w) (h2 : most ≤ 4611686018427387904) :
    Calls Try.prog 44 #[.pointer (some ⟨B, 0, none⟩), .int .i64 most] w fun e w' => DrawnB B a len cap w e w' := by
  go_enter Try.func44, Try.ntmps44
  go_wp2_with fail
  refine (srcN_any B a len cap most w hS h2).mono ?_
  rintro e w1 ⟨r, rfl, h3, h4, h5, h6⟩
  go_wp2
  go_ret
  exact ⟨_, rfl, h5, h6⟩
end Go.Proofs.Ytilajoafppplcaa
