/- Proved here: small facts on byte slices of a call's own: what is written stays, a byte appended, the slice turned into a string. · Proved here: what the draws of package spec answer: a number drawn below 'most' lies there; the source stays one; no other memory turns (no conditions but that the source lies in its block). · Proved here: a source of draws is made of any bytes (condition: at most 2^20 bytes, that can be read). · Proved here: plain facts on sums: a sum folded into a word, the words of a text added up, a check that turns; and two facts on the bits of int64 (no program of its own). · Proved here: small facts for walks: equal numbers return alike (no program of its own). · Proved here: spec's draws for chapter 6 answer some numbers within their bounds; all old memory stays (condition: the bytes that are drawn from can be read, at most 2^20 of them). · Proved here: laws.lwAt answers a number below 'most', or 0, and leaves memory alone (condition: the bytes that are drawn from can be read, at most 2^20 of them). · Proved here: nothing of a program: what a packet's flags say, the next state, a state's life and name, as plain functions. · Proved here: nothing of a program: how a talk's state may turn, case by case. · Proved here: spec.l02Is answers whether a number lies between two, and leaves memory alone (no conditions). · Proved here: spec.SignOf and impl.SignOf answer what flags say; memory stays (no conditions). · Proved here: spec.SignOf, spec.NextState, spec.LifeOf and spec.StateName answer as the plain functions; all old memory stays (no conditions). · Proved here: spec.NextState answers the next state; memory stays (no conditions). · Proved here: impl.LifeOf, impl.StateName and the parts of impl.NextState answer as the plain functions; all old memory stays (conditions: a state). -/
import Derived.Test.YtedknnkdnccfmabRows
import Derived.WalkKit
import Derived.WalkSpells
import Derived.ProofKit
import Derived.OpenShut
import Derived.ShutString
import Derived.Handy
import Derived.Below
import Derived.Laws.BitsAllLaws
import Derived.Laws.IdiomStrings
import Derived.BigRegion
import Derived.BigQuiet
import Derived.Deep.QuietTactic
section
namespace Go.Proofs.Ytedknnkdnccfmab
open Go.ChangeShapes Go.WideShapes Go.ChangeAt Go.RowKit
open Go.ChangeMaps (open_string shut_string)
set_option linter.unusedVariables false

theorem ret_int' {k : IntKind} {a b : Int} (h : a = b) : Ending.returned (.int k a) = .returned (.int k b) := by rw [h]
theorem val_int' {k : IntKind} {a b : Int} (h : a = b) : Value.int k a = .int k b := by rw [h]

def bytesV (l : List UInt8) : List Value := l.map fun c => .int .u8 (c.toNat : Int)
theorem bytesV_snoc (l : List UInt8) (c : UInt8) : bytesV (l ++ [c]) = bytesV l ++ [.int .u8 (c.toNat : Int)] := by simp [bytesV]

theorem Try.infoU8 : (Try.prog.info? 5).map (fun i => (i.zero, i.size, i.bytes)) = some (some (.int .u8 0), 1, 1) := by kernel_rfl

theorem heap_new (w : World) (o : Obj) : (w.alloc o).heap[w.heap.size]? = some o := by show (w.heap.push o)[w.heap.size]? = _; simp

/-- a slice that owns the bytes l, as a string -/
theorem conv_own {w : World} {B : Nat} {v : Value} {l : List UInt8} (h : w.ownsRow B 5 1 v l.length (bytesV l)) :
    (convert 22 9 v).run Try.prog w = .ok (.string ⟨l.toArray⟩) w := by
  have h0 := h
  rcases h.2 with ⟨rfl, hn⟩ | ⟨g, cap, cur, rfl, hg, hh, hnc, hcp, hcs, htake⟩
  · obtain rfl : l = [] := List.length_eq_zero_iff.1 hn
    rw [run_convert_bytes_string w 22 9 5 none 0 0 Try.underlying22 Try.underlying5 Try.underlying9]
    simp [Conv.bytesToString]
    rfl
  · exact run_convert_bytes_back (P := Try.prog) w 22 9 5 ⟨g, 0, none⟩ cap l Try.underlying22 Try.underlying5 Try.underlying9 (fun j hj => by
      rw [Addr.add_lit, Nat.zero_add, h0.cellAt j (by omega)]
      simp [bytesV, hj])

theorem own_snoc {w : World} {B : Nat} {v : Value} {l : List UInt8} {c : UInt8} {x : Int} (hx : x = (c.toNat : Int)) (h : w.ownsRow B 5 1 v (l.length + 1) (bytesV l ++ [.int .u8 x])) :
    w.ownsRow B 5 1 v (l ++ [c]).length (bytesV (l ++ [c])) := by
  rw [bytesV_snoc, List.length_append, ← hx]; exact h

/-- behind a byte that was appended to a slice of the call's own -/
theorem below_app {B : Nat} {w wr w1 : World} {v : Value} {n : Nat} {xs : List Value} {o : Obj} (hbel : Below B w wr) (hB : B ≤ wr.heap.size) (hown : wr.ownsRow B 5 1 v n xs) (hg : (wr.alloc o).grownBy w1 v.ownBlock) : Below B w w1 :=
  (hbel.alloc hB o).grown hg (by simp; omega) (fun k hk => (hown.lt k hk).1)
end Go.Proofs.Ytedknnkdnccfmab
end

section
namespace Go.Proofs.Ytedknnkdnccfmab
open Go.ChangeShapes Go.WideShapes Go.ChangeAt Go.RowKit
open Go.ChangeMaps (open_string shut_string)
set_option linter.unusedVariables false

theorem setCell_twice (w : World) (b o : Nat) (u v : Value) : (w.setCell ⟨b, o, none⟩ u).setCell ⟨b, o, none⟩ v = w.setCell ⟨b, o, none⟩ v := by
  unfold World.setCell
  simp only
  congr 1
  apply Array.ext
  · simp
  · intro i h1 h2
    have h3 : i < w.heap.size := by simpa using h2
    simp only [Array.getElem_modify]
    split
    · cases w.heap[i]'h3 <;> simp
    · rfl
theorem setCell_drewN (w : World) (p : Addr) (v : Value) (n : Nat) : (w.drewN n).setCell p v = (w.setCell p v).drewN n := rfl

/-- where a source lies: its block, what it draws from, how far it is, its mix and size -/
def SrcAt (B : Nat) (a : Option Addr) (len cap : Nat) (at1 mix sz : Int) (w : World) : Prop :=
  w.heap[B]? = some (.cells #[.slice a len cap, .int .i64 at1, .int .u64 mix, .int .i64 sz] 45 (0, 0)) ∧ 0 ≤ at1 ∧ at1 ≤ (len : Int) ∧ 0 ≤ mix ∧ mix ≤ 18446744073709551615
/-- the bytes that are drawn from can be read -/
def RowAt (B : Nat) (a : Option Addr) (len : Nat) (w : World) : Prop := ∀ j, j < len → ∃ b o, a = some ⟨b, o, none⟩ ∧ b < B ∧ ∃ z : Int, 0 ≤ z ∧ z < 256 ∧ w.cell? ⟨b, o + j, none⟩ = some (.int .u8 z)
/-- nothing but block B has turned, and no block has come -/
structure Only (B : Nat) (w w' : World) : Prop where
  os : w'.os = w.os
  tape : w'.tape = w.tape
  output : w'.output = w.output
  size : w'.heap.size = w.heap.size
  block : ∀ k, k ≠ B → w'.heap[k]? = w.heap[k]?
theorem Only.refl (B : Nat) (w : World) : Only B w w := ⟨rfl, rfl, rfl, rfl, fun _ _ => rfl⟩
theorem Only.trans {B : Nat} {a b c : World} (h : Only B a b) (k : Only B b c) : Only B a c :=
  ⟨k.os.trans h.os, k.tape.trans h.tape, k.output.trans h.output, k.size.trans h.size, fun i hi => (k.block i hi).trans (h.block i hi)⟩
theorem Only.setCell {B : Nat} {a w : World} (h : Only B a w) (o : Nat) (v : Value) : Only B a (w.setCell ⟨B, o, none⟩ v) :=
  h.trans ⟨rfl, rfl, rfl, by simp [World.setCell], fun k hk => Below.heap_setCell _ _ _ _ hk⟩
theorem Only.drewN {B : Nat} {a w : World} (h : Only B a w) (n : Nat) : Only B a (w.drewN n) := ⟨h.os, h.tape, h.output, h.size, h.block⟩
theorem Only.drew {B : Nat} {a w : World} (h : Only B a w) : Only B a w.drew := ⟨h.os, h.tape, h.output, h.size, h.block⟩
theorem srcCells {B : Nat} {a : Option Addr} {len cap : Nat} {at1 mix sz : Int} {w : World} (h : SrcAt B a len cap at1 mix sz w) :
    w.cell? ⟨B, 0, none⟩ = some (.slice a len cap) ∧ w.cell? ⟨B, 1, none⟩ = some (.int .i64 at1) ∧ w.cell? ⟨B, 2, none⟩ = some (.int .u64 mix) ∧ w.cell? ⟨B, 3, none⟩ = some (.int .i64 sz) ∧ ∀ o, w.frozen? ⟨B, o, none⟩ = false := by
  obtain ⟨hb, _⟩ := h
  refine ⟨?_, ?_, ?_, ?_, ?_⟩
  · simp [World.cell?, hb]
  · simp [World.cell?, hb]
  · simp [World.cell?, hb]
  · simp [World.cell?, hb]
  · intro o; simp [World.frozen?, hb]

/-- .. wherever it has come to -/
def SrcE (B : Nat) (a : Option Addr) (len cap : Nat) (sz : Int) (w : World) : Prop := ∃ at1 mix, SrcAt B a len cap at1 mix sz w
/-- what a draw below 'most' answers -/
def Drawn (B : Nat) (a : Option Addr) (len cap : Nat) (sz most : Int) (w : World) (e : Ending) (w' : World) : Prop :=
  ∃ r : Int, e = .returned (.int .i64 r) ∧ 0 ≤ r ∧ (r < most ∨ r = 0) ∧ SrcE B a len cap sz w' ∧ Only B w w'

theorem draw_bound {x most : Int} (h1 : 1 < most) (h2 : most ≤ 4611686018427387904) : 0 ≤ wrap64 ((IntKind.u64.wrap x).tmod most) ∧ wrap64 ((IntKind.u64.wrap x).tmod most) < most := by
  have h3 : 0 ≤ IntKind.u64.wrap x := by rw [IntKind.wrap_u64]; omega
  rw [Int.tmod_eq_emod_of_nonneg h3]
  have h4 := Int.emod_nonneg (IntKind.u64.wrap x) (show most ≠ 0 by omega)
  have h5 := Int.emod_lt_of_pos (IntKind.u64.wrap x) (show 0 < most by omega)
  rw [IntWalk.wrap64_in _ (by omega)]
  exact ⟨h4, h5⟩
theorem draw_bound' {x most : Int} (hx : 0 ≤ x) (hx2 : x ≤ 18446744073709551615) (h1 : 1 < most) (h2 : most ≤ 4611686018427387904) : 0 ≤ wrap64 (x.tmod most) ∧ wrap64 (x.tmod most) < most := by
  have := draw_bound (x := x) h1 h2
  rwa [IntWalk.u64_in _ ⟨hx, hx2⟩] at this

theorem srcSet2 {B : Nat} {a : Option Addr} {len cap : Nat} {sz m : Int} {w : World} (h : SrcE B a len cap sz w) (hm : 0 ≤ m) (hm2 : m ≤ 18446744073709551615) :
    SrcE B a len cap sz (w.setCell ⟨B, 2, none⟩ (.int .u64 m)) := by
  obtain ⟨at1, mix, h⟩ := h
  exact ⟨at1, m, (heap_setCell_same w B 2 _ _ _ h.1).trans rfl, h.2.1, h.2.2.1, hm, hm2⟩
theorem srcSet1 {B : Nat} {a : Option Addr} {len cap : Nat} {at2 sz : Int} {w : World} (h : SrcE B a len cap sz w) (hm : 0 ≤ at2) (hm2 : at2 ≤ (len : Int)) :
    SrcE B a len cap sz (w.setCell ⟨B, 1, none⟩ (.int .i64 at2)) := by
  obtain ⟨at1, mix, h⟩ := h
  exact ⟨at2, mix, (heap_setCell_same w B 1 _ _ _ h.1).trans rfl, hm, hm2, h.2.2.2.1, h.2.2.2.2⟩
theorem srcDrew {B : Nat} {a : Option Addr} {len cap : Nat} {sz : Int} {w : World} (h : SrcE B a len cap sz w) : SrcE B a len cap sz w.drew := h
theorem srcDrewN {B : Nat} {a : Option Addr} {len cap : Nat} {sz : Int} {w : World} (h : SrcE B a len cap sz w) (n : Nat) : SrcE B a len cap sz (w.drewN n) := h

set_option maxRecDepth 100000 in
set_option maxHeartbeats 2000000 in
attribute [local go_sem] setCell_twice in
theorem srcN_end (B : Nat) (a : Option Addr) (len cap : Nat) (at1 most mix sz : Int) (w : World) (hS : SrcAt B a len cap at1 mix sz w) (h1 : 1 < most) (h2 : most ≤ 4611686018427387904) (hat : ¬ at1 < (len : Int)) :
    Calls Try.prog 18 #[.pointer (some ⟨B, 0, none⟩), .int .i64 most] w fun e w' => Drawn B a len cap sz most w e w' := by
  obtain ⟨c0, c1, c2, c3, f⟩ := srcCells hS
  have f1 := f 1
  have f2 := f 2
  have hm := hS.2.2.2.1
  have hm2 := hS.2.2.2.2
  clear f
  go_enter Try.func18, Try.ntmps18
  go_wp2
  go_quiet (fail)
  go_wp2
  go_region
  go_wp2
  go_region
  go_wp2
  go_region
  go_wp2
  go_ret
  refine ⟨_, rfl, (draw_bound h1 h2).1, Or.inl (draw_bound h1 h2).2, ?s, ?o⟩
  case s => repeat (first | exact ⟨_, _, hS⟩ | refine srcDrew ?_ | refine srcDrewN ?_ _ | refine srcSet2 ?_ (bits_lo_u64 _ _ _) (bits_hi_u64 _ _ _) | refine srcSet1 ?_ (by omega) (by omega))
  case o => repeat (first | exact Only.refl _ _ | refine Only.drew ?_ | refine Only.drewN ?_ _ | refine Only.setCell ?_ _ _)

set_option maxRecDepth 100000 in
set_option maxHeartbeats 2000000 in
attribute [local go_sem] setCell_twice in
theorem srcN_more (B : Nat) (a : Option Addr) (len cap : Nat) (at1 most mix sz : Int) (w : World) (hS : SrcAt B a len cap at1 mix sz w) (hR : RowAt B a len w) (h1 : 1 < most) (h2 : most ≤ 4611686018427387904) (hat : at1 < (len : Int)) (hl : len ≤ 1048576) :
    Calls Try.prog 18 #[.pointer (some ⟨B, 0, none⟩), .int .i64 most] w fun e w' => Drawn B a len cap sz most w e w' := by
  obtain ⟨c0, c1, c2, c3, f⟩ := srcCells hS
  have f1 := f 1
  have f2 := f 2
  have hm := hS.2.2.2.1
  have hm2 := hS.2.2.2.2
  have ha0 := hS.2.1
  obtain ⟨n, rfl⟩ : ∃ n : Nat, at1 = n := ⟨at1.toNat, by omega⟩
  obtain ⟨b, o, rfl, hbB, z, hz1, hz2, hc⟩ := hR n (by omega)
  have hlen : (len : Int) ≤ 1048576 := by omega
  clear f hR
  go_enter Try.func18, Try.ntmps18
  go_wp2
  go_quiet (fail)
  go_wp2
  go_quiet (fail)
  go_wp2
  go_region
  go_wp2
  go_region
  go_wp2
  go_region
  go_wp2
  go_ret
  refine ⟨_, rfl, (draw_bound h1 h2).1, Or.inl (draw_bound h1 h2).2, ?s, ?o⟩
  case s => repeat (first | exact ⟨_, _, hS⟩ | refine srcDrew ?_ | refine srcDrewN ?_ _ | refine srcSet2 ?_ (bits_lo_u64 _ _ _) (bits_hi_u64 _ _ _) | refine srcSet1 ?_ (by omega) (by omega))
  case o => repeat (first | exact Only.refl _ _ | refine Only.drew ?_ | refine Only.drewN ?_ _ | refine Only.setCell ?_ _ _)

/-- a source that lies in block B and can be drawn from -/
def Src (B : Nat) (a : Option Addr) (len cap : Nat) (w : World) : Prop := len ≤ 1048576 ∧ (∃ at1 mix sz, SrcAt B a len cap at1 mix sz w) ∧ RowAt B a len w
theorem Src.lt {B : Nat} {a : Option Addr} {len cap : Nat} {w : World} (h : Src B a len cap w) : B < w.heap.size := by
  obtain ⟨_, ⟨_, _, _, hb, _⟩, _⟩ := h
  exact (Array.getElem?_eq_some_iff.1 hb).1
theorem RowAt.below {B : Nat} {a : Option Addr} {len : Nat} {w w' : World} (h : RowAt B a len w) (hb : ∀ k, k < B → w'.heap[k]? = w.heap[k]?) : RowAt B a len w' := by
  intro j hj
  obtain ⟨b, o, e, hlt, z, h1, h2, hc⟩ := h j hj
  exact ⟨b, o, e, hlt, z, h1, h2, (World.cell?_of_block (w := w) (hb b hlt)).trans hc⟩
theorem Only.src {B : Nat} {a : Option Addr} {len cap : Nat} {w w' : World} {at1 mix sz : Int} (h : Only B w w') (hS : Src B a len cap w) (hn : SrcAt B a len cap at1 mix sz w') : Src B a len cap w' :=
  ⟨hS.1, ⟨_, _, _, hn⟩, hS.2.2.below fun k hk => h.block k (by omega)⟩
/-- a source stays where no old block turns -/
theorem Src.kept {B : Nat} {a : Option Addr} {len cap : Nat} {w w' : World} (hS : Src B a len cap w) (h : ∀ k, k < B + 1 → w'.heap[k]? = w.heap[k]?) : Src B a len cap w' := by
  obtain ⟨h1, ⟨_, _, _, hb, r⟩, h3⟩ := hS
  exact ⟨h1, ⟨_, _, _, (h B (by omega)).trans hb, r⟩, h3.below fun k hk => h k (by omega)⟩
theorem Only.below {B : Nat} {w w' : World} (h : Only B w w') : Below B w w' := ⟨h.os, h.tape, h.output, Nat.le_of_eq h.size.symm, fun k hk => h.block k (by omega)⟩

/-- what a draw below 'most' answers, of a source -/
def DrawnS (B : Nat) (a : Option Addr) (len cap : Nat) (most : Int) (w : World) (e : Ending) (w' : World) : Prop :=
  ∃ r : Int, e = .returned (.int .i64 r) ∧ 0 ≤ r ∧ (r < most ∨ r = 0) ∧ Src B a len cap w' ∧ Only B w w'

set_option maxRecDepth 100000 in
theorem srcN_any (B : Nat) (a : Option Addr) (len cap : Nat) (most : Int) (w : World) (hS : Src B a len cap w) (h2 : most ≤ 4611686018427387904) :
    Calls Try.prog 18 #[.pointer (some ⟨B, 0, none⟩), .int .i64 most] w fun e w' => DrawnS B a len cap most w e w' := by
  by_cases h1 : 1 < most
  · obtain ⟨hl, ⟨at1, mix, sz, hA⟩, hR⟩ := hS
    have key : Calls Try.prog 18 #[.pointer (some ⟨B, 0, none⟩), .int .i64 most] w fun e w' => Drawn B a len cap sz most w e w' := by
      by_cases hat : at1 < (len : Int)
      · exact srcN_more B a len cap at1 most mix sz w hA hR h1 h2 hat hl
      · exact srcN_end B a len cap at1 most mix sz w hA h1 h2 hat
    refine key.mono fun e w' hd => ?_
    obtain ⟨r, he, h3, h4, ⟨at2, m2, h5⟩, h6⟩ := hd
    exact ⟨r, he, h3, h4, h6.src ⟨hl, ⟨_, _, _, hA⟩, hR⟩ h5, h6⟩
  · have h1' : most ≤ 1 := by omega
    clear h1
    go_enter Try.func18, Try.ntmps18
    go_wp2
    go_ret
    exact ⟨0, rfl, by omega, Or.inr rfl, hS, Only.refl _ _⟩

/-- what a drawn yes or no answers -/
def DrawnB (B : Nat) (a : Option Addr) (len cap : Nat) (w : World) (e : Ending) (w' : World) : Prop :=
  ∃ r : Bool, e = .returned (.bool r) ∧ Src B a len cap w' ∧ Only B w w'

theorem srcOne_any (B : Nat) (a : Option Addr) (len cap : Nat) (most : Int) (w : World) (hS : Src B a len cap w) (h2 : most ≤ 4611686018427387904) :
    Calls Try.prog 19 #[.pointer (some ⟨B, 0, none⟩), .int .i64 most] w fun e w' => DrawnB B a len cap w e w' := by
  go_enter Try.func19, Try.ntmps19
  go_wp2_with fail
  refine (srcN_any B a len cap most w hS h2).mono ?_
  rintro e w1 ⟨r, rfl, h3, h4, h5, h6⟩
  go_wp2
  go_ret
  exact ⟨_, rfl, h5, h6⟩
end Go.Proofs.Ytedknnkdnccfmab
end

section
namespace Go.Proofs.Ytedknnkdnccfmab
open Go.ChangeShapes Go.WideShapes Go.ChangeAt Go.RowKit
open Go.ChangeMaps (open_string shut_string)
set_option linter.unusedVariables false


theorem Only.grown {B : Nat} {w w' : World} (h : Only B w w') : w.grownBy w' (some B) := ⟨h.os, h.tape, h.output, Nat.le_of_eq h.size.symm, fun k _ hk => h.block k (fun e => hk (by rw [e]))⟩

theorem cellOfHeap {w : World} {g : Nat} {cs : Array Value} {e : TypeId} {fr : Nat × Nat} (h : w.heap[g]? = some (.cells cs e fr)) (j : Nat) : w.cell? ⟨g, j, none⟩ = cs[j]? := by
  simp [World.cell?, h]

theorem srcAtSet2 {B : Nat} {a : Option Addr} {len cap : Nat} {at1 mix sz m : Int} {w : World} (h : SrcAt B a len cap at1 mix sz w) (hm : 0 ≤ m) (hm2 : m ≤ 18446744073709551615) :
    SrcAt B a len cap at1 m sz (w.setCell ⟨B, 2, none⟩ (.int .u64 m)) :=
  ⟨(heap_setCell_same w B 2 _ _ _ h.1).trans rfl, h.2.1, h.2.2.1, hm, hm2⟩
theorem srcAtSet3 {B : Nat} {a : Option Addr} {len cap : Nat} {at1 mix sz s2 : Int} {w : World} (h : SrcAt B a len cap at1 mix sz w) :
    SrcAt B a len cap at1 mix s2 (w.setCell ⟨B, 3, none⟩ (.int .i64 s2)) :=
  ⟨(heap_setCell_same w B 3 _ _ _ h.1).trans rfl, h.2⟩

set_option maxRecDepth 100000 in
set_option maxHeartbeats 2000000 in
attribute [local go_sem] setCell_twice in
theorem source_any (a : Option Addr) (len cap : Nat) (w : World) (hR : RowAt w.heap.size a len w) (hl : len ≤ 1048576) :
    Calls Try.prog 17 #[.slice a len cap] w fun e w' => e = .returned (.pointer (some ⟨w.heap.size, 0, none⟩)) ∧ Src w.heap.size a len cap w' ∧ Below w.heap.size w w' := by
  have hl' : (len : Int) ≤ 1048576 := by omega
  go_enter Try.func17, Try.ntmps17
  go_wp2
  go_loopw [4] (fun i wr => ∃ k : Nat, k ≤ len ∧ k ≤ 64 ∧ i = .int .i64 (k : Int) ∧ (∃ mix, SrcAt w.heap.size a len cap 0 mix 0 wr) ∧ RowAt w.heap.size a len wr ∧ Below w.heap.size w wr ∧ wr.heap.size = w.heap.size + 1) (fun i _ => 64 - (intOf i).toNat)
  case atStart =>
    exact ⟨0, by omega, by omega, rfl, ⟨88172645463325252, heap_new _ _, by omega, by omega, by omega, by omega⟩, hR.below fun k hk => Below.heap_alloc _ _ _ hk, (Below.refl _ _).alloc (Nat.le_refl _) _, by simp⟩
  case round =>
    obtain ⟨k, hk, hk64, rfl, ⟨mix, hA⟩, hRr, hbel, hsz⟩ := hrel
    obtain ⟨c0, c1, c2, c3, f⟩ := srcCells hA
    have f2 := f 2
    have f3 := f 3
    have hm := hA.2.2.2.1
    have hm2 := hA.2.2.2.2
    have HZ : Hid (wr.heap.size = w.heap.size + 1) := hsz
    clear f hsz
    by_cases hlt : k < len
    · by_cases h64 : k < 64
      · obtain ⟨b, o, rfl, hbB, z, hz1, hz2, hc⟩ := hRr k hlt
        have HR : Hid (RowAt w.heap.size (some ⟨b, o, none⟩) len wr) := hRr
        have hlt' : (k : Int) < (len : Int) := by omega
        have h64' : (k : Int) < 64 := by omega
        clear hRr hR
        go_wp2
        go_region
        go_wp2
        go_roundw
        case rel => exact ⟨k + 1, by omega, by omega, by go_num, ⟨_, srcAtSet2 hA (by rw [IntKind.wrap_u64]; omega) (by rw [IntKind.wrap_u64]; omega)⟩, HR.out.below fun j hj => Below.heap_setCell _ _ _ _ (by show j ≠ w.heap.size; omega), (hbel.setCell (Nat.le_refl _) _).drew, by have := HZ.out; simpa [World.setCell] using this⟩
        case measure => simp [intOf]; omega
      · have h64' : ¬ ((k : Int) < 64) := by omega
        have hlt' : (k : Int) < (len : Int) := by omega
        clear hR
        by_cases h12 : 12 < (len : Int) / 20
        · go_wp2
          go_ret
          exact ⟨rfl, ⟨hl, ⟨_, _, _, srcAtSet3 hA⟩, hRr.below fun k hk => Below.heap_setCell _ _ _ _ (by show k ≠ w.heap.size; omega)⟩, hbel.setCell (Nat.le_refl _) _⟩
        · go_wp2
          go_ret
          exact ⟨rfl, ⟨hl, ⟨_, _, _, srcAtSet3 hA⟩, hRr.below fun k hk => Below.heap_setCell _ _ _ _ (by show k ≠ w.heap.size; omega)⟩, hbel.setCell (Nat.le_refl _) _⟩
    · have hlt' : ¬ ((k : Int) < (len : Int)) := by omega
      clear hR
      have h12 : ¬ 12 < (len : Int) / 20 := by omega
      go_wp2
      go_ret
      exact ⟨rfl, ⟨hl, ⟨_, _, _, srcAtSet3 hA⟩, hRr.below fun k hk => Below.heap_setCell _ _ _ _ (by show k ≠ w.heap.size; omega)⟩, hbel.setCell (Nat.le_refl _) _⟩
end Go.Proofs.Ytedknnkdnccfmab
end

section
namespace Go.Proofs.Ytedknnkdnccfmab
open Go.ChangeShapes Go.WideShapes Go.ChangeAt Go.RowKit
open Go.ChangeMaps (open_string shut_string)
set_option linter.unusedVariables false

/-- a sum folded into a word -/
def foldN (n : Nat) : Nat := if n = 0 then 0 else (n - 1) % 65535 + 1
theorem foldN_le (n : Nat) : foldN n ≤ 65535 := by unfold foldN; split <;> omega
theorem foldN_word {n : Nat} (h : n ≤ 65535) : foldN n = n := by unfold foldN; split <;> omega
theorem foldN_step {n : Nat} (h : 65535 < n) : foldN (n % 65536 + n / 65536) = foldN n := by unfold foldN; rw [if_neg (by omega), if_neg (by omega)]; omega
theorem foldN_down {n : Nat} (h : 65535 < n) : n % 65536 + n / 65536 < n := by omega
theorem foldN_zero {n : Nat} : foldN n = 0 ↔ n = 0 := by unfold foldN; split <;> omega
theorem foldN_add (a b : Nat) : foldN (foldN a + foldN b) = foldN (a + b) := by
  unfold foldN
  by_cases ha : a = 0
  · subst ha
    by_cases hb : b = 0
    · subst hb; rfl
    · simp only [hb, if_false, if_true, Nat.zero_add]
      rw [if_neg (by omega)]
      omega
  · by_cases hb : b = 0
    · subst hb
      simp only [ha, if_false, if_true, Nat.add_zero]
      rw [if_neg (by omega)]
      omega
    · simp only [ha, hb, if_false]
      rw [if_neg (by omega), if_neg (by omega)]
      omega
theorem foldN_pos {n : Nat} (h : n ≠ 0) : foldN n = (n - 1) % 65535 + 1 := if_neg h
/-- a text with its check behind it -/
theorem foldN_good (a : Nat) : foldN (a + (65535 - foldN a)) = 65535 := by
  by_cases ha : a = 0
  · subst ha; rfl
  · have h1 := foldN_pos ha
    have h2 := foldN_le a
    rw [foldN_pos (by omega)]
    omega
/-- a check that turns with a word -/
theorem foldN_turn {a y z : Nat} (ha : a ≠ 0) (hy : y ≤ 65535) : foldN (65535 - (65535 - foldN (a + y)) + (65535 - y) + z) = foldN (a + z) := by
  have h1 := foldN_pos (n := a + y) (by omega)
  have h2 := foldN_le (a + y)
  rw [foldN_pos (n := a + z) (by omega), foldN_pos (by omega)]
  omega

/-- the words of a text added up -/
def rawSum : List UInt8 → Nat
  | [] => 0
  | [a] => 256 * a.toNat
  | a :: b :: l => 256 * a.toNat + b.toNat + rawSum l
theorem rawSum_two (a b : UInt8) (l : List UInt8) : rawSum (a :: b :: l) = 256 * a.toNat + b.toNat + rawSum l := rfl
theorem rawSum_app (k : Nat) : ∀ (l m : List UInt8), l.length = 2 * k → rawSum (l ++ m) = rawSum l + rawSum m := by
  induction k with
  | zero => intro l m h; obtain rfl : l = [] := List.length_eq_zero_iff.1 (by omega); simp [rawSum]
  | succ k ih =>
    intro l m h
    match l, h with
    | a :: b :: l, h =>
      have := ih l m (by simp at h; omega)
      simp only [List.cons_append, rawSum_two, this]
      omega
theorem rawSum_le : ∀ (n : Nat) (l : List UInt8), l.length ≤ n → rawSum l ≤ 65535 * l.length
  | 0, l, h => by obtain rfl : l = [] := List.length_eq_zero_iff.1 (by omega); simp [rawSum]
  | 1, l, h => by
    match l, h with
    | [], _ => simp [rawSum]
    | [a], _ => have := a.toNat_lt; simp [rawSum]; omega
  | n + 2, l, h => by
    match l, h with
    | [], _ => simp [rawSum]
    | [a], _ => have := a.toNat_lt; simp [rawSum]; omega
    | a :: b :: l, h =>
      have := rawSum_le n l (by simp at h; omega)
      have := a.toNat_lt
      have := b.toNat_lt
      rw [rawSum_two, List.length_cons, List.length_cons]
      omega
/-- the word at place i -/
theorem rawSum_step2 (l : List UInt8) (k : Nat) (h : 2 * k + 1 < l.length) : rawSum (l.take (2 * (k + 1))) = rawSum (l.take (2 * k)) + (256 * l[2 * k].toNat + l[2 * k + 1].toNat) := by
  have e : l.take (2 * (k + 1)) = l.take (2 * k) ++ [l[2 * k], l[2 * k + 1]] := by
    rw [show 2 * (k + 1) = 2 * k + 1 + 1 from by omega, List.take_succ_eq_append_getElem h, List.take_succ_eq_append_getElem (show 2 * k < l.length by omega), List.append_assoc]
    rfl
  rw [e, rawSum_app k _ _ (by simp; omega)]
  simp [rawSum]
theorem rawSum_step1 (l : List UInt8) (k : Nat) (h : 2 * k + 1 = l.length) : rawSum (l.take (2 * (k + 1))) = rawSum (l.take (2 * k)) + 256 * (l[2 * k]'(by omega)).toNat := by
  have e : l.take (2 * (k + 1)) = l.take (2 * k) ++ [l[2 * k]'(by omega)] := by
    rw [List.take_of_length_le (by omega), ← List.take_succ_eq_append_getElem (by omega), List.take_of_length_le (by omega)]
  rw [e, rawSum_app k _ _ (by simp; omega)]
  simp [rawSum]

/-- the word of that number in a text -/
def wordN (l : List UInt8) (k : Nat) : Nat := rawSum ((l.drop (2 * k)).take 2)
theorem rawSum_word (l : List UInt8) (k : Nat) (h : 2 * k < l.length) : rawSum (l.take (2 * (k + 1))) = rawSum (l.take (2 * k)) + wordN l k := by
  rw [show 2 * (k + 1) = 2 * k + 2 from by omega, List.take_add, rawSum_app k _ _ (by simp; omega)]
  rfl
theorem wordN_two (l : List UInt8) (k : Nat) (h : 2 * k + 1 < l.length) : wordN l k = 256 * l[2 * k].toNat + l[2 * k + 1].toNat := by
  have h1 := rawSum_step2 l k h
  have h2 := rawSum_word l k (by omega)
  omega
theorem wordN_one (l : List UInt8) (k : Nat) (h : 2 * k + 1 = l.length) : wordN l k = 256 * (l[2 * k]'(by omega)).toNat := by
  have h1 := rawSum_step1 l k h
  have h2 := rawSum_word l k (by omega)
  omega
theorem wordN_le (l : List UInt8) (k : Nat) : wordN l k ≤ 65535 * 2 := by
  have h1 := rawSum_le 2 ((l.drop (2 * k)).take 2) (by simp; omega)
  have h2 : ((l.drop (2 * k)).take 2).length ≤ 2 := by simp; omega
  unfold wordN
  omega
/-- what SumOf is to answer -/
def sumAns (s : ByteArray) : Nat := if 8000 < s.size then 0 else foldN (rawSum s.data.toList)
theorem sumAns_le (s : ByteArray) : sumAns s ≤ 65535 := by unfold sumAns; split; omega; exact foldN_le _
/-- a word -/
def wordB (z : Int) : Bool := decide (0 ≤ z) && decide (z ≤ 65535)
theorem wordB_iff {z : Int} : wordB z = true ↔ 0 ≤ z ∧ z ≤ 65535 := by simp [wordB]
/-- what CheckOf, SumAdd and CheckTurn are to answer -/
def checkAns (s : ByteArray) : Int := if 8000 < s.size then 0 else 65535 - (sumAns s : Int)
def addAns (a b : Int) : Int := if wordB a = true ∧ wordB b = true then (foldN (a + b).toNat : Int) else -1
def turnAns (c a b : Int) : Int := if wordB c = true ∧ wordB a = true ∧ wordB b = true then 65535 - (foldN (65535 - c + (65535 - a) + b).toNat : Int) else -1
def wordT (n : Int) : ByteArray := if wordB n = true then ⟨#[UInt8.ofNat (n.toNat / 256), UInt8.ofNat (n.toNat % 256)]⟩ else ⟨#[]⟩
theorem ofInt_i64 (a : Nat) (ha : a < 9223372036854775808) : (BitVec.ofInt 64 (a : Int)).toNat = a := by
  rw [BitVec.ofInt_natCast, BitVec.toNat_ofNat]; exact Nat.mod_eq_of_lt (by omega)
theorem i64_and_nat (a b : Nat) (ha : a < 9223372036854775808) (hb : b < 9223372036854775808) : bits .and .i64 (a : Int) (b : Int) = ((a &&& b : Nat) : Int) := by
  have hx : a &&& b < 2 ^ 63 := Nat.and_lt_two_pow _ (by omega)
  show IntKind.i64.wrap ((BitVec.ofInt 64 (a : Int) &&& BitVec.ofInt 64 (b : Int)).toNat : Int) = _
  rw [BitVec.toNat_and, ofInt_i64 a ha, ofInt_i64 b hb]
  exact IntWalk.i64_in _ (by omega)
theorem i64_or_nat (a b : Nat) (ha : a < 9223372036854775808) (hb : b < 9223372036854775808) : bits .or .i64 (a : Int) (b : Int) = ((a ||| b : Nat) : Int) := by
  have hx : a ||| b < 2 ^ 63 := Nat.or_lt_two_pow (by omega) (by omega)
  show IntKind.i64.wrap ((BitVec.ofInt 64 (a : Int) ||| BitVec.ofInt 64 (b : Int)).toNat : Int) = _
  rw [BitVec.toNat_or, ofInt_i64 a ha, ofInt_i64 b hb]
  exact IntWalk.i64_in _ (by omega)
theorem i64_low16 (n : Nat) (h : n < 9223372036854775808) : bits BinOp.and IntKind.i64 (n : Int) 65535 = ((n % 65536 : Nat) : Int) := by
  have := i64_and_nat n 65535 h (by omega)
  rw [show n &&& 65535 = n % 65536 from Nat.and_two_pow_sub_one_eq_mod n 16] at this
  exact this
theorem i64_join8 (a b : Nat) (ha : a < 256) (hb : b < 256) : bits BinOp.or IntKind.i64 ((a : Int) * 256) (b : Int) = ((256 * a + b : Nat) : Int) := by
  have := i64_or_nat (a * 256) b (by omega) (by omega)
  rw [nat_join 8 (a * 256) b (by omega) (by omega)] at this
  rw [show ((a : Int) * 256) = ((a * 256 : Nat) : Int) from by omega, this]
  omega
end Go.Proofs.Ytedknnkdnccfmab
end

section
namespace Go.Proofs.Ytedknnkdnccfmab
open Go.ChangeShapes Go.WideShapes Go.ChangeAt Go.RowKit
open Go.ChangeMaps (open_string shut_string)
set_option linter.unusedVariables false

theorem ret_intS {k : IntKind} {a b : Int} (h : a = b) : Ending.returned (.int k a) = .returned (.int k b) := by rw [h]
theorem val_intS {k : IntKind} {a b : Int} (h : a = b) : Value.int k a = .int k b := by rw [h]
theorem hidS {q : Prop} (h : q) : Hid q := h
theorem w64_small {n : Nat} (h : n < 256) : wrap64 (n : Int) = n := by unfold wrap64; omega
end Go.Proofs.Ytedknnkdnccfmab
end

section
namespace Go.Proofs.Ytedknnkdnccfmab
open Go.ChangeShapes Go.WideShapes Go.ChangeAt Go.RowKit
set_option linter.unusedVariables false
set_option maxRecDepth 100000

/-- what a draw of one number answers -/
def SomeNum (lo hi : Int) (w : World) (e : Ending) (w' : World) : Prop := ∃ z : Int, e = .returned (.int .i64 z) ∧ lo ≤ z ∧ z ≤ hi ∧ Below w.heap.size w w'
theorem drawLife_any (a : Option Addr) (len cap : Nat) (w : World) (hR : RowAt w.heap.size a len w) (hl : len ≤ 1048576) :
    Calls Try.prog 7 #[.slice a len cap] w fun e w' => SomeNum (-1) 9 w e w' := by
  go_enter Try.func7, Try.ntmps7
  go_wp2_with fail
  refine (source_any a len cap w hR hl).mono ?_
  rintro e w1 ⟨rfl, hS1, hb1⟩
  go_wp2_with fail
  refine (srcN_any _ a len cap 11 w1 hS1 (by omega)).mono ?_
  rintro e w2 ⟨r, rfl, hr1, hr2, hS2, hO2⟩
  have hb2 := hidS (hb1.trans hO2.below)
  have hr3 : r ≤ 10 := by omega
  clear hR hS1 hO2 hb1 hr2 hS2
  go_wp2
  go_ret
  exact ⟨r - 1, rfl, by omega, by omega, hb2.out⟩
theorem drawName_any (a : Option Addr) (len cap : Nat) (w : World) (hR : RowAt w.heap.size a len w) (hl : len ≤ 1048576) :
    Calls Try.prog 8 #[.slice a len cap] w fun e w' => SomeNum (-1) 9 w e w' := by
  go_enter Try.func8, Try.ntmps8
  go_wp2_with fail
  refine (source_any a len cap w hR hl).mono ?_
  rintro e w1 ⟨rfl, hS1, hb1⟩
  go_wp2_with fail
  refine (srcN_any _ a len cap 11 w1 hS1 (by omega)).mono ?_
  rintro e w2 ⟨r, rfl, hr1, hr2, hS2, hO2⟩
  have hb2 := hidS (hb1.trans hO2.below)
  have hr3 : r ≤ 10 := by omega
  clear hR hS1 hO2 hb1 hr2 hS2
  go_wp2
  go_ret
  exact ⟨r - 1, rfl, by omega, by omega, hb2.out⟩
theorem drawNext_any (a : Option Addr) (len cap : Nat) (w : World) (hR : RowAt w.heap.size a len w) (hl : len ≤ 1048576) :
    Calls Try.prog 4 #[.slice a len cap] w fun e w' => ∃ (s : Int) (b : Bool) (g : Int), e = .returned (.tuple #[.int .i64 s, .bool b, .int .i64 g]) ∧ Below w.heap.size w w' := by
  go_enter Try.func4, Try.ntmps4
  go_wp2_with fail
  refine (source_any a len cap w hR hl).mono ?_
  rintro e w1 ⟨rfl, hS1, hb1⟩
  go_wp2_with fail
  refine (srcN_any _ a len cap 11 w1 hS1 (by omega)).mono ?_
  rintro e w2 ⟨r, rfl, hr1, hr2, hS2, hO2⟩
  have hb2 := hidS (hb1.trans hO2.below)
  have hr3 : r ≤ 10 := by omega
  clear hR hS1 hO2 hb1 hr2
  go_wp2_with fail
  refine (srcOne_any _ a len cap 2 w2 hS2 (by omega)).mono ?_
  rintro e w3 ⟨c, rfl, hS3, hO3⟩
  have hb3 := hidS (hb2.out.trans hO3.below)
  clear hS2 hO3 hb2
  go_wp2_with fail
  refine (srcN_any _ a len cap 8 w3 hS3 (by omega)).mono ?_
  rintro e w4 ⟨r2, rfl, hq1, hq2, hS4, hO4⟩
  have hb4 := hidS (hb3.out.trans hO4.below)
  have hq3 : r2 ≤ 7 := by omega
  clear hS3 hO4 hb3 hq2 hS4
  go_wp2
  refine bodyPost_ret (v := .tuple #[.int .i64 (r - 1), .bool c, .int .i64 (r2 - 1)]) (by simp [results, Try.results4, go_sem]) rfl ⟨r - 1, c, r2 - 1, rfl, hb4.out⟩
set_option maxHeartbeats 2000000 in
theorem drawSign_any (a : Option Addr) (len cap : Nat) (w : World) (hR : RowAt w.heap.size a len w) (hl : len ≤ 1048576) :
    Calls Try.prog 6 #[.slice a len cap] w fun e w' => SomeNum (-1) 64 w e w' := by
  go_enter Try.func6, Try.ntmps6
  go_wp2_with fail
  refine (source_any a len cap w hR hl).mono ?_
  rintro e w1 ⟨rfl, hS1, hb1⟩
  go_wp2_with fail
  refine (srcOne_any _ a len cap 8 w1 hS1 (by omega)).mono ?_
  rintro e w2 ⟨c, rfl, hS2, hO2⟩
  have hb2 := hb1.trans hO2.below
  have hlt := hS2.lt
  clear hR hS1 hO2 hb1
  cases c
  · go_wp2_with fail
    refine (srcN_any _ a len cap 64 w2 hS2 (by omega)).mono ?_
    rintro e w3 ⟨r, rfl, hr1, hr2, hS3, hO3⟩
    have hb3 := hidS (hb2.trans hO3.below)
    have hr3 : r ≤ 63 := by omega
    clear hS2 hO3 hb2 hr2 hS3 hlt
    go_wp2
    go_ret
    exact ⟨r, rfl, by omega, by omega, hb3.out⟩
  · go_wp2_with fail
    refine (srcN_any _ a len cap 3 _ (hS2.kept fun k hk => Below.heap_alloc _ _ _ (by omega)) (by omega)).mono ?_
    rintro e w3 ⟨r, rfl, hr1, hr2, hS3, hO3⟩
    have hr3 : r ≤ 2 := by omega
    have hrow : ∃ z : Int, -1 ≤ z ∧ z ≤ 64 ∧ w3.cell? ⟨w2.heap.size, r.toNat, none⟩ = some (.int .i64 z) := by
      have hh := (hO3.block w2.heap.size (by omega)).trans (heap_new _ _)
      obtain ⟨j, rfl⟩ : ∃ j : Nat, r = j := ⟨r.toNat, by omega⟩
      rw [Int.toNat_natCast, cellOfHeap hh]
      rcases (by omega : j = 0 ∨ j = 1 ∨ j = 2) with rfl | rfl | rfl
      all_goals exact ⟨_, by decide, by decide, rfl⟩
    obtain ⟨z, hz1, hz2, hc⟩ := hrow
    have hb3 := hidS ((hb2.alloc hb2.size (.cells #[.int .i64 (-1), .int .i64 63, .int .i64 64] 2)).trans hO3.below)
    clear hr2 hS2 hO3 hb2 hS3
    go_wp2
    go_ret
    exact ⟨z, rfl, hz1, hz2, hb3.out⟩
end Go.Proofs.Ytedknnkdnccfmab
end

section
namespace Go.Proofs.Ytedknnkdnccfmab
open Go.ChangeShapes Go.WideShapes Go.ChangeAt Go.RowKit
open Go.ChangeMaps (open_string shut_string)
set_option linter.unusedVariables false

/-- what lwAt answers -/
def AtOf (most : Int) (w : World) (e : Ending) (w' : World) : Prop := ∃ r : Int, e = .returned (.int .i64 r) ∧ 0 ≤ r ∧ (r < most ∨ r = 0) ∧ w' = w

set_option maxRecDepth 100000 in
theorem lwAt_any (B : Nat) (a : Option Addr) (len cap : Nat) (i most : Int) (w : World) (hR : RowAt B a len w) (hl : len ≤ 1048576) (hi : 0 ≤ i) (hi2 : i ≤ 1000) (hm : most ≤ 4611686018427387904) :
    Calls Try.prog 16 #[.slice a len cap, .int .i64 i, .int .i64 most] w fun e w' => AtOf most w e w' := by
  by_cases h1 : most ≤ 1
  · go_enter Try.func16, Try.ntmps16
    go_wp2
    go_ret
    exact ⟨0, rfl, by omega, Or.inr rfl, rfl⟩
  by_cases h0 : len = 0
  · subst h0
    go_enter Try.func16, Try.ntmps16
    go_wp2
    go_ret
    exact ⟨0, rfl, by omega, Or.inr rfl, rfl⟩
  · have hne : ((len : Int) == 0) = false := beq_eq_false_iff_ne.2 (by omega)
    have hp : 0 < (len : Int) := by omega
    have hl' : (len : Int) ≤ 1048576 := by omega
    have hj1 : 0 ≤ i % (len : Int) := Int.emod_nonneg _ (by omega)
    have hj2 : i % (len : Int) < (len : Int) := Int.emod_lt_of_pos _ hp
    obtain ⟨b, o, rfl, hbB, z, hz1, hz2, hc⟩ := hR (i % (len : Int)).toNat (by omega)
    have h1' : 1 < most := by omega
    clear hR h1
    go_enter Try.func16, Try.ntmps16
    go_wp2
    go_ret
    exact ⟨z % most, rfl, Int.emod_nonneg _ (by omega), Or.inl (Int.emod_lt_of_pos _ (by omega)), rfl⟩

end Go.Proofs.Ytedknnkdnccfmab
end

section
namespace Go.Proofs.Ytedknnkdnccfmab
open Go.ChangeShapes Go.WideShapes Go.ChangeAt Go.RowKit
set_option linter.unusedVariables false

/-- is it a state? -/
def stB (s : Int) : Bool := decide (0 ≤ s) && decide (s ≤ 8)
theorem stB_iff {s : Int} : stB s = true ↔ 0 ≤ s ∧ s ≤ 8 := by unfold stB; simp
theorem states {s : Int} (h : stB s = true) : s = 0 ∨ s = 1 ∨ s = 2 ∨ s = 3 ∨ s = 4 ∨ s = 5 ∨ s = 6 ∨ s = 7 ∨ s = 8 := by have := stB_iff.1 h; omega
/-- what flags say -/
def signZ (f : Int) : Int := if 0 ≤ f ∧ f ≤ 63 then (if f / 4 % 2 = 1 then 5 else if f / 2 % 2 = 1 then (if f / 16 % 2 = 1 then 2 else 1) else if f % 2 = 1 then 3 else if f / 16 % 2 = 1 then 4 else 0) else -1
def ackZ (s : Int) (b : Bool) : Int := if s = 2 then (if b then 2 else 3) else if s = 3 then 3 else if s = 4 then 5 else if s = 5 then 5 else if s = 6 then 7 else if s = 7 then 7 else if s = 8 then 8 else -1
def finZ (s : Int) : Int := if s = 2 then 4 else if s = 3 then 4 else if s = 4 then 6 else if s = 5 then 6 else if s = 6 then 6 else if s = 7 then 7 else if s = 8 then 8 else -1
def synZ (s : Int) (b : Bool) : Int := if b then -1 else if s = 0 then 1 else if s = 1 then 1 else if s = 7 then 1 else if s = 8 then 1 else -1
def bothZ (s : Int) (b : Bool) : Int := if b then (if s = 1 then 2 else if s = 2 then 2 else -1) else -1
def rstZ (s : Int) : Int := if s = 0 then -1 else 8
/-- the next state -/
def nextZ (s : Int) (b : Bool) (g : Int) : Int := if stB s = true then (if g = 5 then rstZ s else if g = 1 then synZ s b else if g = 2 then bothZ s b else if g = 3 then finZ s else if g = 4 then ackZ s b else -1) else -1
def lifeZ (s : Int) : Int := if s = 0 then 0 else if s = 1 then 20 else if s = 2 then 10 else if s = 3 then 500 else if s = 4 then 20 else if s = 5 then 15 else if s = 6 then 5 else if s = 7 then 20 else if s = 8 then 2 else -1
def nameZ (s : Int) : ByteArray := if s = 0 then ⟨#[110, 111, 110, 101]⟩ else if s = 1 then ⟨#[115, 101, 110, 116]⟩ else if s = 2 then ⟨#[114, 101, 99, 118]⟩ else if s = 3 then ⟨#[111, 112, 101, 110]⟩ else if s = 4 then ⟨#[102, 105, 110]⟩ else if s = 5 then ⟨#[104, 97, 108, 102]⟩ else if s = 6 then ⟨#[108, 97, 115, 116]⟩ else if s = 7 then ⟨#[119, 97, 105, 116]⟩ else if s = 8 then ⟨#[115, 104, 117, 116]⟩ else ⟨#[]⟩
theorem life_no {s : Int} (h : stB s = false) : lifeZ s = -1 := by
  have : ¬ (0 ≤ s ∧ s ≤ 8) := fun k => by rw [stB_iff.2 k] at h; cases h
  unfold lifeZ
  iterate 9 (rw [if_neg (by omega)])
theorem name_no {s : Int} (h : stB s = false) : nameZ s = ⟨#[]⟩ := by
  have : ¬ (0 ≤ s ∧ s ≤ 8) := fun k => by rw [stB_iff.2 k] at h; cases h
  unfold nameZ
  iterate 9 (rw [if_neg (by omega)])
theorem next_no {s : Int} (b : Bool) (g : Int) (h : stB s = false) : nextZ s b g = -1 := by unfold nextZ; rw [h]; rfl
theorem next_at {s : Int} (b : Bool) (g : Int) (h : stB s = true) : nextZ s b g = if g = 5 then rstZ s else if g = 1 then synZ s b else if g = 2 then bothZ s b else if g = 3 then finZ s else if g = 4 then ackZ s b else -1 := by unfold nextZ; rw [if_pos h]
end Go.Proofs.Ytedknnkdnccfmab
end

section
namespace Go.Proofs.Ytedknnkdnccfmab
set_option linter.unusedVariables false

theorem next_not0 (s : Int) (b : Bool) (g : Int) : (nextZ s b g == 0) = false := by
  rw [beq_eq_false_iff_ne]
  cases h : stB s
  · rw [next_no b g h]; decide
  · rw [next_at b g h]
    rcases states h with rfl | rfl | rfl | rfl | rfl | rfl | rfl | rfl | rfl <;> cases b <;> (repeat' split) <;> decide
/-- which way a state may turn -/
def Turn (s : Int) (b : Bool) (g k : Int) : Prop :=
  (s = 0 ∧ b = false ∧ g = 1 ∧ k = 1) ∨ (s = 0 ∧ g = 5 ∧ k = -1) ∨ (s = 0 ∧ (g == 5) = false ∧ k = -1) ∨
  (s = 8 ∧ g = 5 ∧ k = 8) ∨ (s = 8 ∧ b = false ∧ g = 1 ∧ k = 1) ∨ (s = 8 ∧ (g == 5) = false ∧ k = -1) ∨ (s = 8 ∧ (g == 5) = false ∧ k = 8) ∨
  ((s == 0) = false ∧ (s == 8) = false ∧ g = 5 ∧ k = 8) ∨ ((s == 0) = false ∧ (s == 8) = false ∧ (g == 5) = false ∧ k = -1) ∨ ((s == 0) = false ∧ (s == 8) = false ∧ (g == 5) = false ∧ 0 ≤ k ∧ k ≤ 8)
instance (s : Int) (b : Bool) (g k : Int) : Decidable (Turn s b g k) := by unfold Turn; infer_instance
theorem turn_of (s : Int) (b : Bool) (g : Int) (hs : stB s = true) (h0 : 0 ≤ g) (h5 : g ≤ 5) : Turn s b g (nextZ s b g) := by
  rcases states hs with rfl | rfl | rfl | rfl | rfl | rfl | rfl | rfl | rfl <;> cases b <;> rcases (by omega : g = 0 ∨ g = 1 ∨ g = 2 ∨ g = 3 ∨ g = 4 ∨ g = 5) with rfl | rfl | rfl | rfl | rfl | rfl <;> decide
end Go.Proofs.Ytedknnkdnccfmab
end

section
namespace Go.Proofs.Ytedknnkdnccfmab
open Go.ChangeShapes Go.WideShapes Go.ChangeAt Go.RowKit
open Go.ChangeMaps (open_string shut_string)
set_option linter.unusedVariables false

theorem l02Is_any (n lo hi : Int) (w : World) :
    Calls Try.prog 23 #[.int .i64 n, .int .i64 lo, .int .i64 hi] w fun e w' => e = .returned (.bool (decide (lo ≤ n) && decide (n ≤ hi))) ∧ w' = w := by
  by_cases h1 : lo ≤ n
  · by_cases h2 : n ≤ hi
    · go_enter Try.func23, Try.ntmps23
      go_wp2
      go_ret
      exact ⟨by simp [h1, h2], rfl⟩
    · go_enter Try.func23, Try.ntmps23
      go_wp2
      go_ret
      exact ⟨by simp [h2], rfl⟩
  · go_enter Try.func23, Try.ntmps23
    go_wp2
    go_ret
    exact ⟨by simp; omega, rfl⟩
end Go.Proofs.Ytedknnkdnccfmab
end

section
namespace Go.Proofs.Ytedknnkdnccfmab
open Go.ChangeShapes Go.WideShapes Go.ChangeAt Go.RowKit
set_option linter.unusedVariables false
set_option maxRecDepth 100000

theorem sixty (f : Int) (h : 0 ≤ f ∧ f ≤ 63) : f = 0 ∨ f = 1 ∨ f = 2 ∨ f = 3 ∨ f = 4 ∨ f = 5 ∨ f = 6 ∨ f = 7 ∨ f = 8 ∨ f = 9 ∨ f = 10 ∨ f = 11 ∨ f = 12 ∨ f = 13 ∨ f = 14 ∨ f = 15 ∨ f = 16 ∨ f = 17 ∨ f = 18 ∨ f = 19 ∨ f = 20 ∨ f = 21 ∨ f = 22 ∨ f = 23 ∨ f = 24 ∨ f = 25 ∨ f = 26 ∨ f = 27 ∨ f = 28 ∨ f = 29 ∨ f = 30 ∨ f = 31 ∨ f = 32 ∨ f = 33 ∨ f = 34 ∨ f = 35 ∨ f = 36 ∨ f = 37 ∨ f = 38 ∨ f = 39 ∨ f = 40 ∨ f = 41 ∨ f = 42 ∨ f = 43 ∨ f = 44 ∨ f = 45 ∨ f = 46 ∨ f = 47 ∨ f = 48 ∨ f = 49 ∨ f = 50 ∨ f = 51 ∨ f = 52 ∨ f = 53 ∨ f = 54 ∨ f = 55 ∨ f = 56 ∨ f = 57 ∨ f = 58 ∨ f = 59 ∨ f = 60 ∨ f = 61 ∨ f = 62 ∨ f = 63 := by omega
set_option maxHeartbeats 4000000 in
theorem specSign_any (f : Int) (w : World) :
    Calls Try.prog 11 #[.int .i64 f] w fun e w' => e = .returned (.int .i64 (signZ f)) ∧ w' = w := by
  by_cases h : 0 ≤ f ∧ f ≤ 63
  · have HS := hidS (fun W => l02Is_any f 0 63 W)
    have e : (decide (0 ≤ f) && decide (f ≤ 63)) = true := by simp [h]
    rw [e] at HS
    clear e
    rcases sixty f h with rfl | rfl | rfl | rfl | rfl | rfl | rfl | rfl | rfl | rfl | rfl | rfl | rfl | rfl | rfl | rfl | rfl | rfl | rfl | rfl | rfl | rfl | rfl | rfl | rfl | rfl | rfl | rfl | rfl | rfl | rfl | rfl | rfl | rfl | rfl | rfl | rfl | rfl | rfl | rfl | rfl | rfl | rfl | rfl | rfl | rfl | rfl | rfl | rfl | rfl | rfl | rfl | rfl | rfl | rfl | rfl | rfl | rfl | rfl | rfl | rfl | rfl | rfl | rfl <;>
    · clear h
      go_enter Try.func11, Try.ntmps11
      go_wp2_with fail
      refine (HS.out _).mono ?_
      rintro e w1 ⟨rfl, rfl⟩
      go_wp2
      go_ret
      exact ⟨rfl, rfl⟩
  · have HS := hidS (fun W => l02Is_any f 0 63 W)
    have e : (decide (0 ≤ f) && decide (f ≤ 63)) = false := by simp; omega
    rw [e] at HS
    have hz : signZ f = -1 := if_neg h
    rw [hz]
    clear e h hz
    go_enter Try.func11, Try.ntmps11
    go_wp2_with fail
    refine (HS.out _).mono ?_
    rintro e w1 ⟨rfl, rfl⟩
    go_wp2
    go_ret
    exact ⟨rfl, rfl⟩
set_option maxHeartbeats 4000000 in
theorem implSign_any (f : Int) (w : World) :
    Calls Try.prog 10 #[.int .i64 f] w fun e w' => e = .returned (.int .i64 (signZ f)) ∧ w' = w := by
  by_cases h : 0 ≤ f ∧ f ≤ 63
  · rcases sixty f h with rfl | rfl | rfl | rfl | rfl | rfl | rfl | rfl | rfl | rfl | rfl | rfl | rfl | rfl | rfl | rfl | rfl | rfl | rfl | rfl | rfl | rfl | rfl | rfl | rfl | rfl | rfl | rfl | rfl | rfl | rfl | rfl | rfl | rfl | rfl | rfl | rfl | rfl | rfl | rfl | rfl | rfl | rfl | rfl | rfl | rfl | rfl | rfl | rfl | rfl | rfl | rfl | rfl | rfl | rfl | rfl | rfl | rfl | rfl | rfl | rfl | rfl | rfl | rfl <;>
    · clear h
      go_enter Try.func10, Try.ntmps10
      go_wp2
      go_ret
      exact ⟨rfl, rfl⟩
  · have hz : signZ f = -1 := if_neg h
    rw [hz]
    by_cases h0 : f < 0
    · clear h hz
      go_enter Try.func10, Try.ntmps10
      go_wp2
      go_ret
      exact ⟨rfl, rfl⟩
    · have h1 : 63 < f := by omega
      clear h hz
      go_enter Try.func10, Try.ntmps10
      go_wp2
      go_ret
      exact ⟨rfl, rfl⟩
end Go.Proofs.Ytedknnkdnccfmab
end

section
namespace Go.Proofs.Ytedknnkdnccfmab
open Go.ChangeShapes Go.WideShapes Go.ChangeAt Go.RowKit
set_option linter.unusedVariables false
set_option maxRecDepth 100000

theorem l05State_any (s : Int) (w : World) :
    Calls Try.prog 22 #[.int .i64 s] w fun e w' => e = .returned (.bool (stB s)) ∧ w' = w := by
  go_enter Try.func22, Try.ntmps22
  go_wp2_with fail
  refine (l02Is_any s 0 8 _).mono ?_
  rintro e w1 ⟨rfl, rfl⟩
  go_wp2
  go_ret
  exact ⟨rfl, rfl⟩
set_option maxHeartbeats 2000000 in
theorem l05Ack_any (s : Int) (b : Bool) (w : World) (h : stB s = true) :
    Calls Try.prog 25 #[.int .i64 s, .bool b] w fun e w' => e = .returned (.int .i64 (ackZ s b)) ∧ w' = w := by
  cases b <;> rcases states h with rfl | rfl | rfl | rfl | rfl | rfl | rfl | rfl | rfl <;>
  · clear h
    go_enter Try.func25, Try.ntmps25
    go_wp2
    go_ret
    exact ⟨rfl, rfl⟩
set_option maxHeartbeats 2000000 in
theorem l05Fin_any (s : Int) (w : World) (h : stB s = true) :
    Calls Try.prog 24 #[.int .i64 s] w fun e w' => e = .returned (.int .i64 (finZ s)) ∧ w' = w := by
  rcases states h with rfl | rfl | rfl | rfl | rfl | rfl | rfl | rfl | rfl <;>
  · clear h
    go_enter Try.func24, Try.ntmps24
    go_wp2
    go_ret
    exact ⟨rfl, rfl⟩
set_option maxHeartbeats 2000000 in
theorem specLife_any (s : Int) (w : World) :
    Calls Try.prog 13 #[.int .i64 s] w fun e w' => e = .returned (.int .i64 (lifeZ s)) ∧ Below w.heap.size w w' := by
  have HS := hidS (fun W => l05State_any s W)
  cases h : stB s
  · rw [h] at HS
    rw [life_no h]
    clear h
    go_enter Try.func13, Try.ntmps13
    go_wp2_with fail
    refine (HS.out _).mono ?_
    rintro e w1 ⟨rfl, rfl⟩
    go_wp2
    go_ret
    exact ⟨rfl, Below.refl _ _⟩
  · rw [h] at HS
    rcases states h with rfl | rfl | rfl | rfl | rfl | rfl | rfl | rfl | rfl <;>
    · clear h
      go_enter Try.func13, Try.ntmps13
      go_wp2_with fail
      refine (HS.out _).mono ?_
      rintro e w1 ⟨rfl, rfl⟩
      go_wp2
      go_ret
      exact ⟨rfl, (Below.refl _ _).alloc (Nat.le_refl _) _⟩
set_option maxHeartbeats 2000000 in
theorem specName_any (s : Int) (w : World) :
    Calls Try.prog 15 #[.int .i64 s] w fun e w' => e = .returned (.string (nameZ s)) ∧ Below w.heap.size w w' := by
  have HS := hidS (fun W => l05State_any s W)
  cases h : stB s
  · rw [h] at HS
    rw [name_no h]
    clear h
    go_enter Try.func15, Try.ntmps15
    go_wp2_with fail
    refine (HS.out _).mono ?_
    rintro e w1 ⟨rfl, rfl⟩
    go_wp2
    go_ret
    exact ⟨rfl, Below.refl _ _⟩
  · rw [h] at HS
    rcases states h with rfl | rfl | rfl | rfl | rfl | rfl | rfl | rfl | rfl <;>
    · clear h
      go_enter Try.func15, Try.ntmps15
      go_wp2_with fail
      refine (HS.out _).mono ?_
      rintro e w1 ⟨rfl, rfl⟩
      go_wp2
      go_ret
      exact ⟨rfl, (Below.refl _ _).alloc (Nat.le_refl _) _⟩
end Go.Proofs.Ytedknnkdnccfmab
end

section
namespace Go.Proofs.Ytedknnkdnccfmab
open Go.ChangeShapes Go.WideShapes Go.ChangeAt Go.RowKit
set_option linter.unusedVariables false
set_option maxRecDepth 100000

set_option maxHeartbeats 4000000 in
theorem specNext_any (s : Int) (b : Bool) (g : Int) (w : World) :
    Calls Try.prog 9 #[.int .i64 s, .bool b, .int .i64 g] w fun e w' => e = .returned (.int .i64 (nextZ s b g)) ∧ w' = w := by
  have HS := hidS (fun W => l05State_any s W)
  cases h : stB s
  · rw [h] at HS
    rw [next_no b g h]
    clear h
    go_enter Try.func9, Try.ntmps9
    go_wp2_with (go_at_call 22; refine (HS.out _).mono ?_; rintro e w1 ⟨rfl, rfl⟩)
    go_ret
    exact ⟨rfl, rfl⟩
  · rw [h] at HS
    rw [next_at b g h]
    have HI := hidS (fun W => l02Is_any g 0 5 W)
    by_cases hg : 0 ≤ g ∧ g ≤ 5
    · have e : (decide (0 ≤ g) && decide (g ≤ 5)) = true := by simp [hg]
      rw [e] at HI
      clear e
      have HA := hidS (fun W => l05Ack_any s b W h)
      have HF := hidS (fun W => l05Fin_any s W h)
      rcases (by omega : g = 0 ∨ g = 1 ∨ g = 2 ∨ g = 3 ∨ g = 4 ∨ g = 5) with rfl | rfl | rfl | rfl | rfl | rfl
      · clear h hg
        go_enter Try.func9, Try.ntmps9
        go_wp2_with (first | (go_at_call 22; refine (HS.out _).mono ?_; rintro e w1 ⟨rfl, rfl⟩) | (go_at_call 23; refine (HI.out _).mono ?_; rintro e w1 ⟨rfl, rfl⟩))
        go_ret
        exact ⟨rfl, rfl⟩
      · cases b <;> rcases states h with rfl | rfl | rfl | rfl | rfl | rfl | rfl | rfl | rfl <;>
        · clear h hg HA HF
          go_enter Try.func9, Try.ntmps9
          go_wp2_with (first | (go_at_call 22; refine (HS.out _).mono ?_; rintro e w1 ⟨rfl, rfl⟩) | (go_at_call 23; refine (HI.out _).mono ?_; rintro e w1 ⟨rfl, rfl⟩))
          go_ret
          exact ⟨rfl, rfl⟩
      · cases b <;> rcases states h with rfl | rfl | rfl | rfl | rfl | rfl | rfl | rfl | rfl <;>
        · clear h hg HA HF
          go_enter Try.func9, Try.ntmps9
          go_wp2_with (first | (go_at_call 22; refine (HS.out _).mono ?_; rintro e w1 ⟨rfl, rfl⟩) | (go_at_call 23; refine (HI.out _).mono ?_; rintro e w1 ⟨rfl, rfl⟩))
          go_ret
          exact ⟨rfl, rfl⟩
      · clear h hg
        go_enter Try.func9, Try.ntmps9
        go_wp2_with (first | (go_at_call 22; refine (HS.out _).mono ?_; rintro e w1 ⟨rfl, rfl⟩) | (go_at_call 23; refine (HI.out _).mono ?_; rintro e w1 ⟨rfl, rfl⟩) | (go_at_call 24; refine (HF.out _).mono ?_; rintro e w1 ⟨rfl, rfl⟩))
        go_ret
        exact ⟨rfl, rfl⟩
      · clear h hg
        go_enter Try.func9, Try.ntmps9
        go_wp2_with (first | (go_at_call 22; refine (HS.out _).mono ?_; rintro e w1 ⟨rfl, rfl⟩) | (go_at_call 23; refine (HI.out _).mono ?_; rintro e w1 ⟨rfl, rfl⟩) | (go_at_call 25; refine (HA.out _).mono ?_; rintro e w1 ⟨rfl, rfl⟩))
        go_ret
        exact ⟨rfl, rfl⟩
      · rcases states h with rfl | rfl | rfl | rfl | rfl | rfl | rfl | rfl | rfl <;>
        · clear h hg HA HF
          go_enter Try.func9, Try.ntmps9
          go_wp2_with (first | (go_at_call 22; refine (HS.out _).mono ?_; rintro e w1 ⟨rfl, rfl⟩) | (go_at_call 23; refine (HI.out _).mono ?_; rintro e w1 ⟨rfl, rfl⟩))
          go_ret
          exact ⟨rfl, rfl⟩
    · have e : (decide (0 ≤ g) && decide (g ≤ 5)) = false := by simp; omega
      rw [e] at HI
      have hz : Hid ((if g = 5 then rstZ s else if g = 1 then synZ s b else if g = 2 then bothZ s b else if g = 3 then finZ s else if g = 4 then ackZ s b else -1) = -1) := by
        show _ = _
        iterate 5 (rw [if_neg (by omega)])
      rw [hz.out]
      clear e h hg
      go_enter Try.func9, Try.ntmps9
      go_wp2_with (first | (go_at_call 22; refine (HS.out _).mono ?_; rintro e w1 ⟨rfl, rfl⟩) | (go_at_call 23; refine (HI.out _).mono ?_; rintro e w1 ⟨rfl, rfl⟩))
      go_ret
      exact ⟨rfl, rfl⟩
end Go.Proofs.Ytedknnkdnccfmab
end

section
namespace Go.Proofs.Ytedknnkdnccfmab
open Go.ChangeShapes Go.WideShapes Go.ChangeAt Go.RowKit
set_option linter.unusedVariables false
set_option maxRecDepth 100000

set_option maxHeartbeats 2000000 in
theorem isState_any (s : Int) (w : World) :
    Calls Try.prog 20 #[.int .i64 s] w fun e w' => e = .returned (.bool (stB s)) ∧ w' = w := by
  by_cases h0 : 0 ≤ s
  · by_cases h8 : s ≤ 8
    · have e : Hid (stB s = true) := hidS (stB_iff.2 ⟨h0, h8⟩)
      go_enter Try.func20, Try.ntmps20
      go_wp2
      go_ret
      exact ⟨by rw [e.out]; rfl, rfl⟩
    · have e : Hid (stB s = false) := by show _ = _; unfold stB; simp; omega
      go_enter Try.func20, Try.ntmps20
      go_wp2
      go_ret
      exact ⟨by rw [e.out]; rfl, rfl⟩
  · have e : Hid (stB s = false) := by show _ = _; unfold stB; simp; omega
    go_enter Try.func20, Try.ntmps20
    go_wp2
    go_ret
    exact ⟨by rw [e.out]; rfl, rfl⟩
/-- is the talk over? -/
def endedB (s : Int) : Bool := decide (s = 7) || decide (s = 8)
theorem isEnded_any (s : Int) (w : World) (h : stB s = true) :
    Calls Try.prog 29 #[.int .i64 s] w fun e w' => e = .returned (.bool (endedB s)) ∧ w' = w := by
  rcases states h with rfl | rfl | rfl | rfl | rfl | rfl | rfl | rfl | rfl <;>
  · clear h
    go_enter Try.func29, Try.ntmps29
    go_wp2
    go_ret
    exact ⟨rfl, rfl⟩
theorem nowhere_any (s : Int) (b : Bool) (w : World) :
    Calls Try.prog 32 #[.int .i64 s, .bool b] w fun e w' => e = .returned (.int .i64 (-1)) ∧ w' = w := by
  go_enter Try.func32, Try.ntmps32
  go_wp2
  go_ret
  exact ⟨rfl, rfl⟩
theorem afterReset_any (s : Int) (b : Bool) (w : World) (h : stB s = true) :
    Calls Try.prog 26 #[.int .i64 s, .bool b] w fun e w' => e = .returned (.int .i64 (rstZ s)) ∧ w' = w := by
  rcases states h with rfl | rfl | rfl | rfl | rfl | rfl | rfl | rfl | rfl <;>
  · clear h
    go_enter Try.func26, Try.ntmps26
    go_wp2
    go_ret
    exact ⟨rfl, rfl⟩
set_option maxHeartbeats 2000000 in
theorem afterSyn_any (s : Int) (b : Bool) (w : World) (h : stB s = true) :
    Calls Try.prog 27 #[.int .i64 s, .bool b] w fun e w' => e = .returned (.int .i64 (synZ s b)) ∧ w' = w := by
  have HE := hidS (fun W => isEnded_any s W h)
  cases b <;> rcases states h with rfl | rfl | rfl | rfl | rfl | rfl | rfl | rfl | rfl <;>
  · clear h
    go_enter Try.func27, Try.ntmps27
    go_wp2_with (go_at_call 29; refine (HE.out _).mono ?_; rintro e w1 ⟨rfl, rfl⟩; simp only [endedB])
    go_ret
    exact ⟨rfl, rfl⟩
set_option maxHeartbeats 2000000 in
theorem afterBoth_any (s : Int) (b : Bool) (w : World) (h : stB s = true) :
    Calls Try.prog 28 #[.int .i64 s, .bool b] w fun e w' => e = .returned (.int .i64 (bothZ s b)) ∧ w' = w := by
  cases b <;> rcases states h with rfl | rfl | rfl | rfl | rfl | rfl | rfl | rfl | rfl <;>
  · clear h
    go_enter Try.func28, Try.ntmps28
    go_wp2
    go_ret
    exact ⟨rfl, rfl⟩
set_option maxHeartbeats 2000000 in
theorem afterFin_any (s : Int) (b : Bool) (w : World) (h : stB s = true) (he : endedB s = false) :
    Calls Try.prog 30 #[.int .i64 s, .bool b] w fun e w' => e = .returned (.int .i64 (finZ s)) ∧ w' = w := by
  rcases states h with rfl | rfl | rfl | rfl | rfl | rfl | rfl | rfl | rfl
  case inr.inr.inr.inr.inr.inr.inr.inl => cases he
  case inr.inr.inr.inr.inr.inr.inr.inr => cases he
  all_goals
    clear h he
    go_enter Try.func30, Try.ntmps30
    go_wp2
    go_ret
    exact ⟨rfl, rfl⟩
set_option maxHeartbeats 2000000 in
theorem afterAck_any (s : Int) (b : Bool) (w : World) (h : stB s = true) :
    Calls Try.prog 31 #[.int .i64 s, .bool b] w fun e w' => e = .returned (.int .i64 (ackZ s b)) ∧ w' = w := by
  cases b <;> rcases states h with rfl | rfl | rfl | rfl | rfl | rfl | rfl | rfl | rfl <;>
  · clear h
    go_enter Try.func31, Try.ntmps31
    go_wp2
    go_ret
    exact ⟨rfl, rfl⟩
set_option maxHeartbeats 2000000 in
theorem implLife_any (s : Int) (w : World) :
    Calls Try.prog 12 #[.int .i64 s] w fun e w' => e = .returned (.int .i64 (lifeZ s)) ∧ Below w.heap.size w w' := by
  have HS := hidS (fun W => isState_any s W)
  cases h : stB s
  · rw [h] at HS
    rw [life_no h]
    clear h
    go_enter Try.func12, Try.ntmps12
    go_wp2_with fail
    refine (HS.out _).mono ?_
    rintro e w1 ⟨rfl, rfl⟩
    go_wp2
    go_ret
    exact ⟨rfl, Below.refl _ _⟩
  · rw [h] at HS
    rcases states h with rfl | rfl | rfl | rfl | rfl | rfl | rfl | rfl | rfl <;>
    · clear h
      go_enter Try.func12, Try.ntmps12
      go_wp2_with fail
      refine (HS.out _).mono ?_
      rintro e w1 ⟨rfl, rfl⟩
      go_wp2
      go_ret
      exact ⟨rfl, (Below.refl _ _).alloc (Nat.le_refl _) _⟩
set_option maxHeartbeats 2000000 in
theorem implName_any (s : Int) (w : World) :
    Calls Try.prog 14 #[.int .i64 s] w fun e w' => e = .returned (.string (nameZ s)) ∧ Below w.heap.size w w' := by
  have HS := hidS (fun W => isState_any s W)
  cases h : stB s
  · rw [h] at HS
    rw [name_no h]
    clear h
    go_enter Try.func14, Try.ntmps14
    go_wp2_with fail
    refine (HS.out _).mono ?_
    rintro e w1 ⟨rfl, rfl⟩
    go_wp2
    go_ret
    exact ⟨rfl, Below.refl _ _⟩
  · rw [h] at HS
    rcases states h with rfl | rfl | rfl | rfl | rfl | rfl | rfl | rfl | rfl <;>
    · clear h
      go_enter Try.func14, Try.ntmps14
      go_wp2_with fail
      refine (HS.out _).mono ?_
      rintro e w1 ⟨rfl, rfl⟩
      go_wp2
      go_ret
      exact ⟨rfl, (Below.refl _ _).alloc (Nat.le_refl _) _⟩
end Go.Proofs.Ytedknnkdnccfmab
end
