/- Proved here: small facts on a block of a call's own: its cells, what a store leaves (no program of its own). · Proved here: small facts on a tuple in the making, beside a source (no program of its own). · Proved here: small facts on a packet in the making, beside a source (no program of its own). · Proved here: spec's source draws a word, or a number beside one; the source's block alone turns of old memory (condition: a source). · Proved here: the draws of a text, of an address, of a word leave every old block but the source's as it was (condition: the source lies in its block). -/
import Derived.Test.YtedknnkdnccfmaaGreatDoorGrow
import Derived.Test.YtedknnkdnccfmaaGreatDoorAll1
import Derived.Test.YtedknnkdnccfmaaGreatDoorTupMath
section
namespace Go.Proofs.YtedknnkdnccfmaaGreatDoor
open Go.ChangeShapes Go.WideShapes Go.ChangeAt Go.RowKit
set_option linter.unusedVariables false

/-- a block's cells, and that they may be written -/
theorem blk_cell {W : World} {B : Nat} {cs : Array Value} {t : TypeId} (h : W.heap[B]? = some (.cells cs t)) (k : Nat) : W.cell? ⟨B, k, none⟩ = cs[k]? := by simp [World.cell?, h]
theorem blk_free {W : World} {B : Nat} {cs : Array Value} {t : TypeId} (h : W.heap[B]? = some (.cells cs t)) (k : Nat) : W.frozen? ⟨B, k, none⟩ = false := by simp [World.frozen?, h]
theorem blk_lt {W : World} {B : Nat} {o : Obj} (h : W.heap[B]? = some o) : B < W.heap.size := (Array.getElem?_eq_some_iff.1 h).1
theorem blk_later {W W' : World} {B : Nat} {o : Obj} (h : W.heap[B]? = some o) (hb : Below W.heap.size W W') : W'.heap[B]? = some o := (hb.block B (blk_lt h)).trans h
/-- one cell is written -/
theorem blk_set {W : World} {B : Nat} {cs : Array Value} {t : TypeId} (h : W.heap[B]? = some (.cells cs t)) (k : Nat) (v : Value) : (W.setCell ⟨B, k, none⟩ v).heap[B]? = some (.cells (cs.setIfInBounds k v) t) := heap_setCell_same W B k cs t v h
theorem blk_other {W : World} {B g : Nat} {o : Obj} (h : W.heap[g]? = some o) (hne : g ≠ B) (k : Nat) (v : Value) : (W.setCell ⟨B, k, none⟩ v).heap[g]? = some o := (Below.heap_setCell W ⟨B, k, none⟩ v g hne).trans h

theorem below_at {B b k : Nat} {a w : World} {v : Value} (h : Below B a w) (hb : B ≤ b) : Below B a (w.setCell ⟨b, k, none⟩ v) := h.setCell hb v
theorem blk_alloc {W : World} {g : Nat} {o : Obj} (h : W.heap[g]? = some o) (o2 : Obj) : (W.alloc o2).heap[g]? = some o := (Below.heap_alloc W o2 g (blk_lt h)).trans h
end Go.Proofs.YtedknnkdnccfmaaGreatDoor
end

section
namespace Go.Proofs.YtedknnkdnccfmaaGreatDoor
open Go.ChangeShapes Go.WideShapes Go.ChangeAt Go.RowKit
set_option linter.unusedVariables false
set_option linter.unusedSimpArgs false

/-- a tuple t is in the making in block g, beside a source in block B; the answer's block is still as it was made -/
structure TpSt (B : Nat) (a : Option Addr) (len cap : Nat) (w : World) (g : Nat) (t : Tp) (W : World) : Prop where
  src : Src B a len cap W
  grown : w.grownBy W (some B)
  res : W.heap[w.heap.size]? = some (.cells #[.int .i64 0, .int .i64 0, .int .i64 0, .int .i64 0, .int .i64 0, .int .i64 0] 40)
  loc : W.heap[g]? = some (.cells #[.int .i64 t.proto, .int .i64 t.src, .int .i64 t.sport, .int .i64 t.dst, .int .i64 t.dport, .int .i64 t.kind] 40)
  lt : w.heap.size < g
  old : B < w.heap.size
variable {B : Nat} {a : Option Addr} {len cap : Nat} {w : World} {g : Nat} {t : Tp} {W W' : World}
theorem TpSt.later (h : TpSt B a len cap w g t W) (hS : Src B a len cap W') (hg : W.grownBy W' (some B)) : TpSt B a len cap w g t W' :=
  ⟨hS, grown_trans h.grown hg, (hg.block _ (blk_lt h.res) (fun e => by injection e with e; have := h.old; omega)).trans h.res, (hg.block _ (blk_lt h.loc) (fun e => by injection e with e; have := h.old; have := h.lt; omega)).trans h.loc, h.lt, h.old⟩
theorem TpSt.only (h : TpSt B a len cap w g t W) (hS : Src B a len cap W') (hO : Only B W W') : TpSt B a len cap w g t W' := h.later hS hO.grown
theorem TpSt.alloc (h : TpSt B a len cap w g t W) (o : Obj) : TpSt B a len cap w g t (W.alloc o) :=
  h.later (h.src.kept fun k hk => Below.heap_alloc _ _ _ (by have := h.src.lt; omega)) (World.grownBy_alloc _ _ _)
theorem TpSt.set (h : TpSt B a len cap w g t W) (k : Nat) (v : Value) (q : Tp) (hq : (#[.int .i64 t.proto, .int .i64 t.src, .int .i64 t.sport, .int .i64 t.dst, .int .i64 t.dport, .int .i64 t.kind] : Array Value).setIfInBounds k v = #[.int .i64 q.proto, .int .i64 q.src, .int .i64 q.sport, .int .i64 q.dst, .int .i64 q.dport, .int .i64 q.kind]) : TpSt B a len cap w g q (W.setCell ⟨g, k, none⟩ v) := by
  have l1 := h.lt
  have l2 := h.old
  have ho : ∀ i, i ≠ g → (W.setCell ⟨g, k, none⟩ v).heap[i]? = W.heap[i]? := fun i hi => Below.heap_setCell W ⟨g, k, none⟩ v i hi
  have hz : (W.setCell ⟨g, k, none⟩ v).heap.size = W.heap.size := by simp [World.setCell]
  refine ⟨h.src.kept fun i hi => ho i (by omega), ⟨h.grown.os, h.grown.tape, h.grown.output, by rw [hz]; exact h.grown.size, fun i hi hne => (ho i (by omega)).trans (h.grown.block i hi hne)⟩, (ho _ (by omega)).trans h.res, ?_, l1, l2⟩
  rw [blk_set h.loc k v, hq]
theorem TpSt.set_proto (h : TpSt B a len cap w g t W) (x : Int) : TpSt B a len cap w g { t with proto := x } (W.setCell ⟨g, 0, none⟩ (.int .i64 x)) := h.set 0 _ _ rfl
theorem TpSt.set_dport (h : TpSt B a len cap w g t W) (x : Int) : TpSt B a len cap w g { t with dport := x } (W.setCell ⟨g, 4, none⟩ (.int .i64 x)) := h.set 4 _ _ rfl
theorem TpSt.set_kind (h : TpSt B a len cap w g t W) (x : Int) : TpSt B a len cap w g { t with kind := x } (W.setCell ⟨g, 5, none⟩ (.int .i64 x)) := h.set 5 _ _ rfl
end Go.Proofs.YtedknnkdnccfmaaGreatDoor
end

section
namespace Go.Proofs.YtedknnkdnccfmaaGreatDoor
open Go.ChangeShapes Go.WideShapes Go.ChangeAt Go.RowKit
set_option linter.unusedVariables false
set_option linter.unusedSimpArgs false

/-- a packet p is in the making in block g, beside a source in block B; the answer's block is still as it was made -/
structure PkSt (B : Nat) (a : Option Addr) (len cap : Nat) (w : World) (g : Nat) (p : Pk) (W : World) : Prop where
  src : Src B a len cap W
  grown : w.grownBy W (some B)
  res : W.heap[w.heap.size]? = some (.cells #[.int .i64 0, .int .i64 0, .int .i64 0, .int .i64 0, .int .i64 0, .int .i64 0, .int .i64 0, .int .i64 0, .int .i64 0, .string ⟨#[]⟩] 24)
  loc : W.heap[g]? = some (.cells #[.int .i64 p.src, .int .i64 p.dst, .int .i64 p.proto, .int .i64 p.a, .int .i64 p.b, .int .i64 p.kind, .int .i64 p.flags, .int .i64 p.seq, .int .i64 p.ack, .string p.body] 24)
  lt : w.heap.size < g
  old : B < w.heap.size
  body : p.body.size ≤ 101
variable {B : Nat} {a : Option Addr} {len cap : Nat} {w : World} {g : Nat} {p : Pk} {W W' : World}
theorem PkSt.later (h : PkSt B a len cap w g p W) (hS : Src B a len cap W') (hg : W.grownBy W' (some B)) : PkSt B a len cap w g p W' :=
  ⟨hS, grown_trans h.grown hg, (hg.block _ (blk_lt h.res) (fun e => by injection e with e; have := h.old; omega)).trans h.res, (hg.block _ (blk_lt h.loc) (fun e => by injection e with e; have := h.old; have := h.lt; omega)).trans h.loc, h.lt, h.old, h.body⟩
theorem PkSt.only (h : PkSt B a len cap w g p W) (hS : Src B a len cap W') (hO : Only B W W') : PkSt B a len cap w g p W' := h.later hS hO.grown
theorem PkSt.alloc (h : PkSt B a len cap w g p W) (o : Obj) : PkSt B a len cap w g p (W.alloc o) :=
  h.later (h.src.kept fun k hk => Below.heap_alloc _ _ _ (by have := h.src.lt; omega)) (World.grownBy_alloc _ _ _)
theorem PkSt.set (h : PkSt B a len cap w g p W) (k : Nat) (v : Value) (q : Pk) (hq : (#[.int .i64 p.src, .int .i64 p.dst, .int .i64 p.proto, .int .i64 p.a, .int .i64 p.b, .int .i64 p.kind, .int .i64 p.flags, .int .i64 p.seq, .int .i64 p.ack, .string p.body] : Array Value).setIfInBounds k v = #[.int .i64 q.src, .int .i64 q.dst, .int .i64 q.proto, .int .i64 q.a, .int .i64 q.b, .int .i64 q.kind, .int .i64 q.flags, .int .i64 q.seq, .int .i64 q.ack, .string q.body]) (hb : q.body.size ≤ 101) : PkSt B a len cap w g q (W.setCell ⟨g, k, none⟩ v) := by
  have l1 := h.lt
  have l2 := h.old
  have ho : ∀ i, i ≠ g → (W.setCell ⟨g, k, none⟩ v).heap[i]? = W.heap[i]? := fun i hi => Below.heap_setCell W ⟨g, k, none⟩ v i hi
  have hz : (W.setCell ⟨g, k, none⟩ v).heap.size = W.heap.size := by simp [World.setCell]
  refine ⟨h.src.kept fun i hi => ho i (by omega), ⟨h.grown.os, h.grown.tape, h.grown.output, by rw [hz]; exact h.grown.size, fun i hi hne => (ho i (by omega)).trans (h.grown.block i hi hne)⟩, (ho _ (by omega)).trans h.res, ?_, l1, l2, hb⟩
  rw [blk_set h.loc k v, hq]
theorem PkSt.set_src (h : PkSt B a len cap w g p W) (x : Int) : PkSt B a len cap w g { p with src := x } (W.setCell ⟨g, 0, none⟩ (.int .i64 x)) := h.set 0 _ _ rfl h.body
theorem PkSt.set_dst (h : PkSt B a len cap w g p W) (x : Int) : PkSt B a len cap w g { p with dst := x } (W.setCell ⟨g, 1, none⟩ (.int .i64 x)) := h.set 1 _ _ rfl h.body
theorem PkSt.set_proto (h : PkSt B a len cap w g p W) (x : Int) : PkSt B a len cap w g { p with proto := x } (W.setCell ⟨g, 2, none⟩ (.int .i64 x)) := h.set 2 _ _ rfl h.body
theorem PkSt.set_a (h : PkSt B a len cap w g p W) (x : Int) : PkSt B a len cap w g { p with a := x } (W.setCell ⟨g, 3, none⟩ (.int .i64 x)) := h.set 3 _ _ rfl h.body
theorem PkSt.set_b (h : PkSt B a len cap w g p W) (x : Int) : PkSt B a len cap w g { p with b := x } (W.setCell ⟨g, 4, none⟩ (.int .i64 x)) := h.set 4 _ _ rfl h.body
theorem PkSt.set_kind (h : PkSt B a len cap w g p W) (x : Int) : PkSt B a len cap w g { p with kind := x } (W.setCell ⟨g, 5, none⟩ (.int .i64 x)) := h.set 5 _ _ rfl h.body
theorem PkSt.set_flags (h : PkSt B a len cap w g p W) (x : Int) : PkSt B a len cap w g { p with flags := x } (W.setCell ⟨g, 6, none⟩ (.int .i64 x)) := h.set 6 _ _ rfl h.body
theorem PkSt.set_seq (h : PkSt B a len cap w g p W) (x : Int) : PkSt B a len cap w g { p with seq := x } (W.setCell ⟨g, 7, none⟩ (.int .i64 x)) := h.set 7 _ _ rfl h.body
theorem PkSt.set_ack (h : PkSt B a len cap w g p W) (x : Int) : PkSt B a len cap w g { p with ack := x } (W.setCell ⟨g, 8, none⟩ (.int .i64 x)) := h.set 8 _ _ rfl h.body
theorem PkSt.set_body (h : PkSt B a len cap w g p W) (s : ByteArray) (hs : s.size ≤ 101) : PkSt B a len cap w g { p with body := s } (W.setCell ⟨g, 9, none⟩ (.string s)) := h.set 9 _ _ rfl hs
theorem grown_set {w W : World} {r : Option Nat} (k : Nat) (v : Value) (h : w.grownBy W r) : w.grownBy (W.setCell ⟨w.heap.size, k, none⟩ v) r :=
  ⟨h.os, h.tape, h.output, by simp only [World.setCell, Array.size_setIfInBounds, Array.size_modify]; first | exact h.size | (have := h.size; simpa [World.setCell] using this), fun i hi hne => (Below.heap_setCell W ⟨w.heap.size, k, none⟩ v i (by simp; omega)).trans (h.block i hi hne)⟩
end Go.Proofs.YtedknnkdnccfmaaGreatDoor
end

section
namespace Go.Proofs.YtedknnkdnccfmaaGreatDoor
open Go.ChangeShapes Go.WideShapes Go.ChangeAt Go.RowKit
set_option linter.unusedVariables false
set_option linter.unusedSimpArgs false

set_option maxRecDepth 100000 in
set_option maxHeartbeats 2000000 in
theorem srcWord_g (B : Nat) (a : Option Addr) (len cap : Nat) (w : World) (hS : Src B a len cap w) :
    Calls Tryz.prog 111 #[.pointer (some ⟨B, 0, none⟩)] w fun e w' => DrawnR B a len cap (-1) 65536 w e w' := by
  have hlt := hS.lt
  go_enter Tryz.func111, Tryz.ntmps111
  go_wp2_with fail
  refine (srcOne_any B a len cap 8 w hS (by omega)).mono ?_
  rintro e w1 ⟨c, rfl, hS1, hO1⟩
  have hlt1 := hS1.lt
  have hb1 := hidS hO1.grown
  clear hO1 hS
  cases c
  · go_wp2_with fail
    refine (srcN_any B a len cap 256 w1 hS1 (by omega)).mono ?_
    rintro e w2 ⟨r, rfl, hr1, hr2, hS2, hO2⟩
    have hr3 : r ≤ 255 := by omega
    have hb2 := hidS (grown_trans hb1.out hO2.grown)
    clear hr2 hO2 hS1 hb1
    go_wp2_with fail
    refine (srcN_any B a len cap 256 w2 hS2 (by omega)).mono ?_
    rintro e w3 ⟨q, rfl, hq1, hq2, hS3, hO3⟩
    have hq3 : q ≤ 255 := by omega
    have hb3 := hidS (grown_trans hb2.out hO3.grown)
    clear hq2 hO3 hS2 hb2
    go_wp2
    go_ret
    exact ⟨_, rfl, by omega, by omega, hS3, hb3.out⟩
  · go_wp2_with fail
    refine (srcN_any B a len cap 4 _ (hS1.kept fun k hk => Below.heap_alloc _ _ _ (by omega)) (by omega)).mono ?_
    rintro e w2 ⟨r, rfl, hr1, hr2, hS2, hO2⟩
    have hr3 : r ≤ 3 := by omega
    have hrow : ∃ z : Int, -1 ≤ z ∧ z ≤ 65536 ∧ w2.cell? ⟨w1.heap.size, r.toNat, none⟩ = some (.int .i64 z) := by
      have hh := (hO2.block w1.heap.size (by omega)).trans (heap_new _ _)
      obtain ⟨j, rfl⟩ : ∃ j : Nat, r = j := ⟨r.toNat, by omega⟩
      rw [Int.toNat_natCast, cellOfHeap hh]
      rcases (by omega : j = 0 ∨ j = 1 ∨ j = 2 ∨ j = 3) with rfl | rfl | rfl | rfl
      all_goals exact ⟨_, by decide, by decide, rfl⟩
    obtain ⟨z, hz1, hz2, hc⟩ := hrow
    clear hr2
    have hb2 : w.grownBy w2 (some B) := grown_trans (grown_trans hb1.out (World.grownBy_alloc _ _ _)) hO2.grown
    clear hO2 hb1
    go_wp2
    go_ret
    exact ⟨z, rfl, hz1, hz2, hS2, hb2⟩

end Go.Proofs.YtedknnkdnccfmaaGreatDoor
end

section
namespace Go.Proofs.YtedknnkdnccfmaaGreatDoor
open Go.ChangeShapes Go.WideShapes Go.ChangeAt Go.RowKit
open Go.ChangeMaps (open_string shut_string)
set_option linter.unusedVariables false
set_option linter.unusedSimpArgs false

theorem own_onlyG {B D : Nat} {w w' : World} {v : Value} {n : Nat} {xs : List Value} (hO : Only B w w') (hD : B < D) (hown : w.ownsRow D 5 1 v n xs) : w'.ownsRow D 5 1 v n xs :=
  hown.kept hO.grown (by
    cases hv : v.ownBlock with
    | none => exact Or.inl rfl
    | some g => exact Or.inr (fun e => by have := (hown.lt g hv).1; injection e with e; omega))
/-- what a drawn text answers, and what stays -/
def DrawnTG (B : Nat) (a : Option Addr) (len cap : Nat) (n : Int) (w : World) (e : Ending) (w' : World) : Prop :=
  ∃ s : ByteArray, e = .returned (.string s) ∧ s.size = n.toNat ∧ Src B a len cap w' ∧ w.grownBy w' (some B)

set_option maxRecDepth 100000 in
set_option maxHeartbeats 2000000 in
theorem srcBytes_g (B : Nat) (a : Option Addr) (len cap : Nat) (n : Int) (w : World) (hS : Src B a len cap w) (hn : n ≤ 1048576) :
    Calls Tryz.prog 71 #[.pointer (some ⟨B, 0, none⟩), .int .i64 n] w fun e w' => DrawnTG B a len cap n w e w' := by
  obtain ⟨i0, hi, hz0, hz1, hz2⟩ := info_parts Tryz.infoU8
  have hlt := hS.lt
  go_enter Tryz.func71, Tryz.ntmps71
  go_wp2
  go_loopw [5, 6] (fun v i wr => ∃ l : List UInt8, i = .int .i64 (l.length : Int) ∧ ((l.length : Int) ≤ n ∨ l.length = 0) ∧ wr.ownsRow w.heap.size 5 1 v l.length (bytesV l) ∧ Src B a len cap wr ∧ w.grownBy wr (some B) ∧ w.heap.size ≤ wr.heap.size) (fun _ i _ => (n - intOf i).toNat)
  case atStart =>
    exact ⟨[], rfl, Or.inr rfl, ⟨rfl, Or.inr ⟨w.heap.size, 0, #[], rfl, Nat.le_refl _, heap_new _ _, Nat.le_refl _, by simp [maxLen], rfl, rfl⟩⟩, hS.kept fun k hk => Below.heap_alloc _ _ _ (by omega), World.grownBy_alloc _ _ _, by simp⟩
  case round =>
    obtain ⟨l, rfl, hle, hown, hSr, hgr, hB⟩ := hrel
    by_cases hlt2 : (l.length : Int) < n
    · go_wp2_with fail
      refine (srcN_any B a len cap 256 wr hSr (by omega)).mono ?_
      rintro e w1 ⟨r, rfl, hr1, hr2, hS1, hO1⟩
      have hr3 : r ≤ 255 := by omega
      have hown1 := own_onlyG hO1 hlt hown
      have hg1 := hidS (grown_trans hgr hO1.grown)
      have hsz1 : w1.heap.size = wr.heap.size := hO1.size
      have hB1 : w.heap.size ≤ w1.heap.size := by omega
      have hlen : (l.length : Int) < 1048576 := by omega
      clear hown hSr hgr hr2 hsz1 hO1
      go_wp2_with (at_builtin; refine wpList_append_own _ rfl _ _ 22 rfl w.heap.size 5 i0 (.int .u8 0) 1 1 Tryz.underlying22 hi hz0 hz1 hz2 rfl (by decide) _ _ _ rfl (hown1.alloc _) ⟨w1.heap.size, 0, none⟩ 1 1 [.int .u8 r] rfl rfl (cell_one_new _ _ _) ?c2 ?c3 ?c4 ?c5 ?_)
      case c2 => intro x hx; simp at hx; subst hx; rfl
      case c3 => unfold maxLen; omega
      case c4 => omega
      case c5 => simp; omega
      intro v' w2 hown' hgrow _
      have hown2 := own_snoc (c := UInt8.ofNat r.toNat) (by simp; omega) hown'
      have hS2 : Src B a len cap w2 := hS1.kept fun k hk => by
        rw [hgrow.block k (by simp; omega) (fun e => by have := (hown1.lt k e.symm).1; omega)]
        exact Below.heap_alloc _ _ _ (by omega)
      have hg2 : w.grownBy w2 (some B) := grown_then (grown_trans hg1.out (World.grownBy_alloc _ _ _)) hgrow (fun k hk => (hown1.lt k hk).1)
      have hB2 : w.heap.size ≤ w2.heap.size := hg2.size
      clear hown' hgrow hown1 hS1 hg1
      go_wp2
      go_roundw
      case rel => exact ⟨_, by simp, by simp; omega, hown2, hS2, hg2, hB2⟩
      case measure => simp [intOf]; omega
    · have hcv := conv_own hown
      have hsz : l.length = n.toNat := by omega
      clear hown
      go_wp2
      go_ret
      exact ⟨_, rfl, by simpa [ByteArray.size] using hsz, hSr, hgr⟩
end Go.Proofs.YtedknnkdnccfmaaGreatDoor
end
