/- Proved here: what the parts' methods bytes answer, a text joined of its words; all old memory stays (conditions: the part's numbers are within their bounds, the body has at most 1000 bytes). · Proved here: which method 'bytes' of a part is called by its name (closed facts on the program's own table). · Proved here: impl.PacketBytes answers the bytes of a packet, or the empty text of one that is not right; all old memory stays (condition: the body is a string). · Proved here: errors.Is of errors of errors.New's make: the same one, none, another one; nothing changes (conditions: both lie in memory as a new one does). · Proved here: impl.codeOf answers the code of each of the package's errors; nothing changes (condition: the four package variables hold four errors of errors.New's make). · Proved here: impl.packetAnswer answers the packet with the code of the error; all old memory stays (condition: what codeOf answers is told). · Proved here: strings.Clone returns its text, and leaves all old memory alone (condition: at most 2^40 bytes). · Proved here: impl.isError, impl.tellError and impl.ErrorOf answer as they are to; all old memory stays (conditions: the body is a string; the four package variables hold four errors). · Proved here: spec.l03Word and spec.l03Long answer the number of two, of four bytes at a place of a text; memory stays (condition: the bytes are there). · Proved here: impl.numberAt answers the number of so many bytes at a place, those behind the text's end as 0, and changes nothing; impl.behindOf answers what stands behind so many bytes, all old memory stays (conditions: nothing is too great). -/
import Derived.Test.YthfhbmiddillbagDoorAll2
import Derived.Test.YthfhbmiddillbagDoorAll3
import Derived.Test.YthfhbmiddillbagDoorAll1
import Derived.Test.YthfhbmiddillbagDoorRows
import Derived.WalkKit
import Derived.WalkSpells
import Derived.ProofKit
import Derived.LaidEql
import Derived.Stop.Asserts
import Derived.RowKitTokens
import Derived.Test.YthfhbmiddillbagDoorAll0
import Derived.Lib.BufferWrite
import Derived.Laws.CopyOwn
import Derived.Deep.OwnRows
import Derived.BigRegion
import Derived.BigQuiet
import Derived.Deep.QuietTactic
section
namespace Go.Proofs.YthfhbmiddillbagDoor
open Go.ChangeShapes Go.WideShapes Go.ChangeAt Go.RowKit
open Go.ChangeMaps (open_string shut_string)
set_option linter.unusedVariables false
set_option maxRecDepth 100000
set_option linter.unusedSimpArgs false

theorem cells_new (W : World) (cs : Array Value) (t : TypeId) : ∀ k, (W.alloc (.cells cs t)).cell? ⟨W.heap.size, k, none⟩ = cs[k]? := fun k => by
  have := heap_newG W (.cells cs t)
  simp only [World.cell?, this, Option.isSome_none]
  rfl
/-- a block whose cells stay -/
def Cells (g : Nat) (cs : Array Value) (W : World) : Prop := g < W.heap.size ∧ ∀ k, W.cell? ⟨g, k, none⟩ = cs[k]?
theorem Cells.new (W : World) (cs : Array Value) (t : TypeId) : Cells W.heap.size cs (W.alloc (.cells cs t)) := ⟨by simp, cells_new W cs t⟩
theorem Cells.later {g : Nat} {cs : Array Value} {W W' : World} (h : Cells g cs W) (hb : Below W.heap.size W W') : Cells g cs W' := ⟨Nat.lt_of_lt_of_le h.1 hb.size, fun k => (hb.cell (p := ⟨g, k, none⟩) h.1).trans (h.2 k)⟩

set_option maxHeartbeats 4000000 in
theorem tcpBytes_x (a b q k f : Int) (s : ByteArray) (w : World) (ha : wordB a = true) (hb : wordB b = true) (hq : addrB q = true) (hk : addrB k = true) (hf0 : 0 ≤ f) (hf1 : f ≤ 255) (hs : s.size ≤ 1000) :
    Calls Tryd.prog 137 #[.agg #[.int .i64 a, .int .i64 b, .int .i64 q, .int .i64 k, .int .i64 f, .string s]] w fun e w' => e = .returned (.string (catT [twoT a.toNat, twoT b.toNat, fourT q.toNat, fourT k.toNat, rowT [80, f, 32, 0, 0, 0, 0, 0], s])) ∧ Below w.heap.size w w' := by
  have hwf : IntKind.u8.wrap f = f := IntWalk.u8_in _ (by omega)
  have hr : (rowT [80, f, 32, 0, 0, 0, 0, 0]).size = 8 := rowT_size _
  have hcv : (convert 72 9 (.slice (some ⟨w.heap.size + 1, 0, none⟩) 8 8)).run Tryd.prog ((w.alloc (.cells #[.int .i64 a, .int .i64 b, .int .i64 q, .int .i64 k, .int .i64 f, .string s] 106)).alloc (.cells #[.int .u8 80, .int .u8 f, .int .u8 32, .int .u8 0, .int .u8 0, .int .u8 0, .int .u8 0, .int .u8 0] 5)) = .ok (.string (rowT [80, f, 32, 0, 0, 0, 0, 0])) ((w.alloc (.cells #[.int .i64 a, .int .i64 b, .int .i64 q, .int .i64 k, .int .i64 f, .string s] 106)).alloc (.cells #[.int .u8 80, .int .u8 f, .int .u8 32, .int .u8 0, .int .u8 0, .int .u8 0, .int .u8 0, .int .u8 0] 5)) := by
    have e : (w.alloc (.cells #[.int .i64 a, .int .i64 b, .int .i64 q, .int .i64 k, .int .i64 f, .string s] 106)).heap.size = w.heap.size + 1 := by simp
    have h := BytesAt.conv 8 (row_at (W := w.alloc (.cells #[.int .i64 a, .int .i64 b, .int .i64 q, .int .i64 k, .int .i64 f, .string s] 106)) [80, f, 32, 0, 0, 0, 0, 0] (by simp; omega))
    rw [e] at h
    exact h
  have HP := hidS (Cells.new w #[.int .i64 a, .int .i64 b, .int .i64 q, .int .i64 k, .int .i64 f, .string s] 106)
  have hB1 := hidS ((Below.refl w.heap.size w).alloc (Nat.le_refl _) (.cells #[.int .i64 a, .int .i64 b, .int .i64 q, .int .i64 k, .int .i64 f, .string s] 106))
  go_enter Tryd.func137, Tryd.ntmps137
  go_wp2_with fail
  have HP := hidS (HP.out.later ((Below.refl _ (w.alloc (.cells #[.int .i64 a, .int .i64 b, .int .i64 q, .int .i64 k, .int .i64 f, .string s] 106))).alloc (Nat.le_refl _) (.cells #[.int .u8 80, .int .u8 f, .int .u8 32, .int .u8 0, .int .u8 0, .int .u8 0, .int .u8 0, .int .u8 0] 5)))
  have hB1 := hidS (hB1.out.alloc hB1.out.size (.cells #[.int .u8 80, .int .u8 f, .int .u8 32, .int .u8 0, .int .u8 0, .int .u8 0, .int .u8 0, .int .u8 0] 5))
  generalize (w.alloc (.cells #[.int .i64 a, .int .i64 b, .int .i64 q, .int .i64 k, .int .i64 f, .string s] 106)).alloc (.cells #[.int .u8 80, .int .u8 f, .int .u8 32, .int .u8 0, .int .u8 0, .int .u8 0, .int .u8 0, .int .u8 0] 5) = w1 at HP hB1 ⊢
  refine grow_kinds 18 [.is (.pointer (some ⟨w.heap.size, 0, none⟩)), .is (.int .i64 a), .is (.string (twoT a.toNat)), .is (.pointer (some ⟨w.heap.size, 1, none⟩)), .is (.int .i64 b), .is (.string (twoT b.toNat)), .is (.pointer (some ⟨w.heap.size, 2, none⟩)), .is (.int .i64 q), .is (.string (fourT q.toNat)), .is (.pointer (some ⟨w.heap.size, 3, none⟩)), .is (.int .i64 k), .is (.string (fourT k.toNat)), .is (.string (rowT [80, f, 32, 0, 0, 0, 0, 0])), .is (.pointer (some ⟨w.heap.size, 5, none⟩)), .is (.string s), .vals [.string (twoT a.toNat), .string (twoT b.toNat), .string (fourT q.toNat), .string (fourT k.toNat), .string (rowT [80, f, 32, 0, 0, 0, 0, 0]), .string s], .is (.string (catT [(twoT a.toNat), (twoT b.toNat), (fourT q.toNat), (fourT k.toNat), (rowT [80, f, 32, 0, 0, 0, 0, 0]), s])), .is (.string (catT [(twoT a.toNat), (twoT b.toNat), (fourT q.toNat), (fourT k.toNat), (rowT [80, f, 32, 0, 0, 0, 0, 0]), s]))] rfl (by kernel_rfl) (by kernel_rfl) ?steps ?fin
  case steps =>
    refine ⟨?_, ?_, ?_, ?_, ?_, ?_, ?_, ?_, ?_, ?_, ?_, ?_, ?_, ?_, ?_, ?_, ?_, ?_, trivial⟩
    · refine ⟨rfl, fun v W ρ hC kc kf ks ki kd => ?_⟩
      have t1 : ρ (.tmp 1) = .pointer (some ⟨w.heap.size, 0, none⟩) := ki 1 (by decide)
      simp [execOp, go_sem, t1]
      exact ⟨hC, Below.refl _ _, rfl⟩
    · refine ⟨rfl, fun v W ρ hC kc kf ks ki kd => ?_⟩
      have d0 : v 0 = .pointer (some ⟨w.heap.size, 0, none⟩) := kd _ (Array.mem_of_getElem? (i := 0) rfl) rfl
      have t9 : ρ (.tmp 9) = v 0 := ks 0 9 (by decide) rfl
      rw [d0] at t9
      have hp := (HP.out.later hC).2
      have c0 := hp 0
      have c1 := hp 1
      have c2 := hp 2
      have c3 := hp 3
      have c4 := hp 4
      have c5 := hp 5
      simp at c0 c1 c2 c3 c4 c5
      simp [execOp, go_sem, t9, c0]
      exact ⟨hC, Below.refl _ _, rfl⟩
    · refine ⟨rfl, fun v W ρ hC kc kf ks ki kd => ?_⟩
      have d1 : v 1 = .int .i64 a := kd _ (Array.mem_of_getElem? (i := 0) rfl) rfl
      have t10 : ρ (.tmp 10) = v 1 := ks 1 10 (by decide) rfl
      rw [d1] at t10
      simp [execOp, go_sem, t10, kf]
      exact Calls.mono (implWord_x _ _ (by assumption)) (fun e x h => ⟨_, h.1, hC.trans (h.2.mono hC.size), h.2, rfl⟩)
    · refine ⟨rfl, fun v W ρ hC kc kf ks ki kd => ?_⟩
      have t1 : ρ (.tmp 1) = .pointer (some ⟨w.heap.size, 0, none⟩) := ki 1 (by decide)
      simp [execOp, go_sem, t1]
      exact ⟨hC, Below.refl _ _, rfl⟩
    · refine ⟨rfl, fun v W ρ hC kc kf ks ki kd => ?_⟩
      have d3 : v 3 = .pointer (some ⟨w.heap.size, 1, none⟩) := kd _ (Array.mem_of_getElem? (i := 0) rfl) rfl
      have t12 : ρ (.tmp 12) = v 3 := ks 3 12 (by decide) rfl
      rw [d3] at t12
      have hp := (HP.out.later hC).2
      have c0 := hp 0
      have c1 := hp 1
      have c2 := hp 2
      have c3 := hp 3
      have c4 := hp 4
      have c5 := hp 5
      simp at c0 c1 c2 c3 c4 c5
      simp [execOp, go_sem, t12, c1]
      exact ⟨hC, Below.refl _ _, rfl⟩
    · refine ⟨rfl, fun v W ρ hC kc kf ks ki kd => ?_⟩
      have d4 : v 4 = .int .i64 b := kd _ (Array.mem_of_getElem? (i := 0) rfl) rfl
      have t13 : ρ (.tmp 13) = v 4 := ks 4 13 (by decide) rfl
      rw [d4] at t13
      simp [execOp, go_sem, t13, kf]
      exact Calls.mono (implWord_x _ _ (by assumption)) (fun e x h => ⟨_, h.1, hC.trans (h.2.mono hC.size), h.2, rfl⟩)
    · refine ⟨rfl, fun v W ρ hC kc kf ks ki kd => ?_⟩
      have t1 : ρ (.tmp 1) = .pointer (some ⟨w.heap.size, 0, none⟩) := ki 1 (by decide)
      simp [execOp, go_sem, t1]
      exact ⟨hC, Below.refl _ _, rfl⟩
    · refine ⟨rfl, fun v W ρ hC kc kf ks ki kd => ?_⟩
      have d6 : v 6 = .pointer (some ⟨w.heap.size, 2, none⟩) := kd _ (Array.mem_of_getElem? (i := 0) rfl) rfl
      have t15 : ρ (.tmp 15) = v 6 := ks 6 15 (by decide) rfl
      rw [d6] at t15
      have hp := (HP.out.later hC).2
      have c0 := hp 0
      have c1 := hp 1
      have c2 := hp 2
      have c3 := hp 3
      have c4 := hp 4
      have c5 := hp 5
      simp at c0 c1 c2 c3 c4 c5
      simp [execOp, go_sem, t15, c2]
      exact ⟨hC, Below.refl _ _, rfl⟩
    · refine ⟨rfl, fun v W ρ hC kc kf ks ki kd => ?_⟩
      have d7 : v 7 = .int .i64 q := kd _ (Array.mem_of_getElem? (i := 0) rfl) rfl
      have t16 : ρ (.tmp 16) = v 7 := ks 7 16 (by decide) rfl
      rw [d7] at t16
      simp [execOp, go_sem, t16, kf]
      exact Calls.mono (longText_x _ _ (by assumption)) (fun e x h => ⟨_, h.1, hC.trans (h.2.mono hC.size), h.2, rfl⟩)
    · refine ⟨rfl, fun v W ρ hC kc kf ks ki kd => ?_⟩
      have t1 : ρ (.tmp 1) = .pointer (some ⟨w.heap.size, 0, none⟩) := ki 1 (by decide)
      simp [execOp, go_sem, t1]
      exact ⟨hC, Below.refl _ _, rfl⟩
    · refine ⟨rfl, fun v W ρ hC kc kf ks ki kd => ?_⟩
      have d9 : v 9 = .pointer (some ⟨w.heap.size, 3, none⟩) := kd _ (Array.mem_of_getElem? (i := 0) rfl) rfl
      have t18 : ρ (.tmp 18) = v 9 := ks 9 18 (by decide) rfl
      rw [d9] at t18
      have hp := (HP.out.later hC).2
      have c0 := hp 0
      have c1 := hp 1
      have c2 := hp 2
      have c3 := hp 3
      have c4 := hp 4
      have c5 := hp 5
      simp at c0 c1 c2 c3 c4 c5
      simp [execOp, go_sem, t18, c3]
      exact ⟨hC, Below.refl _ _, rfl⟩
    · refine ⟨rfl, fun v W ρ hC kc kf ks ki kd => ?_⟩
      have d10 : v 10 = .int .i64 k := kd _ (Array.mem_of_getElem? (i := 0) rfl) rfl
      have t19 : ρ (.tmp 19) = v 10 := ks 10 19 (by decide) rfl
      rw [d10] at t19
      simp [execOp, go_sem, t19, kf]
      exact Calls.mono (longText_x _ _ (by assumption)) (fun e x h => ⟨_, h.1, hC.trans (h.2.mono hC.size), h.2, rfl⟩)
    · refine ⟨rfl, fun v W ρ hC kc kf ks ki kd => ?_⟩
      have t3 : ρ (.tmp 3) = .string (rowT [80, f, 32, 0, 0, 0, 0, 0]) := ki 3 (by decide)
      simp [execOp, go_sem, t3]
      exact ⟨hC, Below.refl _ _, rfl⟩
    · refine ⟨rfl, fun v W ρ hC kc kf ks ki kd => ?_⟩
      have t1 : ρ (.tmp 1) = .pointer (some ⟨w.heap.size, 0, none⟩) := ki 1 (by decide)
      simp [execOp, go_sem, t1]
      exact ⟨hC, Below.refl _ _, rfl⟩
    · refine ⟨rfl, fun v W ρ hC kc kf ks ki kd => ?_⟩
      have d13 : v 13 = .pointer (some ⟨w.heap.size, 5, none⟩) := kd _ (Array.mem_of_getElem? (i := 0) rfl) rfl
      have t22 : ρ (.tmp 22) = v 13 := ks 13 22 (by decide) rfl
      rw [d13] at t22
      have hp := (HP.out.later hC).2
      have c0 := hp 0
      have c1 := hp 1
      have c2 := hp 2
      have c3 := hp 3
      have c4 := hp 4
      have c5 := hp 5
      simp at c0 c1 c2 c3 c4 c5
      simp [execOp, go_sem, t22, c5]
      exact ⟨hC, Below.refl _ _, rfl⟩
    · refine ⟨rfl, fun v W ρ hC kc kf ks ki kd => ?_⟩
      have d2 : v 2 = .string (twoT a.toNat) := kd _ (Array.mem_of_getElem? (i := 0) rfl) rfl
      have t11 : ρ (.tmp 11) = v 2 := ks 2 11 (by decide) rfl
      rw [d2] at t11
      have d5 : v 5 = .string (twoT b.toNat) := kd _ (Array.mem_of_getElem? (i := 1) rfl) rfl
      have t14 : ρ (.tmp 14) = v 5 := ks 5 14 (by decide) rfl
      rw [d5] at t14
      have d8 : v 8 = .string (fourT q.toNat) := kd _ (Array.mem_of_getElem? (i := 2) rfl) rfl
      have t17 : ρ (.tmp 17) = v 8 := ks 8 17 (by decide) rfl
      rw [d8] at t17
      have d11 : v 11 = .string (fourT k.toNat) := kd _ (Array.mem_of_getElem? (i := 3) rfl) rfl
      have t20 : ρ (.tmp 20) = v 11 := ks 11 20 (by decide) rfl
      rw [d11] at t20
      have d12 : v 12 = .string (rowT [80, f, 32, 0, 0, 0, 0, 0]) := kd _ (Array.mem_of_getElem? (i := 4) rfl) rfl
      have t21 : ρ (.tmp 21) = v 12 := ks 12 21 (by decide) rfl
      rw [d12] at t21
      have d14 : v 14 = .string s := kd _ (Array.mem_of_getElem? (i := 5) rfl) rfl
      have t23 : ρ (.tmp 23) = v 14 := ks 14 23 (by decide) rfl
      rw [d14] at t23
      simp [execOp, go_sem, t11, t14, t17, t20, t21, t23]
      exact ⟨hC.alloc hC.size _, (Below.refl _ _).alloc (Nat.le_refl _) _, W.heap.size, rfl, vals_at [.string (twoT a.toNat), .string (twoT b.toNat), .string (fourT q.toNat), .string (fourT k.toNat), .string (rowT [80, f, 32, 0, 0, 0, 0, 0]), .string s] _⟩
    · refine ⟨rfl, fun v W ρ hC kc kf ks ki kd => ?_⟩
      obtain ⟨B15, e15, hB15⟩ : ∃ B, v 15 = .slice (some ⟨B, 0, none⟩) 6 6 ∧ ValsAt B [.string (twoT a.toNat), .string (twoT b.toNat), .string (fourT q.toNat), .string (fourT k.toNat), .string (rowT [80, f, 32, 0, 0, 0, 0, 0]), .string s] W := kd _ (Array.mem_of_getElem? (i := 0) rfl) rfl
      have t24 : ρ (.tmp 24) = v 15 := ks 15 24 (by decide) rfl
      rw [e15] at t24
      simp [execOp, go_sem, t24, kf]
      exact Calls.mono (joinTexts_any B15 [(twoT a.toNat), (twoT b.toNat), (fourT q.toNat), (fourT k.toNat), (rowT [80, f, 32, 0, 0, 0, 0, 0]), s] _ (ValsAt.strs (ts := [(twoT a.toNat), (twoT b.toNat), (fourT q.toNat), (fourT k.toNat), (rowT [80, f, 32, 0, 0, 0, 0, 0]), s]) hB15) hB15.1 (by simp) (by simp [twoT_size, fourT_size, rowT_size]; omega)) (fun e x h => ⟨_, h.1, hC.trans (h.2.mono hC.size), h.2, rfl⟩)
    · refine ⟨rfl, fun v W ρ hC kc kf ks ki kd => ?_⟩
      have d16 : v 16 = .string (catT [(twoT a.toNat), (twoT b.toNat), (fourT q.toNat), (fourT k.toNat), (rowT [80, f, 32, 0, 0, 0, 0, 0]), s]) := kd _ (Array.mem_of_getElem? (i := 0) rfl) rfl
      have t25 : ρ (.tmp 25) = v 16 := ks 16 25 (by decide) rfl
      rw [d16] at t25
      simp [execOp, go_sem, t25]
      exact ⟨hC, Below.refl _ _, rfl⟩
  case fin =>
    intro v W hC hall
    have hL2 : v 17 = .string (catT [(twoT a.toNat), (twoT b.toNat), (fourT q.toNat), (fourT k.toNat), (rowT [80, f, 32, 0, 0, 0, 0, 0]), s]) := hall 17 (by decide)
    simp [upto, Act.put]
    rw [hL2]
    clear hall hL2
    have hE := hidS (hB1.out.trans (hC.mono hB1.out.size))
    go_wp2
    go_ret
    exact ⟨rfl, hE.out⟩

set_option maxHeartbeats 4000000 in
theorem udpBytes_x (a b : Int) (s : ByteArray) (w : World) (ha : wordB a = true) (hb : wordB b = true) (hs : s.size ≤ 1000) :
    Calls Tryd.prog 140 #[.agg #[.int .i64 a, .int .i64 b, .string s]] w fun e w' => e = .returned (.string (catT [twoT a.toNat, twoT b.toNat, twoT (8 + (s.size : Int)).toNat, twoT 0, s])) ∧ Below w.heap.size w w' := by
  have hw8 : wordB (8 + (s.size : Int)) = true := wordB_iff.2 ⟨by omega, by omega⟩
  have hw0 : wordB 0 = true := rfl
  have hwz : IntKind.i64.wrap (8 + (s.size : Int)) = 8 + (s.size : Int) := IntWalk.i64_in _ (by omega)
  have HP := hidS (Cells.new w #[.int .i64 a, .int .i64 b, .string s] 108)
  have hB1 := hidS ((Below.refl w.heap.size w).alloc (Nat.le_refl _) (.cells #[.int .i64 a, .int .i64 b, .string s] 108))
  go_enter Tryd.func140, Tryd.ntmps140
  go_wp2_with fail
  generalize w.alloc (.cells #[.int .i64 a, .int .i64 b, .string s] 108) = w1 at HP hB1 ⊢
  refine grow_kinds 14 [.is (.pointer (some ⟨w.heap.size, 0, none⟩)), .is (.int .i64 a), .is (.string (twoT a.toNat)), .is (.pointer (some ⟨w.heap.size, 1, none⟩)), .is (.int .i64 b), .is (.string (twoT b.toNat)), .is (.int .i64 (8 + (s.size : Int))), .is (.string (twoT (8 + (s.size : Int)).toNat)), .is (.string (twoT 0)), .is (.pointer (some ⟨w.heap.size, 2, none⟩)), .is (.string s), .vals [.string (twoT a.toNat), .string (twoT b.toNat), .string (twoT (8 + (s.size : Int)).toNat), .string (twoT 0), .string s], .is (.string (catT [(twoT a.toNat), (twoT b.toNat), (twoT (8 + (s.size : Int)).toNat), (twoT 0), s])), .is (.string (catT [(twoT a.toNat), (twoT b.toNat), (twoT (8 + (s.size : Int)).toNat), (twoT 0), s]))] rfl (by kernel_rfl) (by kernel_rfl) ?steps ?fin
  case steps =>
    refine ⟨?_, ?_, ?_, ?_, ?_, ?_, ?_, ?_, ?_, ?_, ?_, ?_, ?_, ?_, trivial⟩
    · refine ⟨rfl, fun v W ρ hC kc kf ks ki kd => ?_⟩
      have t1 : ρ (.tmp 1) = .pointer (some ⟨w.heap.size, 0, none⟩) := ki 1 (by decide)
      simp [execOp, go_sem, t1]
      exact ⟨hC, Below.refl _ _, rfl⟩
    · refine ⟨rfl, fun v W ρ hC kc kf ks ki kd => ?_⟩
      have d0 : v 0 = .pointer (some ⟨w.heap.size, 0, none⟩) := kd _ (Array.mem_of_getElem? (i := 0) rfl) rfl
      have t8 : ρ (.tmp 8) = v 0 := ks 0 8 (by decide) rfl
      rw [d0] at t8
      have hp := (HP.out.later hC).2
      have c0 := hp 0
      have c1 := hp 1
      have c2 := hp 2
      simp at c0 c1 c2
      simp [execOp, go_sem, t8, c0]
      exact ⟨hC, Below.refl _ _, rfl⟩
    · refine ⟨rfl, fun v W ρ hC kc kf ks ki kd => ?_⟩
      have d1 : v 1 = .int .i64 a := kd _ (Array.mem_of_getElem? (i := 0) rfl) rfl
      have t9 : ρ (.tmp 9) = v 1 := ks 1 9 (by decide) rfl
      rw [d1] at t9
      simp [execOp, go_sem, t9, kf]
      exact Calls.mono (implWord_x _ _ (by assumption)) (fun e x h => ⟨_, h.1, hC.trans (h.2.mono hC.size), h.2, rfl⟩)
    · refine ⟨rfl, fun v W ρ hC kc kf ks ki kd => ?_⟩
      have t1 : ρ (.tmp 1) = .pointer (some ⟨w.heap.size, 0, none⟩) := ki 1 (by decide)
      simp [execOp, go_sem, t1]
      exact ⟨hC, Below.refl _ _, rfl⟩
    · refine ⟨rfl, fun v W ρ hC kc kf ks ki kd => ?_⟩
      have d3 : v 3 = .pointer (some ⟨w.heap.size, 1, none⟩) := kd _ (Array.mem_of_getElem? (i := 0) rfl) rfl
      have t11 : ρ (.tmp 11) = v 3 := ks 3 11 (by decide) rfl
      rw [d3] at t11
      have hp := (HP.out.later hC).2
      have c0 := hp 0
      have c1 := hp 1
      have c2 := hp 2
      simp at c0 c1 c2
      simp [execOp, go_sem, t11, c1]
      exact ⟨hC, Below.refl _ _, rfl⟩
    · refine ⟨rfl, fun v W ρ hC kc kf ks ki kd => ?_⟩
      have d4 : v 4 = .int .i64 b := kd _ (Array.mem_of_getElem? (i := 0) rfl) rfl
      have t12 : ρ (.tmp 12) = v 4 := ks 4 12 (by decide) rfl
      rw [d4] at t12
      simp [execOp, go_sem, t12, kf]
      exact Calls.mono (implWord_x _ _ (by assumption)) (fun e x h => ⟨_, h.1, hC.trans (h.2.mono hC.size), h.2, rfl⟩)
    · refine ⟨rfl, fun v W ρ hC kc kf ks ki kd => ?_⟩
      have t3 : ρ (.tmp 3) = .int .i64 (8 + (s.size : Int)) := ki 3 (by decide)
      simp [execOp, go_sem, t3]
      exact ⟨hC, Below.refl _ _, rfl⟩
    · refine ⟨rfl, fun v W ρ hC kc kf ks ki kd => ?_⟩
      have d6 : v 6 = .int .i64 (8 + (s.size : Int)) := kd _ (Array.mem_of_getElem? (i := 0) rfl) rfl
      have t14 : ρ (.tmp 14) = v 6 := ks 6 14 (by decide) rfl
      rw [d6] at t14
      simp [execOp, go_sem, t14, kf]
      exact Calls.mono (implWord_x _ _ (by assumption)) (fun e x h => ⟨_, h.1, hC.trans (h.2.mono hC.size), h.2, rfl⟩)
    · refine ⟨rfl, fun v W ρ hC kc kf ks ki kd => ?_⟩
      simp [execOp, go_sem, kf, kc]
      exact Calls.mono (implWord_x _ _ (by assumption)) (fun e x h => ⟨_, h.1, hC.trans (h.2.mono hC.size), h.2, rfl⟩)
    · refine ⟨rfl, fun v W ρ hC kc kf ks ki kd => ?_⟩
      have t1 : ρ (.tmp 1) = .pointer (some ⟨w.heap.size, 0, none⟩) := ki 1 (by decide)
      simp [execOp, go_sem, t1]
      exact ⟨hC, Below.refl _ _, rfl⟩
    · refine ⟨rfl, fun v W ρ hC kc kf ks ki kd => ?_⟩
      have d9 : v 9 = .pointer (some ⟨w.heap.size, 2, none⟩) := kd _ (Array.mem_of_getElem? (i := 0) rfl) rfl
      have t17 : ρ (.tmp 17) = v 9 := ks 9 17 (by decide) rfl
      rw [d9] at t17
      have hp := (HP.out.later hC).2
      have c0 := hp 0
      have c1 := hp 1
      have c2 := hp 2
      simp at c0 c1 c2
      simp [execOp, go_sem, t17, c2]
      exact ⟨hC, Below.refl _ _, rfl⟩
    · refine ⟨rfl, fun v W ρ hC kc kf ks ki kd => ?_⟩
      have d2 : v 2 = .string (twoT a.toNat) := kd _ (Array.mem_of_getElem? (i := 0) rfl) rfl
      have t10 : ρ (.tmp 10) = v 2 := ks 2 10 (by decide) rfl
      rw [d2] at t10
      have d5 : v 5 = .string (twoT b.toNat) := kd _ (Array.mem_of_getElem? (i := 1) rfl) rfl
      have t13 : ρ (.tmp 13) = v 5 := ks 5 13 (by decide) rfl
      rw [d5] at t13
      have d7 : v 7 = .string (twoT (8 + (s.size : Int)).toNat) := kd _ (Array.mem_of_getElem? (i := 2) rfl) rfl
      have t15 : ρ (.tmp 15) = v 7 := ks 7 15 (by decide) rfl
      rw [d7] at t15
      have d8 : v 8 = .string (twoT 0) := kd _ (Array.mem_of_getElem? (i := 3) rfl) rfl
      have t16 : ρ (.tmp 16) = v 8 := ks 8 16 (by decide) rfl
      rw [d8] at t16
      have d10 : v 10 = .string s := kd _ (Array.mem_of_getElem? (i := 4) rfl) rfl
      have t18 : ρ (.tmp 18) = v 10 := ks 10 18 (by decide) rfl
      rw [d10] at t18
      simp [execOp, go_sem, t10, t13, t15, t16, t18]
      exact ⟨hC.alloc hC.size _, (Below.refl _ _).alloc (Nat.le_refl _) _, W.heap.size, rfl, vals_at [.string (twoT a.toNat), .string (twoT b.toNat), .string (twoT (8 + (s.size : Int)).toNat), .string (twoT 0), .string s] _⟩
    · refine ⟨rfl, fun v W ρ hC kc kf ks ki kd => ?_⟩
      obtain ⟨B11, e11, hB11⟩ : ∃ B, v 11 = .slice (some ⟨B, 0, none⟩) 5 5 ∧ ValsAt B [.string (twoT a.toNat), .string (twoT b.toNat), .string (twoT (8 + (s.size : Int)).toNat), .string (twoT 0), .string s] W := kd _ (Array.mem_of_getElem? (i := 0) rfl) rfl
      have t19 : ρ (.tmp 19) = v 11 := ks 11 19 (by decide) rfl
      rw [e11] at t19
      simp [execOp, go_sem, t19, kf]
      exact Calls.mono (joinTexts_any B11 [(twoT a.toNat), (twoT b.toNat), (twoT (8 + (s.size : Int)).toNat), (twoT 0), s] _ (ValsAt.strs (ts := [(twoT a.toNat), (twoT b.toNat), (twoT (8 + (s.size : Int)).toNat), (twoT 0), s]) hB11) hB11.1 (by simp) (by simp [twoT_size, fourT_size, rowT_size]; omega)) (fun e x h => ⟨_, h.1, hC.trans (h.2.mono hC.size), h.2, rfl⟩)
    · refine ⟨rfl, fun v W ρ hC kc kf ks ki kd => ?_⟩
      have d12 : v 12 = .string (catT [(twoT a.toNat), (twoT b.toNat), (twoT (8 + (s.size : Int)).toNat), (twoT 0), s]) := kd _ (Array.mem_of_getElem? (i := 0) rfl) rfl
      have t20 : ρ (.tmp 20) = v 12 := ks 12 20 (by decide) rfl
      rw [d12] at t20
      simp [execOp, go_sem, t20]
      exact ⟨hC, Below.refl _ _, rfl⟩
  case fin =>
    intro v W hC hall
    have hL2 : v 13 = .string (catT [(twoT a.toNat), (twoT b.toNat), (twoT (8 + (s.size : Int)).toNat), (twoT 0), s]) := hall 13 (by decide)
    simp [upto, Act.put]
    rw [hL2]
    clear hall hL2
    have hE := hidS (hB1.out.trans (hC.mono hB1.out.size))
    go_wp2
    go_ret
    exact ⟨rfl, hE.out⟩

set_option maxHeartbeats 4000000 in
theorem echoBytes_x (c a q : Int) (s : ByteArray) (w : World) (ha : wordB a = true) (hq : wordB q = true) (hf0 : 0 ≤ c) (hf1 : c ≤ 255) (hs : s.size ≤ 1000) :
    Calls Tryd.prog 146 #[.agg #[.int .i64 c, .int .i64 a, .int .i64 q, .string s]] w fun e w' => e = .returned (.string (catT [rowT [c, 0, 0, 0], twoT a.toNat, twoT q.toNat, s])) ∧ Below w.heap.size w w' := by
  have hwf : IntKind.u8.wrap c = c := IntWalk.u8_in _ (by omega)
  have hr : (rowT [c, 0, 0, 0]).size = 4 := rowT_size _
  have HP := hidS (Cells.new w #[.int .i64 c, .int .i64 a, .int .i64 q, .string s] 112)
  have hB1 := hidS ((Below.refl w.heap.size w).alloc (Nat.le_refl _) (.cells #[.int .i64 c, .int .i64 a, .int .i64 q, .string s] 112))
  go_enter Tryd.func146, Tryd.ntmps146
  go_wp2_with fail
  generalize w.alloc (.cells #[.int .i64 c, .int .i64 a, .int .i64 q, .string s] 112) = w1 at HP hB1 ⊢
  refine grow_kinds 16 [.is (.pointer (some ⟨w.heap.size, 0, none⟩)), .is (.int .i64 c), .is (.int .u8 c), .row (rowL [c, 0, 0, 0]), .is (.string (rowT [c, 0, 0, 0])), .is (.pointer (some ⟨w.heap.size, 1, none⟩)), .is (.int .i64 a), .is (.string (twoT a.toNat)), .is (.pointer (some ⟨w.heap.size, 2, none⟩)), .is (.int .i64 q), .is (.string (twoT q.toNat)), .is (.pointer (some ⟨w.heap.size, 3, none⟩)), .is (.string s), .vals [.string (rowT [c, 0, 0, 0]), .string (twoT a.toNat), .string (twoT q.toNat), .string s], .is (.string (catT [(rowT [c, 0, 0, 0]), (twoT a.toNat), (twoT q.toNat), s])), .is (.string (catT [(rowT [c, 0, 0, 0]), (twoT a.toNat), (twoT q.toNat), s]))] rfl (by kernel_rfl) (by kernel_rfl) ?steps ?fin
  case steps =>
    refine ⟨?_, ?_, ?_, ?_, ?_, ?_, ?_, ?_, ?_, ?_, ?_, ?_, ?_, ?_, ?_, ?_, trivial⟩
    · refine ⟨rfl, fun v W ρ hC kc kf ks ki kd => ?_⟩
      have t1 : ρ (.tmp 1) = .pointer (some ⟨w.heap.size, 0, none⟩) := ki 1 (by decide)
      simp [execOp, go_sem, t1]
      exact ⟨hC, Below.refl _ _, rfl⟩
    · refine ⟨rfl, fun v W ρ hC kc kf ks ki kd => ?_⟩
      have d0 : v 0 = .pointer (some ⟨w.heap.size, 0, none⟩) := kd _ (Array.mem_of_getElem? (i := 0) rfl) rfl
      have t3 : ρ (.tmp 3) = v 0 := ks 0 3 (by decide) rfl
      rw [d0] at t3
      have hp := (HP.out.later hC).2
      have c0 := hp 0
      have c1 := hp 1
      have c2 := hp 2
      have c3 := hp 3
      simp at c0 c1 c2 c3
      simp [execOp, go_sem, t3, c0]
      exact ⟨hC, Below.refl _ _, rfl⟩
    · refine ⟨rfl, fun v W ρ hC kc kf ks ki kd => ?_⟩
      have d1 : v 1 = .int .i64 c := kd _ (Array.mem_of_getElem? (i := 0) rfl) rfl
      have t4 : ρ (.tmp 4) = v 1 := ks 1 4 (by decide) rfl
      rw [d1] at t4
      simp [execOp, go_sem, t4, hwf]
      exact ⟨hC, Below.refl _ _, rfl⟩
    · refine ⟨rfl, fun v W ρ hC kc kf ks ki kd => ?_⟩
      have d2 : v 2 = .int .u8 c := kd _ (Array.mem_of_getElem? (i := 0) rfl) rfl
      have t5 : ρ (.tmp 5) = v 2 := ks 2 5 (by decide) rfl
      rw [d2] at t5
      simp [execOp, go_sem, t5, kc]
      exact ⟨hC.alloc hC.size _, (Below.refl _ _).alloc (Nat.le_refl _) _, W.heap.size, rfl, row_at [c, 0, 0, 0] (by simp; omega)⟩
    · refine ⟨rfl, fun v W ρ hC kc kf ks ki kd => ?_⟩
      obtain ⟨B3, e3, hB3⟩ : ∃ B, v 3 = .slice (some ⟨B, 0, none⟩) (rowL [c, 0, 0, 0]).length (rowL [c, 0, 0, 0]).length ∧ BytesAt B (rowL [c, 0, 0, 0]) W := kd _ (Array.mem_of_getElem? (i := 0) rfl) rfl
      have t6 : ρ (.tmp 6) = v 3 := ks 3 6 (by decide) rfl
      rw [e3] at t6
      have hcv := BytesAt.conv (rowL [c, 0, 0, 0]).length hB3
      simp [execOp, go_sem, t6, hcv]
      exact ⟨hC, Below.refl _ _, rfl⟩
    · refine ⟨rfl, fun v W ρ hC kc kf ks ki kd => ?_⟩
      have t1 : ρ (.tmp 1) = .pointer (some ⟨w.heap.size, 0, none⟩) := ki 1 (by decide)
      simp [execOp, go_sem, t1]
      exact ⟨hC, Below.refl _ _, rfl⟩
    · refine ⟨rfl, fun v W ρ hC kc kf ks ki kd => ?_⟩
      have d5 : v 5 = .pointer (some ⟨w.heap.size, 1, none⟩) := kd _ (Array.mem_of_getElem? (i := 0) rfl) rfl
      have t8 : ρ (.tmp 8) = v 5 := ks 5 8 (by decide) rfl
      rw [d5] at t8
      have hp := (HP.out.later hC).2
      have c0 := hp 0
      have c1 := hp 1
      have c2 := hp 2
      have c3 := hp 3
      simp at c0 c1 c2 c3
      simp [execOp, go_sem, t8, c1]
      exact ⟨hC, Below.refl _ _, rfl⟩
    · refine ⟨rfl, fun v W ρ hC kc kf ks ki kd => ?_⟩
      have d6 : v 6 = .int .i64 a := kd _ (Array.mem_of_getElem? (i := 0) rfl) rfl
      have t9 : ρ (.tmp 9) = v 6 := ks 6 9 (by decide) rfl
      rw [d6] at t9
      simp [execOp, go_sem, t9, kf]
      exact Calls.mono (implWord_x _ _ (by assumption)) (fun e x h => ⟨_, h.1, hC.trans (h.2.mono hC.size), h.2, rfl⟩)
    · refine ⟨rfl, fun v W ρ hC kc kf ks ki kd => ?_⟩
      have t1 : ρ (.tmp 1) = .pointer (some ⟨w.heap.size, 0, none⟩) := ki 1 (by decide)
      simp [execOp, go_sem, t1]
      exact ⟨hC, Below.refl _ _, rfl⟩
    · refine ⟨rfl, fun v W ρ hC kc kf ks ki kd => ?_⟩
      have d8 : v 8 = .pointer (some ⟨w.heap.size, 2, none⟩) := kd _ (Array.mem_of_getElem? (i := 0) rfl) rfl
      have t11 : ρ (.tmp 11) = v 8 := ks 8 11 (by decide) rfl
      rw [d8] at t11
      have hp := (HP.out.later hC).2
      have c0 := hp 0
      have c1 := hp 1
      have c2 := hp 2
      have c3 := hp 3
      simp at c0 c1 c2 c3
      simp [execOp, go_sem, t11, c2]
      exact ⟨hC, Below.refl _ _, rfl⟩
    · refine ⟨rfl, fun v W ρ hC kc kf ks ki kd => ?_⟩
      have d9 : v 9 = .int .i64 q := kd _ (Array.mem_of_getElem? (i := 0) rfl) rfl
      have t12 : ρ (.tmp 12) = v 9 := ks 9 12 (by decide) rfl
      rw [d9] at t12
      simp [execOp, go_sem, t12, kf]
      exact Calls.mono (implWord_x _ _ (by assumption)) (fun e x h => ⟨_, h.1, hC.trans (h.2.mono hC.size), h.2, rfl⟩)
    · refine ⟨rfl, fun v W ρ hC kc kf ks ki kd => ?_⟩
      have t1 : ρ (.tmp 1) = .pointer (some ⟨w.heap.size, 0, none⟩) := ki 1 (by decide)
      simp [execOp, go_sem, t1]
      exact ⟨hC, Below.refl _ _, rfl⟩
    · refine ⟨rfl, fun v W ρ hC kc kf ks ki kd => ?_⟩
      have d11 : v 11 = .pointer (some ⟨w.heap.size, 3, none⟩) := kd _ (Array.mem_of_getElem? (i := 0) rfl) rfl
      have t14 : ρ (.tmp 14) = v 11 := ks 11 14 (by decide) rfl
      rw [d11] at t14
      have hp := (HP.out.later hC).2
      have c0 := hp 0
      have c1 := hp 1
      have c2 := hp 2
      have c3 := hp 3
      simp at c0 c1 c2 c3
      simp [execOp, go_sem, t14, c3]
      exact ⟨hC, Below.refl _ _, rfl⟩
    · refine ⟨rfl, fun v W ρ hC kc kf ks ki kd => ?_⟩
      have d4 : v 4 = .string (rowT [c, 0, 0, 0]) := kd _ (Array.mem_of_getElem? (i := 0) rfl) rfl
      have t7 : ρ (.tmp 7) = v 4 := ks 4 7 (by decide) rfl
      rw [d4] at t7
      have d7 : v 7 = .string (twoT a.toNat) := kd _ (Array.mem_of_getElem? (i := 1) rfl) rfl
      have t10 : ρ (.tmp 10) = v 7 := ks 7 10 (by decide) rfl
      rw [d7] at t10
      have d10 : v 10 = .string (twoT q.toNat) := kd _ (Array.mem_of_getElem? (i := 2) rfl) rfl
      have t13 : ρ (.tmp 13) = v 10 := ks 10 13 (by decide) rfl
      rw [d10] at t13
      have d12 : v 12 = .string s := kd _ (Array.mem_of_getElem? (i := 3) rfl) rfl
      have t15 : ρ (.tmp 15) = v 12 := ks 12 15 (by decide) rfl
      rw [d12] at t15
      simp [execOp, go_sem, t7, t10, t13, t15]
      exact ⟨hC.alloc hC.size _, (Below.refl _ _).alloc (Nat.le_refl _) _, W.heap.size, rfl, vals_at [.string (rowT [c, 0, 0, 0]), .string (twoT a.toNat), .string (twoT q.toNat), .string s] _⟩
    · refine ⟨rfl, fun v W ρ hC kc kf ks ki kd => ?_⟩
      obtain ⟨B13, e13, hB13⟩ : ∃ B, v 13 = .slice (some ⟨B, 0, none⟩) 4 4 ∧ ValsAt B [.string (rowT [c, 0, 0, 0]), .string (twoT a.toNat), .string (twoT q.toNat), .string s] W := kd _ (Array.mem_of_getElem? (i := 0) rfl) rfl
      have t16 : ρ (.tmp 16) = v 13 := ks 13 16 (by decide) rfl
      rw [e13] at t16
      simp [execOp, go_sem, t16, kf]
      exact Calls.mono (joinTexts_any B13 [(rowT [c, 0, 0, 0]), (twoT a.toNat), (twoT q.toNat), s] _ (ValsAt.strs (ts := [(rowT [c, 0, 0, 0]), (twoT a.toNat), (twoT q.toNat), s]) hB13) hB13.1 (by simp) (by simp [twoT_size, fourT_size, rowT_size]; omega)) (fun e x h => ⟨_, h.1, hC.trans (h.2.mono hC.size), h.2, rfl⟩)
    · refine ⟨rfl, fun v W ρ hC kc kf ks ki kd => ?_⟩
      have d14 : v 14 = .string (catT [(rowT [c, 0, 0, 0]), (twoT a.toNat), (twoT q.toNat), s]) := kd _ (Array.mem_of_getElem? (i := 0) rfl) rfl
      have t17 : ρ (.tmp 17) = v 14 := ks 14 17 (by decide) rfl
      rw [d14] at t17
      simp [execOp, go_sem, t17]
      exact ⟨hC, Below.refl _ _, rfl⟩
  case fin =>
    intro v W hC hall
    have hL2 : v 15 = .string (catT [(rowT [c, 0, 0, 0]), (twoT a.toNat), (twoT q.toNat), s]) := hall 15 (by decide)
    simp [upto, Act.put]
    rw [hL2]
    clear hall hL2
    have hE := hidS (hB1.out.trans (hC.mono hB1.out.size))
    go_wp2
    go_ret
    exact ⟨rfl, hE.out⟩

set_option maxHeartbeats 1000000 in
theorem errBytes_x (s : ByteArray) (w : World) (hs : s.size ≤ 1000) :
    Calls Tryd.prog 143 #[.agg #[.string s]] w fun e w' => e = .returned (.string (catT [rowT [3, 1, 0, 0, 0, 0, 0, 0], s])) ∧ Below w.heap.size w w' := by
  have hcv : (convert 72 9 (.slice (some ⟨w.heap.size + 1, 0, none⟩) 8 8)).run Tryd.prog ((w.alloc (.cells #[.string s] 110)).alloc (.cells #[.int .u8 3, .int .u8 1, .int .u8 0, .int .u8 0, .int .u8 0, .int .u8 0, .int .u8 0, .int .u8 0] 5)) = .ok (.string (rowT [3, 1, 0, 0, 0, 0, 0, 0])) ((w.alloc (.cells #[.string s] 110)).alloc (.cells #[.int .u8 3, .int .u8 1, .int .u8 0, .int .u8 0, .int .u8 0, .int .u8 0, .int .u8 0, .int .u8 0] 5)) := by
    have e : (w.alloc (.cells #[.string s] 110)).heap.size = w.heap.size + 1 := by simp
    have h := BytesAt.conv 8 (row_at (W := w.alloc (.cells #[.string s] 110)) [3, 1, 0, 0, 0, 0, 0, 0] (by simp))
    rw [e] at h
    exact h
  have hB1 := hidS (((Below.refl w.heap.size w).alloc (Nat.le_refl _) (.cells #[.string s] 110)).alloc (by simp) (.cells #[.int .u8 3, .int .u8 1, .int .u8 0, .int .u8 0, .int .u8 0, .int .u8 0, .int .u8 0, .int .u8 0] 5))
  have HP := hidS ((Cells.new w #[.string s] 110).later ((Below.refl _ (w.alloc (.cells #[.string s] 110))).alloc (Nat.le_refl _) (.cells #[.int .u8 3, .int .u8 1, .int .u8 0, .int .u8 0, .int .u8 0, .int .u8 0, .int .u8 0, .int .u8 0] 5)))
  have HV := hidS (fun W : World => vals_at (W := W) [.string (rowT [3, 1, 0, 0, 0, 0, 0, 0]), .string s] 9)
  go_enter Tryd.func143, Tryd.ntmps143
  go_wp2_with fail
  have e2 : ((w.alloc (.cells #[.string s] 110)).alloc (.cells #[.int .u8 3, .int .u8 1, .int .u8 0, .int .u8 0, .int .u8 0, .int .u8 0, .int .u8 0, .int .u8 0] 5)).heap.size = w.heap.size + 2 := by simp
  have hv := HV.out ((w.alloc (.cells #[.string s] 110)).alloc (.cells #[.int .u8 3, .int .u8 1, .int .u8 0, .int .u8 0, .int .u8 0, .int .u8 0, .int .u8 0, .int .u8 0] 5))
  rw [e2] at hv
  have hb2 := hidS (hB1.out.alloc hB1.out.size (.cells #[.string (rowT [3, 1, 0, 0, 0, 0, 0, 0]), .string s] 9))
  refine (joinTexts_any (w.heap.size + 2) [rowT [3, 1, 0, 0, 0, 0, 0, 0], s] _ (ValsAt.strs (ts := [rowT [3, 1, 0, 0, 0, 0, 0, 0], s]) hv) hv.1 (by simp) (by simp [rowT_size]; omega)).mono ?_
  rintro _ w3 ⟨rfl, hb3⟩
  have hE := hidS (hb2.out.trans (hb3.mono hb2.out.size))
  clear hb3 hb2 hv e2 HV HP hB1 hcv
  go_wp2
  go_ret
  exact ⟨rfl, hE.out⟩
end Go.Proofs.YthfhbmiddillbagDoor
end

section
namespace Go.Proofs.YthfhbmiddillbagDoor
open Go.ChangeShapes Go.WideShapes Go.ChangeAt Go.RowKit
set_option linter.unusedVariables false

theorem meth_tcp_bytes (v : Value) (W : World) : (method 297 106 v "loop.example/g00542/impl.bytes").run Tryd.prog W = .ok (137, v) W := by kernel_rfl
theorem enter_tcp_bytes (v : Value) (W : World) : (callFunc 137 #[v]).run Tryd.prog W = .ok (.enter 137 #[v]) W := by kernel_rfl
theorem meth_udp_bytes (v : Value) (W : World) : (method 297 108 v "loop.example/g00542/impl.bytes").run Tryd.prog W = .ok (140, v) W := by kernel_rfl
theorem enter_udp_bytes (v : Value) (W : World) : (callFunc 140 #[v]).run Tryd.prog W = .ok (.enter 140 #[v]) W := by kernel_rfl
theorem meth_err_bytes (v : Value) (W : World) : (method 297 110 v "loop.example/g00542/impl.bytes").run Tryd.prog W = .ok (143, v) W := by kernel_rfl
theorem enter_err_bytes (v : Value) (W : World) : (callFunc 143 #[v]).run Tryd.prog W = .ok (.enter 143 #[v]) W := by kernel_rfl
theorem meth_echo_bytes (v : Value) (W : World) : (method 297 112 v "loop.example/g00542/impl.bytes").run Tryd.prog W = .ok (146, v) W := by kernel_rfl
theorem enter_echo_bytes (v : Value) (W : World) : (callFunc 146 #[v]).run Tryd.prog W = .ok (.enter 146 #[v]) W := by kernel_rfl
end Go.Proofs.YthfhbmiddillbagDoor
end

section
namespace Go.Proofs.YthfhbmiddillbagDoor
open Go.ChangeShapes Go.WideShapes Go.ChangeAt Go.RowKit
open Go.ChangeMaps (open_string shut_string)
set_option linter.unusedVariables false
set_option maxRecDepth 100000

theorem over_mid (A B C m : List UInt8) (h : B.length = m.length) : over (A ++ B ++ C) A.length m = A ++ m ++ C := by
  unfold over
  rw [← h]
  congr 1
  · rw [List.append_assoc A B C, List.take_left]
  · have : A.length + B.length = (A ++ B).length := by simp
    rw [this, List.drop_left]
/-- what is around the check -/
def Around (p : Pk) (k : Nat) : Prop := ∃ A C : List UInt8, A.length + 20 = k ∧ ∀ c, (tailT p c).data.toList = A ++ (twoT c).data.toList ++ C
theorem Around.size {p : Pk} {k : Nat} (h : Around p k) (c : Nat) : (tailT p c).size = (tailT p 0).size := by
  obtain ⟨A, C, _, h⟩ := h
  have e : ∀ c, (tailT p c).size = (tailT p c).data.toList.length := fun c => by simp
  rw [e, e, h, h]; simp [two_list]
theorem around_tcp (p : Pk) (h6 : p.proto = 6) : Around p 36 := by
  refine ⟨(twoT p.a.toNat ++ twoT p.b.toNat ++ fourT p.seq.toNat ++ fourT p.ack.toNat ++ rowT [80, p.flags, 32, 0]).data.toList, (⟨#[0, 0]⟩ ++ p.body : ByteArray).data.toList, ?_, fun c => ?_⟩
  · have a1 := fourT_size p.seq.toNat
    have a2 := fourT_size p.ack.toNat
    have a3 := twoT_size p.a.toNat
    have a4 := twoT_size p.b.toNat
    have a5 : (rowT [80, p.flags, 32, 0]).size = 4 := rowT_size _
    simp [a1, a2, a3, a4, a5]
  · unfold tailT; rw [if_pos h6]; simp
theorem around_udp (p : Pk) (h17 : p.proto = 17) : Around p 26 := by
  refine ⟨(twoT p.a.toNat ++ twoT p.b.toNat ++ twoT (8 + (p.body.size : Int)).toNat).data.toList, p.body.data.toList, ?_, fun c => ?_⟩
  · have a3 := twoT_size p.a.toNat
    have a4 := twoT_size p.b.toNat
    have a5 := twoT_size (8 + (p.body.size : Int)).toNat
    simp [a3, a4, a5]
  · unfold tailT; rw [if_neg (by omega), if_pos h17]; simp
theorem around_ping (p : Pk) (h1 : p.proto = 1) : Around p 22 := by
  by_cases h3 : p.kind = 3
  · refine ⟨(rowT [p.kind, 1]).data.toList, (twoT p.a.toNat ++ twoT p.seq.toNat ++ p.body).data.toList, by have := rowT_size [p.kind, 1]; simpa using this, fun c => ?_⟩
    unfold tailT; rw [if_neg (by omega), if_neg (by omega), if_pos h3]; simp
  · refine ⟨(rowT [p.kind, 0]).data.toList, (twoT p.a.toNat ++ twoT p.seq.toNat ++ p.body).data.toList, by have := rowT_size [p.kind, 0]; simpa using this, fun c => ?_⟩
    unfold tailT; rw [if_neg (by omega), if_neg (by omega), if_neg h3]; simp
theorem bytes_put (p : Pk) (k : Nat) (h : Around p k) (hd : ByteArray) (h20 : hd.size = 20) (c : Nat) :
    (⟨(putAll (twoT c).data.toList (catT [hd, tailT p 0]).data.toList [k]).toArray⟩ : ByteArray) = hd ++ tailT p c := by
  obtain ⟨A, C, hA, hT⟩ := h
  have hh : hd.data.toList.length = 20 := by simpa using h20
  have e1 : (catT [hd, tailT p 0]).data.toList = (hd.data.toList ++ A) ++ (twoT 0).data.toList ++ C := by
    rw [cat2, ByteArray.data_append, Array.toList_append, hT 0]; simp
  have hk : k = (hd.data.toList ++ A).length := by simp [h20]; omega
  have hl : ((hd.data.toList ++ A) ++ (twoT 0).data.toList ++ C).length = k + 2 + C.length := by rw [List.length_append, List.length_append, ← hk]; rfl
  show (⟨(putAt (twoT c).data.toList (catT [hd, tailT p 0]).data.toList k).toArray⟩ : ByteArray) = _
  rw [e1]
  unfold putAt
  rw [if_pos (by omega), List.take_of_length_le (by rw [hl, two_list]; simp; omega), hk, over_mid _ _ _ _ (by simp [two_list])]
  refine ByteArray.ext ?_
  rw [ByteArray.data_append]
  apply Array.toList_inj.1
  rw [Array.toList_append, hT c]
  simp
theorem bytes_eq (p : Pk) (k : Nat) (h : Around p k) : headT p (tailT p 0).size (checkAns (headT p (tailT p 0).size 0)) ++ tailT p (checkT p).toNat = bytesOf p := by
  unfold bytesOf
  rw [h.size (checkT p).toNat]

theorem tail_tcp (p : Pk) (h6 : p.proto = 6) : catT [twoT p.a.toNat, twoT p.b.toNat, fourT p.seq.toNat, fourT p.ack.toNat, rowT [80, p.flags, 32, 0, 0, 0, 0, 0], p.body] = tailT p 0 := by
  unfold tailT; rw [if_pos h6]
  refine ByteArray.ext ?_
  apply Array.toList_inj.1
  have e : (rowT [80, p.flags, 32, 0, 0, 0, 0, 0]).data.toList = (rowT [80, p.flags, 32, 0]).data.toList ++ (twoT 0).data.toList ++ [0, 0] := rfl
  simp [catT, catL, e]
theorem tail_udp (p : Pk) (h17 : p.proto = 17) : catT [twoT p.a.toNat, twoT p.b.toNat, twoT (8 + (p.body.size : Int)).toNat, twoT 0, p.body] = tailT p 0 := by
  unfold tailT; rw [if_neg (by omega), if_pos h17]
  refine ByteArray.ext ?_
  apply Array.toList_inj.1
  simp [catT, catL]
theorem tail_err (p : Pk) (h1 : p.proto = 1) (h3 : p.kind = 3) (ha : p.a = 0) (hq : p.seq = 0) : catT [rowT [3, 1, 0, 0, 0, 0, 0, 0], p.body] = tailT p 0 := by
  unfold tailT; rw [if_neg (by omega), if_neg (by omega), if_pos h3, h3, ha, hq]
  refine ByteArray.ext ?_
  apply Array.toList_inj.1
  have e : (rowT [3, 1, 0, 0, 0, 0, 0, 0]).data.toList = (rowT [3, 1]).data.toList ++ (twoT 0).data.toList ++ (twoT 0).data.toList ++ (twoT 0).data.toList := rfl
  simp [catT, catL, e]
theorem tail_echo (p : Pk) (h1 : p.proto = 1) (h3 : p.kind ≠ 3) : catT [rowT [p.kind, 0, 0, 0], twoT p.a.toNat, twoT p.seq.toNat, p.body] = tailT p 0 := by
  unfold tailT; rw [if_neg (by omega), if_neg (by omega), if_neg h3]
  refine ByteArray.ext ?_
  apply Array.toList_inj.1
  have e : (rowT [p.kind, 0, 0, 0]).data.toList = (rowT [p.kind, 0]).data.toList ++ (twoT 0).data.toList := rfl
  simp [catT, catL, e]
theorem err_zero {p : Pk} (h : rightB p = true) (h1 : p.proto = 1) (h3 : p.kind = 3) : p.a = 0 ∧ p.seq = 0 := by
  unfold rightB pingB at h
  rw [if_neg (by omega), if_neg (by omega), if_pos h1, if_pos h3] at h
  simp only [Bool.and_eq_true, decide_eq_true_eq] at h
  exact ⟨h.2.2.1.1, h.2.2.1.2⟩

/-- a right packet's bytes, whatever its part -/
theorem implBytes_of (p : Pk) (T : TypeId) (val : Value) (fb : FuncId) (k : Nat) (w : World) (h : rightB p = true) (hA : Around p k) (hk : k ≤ 100)
    (hPT : ∀ W, Calls Tryd.prog 52 #[.agg #[.int .i64 p.src, .int .i64 p.dst, .int .i64 p.proto, .int .i64 p.a, .int .i64 p.b, .int .i64 p.kind, .int .i64 p.flags, .int .i64 p.seq, .int .i64 p.ack, .string p.body]] W fun e w' => e = .returned (.iface T val) ∧ Below W.heap.size W w')
    (hm1 : ∀ W, (method 297 T val "loop.example/g00542/impl.bytes").run Tryd.prog W = .ok (fb, val) W)
    (hc1 : ∀ W, (callFunc fb #[val]).run Tryd.prog W = .ok (.enter fb #[val]) W)
    (hB : ∀ W, Calls Tryd.prog fb #[val] W fun e w' => e = .returned (.string (tailT p 0)) ∧ Below W.heap.size W w')
    (hCP : ∀ W, Calls Tryd.prog 74 #[.agg #[.int .i64 p.src, .int .i64 p.dst, .int .i64 p.proto, .int .i64 p.a, .int .i64 p.b, .int .i64 p.kind, .int .i64 p.flags, .int .i64 p.seq, .int .i64 p.ack, .string p.body], .iface T val, .string (tailT p 0)] W fun e w' => e = .returned (.int .i64 (partC p (tailT p 0))) ∧ Below W.heap.size W w')
    (hCA : ∀ W, Calls Tryd.prog 54 #[.iface T val] W fun e w' => e = .returned (.int .i64 (k : Int)) ∧ Below W.heap.size W w') :
    Calls Tryd.prog 46 #[.agg #[.int .i64 p.src, .int .i64 p.dst, .int .i64 p.proto, .int .i64 p.a, .int .i64 p.b, .int .i64 p.kind, .int .i64 p.flags, .int .i64 p.seq, .int .i64 p.ack, .string p.body]] w fun e w' => e = .returned (.string (bytesOf p)) ∧ Below w.heap.size w w' := by
  have hs := (fine_of h).small 0
  have := implBytes_gen p T val fb (tailT p 0) k w h (by omega) hk hPT hm1 hc1 hB hCP hCA
  rw [bytes_put p k hA _ (headT_size _ _ _), partC_tail, bytes_eq p k hA] at this
  exact this

theorem implBytes_no (p : Pk) (w : World) (hs : p.body.size ≤ maxLen) (h : rightB p = false) :
    Calls Tryd.prog 46 #[.agg #[.int .i64 p.src, .int .i64 p.dst, .int .i64 p.proto, .int .i64 p.a, .int .i64 p.b, .int .i64 p.kind, .int .i64 p.flags, .int .i64 p.seq, .int .i64 p.ack, .string p.body]] w fun e w' => e = .returned (.string ⟨#[]⟩) ∧ Below w.heap.size w w' := by
  have hX := hidS (fun W => implRight_any p W hs)
  have hB1 := hidS ((Below.refl w.heap.size w).alloc (Nat.le_refl _) (.cells #[.int .i64 p.src, .int .i64 p.dst, .int .i64 p.proto, .int .i64 p.a, .int .i64 p.b, .int .i64 p.kind, .int .i64 p.flags, .int .i64 p.seq, .int .i64 p.ack, .string p.body] 30))
  go_enter Tryd.func46, Tryd.ntmps46
  go_wp2_with fail
  refine (hX.out _).mono ?_
  rintro _ w2 ⟨rfl, hb2⟩
  rw [h]
  have hL := hidS (hB1.out.trans (hb2.mono hB1.out.size))
  clear hB1 hb2 hX
  go_wp2_with fail
  go_ret
  exact ⟨rfl, hL.out⟩

theorem implBytes_any (p : Pk) (w : World) (hs : p.body.size ≤ maxLen) :
    Calls Tryd.prog 46 #[.agg #[.int .i64 p.src, .int .i64 p.dst, .int .i64 p.proto, .int .i64 p.a, .int .i64 p.b, .int .i64 p.kind, .int .i64 p.flags, .int .i64 p.seq, .int .i64 p.ack, .string p.body]] w fun e w' => e = .returned (.string (bytesAns p)) ∧ Below w.heap.size w w' := by
  cases h : rightB p
  · have e : bytesAns p = ⟨#[]⟩ := if_neg (by rw [h]; simp)
    rw [e]; exact implBytes_no p w hs h
  have e : bytesAns p = bytesOf p := if_pos h
  rw [e]
  have F := fine_of h
  have hb := F.body
  have hT := F.small 0
  have hf := flagB_iff.1 F.flags
  rcases F.proto with h6 | h17 | h1
  · exact implBytes_of p 106 _ 137 36 w h (around_tcp p h6) (by omega) (fun W => partOf_tcp p W h6) (meth_tcp_bytes _) (enter_tcp_bytes _)
      (fun W => by rw [← tail_tcp p h6]; exact tcpBytes_x p.a p.b p.seq p.ack p.flags p.body W F.a F.b F.seq F.ack (by omega) (by omega) (by omega)) (fun W => checkOfPart_tcp p _ _ W h6 F.src F.dst (by omega)) (fun W => checkAt_tcp _ W)
  · exact implBytes_of p 108 _ 140 26 w h (around_udp p h17) (by omega) (fun W => partOf_udp p W h17) (meth_udp_bytes _) (enter_udp_bytes _)
      (fun W => by rw [← tail_udp p h17]; exact udpBytes_x p.a p.b p.body W F.a F.b (by omega)) (fun W => checkOfPart_udp p _ _ W h17 F.src F.dst (by omega)) (fun W => checkAt_udp _ W)
  · by_cases h3 : p.kind = 3
    · obtain ⟨ha, hq⟩ := err_zero h h1 h3
      exact implBytes_of p 110 _ 143 22 w h (around_ping p h1) (by omega) (fun W => partOf_err p W h1 h3) (meth_err_bytes _) (enter_err_bytes _)
        (fun W => by rw [← tail_err p h1 h3 ha hq]; exact errBytes_x p.body W (by omega)) (fun W => checkOfPart_err p _ _ W h1 (by omega)) (fun W => checkAt_err _ W)
    · have k0 := F.kind0
      have k1 := F.kind1
      exact implBytes_of p 112 _ 146 22 w h (around_ping p h1) (by omega) (fun W => partOf_echo p W h1 h3) (meth_echo_bytes _) (enter_echo_bytes _)
        (fun W => by rw [← tail_echo p h1 h3]; exact echoBytes_x p.kind p.a p.seq p.body W F.a (F.seqW h1) (by omega) (by omega) (by omega)) (fun W => checkOfPart_echo p _ _ W h1 (by omega)) (fun W => checkAt_echo _ W)
end Go.Proofs.YthfhbmiddillbagDoor
end

section
namespace Go.Proofs.YthfhbmiddillbagDoor
open Go.RowKit Go.Extern.Stop Go.Stop Go.Extern
set_option linter.unusedVariables false

theorem isTypeOf (v : Value) (w : World) : (callFunc 91 #[.iface 134 v]).run Tryd.prog w = .ok (.value (.iface 147 (.agg #[typeHandle Tryd.prog 134]))) w := by kernel_rfl
theorem isComparable (w : World) : (callFunc 153 #[.agg #[typeHandle Tryd.prog 134]]).run Tryd.prog w = .ok (.value (.bool true)) w := by kernel_rfl
theorem isMethodComparable (v : Value) (w : World) : (Go.method 297 147 v "Comparable").run Tryd.prog w = .ok (153, v) w := by kernel_rfl
theorem isComp : (Tryd.prog.info? 134).map (·.comparable) = some true := by kernel_rfl
theorem isSize : (Tryd.prog.info? 136).map (·.size) = some 1 := by kernel_rfl
theorem noIsE (v : Value) (xT : TypeId) (w : World) : (Instr.typeAssert (.iface 134 v) xT 149 true).run Tryd.prog w = .ok (.tuple #[.nilIface, .bool false]) w := run_typeAssert_lacksB Tryd.underlying149 (by kernel_rfl) (by kernel_rfl) v xT w
theorem noUnwrapE (v : Value) (xT : TypeId) (w : World) : (Instr.typeAssert (.iface 134 v) xT 152 true).run Tryd.prog w = .ok (.tuple #[.nilIface, .bool false]) w := run_typeAssert_lacksB Tryd.underlying152 (by kernel_rfl) (by kernel_rfl) v xT w
theorem noUnwrapsE (v : Value) (xT : TypeId) (w : World) : (Instr.typeAssert (.iface 134 v) xT 154 true).run Tryd.prog w = .ok (.tuple #[.nilIface, .bool false]) w := run_typeAssert_lacksB Tryd.underlying154 (by kernel_rfl) (by kernel_rfl) v xT w

theorem is_same (a : Addr) (w : World) :
    Calls Tryd.prog 70 #[.iface 134 (.pointer (some a)), .iface 134 (.pointer (some a))] w fun e w' => e = .returned (.bool true) ∧ w' = w := by
  obtain ⟨i, hi, hcmp⟩ := Option.map_eq_some_iff.1 isComp
  obtain ⟨j, hj, hjs⟩ := Option.map_eq_some_iff.1 isSize
  have tT := isTypeOf
  have cT := isComparable
  have mR := isMethodComparable
  have heq := run_eql_iface_ptr_same (P := Tryd.prog) w a Tryd.underlying45 Tryd.underlying134 hi hcmp hj
  go_enter Tryd.func70, Tryd.ntmps70
  go_wp2
  refine wp_loop_rounds 1 ?_
  rw [rounds_succ]
  go_wp2
  go_ret
  exact ⟨rfl, rfl⟩

theorem is_nil (b : Addr) (w : World) :
    Calls Tryd.prog 70 #[.nilIface, .iface 134 (.pointer (some b))] w fun e w' => e = .returned (.bool false) ∧ w' = w := by
  have hn := run_eql_iface_nil_left (P := Tryd.prog) w 134 (.pointer (some b)) Tryd.underlying45
  go_enter Tryd.func70, Tryd.ntmps70
  go_wp2
  go_ret
  exact ⟨rfl, rfl⟩

theorem is_other (a b : Addr) (ca cb : Array Value) (ta tb : TypeId) (w : World) (hne : a ≠ b) (ha : w.heap[a.block]? = some (.cells ca ta (0, 0))) (hb : w.heap[b.block]? = some (.cells cb tb (0, 0))) :
    Calls Tryd.prog 70 #[.iface 134 (.pointer (some a)), .iface 134 (.pointer (some b))] w fun e w' => e = .returned (.bool false) ∧ w' = w := by
  obtain ⟨i, hi, hcmp⟩ := Option.map_eq_some_iff.1 isComp
  obtain ⟨j, hj, hjs⟩ := Option.map_eq_some_iff.1 isSize
  have tT := isTypeOf
  have cT := isComparable
  have mR := isMethodComparable
  have nE := noIsE
  have uE := noUnwrapE
  have vE := noUnwrapsE
  have heq := run_eql_iface_ptr_other (P := Tryd.prog) w Tryd.underlying45 Tryd.underlying134 hi hcmp hj (by rw [hjs]; decide) hne ha hb
  go_enter Tryd.func70, Tryd.ntmps70
  go_wp2
  refine wp_loop_rounds 1 ?_
  rw [rounds_succ]
  go_wp2
  go_ret
  exact ⟨rfl, rfl⟩
end Go.Proofs.YthfhbmiddillbagDoor
end

section
namespace Go.Proofs.YthfhbmiddillbagDoor
open Go.ChangeShapes Go.WideShapes Go.ChangeAt Go.RowKit
set_option linter.unusedVariables false
set_option maxRecDepth 100000

/-- an error of errors.New's make lies there -/
def ErrAt (a : Addr) (w : World) : Prop := ∃ c t, w.heap[a.block]? = some (.cells c t (0, 0))
theorem ErrAt.later {a : Addr} {w w' : World} (h : ErrAt a w) (hb : Below w.heap.size w w') : ErrAt a w' := by
  obtain ⟨c, t, h⟩ := h
  exact ⟨c, t, (hb.block a.block (Array.getElem?_eq_some_iff.1 h).1).trans h⟩
/-- the four package variables -/
structure Sent (aF aS aY aM : Addr) (w : World) : Prop where
  cF : w.cell? ⟨0, 0, none⟩ = some (.iface 134 (.pointer (some aF)))
  cS : w.cell? ⟨2, 0, none⟩ = some (.iface 134 (.pointer (some aS)))
  cY : w.cell? ⟨1, 0, none⟩ = some (.iface 134 (.pointer (some aY)))
  cM : w.cell? ⟨3, 0, none⟩ = some (.iface 134 (.pointer (some aM)))
  bF : ErrAt aF w
  bS : ErrAt aS w
  bY : ErrAt aY w
  bM : ErrAt aM w
  nFS : aF ≠ aS
  nFY : aF ≠ aY
  nFM : aF ≠ aM
  nSY : aS ≠ aY
  nSM : aS ≠ aM
  nYM : aY ≠ aM
theorem Sent.later {aF aS aY aM : Addr} {w w' : World} (h : Sent aF aS aY aM w) (hb : Below w.heap.size w w') : Sent aF aS aY aM w' :=
  ⟨(hb.cell (World.block_lt_of_cell? w _ h.cF)).trans h.cF, (hb.cell (World.block_lt_of_cell? w _ h.cS)).trans h.cS, (hb.cell (World.block_lt_of_cell? w _ h.cY)).trans h.cY, (hb.cell (World.block_lt_of_cell? w _ h.cM)).trans h.cM, h.bF.later hb, h.bS.later hb, h.bY.later hb, h.bM.later hb, h.nFS, h.nFY, h.nFM, h.nSY, h.nSM, h.nYM⟩
theorem codeOf_nil {aF aS aY aM : Addr} (w : World) (h : Sent aF aS aY aM w) :
    Calls Tryd.prog 42 #[.nilIface] w fun e w' => e = .returned (.int .i64 0) ∧ Below w.heap.size w w' := by
  have cF := h.cF
  have cS := h.cS
  have cY := h.cY
  have cM := h.cM
  obtain ⟨kF, tF, bF⟩ := h.bF
  obtain ⟨kS, tS, bS⟩ := h.bS
  obtain ⟨kY, tY, bY⟩ := h.bY
  obtain ⟨kM, tM, bM⟩ := h.bM
  clear h
  go_enter Tryd.func42, Tryd.ntmps42
  go_wp2_with fail
  refine (is_nil aF _).mono ?_
  rintro _ w1 ⟨rfl, rfl⟩
  go_wp2_with fail
  refine (is_nil aS _).mono ?_
  rintro _ w1 ⟨rfl, rfl⟩
  go_wp2_with fail
  refine (is_nil aY _).mono ?_
  rintro _ w1 ⟨rfl, rfl⟩
  go_wp2_with fail
  refine (is_nil aM _).mono ?_
  rintro _ w1 ⟨rfl, rfl⟩
  go_wp2_with fail
  go_ret
  exact ⟨rfl, Below.refl _ _⟩
theorem codeOf_errForm {aF aS aY aM : Addr} (w : World) (h : Sent aF aS aY aM w) :
    Calls Tryd.prog 42 #[.iface 134 (.pointer (some aF))] w fun e w' => e = .returned (.int .i64 1) ∧ Below w.heap.size w w' := by
  have cF := h.cF
  have cS := h.cS
  have cY := h.cY
  have cM := h.cM
  obtain ⟨kF, tF, bF⟩ := h.bF
  obtain ⟨kS, tS, bS⟩ := h.bS
  obtain ⟨kY, tY, bY⟩ := h.bY
  obtain ⟨kM, tM, bM⟩ := h.bM
  clear h
  go_enter Tryd.func42, Tryd.ntmps42
  go_wp2_with fail
  refine (is_same aF _).mono ?_
  rintro _ w1 ⟨rfl, rfl⟩
  go_wp2_with fail
  go_ret
  exact ⟨rfl, Below.refl _ _⟩
theorem codeOf_errShort {aF aS aY aM : Addr} (w : World) (h : Sent aF aS aY aM w) :
    Calls Tryd.prog 42 #[.iface 134 (.pointer (some aS))] w fun e w' => e = .returned (.int .i64 4) ∧ Below w.heap.size w w' := by
  have cF := h.cF
  have cS := h.cS
  have cY := h.cY
  have cM := h.cM
  obtain ⟨kF, tF, bF⟩ := h.bF
  obtain ⟨kS, tS, bS⟩ := h.bS
  obtain ⟨kY, tY, bY⟩ := h.bY
  obtain ⟨kM, tM, bM⟩ := h.bM
  have NF := hidS (h.nFS.symm)
  clear h
  go_enter Tryd.func42, Tryd.ntmps42
  go_wp2_with fail
  refine (is_other aS aF kS kF tS tF _ NF.out bS bF).mono ?_
  rintro _ w1 ⟨rfl, rfl⟩
  go_wp2_with fail
  refine (is_same aS _).mono ?_
  rintro _ w1 ⟨rfl, rfl⟩
  go_wp2_with fail
  go_ret
  exact ⟨rfl, Below.refl _ _⟩
theorem codeOf_errSyntax {aF aS aY aM : Addr} (w : World) (h : Sent aF aS aY aM w) :
    Calls Tryd.prog 42 #[.iface 134 (.pointer (some aY))] w fun e w' => e = .returned (.int .i64 3) ∧ Below w.heap.size w w' := by
  have cF := h.cF
  have cS := h.cS
  have cY := h.cY
  have cM := h.cM
  obtain ⟨kF, tF, bF⟩ := h.bF
  obtain ⟨kS, tS, bS⟩ := h.bS
  obtain ⟨kY, tY, bY⟩ := h.bY
  obtain ⟨kM, tM, bM⟩ := h.bM
  have NF := hidS (h.nFY.symm)
  have NS := hidS (h.nSY.symm)
  clear h
  go_enter Tryd.func42, Tryd.ntmps42
  go_wp2_with fail
  refine (is_other aY aF kY kF tY tF _ NF.out bY bF).mono ?_
  rintro _ w1 ⟨rfl, rfl⟩
  go_wp2_with fail
  refine (is_other aY aS kY kS tY tS _ NS.out bY bS).mono ?_
  rintro _ w1 ⟨rfl, rfl⟩
  go_wp2_with fail
  refine (is_same aY _).mono ?_
  rintro _ w1 ⟨rfl, rfl⟩
  go_wp2_with fail
  go_ret
  exact ⟨rfl, Below.refl _ _⟩
theorem codeOf_errSum {aF aS aY aM : Addr} (w : World) (h : Sent aF aS aY aM w) :
    Calls Tryd.prog 42 #[.iface 134 (.pointer (some aM))] w fun e w' => e = .returned (.int .i64 5) ∧ Below w.heap.size w w' := by
  have cF := h.cF
  have cS := h.cS
  have cY := h.cY
  have cM := h.cM
  obtain ⟨kF, tF, bF⟩ := h.bF
  obtain ⟨kS, tS, bS⟩ := h.bS
  obtain ⟨kY, tY, bY⟩ := h.bY
  obtain ⟨kM, tM, bM⟩ := h.bM
  have NF := hidS (h.nFM.symm)
  have NS := hidS (h.nSM.symm)
  have NY := hidS (h.nYM.symm)
  clear h
  go_enter Tryd.func42, Tryd.ntmps42
  go_wp2_with fail
  refine (is_other aM aF kM kF tM tF _ NF.out bM bF).mono ?_
  rintro _ w1 ⟨rfl, rfl⟩
  go_wp2_with fail
  refine (is_other aM aS kM kS tM tS _ NS.out bM bS).mono ?_
  rintro _ w1 ⟨rfl, rfl⟩
  go_wp2_with fail
  refine (is_other aM aY kM kY tM tY _ NY.out bM bY).mono ?_
  rintro _ w1 ⟨rfl, rfl⟩
  go_wp2_with fail
  refine (is_same aM _).mono ?_
  rintro _ w1 ⟨rfl, rfl⟩
  go_wp2_with fail
  go_ret
  exact ⟨rfl, Below.refl _ _⟩
end Go.Proofs.YthfhbmiddillbagDoor
end

section
namespace Go.Proofs.YthfhbmiddillbagDoor
open Go.ChangeShapes Go.WideShapes Go.ChangeAt Go.RowKit
set_option linter.unusedVariables false
set_option linter.unusedSimpArgs false

set_option maxHeartbeats 2000000 in
theorem packAns_x (p : Pk) (err : Value) (c : Int) (w : World) (hCO : ∀ W, Below w.heap.size w W → Calls Tryd.prog 42 #[err] W fun e w' => e = .returned (.int .i64 c) ∧ Below W.heap.size W w') :
    Calls Tryd.prog 24 #[.agg #[.int .i64 p.src, .int .i64 p.dst, .int .i64 p.proto, .int .i64 p.a, .int .i64 p.b, .int .i64 p.kind, .int .i64 p.flags, .int .i64 p.seq, .int .i64 p.ack, .string p.body], err] w fun e w' => e = .returned (.agg #[.int .i64 p.src, .int .i64 p.dst, .int .i64 p.proto, .int .i64 p.a, .int .i64 p.b, .int .i64 p.kind, .int .i64 p.flags, .int .i64 p.seq, .int .i64 p.ack, .string p.body, .int .i64 (c)]) ∧ Below w.heap.size w w' := by
  have HCO := hidS hCO
  clear hCO
  have HP : Hid (PkAt w.heap.size p ((w.alloc (.cells #[.int .i64 p.src, .int .i64 p.dst, .int .i64 p.proto, .int .i64 p.a, .int .i64 p.b, .int .i64 p.kind, .int .i64 p.flags, .int .i64 p.seq, .int .i64 p.ack, .string p.body] 30)).alloc (.cells #[.int .i64 0, .int .i64 0, .int .i64 0, .int .i64 0, .int .i64 0, .int .i64 0, .int .i64 0, .int .i64 0, .int .i64 0, .string ⟨#[]⟩, .int .i64 0] 32))) := (PkAt.new p w).later ((Below.refl _ _).alloc (Nat.le_refl _) _)
  have hG : ((w.alloc (.cells #[.int .i64 p.src, .int .i64 p.dst, .int .i64 p.proto, .int .i64 p.a, .int .i64 p.b, .int .i64 p.kind, .int .i64 p.flags, .int .i64 p.seq, .int .i64 p.ack, .string p.body] 30)).alloc (.cells #[.int .i64 0, .int .i64 0, .int .i64 0, .int .i64 0, .int .i64 0, .int .i64 0, .int .i64 0, .int .i64 0, .int .i64 0, .string ⟨#[]⟩, .int .i64 0] 32)).heap[w.heap.size + 1]? = some (.cells #[.int .i64 0, .int .i64 0, .int .i64 0, .int .i64 0, .int .i64 0, .int .i64 0, .int .i64 0, .int .i64 0, .int .i64 0, .string ⟨#[]⟩, .int .i64 0] 32) := by
    have := heap_newG (w.alloc (.cells #[.int .i64 p.src, .int .i64 p.dst, .int .i64 p.proto, .int .i64 p.a, .int .i64 p.b, .int .i64 p.kind, .int .i64 p.flags, .int .i64 p.seq, .int .i64 p.ack, .string p.body] 30)) (.cells #[.int .i64 0, .int .i64 0, .int .i64 0, .int .i64 0, .int .i64 0, .int .i64 0, .int .i64 0, .int .i64 0, .int .i64 0, .string ⟨#[]⟩, .int .i64 0] 32)
    simpa using this
  have hB1 := hidS (((Below.refl w.heap.size w).alloc (Nat.le_refl _) (.cells #[.int .i64 p.src, .int .i64 p.dst, .int .i64 p.proto, .int .i64 p.a, .int .i64 p.b, .int .i64 p.kind, .int .i64 p.flags, .int .i64 p.seq, .int .i64 p.ack, .string p.body] 30)).alloc (by simp) (.cells #[.int .i64 0, .int .i64 0, .int .i64 0, .int .i64 0, .int .i64 0, .int .i64 0, .int .i64 0, .int .i64 0, .int .i64 0, .string ⟨#[]⟩, .int .i64 0] 32))
  have HG := hidS hG
  clear hG
  go_enter Tryd.func24, Tryd.ntmps24
  go_wp2_with fail
  generalize (w.alloc (.cells #[.int .i64 p.src, .int .i64 p.dst, .int .i64 p.proto, .int .i64 p.a, .int .i64 p.b, .int .i64 p.kind, .int .i64 p.flags, .int .i64 p.seq, .int .i64 p.ack, .string p.body] 30)).alloc (.cells #[.int .i64 0, .int .i64 0, .int .i64 0, .int .i64 0, .int .i64 0, .int .i64 0, .int .i64 0, .int .i64 0, .int .i64 0, .string ⟨#[]⟩, .int .i64 0] 32) = w1 at HP hB1 HG ⊢
  refine grow_into 4 _ [.is (.agg #[.int .i64 p.src, .int .i64 p.dst, .int .i64 p.proto, .int .i64 p.a, .int .i64 p.b, .int .i64 p.kind, .int .i64 p.flags, .int .i64 p.seq, .int .i64 p.ack, .string p.body]), .is (err), .is (.int .i64 (c)), .is (.agg #[.int .i64 p.src, .int .i64 p.dst, .int .i64 p.proto, .int .i64 p.a, .int .i64 p.b, .int .i64 p.kind, .int .i64 p.flags, .int .i64 p.seq, .int .i64 p.ack, .string p.body, .int .i64 (c)])] 3 4 8 32 32 ((w.heap.size + 1)) #[.int .i64 0, .int .i64 0, .int .i64 0, .int .i64 0, .int .i64 0, .int .i64 0, .int .i64 0, .int .i64 0, .int .i64 0, .string ⟨#[]⟩, .int .i64 0] #[.int .i64 p.src, .int .i64 p.dst, .int .i64 p.proto, .int .i64 p.a, .int .i64 p.b, .int .i64 p.kind, .int .i64 p.flags, .int .i64 p.seq, .int .i64 p.ack, .string p.body, .int .i64 (c)] rfl rfl rfl (by kernel_rfl) (by kernel_rfl) (by kernel_rfl) rfl rfl (by decide) (by kernel_rfl) (by kernel_rfl) (by decide) HG.out (by kernel_rfl) (by kernel_rfl) (by first | kernel_rfl | simp [Value.oneCell']) (by kernel_rfl) ?steps ?fin
  case steps =>
    refine ⟨?_, ?_, ?_, ?_, trivial⟩
    · refine ⟨rfl, fun v W ρ hC kc kf ks ki kd => ?_⟩
      have t2 : ρ (.tmp 2) = .pointer (some ⟨w.heap.size, 0, none⟩) := ki 2 (by decide)
      have hp := HP.out.later hC
      obtain ⟨c0, c1, c2, c3, c4, c5, c6, c7, c8, c9⟩ := hp
      simp [execOp, go_sem, t2, c0, c1, c2, c3, c4, c5, c6, c7, c8, c9]
      exact ⟨hC, Below.refl _ _, rfl⟩
    · refine ⟨rfl, fun v W ρ hC kc kf ks ki kd => ?_⟩
      have t1 : ρ (.tmp 1) = err := ki 1 (by decide)
      simp [execOp, go_sem, t1]
      exact ⟨hC, Below.refl _ _, rfl⟩
    · refine ⟨rfl, fun v W ρ hC kc kf ks ki kd => ?_⟩
      have d1 : v 1 = err := kd _ (Array.mem_of_getElem? (i := 0) rfl) rfl
      have t6 : ρ (.tmp 6) = v 1 := ks 1 6 (by decide) rfl
      rw [d1] at t6
      simp [execOp, go_sem, t6, kf]
      exact Calls.mono (HCO.out _ (hB1.out.trans (hC.mono hB1.out.size))) (fun e x h => ⟨_, h.1, hC.trans (h.2.mono hC.size), h.2, rfl⟩)
    · refine ⟨rfl, fun v W ρ hC kc kf ks ki kd => ?_⟩
      have d0 : v 0 = .agg #[.int .i64 p.src, .int .i64 p.dst, .int .i64 p.proto, .int .i64 p.a, .int .i64 p.b, .int .i64 p.kind, .int .i64 p.flags, .int .i64 p.seq, .int .i64 p.ack, .string p.body] := kd _ (Array.mem_of_getElem? (i := 0) rfl) rfl
      have t5 : ρ (.tmp 5) = v 0 := ks 0 5 (by decide) rfl
      rw [d0] at t5
      have d2 : v 2 = .int .i64 (c) := kd _ (Array.mem_of_getElem? (i := 1) rfl) rfl
      have t7 : ρ (.tmp 7) = v 2 := ks 2 7 (by decide) rfl
      rw [d2] at t7
      simp [execOp, go_sem, t5, t7]
      exact ⟨hC, Below.refl _ _, rfl⟩
  case fin =>
    intro v W hLW hgW hall
    simp [upto, Act.put]
    clear hall
    have hE := hidS (hB1.out.trans (hLW w.heap.size (by omega)))
    have hc := blk_cell hgW
    clear hLW hgW HG HP hB1 HCO
    go_wp2_with fail
    exact bodyPost_ret (v := .agg #[.int .i64 p.src, .int .i64 p.dst, .int .i64 p.proto, .int .i64 p.a, .int .i64 p.b, .int .i64 p.kind, .int .i64 p.flags, .int .i64 p.seq, .int .i64 p.ack, .string p.body, .int .i64 (c)]) (by simp [results, Tryd.results24, go_sem, hc]) rfl ⟨rfl, hE.out⟩
end Go.Proofs.YthfhbmiddillbagDoor
end

section
namespace Go.Proofs.YthfhbmiddillbagDoor
open Go.ChangeShapes Go.WideShapes Go.ChangeAt Go.RowKit
open Go.ChangeMaps (open_string shut_string)
set_option linter.unusedVariables false

theorem cell_of_heap {w : World} {g : Nat} {cs : Array Value} {e : TypeId} {fr : Nat × Nat} (h : w.heap[g]? = some (.cells cs e fr)) (j : Nat) : w.cell? ⟨g, j, none⟩ = cs[j]? := by
  simp [World.cell?, h]
theorem shape_of_heap {w : World} {g : Nat} {cs : Array Value} {e : TypeId} {fr : Nat × Nat} (h : w.heap[g]? = some (.cells cs e fr)) : w.shape? g = some (e, cs.size) := by
  simp [World.shape?, h]

set_option maxRecDepth 100000 in
theorem cloneIn_any (s : ByteArray) (w : World) (hs : s.size ≤ 1099511627776) :
    Calls Tryd.prog 71 #[.string s] w fun e w' => e = .returned (.string s) ∧ Below w.heap.size w w' := by
  by_cases h : s.size = 0
  · have hE : s = ⟨#[]⟩ := ByteArray.ext (Array.eq_empty_of_size_eq_zero h)
    subst hE
    go_enter Tryd.func71, Tryd.ntmps71
    go_wp2
    go_ret
    exact ⟨rfl, Below.refl _ _⟩
  · have h' : ((s.size : Int) == 0) = false := beq_eq_false_iff_ne.2 (by omega)
    have hpos : 0 < s.size := by omega
    have hmk : ∀ W, (Instr.makeSlice 72 (.int .i64 (s.size : Int)) (.int .i64 (s.size : Int))).run Tryd.prog W = .ok (.slice (some ⟨W.heap.size, 0, none⟩) s.size s.size) (W.alloc (.cells (madeCells #[.int .u8 0] s.size) 5)) := fun W =>
      run_make_row' (P := Tryd.prog) 72 5 (.int .u8 0) 1 Tryd.underlying72 Tryd.infoU8 rfl .i64 .i64 s.size (by omega) (by omega) W
    have hsl : s.data.toList.length = s.size := by simp
    have hg0 := heap_new w (.cells (madeCells #[.int .u8 0] s.size) 5)
    have hr1 := Lib.run_copy_row_string (P := Tryd.prog) (w.alloc (.cells (madeCells #[.int .u8 0] s.size) 5)) 72 9 3 5 w.heap.size 0 s.size s.size s _ 5 Tryd.underlying72 (by kernel_rfl) hg0 (Nat.le_refl _) (by rw [size_madeCells]; omega)
    have hrow : ((madeCells #[Value.int .u8 0] s.size).toList.take 0 ++ Lib.byteCells s.data.toList ++ (madeCells #[Value.int .u8 0] s.size).toList.drop (0 + s.size)).toArray = (Lib.byteCells s.data.toList).toArray := by
      rw [List.drop_of_length_le (by rw [Array.length_toList, size_madeCells]; omega)]
      simp
    rw [hrow] at hr1
    have hg1 := setRow_heap _ w.heap.size _ (Lib.byteCells s.data.toList).toArray _ _ hg0
    have hbel1 : Below w.heap.size w ((w.alloc (.cells (madeCells #[.int .u8 0] s.size) 5)).setRow w.heap.size (Lib.byteCells s.data.toList).toArray) := below_setRow ((Below.refl _ _).alloc (Nat.le_refl _) _) (Nat.le_refl _) _
    generalize (w.alloc (.cells (madeCells #[.int .u8 0] s.size) 5)).setRow w.heap.size (Lib.byteCells s.data.toList).toArray = w1 at hr1 hg1 hbel1
    have hus := Lib.run_unsafeString_row (P := Tryd.prog) (w := w1) 126 3 9 5 Tryd.underlying126 (by kernel_rfl) w.heap.size _ (shape_of_heap hg1) s.data.toList (by intro e; rw [e] at hsl; simp at hsl; omega) (by simp [Lib.byteCells]) (by omega) (fun j x hx => by
      rw [Addr.add_lit, Nat.zero_add, cell_of_heap hg1]
      simp [Lib.byteCells, hx])
    rw [hsl] at hus
    have hbel2 := Lib.below_freeze hbel1 (p := ⟨w.heap.size, 0, none⟩) (Nat.le_refl _) s.size
    clear hg0 hg1 hrow hsl hbel1
    go_enter Tryd.func71, Tryd.ntmps71
    go_wp2
    go_ret
    exact ⟨rfl, hbel2⟩

theorem clone_any (s : ByteArray) (w : World) (hs : s.size ≤ 1099511627776) :
    Calls Tryd.prog 45 #[.string s] w fun e w' => e = .returned (.string s) ∧ Below w.heap.size w w' := by
  go_enter Tryd.func45, Tryd.ntmps45
  go_wp2_with (go_at_call 71; refine (cloneIn_any _ _ hs).mono ?_; rintro e w1 ⟨rfl, hb1⟩)
  go_ret
  exact ⟨rfl, hb1⟩
end Go.Proofs.YthfhbmiddillbagDoor
end

section
namespace Go.Proofs.YthfhbmiddillbagDoor
open Go.ChangeShapes Go.WideShapes Go.ChangeAt Go.RowKit
open Go.ChangeMaps (open_string shut_string)
set_option linter.unusedVariables false
set_option maxRecDepth 100000

theorem sent_allocE {aF aS aY aM : Addr} {w : World} (h : Sent aF aS aY aM w) (o : Obj) : Sent aF aS aY aM (w.alloc o) := h.later ((Below.refl _ _).alloc (Nat.le_refl _) o)
theorem bytesOf_sm {p : Pk} (h : Fine p) : (bytesOf p).size ≤ 140 := by
  unfold bytesOf
  rw [ByteArray.size_append, headT_size]
  have := h.small (checkT p).toNat
  omega
theorem bytesAns_of {p : Pk} (h : rightB p = true) : bytesAns p = bytesOf p := if_pos h
theorem isError_any (p : Pk) (w : World) :
    Calls Tryd.prog 44 #[.agg #[.int .i64 p.src, .int .i64 p.dst, .int .i64 p.proto, .int .i64 p.a, .int .i64 p.b, .int .i64 p.kind, .int .i64 p.flags, .int .i64 p.seq, .int .i64 p.ack, .string p.body]] w fun e w' => e = .returned (.bool (p.proto == 1 && p.kind == 3)) ∧ Below w.heap.size w w' := by
  have HB := fun o => hidS ((Below.refl w.heap.size w).alloc (Nat.le_refl _) o)
  cases h1 : (p.proto == 1)
  · go_enter Tryd.func44, Tryd.ntmps44
    go_wp2
    go_ret
    exact ⟨rfl, (HB _).out⟩
  · go_enter Tryd.func44, Tryd.ntmps44
    go_wp2
    go_ret
    exact ⟨rfl, (HB _).out⟩

set_option maxHeartbeats 2000000 in
theorem tell_no {aF aS aY aM : Addr} (p : Pk) (f : Int) (w : World) (hs : p.body.size ≤ maxLen) (hS : Sent aF aS aY aM w) (h : errB p f = false) :
    Calls Tryd.prog 25 #[.agg #[.int .i64 p.src, .int .i64 p.dst, .int .i64 p.proto, .int .i64 p.a, .int .i64 p.b, .int .i64 p.kind, .int .i64 p.flags, .int .i64 p.seq, .int .i64 p.ack, .string p.body], .int .i64 f] w fun e w' => e = .returned (.tuple #[.agg #[.int .i64 zeroPk.src, .int .i64 zeroPk.dst, .int .i64 zeroPk.proto, .int .i64 zeroPk.a, .int .i64 zeroPk.b, .int .i64 zeroPk.kind, .int .i64 zeroPk.flags, .int .i64 zeroPk.seq, .int .i64 zeroPk.ack, .string zeroPk.body], .iface 134 (.pointer (some aF))]) ∧ Below w.heap.size w w' := by
  have HR := hidS (fun W => implRight_any p W hs)
  have HI := hidS (fun W => isError_any p W)
  have hlt0 : 0 < w.heap.size := World.block_lt_of_cell? w _ hS.cF
  have hS0 := hidS (sent_allocE (sent_allocE hS (.cells #[.int .i64 p.src, .int .i64 p.dst, .int .i64 p.proto, .int .i64 p.a, .int .i64 p.b, .int .i64 p.kind, .int .i64 p.flags, .int .i64 p.seq, .int .i64 p.ack, .string p.body] 30)) (.cells #[.int .i64 0, .int .i64 0, .int .i64 0, .int .i64 0, .int .i64 0, .int .i64 0, .int .i64 0, .int .i64 0, .int .i64 0, .string ⟨#[]⟩] 30))
  have hP0 := hidS (blk_alloc (heap_newG w (.cells #[.int .i64 p.src, .int .i64 p.dst, .int .i64 p.proto, .int .i64 p.a, .int .i64 p.b, .int .i64 p.kind, .int .i64 p.flags, .int .i64 p.seq, .int .i64 p.ack, .string p.body] 30)) (.cells #[.int .i64 0, .int .i64 0, .int .i64 0, .int .i64 0, .int .i64 0, .int .i64 0, .int .i64 0, .int .i64 0, .int .i64 0, .string ⟨#[]⟩] 30))
  have hG0' : ((w.alloc (.cells #[.int .i64 p.src, .int .i64 p.dst, .int .i64 p.proto, .int .i64 p.a, .int .i64 p.b, .int .i64 p.kind, .int .i64 p.flags, .int .i64 p.seq, .int .i64 p.ack, .string p.body] 30)).alloc (.cells #[.int .i64 0, .int .i64 0, .int .i64 0, .int .i64 0, .int .i64 0, .int .i64 0, .int .i64 0, .int .i64 0, .int .i64 0, .string ⟨#[]⟩] 30)).heap[w.heap.size + 1]? = some (.cells #[.int .i64 0, .int .i64 0, .int .i64 0, .int .i64 0, .int .i64 0, .int .i64 0, .int .i64 0, .int .i64 0, .int .i64 0, .string ⟨#[]⟩] 30) := by
    have := heap_newG (w.alloc (.cells #[.int .i64 p.src, .int .i64 p.dst, .int .i64 p.proto, .int .i64 p.a, .int .i64 p.b, .int .i64 p.kind, .int .i64 p.flags, .int .i64 p.seq, .int .i64 p.ack, .string p.body] 30)) (.cells #[.int .i64 0, .int .i64 0, .int .i64 0, .int .i64 0, .int .i64 0, .int .i64 0, .int .i64 0, .int .i64 0, .int .i64 0, .string ⟨#[]⟩] 30)
    simpa using this
  have hG0 := hidS hG0'
  clear hG0'
  have hL0 := hidS (((Below.refl w.heap.size w).alloc (Nat.le_refl _) (.cells #[.int .i64 p.src, .int .i64 p.dst, .int .i64 p.proto, .int .i64 p.a, .int .i64 p.b, .int .i64 p.kind, .int .i64 p.flags, .int .i64 p.seq, .int .i64 p.ack, .string p.body] 30)).alloc (by simp) (.cells #[.int .i64 0, .int .i64 0, .int .i64 0, .int .i64 0, .int .i64 0, .int .i64 0, .int .i64 0, .int .i64 0, .int .i64 0, .string ⟨#[]⟩] 30))
  cases hr : rightB p
  · clear h hS
    go_enter Tryd.func25, Tryd.ntmps25
    go_wp2_with fail
    refine (HR.out _).mono ?_
    rintro _ w1 ⟨rfl, hb1⟩
    rw [hr]
    have hG6 := blk_later hG0.out hb1
    have hS6 := hidS (hS0.out.later hb1)
    have hL6 := hidS (hL0.out.trans (hb1.mono hL0.out.size))
    clear hb1 hG0 hS0 hL0
    have hg := hS6.out.cF
    have hne : w.heap.size + 1 ≠ 0 := by omega
    have cg := blk_cell hG6
    have fg := blk_free hG6
    clear hS6 hG6
    go_wp2_with fail
    go_region
    go_wp2_with fail
    refine bodyPost_ret (v := .tuple #[.agg #[.int .i64 zeroPk.src, .int .i64 zeroPk.dst, .int .i64 zeroPk.proto, .int .i64 zeroPk.a, .int .i64 zeroPk.b, .int .i64 zeroPk.kind, .int .i64 zeroPk.flags, .int .i64 zeroPk.seq, .int .i64 zeroPk.ack, .string zeroPk.body], .iface 134 (.pointer (some aF))]) (by simp [results, Tryd.results25, go_sem, zeroPk, *]) rfl ⟨rfl, ?_⟩
    refine Below.drew ?_
    repeat (refine below_at ?_ (by omega))
    exact hL6.out
  cases hi : (p.proto == 1 && p.kind == 3)
  · cases ha : addrB f
    · have hal : allA [f] = false := by simp [allA, ha]
      clear h hS ha
      go_enter Tryd.func25, Tryd.ntmps25
      go_wp2_with fail
      refine (HR.out _).mono ?_
      rintro _ w1 ⟨rfl, hb1⟩
      rw [hr]
      have hG1 := hidS (blk_later hG0.out hb1)
      have hP1 := blk_later hP0.out hb1
      have hS1 := hidS (hS0.out.later hb1)
      have hL1 := hidS (hL0.out.trans (hb1.mono hL0.out.size))
      clear hb1 hG0 hP0 hS0 hL0 HR
      have c0 := blk_cell hP1 0
      have c1 := blk_cell hP1 1
      have c2 := blk_cell hP1 2
      have c3 := blk_cell hP1 3
      have c4 := blk_cell hP1 4
      have c5 := blk_cell hP1 5
      have c6 := blk_cell hP1 6
      have c7 := blk_cell hP1 7
      have c8 := blk_cell hP1 8
      have c9 := blk_cell hP1 9
      simp at c0 c1 c2 c3 c4 c5 c6 c7 c8 c9
      have HP1 := hidS hP1
      clear hP1
      go_wp2_with fail
      refine (HI.out _).mono ?_
      rintro _ w2 ⟨rfl, hb2⟩
      rw [hi]
      have hG2 := hidS (blk_later hG1.out hb2)
      have hS2 := hidS (hS1.out.later hb2)
      have hL2 := hidS (hL1.out.trans (hb2.mono hL1.out.size))
      clear hb2 hG1 HP1 hS1 hL1 HI c0 c1 c2 c3 c4 c5 c6 c7 c8 c9
      have hv := vals_at (W := w2) [.int .i64 f] 2
      have HA := hidS (areAddrs_any w2.heap.size [f] _ (ValsAt.ints (ts := [f]) hv) (by simp))
      clear hv
      go_wp2_with fail
      refine HA.out.mono ?_
      rintro _ w3 ⟨rfl, rfl⟩
      rw [hal]
      have hG0 := hidS (blk_alloc hG2.out (.cells #[.int .i64 f] 2))
      have hS0 := hidS (sent_allocE hS2.out (.cells #[.int .i64 f] 2))
      have hL0 := hidS (hL2.out.alloc hL2.out.size (.cells #[.int .i64 f] 2))
      clear hG2 hS2 hL2 HA
      generalize w2.alloc (.cells #[.int .i64 f] 2) = w1 at hG0 hS0 hL0 ⊢
      have hb1 := Below.refl w1.heap.size w1
      have hG6 := blk_later hG0.out hb1
      have hS6 := hidS (hS0.out.later hb1)
      have hL6 := hidS (hL0.out.trans (hb1.mono hL0.out.size))
      clear hb1 hG0 hS0 hL0
      have hg := hS6.out.cF
      have hne : w.heap.size + 1 ≠ 0 := by omega
      have cg := blk_cell hG6
      have fg := blk_free hG6
      clear hS6 hG6
      go_wp2_with fail
      go_region
      go_wp2_with fail
      refine bodyPost_ret (v := .tuple #[.agg #[.int .i64 zeroPk.src, .int .i64 zeroPk.dst, .int .i64 zeroPk.proto, .int .i64 zeroPk.a, .int .i64 zeroPk.b, .int .i64 zeroPk.kind, .int .i64 zeroPk.flags, .int .i64 zeroPk.seq, .int .i64 zeroPk.ack, .string zeroPk.body], .iface 134 (.pointer (some aF))]) (by simp [results, Tryd.results25, go_sem, zeroPk, *]) rfl ⟨rfl, ?_⟩
      refine Below.drew ?_
      repeat (refine below_at ?_ (by omega))
      exact hL6.out
    · exfalso
      unfold errB at h
      rw [hr, hi, ha] at h
      cases h
  · clear h hS
    go_enter Tryd.func25, Tryd.ntmps25
    go_wp2_with fail
    refine (HR.out _).mono ?_
    rintro _ w1 ⟨rfl, hb1⟩
    rw [hr]
    have hG1 := hidS (blk_later hG0.out hb1)
    have hP1 := blk_later hP0.out hb1
    have hS1 := hidS (hS0.out.later hb1)
    have hL1 := hidS (hL0.out.trans (hb1.mono hL0.out.size))
    clear hb1 hG0 hP0 hS0 hL0 HR
    have c0 := blk_cell hP1 0
    have c1 := blk_cell hP1 1
    have c2 := blk_cell hP1 2
    have c3 := blk_cell hP1 3
    have c4 := blk_cell hP1 4
    have c5 := blk_cell hP1 5
    have c6 := blk_cell hP1 6
    have c7 := blk_cell hP1 7
    have c8 := blk_cell hP1 8
    have c9 := blk_cell hP1 9
    simp at c0 c1 c2 c3 c4 c5 c6 c7 c8 c9
    have HP1 := hidS hP1
    clear hP1
    go_wp2_with fail
    refine (HI.out _).mono ?_
    rintro _ w2 ⟨rfl, hb2⟩
    rw [hi]
    have hG0 := hidS (blk_later hG1.out hb2)
    have hS0 := hidS (hS1.out.later hb2)
    have hL0 := hidS (hL1.out.trans (hb2.mono hL1.out.size))
    clear hb2 hG1 HP1 hS1 hL1 HI c0 c1 c2 c3 c4 c5 c6 c7 c8 c9
    have hb1 := Below.refl w2.heap.size w2
    have hG6 := blk_later hG0.out hb1
    have hS6 := hidS (hS0.out.later hb1)
    have hL6 := hidS (hL0.out.trans (hb1.mono hL0.out.size))
    clear hb1 hG0 hS0 hL0
    have hg := hS6.out.cF
    have hne : w.heap.size + 1 ≠ 0 := by omega
    have cg := blk_cell hG6
    have fg := blk_free hG6
    clear hS6 hG6
    go_wp2_with fail
    go_region
    go_wp2_with fail
    refine bodyPost_ret (v := .tuple #[.agg #[.int .i64 zeroPk.src, .int .i64 zeroPk.dst, .int .i64 zeroPk.proto, .int .i64 zeroPk.a, .int .i64 zeroPk.b, .int .i64 zeroPk.kind, .int .i64 zeroPk.flags, .int .i64 zeroPk.seq, .int .i64 zeroPk.ack, .string zeroPk.body], .iface 134 (.pointer (some aF))]) (by simp [results, Tryd.results25, go_sem, zeroPk, *]) rfl ⟨rfl, ?_⟩
    refine Below.drew ?_
    repeat (refine below_at ?_ (by omega))
    exact hL6.out

set_option maxHeartbeats 2000000 in
theorem tell_yes (p : Pk) (f : Int) (w : World) (h : errB p f = true) :
    Calls Tryd.prog 25 #[.agg #[.int .i64 p.src, .int .i64 p.dst, .int .i64 p.proto, .int .i64 p.a, .int .i64 p.b, .int .i64 p.kind, .int .i64 p.flags, .int .i64 p.seq, .int .i64 p.ack, .string p.body], .int .i64 f] w fun e w' => e = .returned (.tuple #[.agg #[.int .i64 (errP p f).src, .int .i64 (errP p f).dst, .int .i64 (errP p f).proto, .int .i64 (errP p f).a, .int .i64 (errP p f).b, .int .i64 (errP p f).kind, .int .i64 (errP p f).flags, .int .i64 (errP p f).seq, .int .i64 (errP p f).ack, .string (errP p f).body], .nilIface]) ∧ Below w.heap.size w w' := by
  have e0 : Hid (errP p f = ⟨f, p.src, 1, 0, 0, 3, 0, 0, 0, (bytesOf p).extract 0 28⟩) := if_pos h
  unfold errB at h
  simp only [Bool.and_eq_true, Bool.not_eq_true'] at h
  obtain ⟨⟨hr, hi⟩, ha⟩ := h
  have hal : allA [f] = true := by simp [allA, ha]
  have hF := fine_of hr
  have hs : p.body.size ≤ maxLen := by have := hF.body; unfold maxLen; omega
  have h28 : 28 ≤ (bytesOf p).size := bytesOf_28 hF
  have HR := hidS (fun W => implRight_any p W hs)
  have HI := hidS (fun W => isError_any p W)
  have HB := hidS (fun W => implBytes_any p W hs)
  rw [bytesAns_of hr] at HB
  have hbs := bytesOf_sm hF
  clear hF ha
  have hP0 := hidS (blk_alloc (heap_newG w (.cells #[.int .i64 p.src, .int .i64 p.dst, .int .i64 p.proto, .int .i64 p.a, .int .i64 p.b, .int .i64 p.kind, .int .i64 p.flags, .int .i64 p.seq, .int .i64 p.ack, .string p.body] 30)) (.cells #[.int .i64 0, .int .i64 0, .int .i64 0, .int .i64 0, .int .i64 0, .int .i64 0, .int .i64 0, .int .i64 0, .int .i64 0, .string ⟨#[]⟩] 30))
  have hG0' : ((w.alloc (.cells #[.int .i64 p.src, .int .i64 p.dst, .int .i64 p.proto, .int .i64 p.a, .int .i64 p.b, .int .i64 p.kind, .int .i64 p.flags, .int .i64 p.seq, .int .i64 p.ack, .string p.body] 30)).alloc (.cells #[.int .i64 0, .int .i64 0, .int .i64 0, .int .i64 0, .int .i64 0, .int .i64 0, .int .i64 0, .int .i64 0, .int .i64 0, .string ⟨#[]⟩] 30)).heap[w.heap.size + 1]? = some (.cells #[.int .i64 0, .int .i64 0, .int .i64 0, .int .i64 0, .int .i64 0, .int .i64 0, .int .i64 0, .int .i64 0, .int .i64 0, .string ⟨#[]⟩] 30) := by
    have := heap_newG (w.alloc (.cells #[.int .i64 p.src, .int .i64 p.dst, .int .i64 p.proto, .int .i64 p.a, .int .i64 p.b, .int .i64 p.kind, .int .i64 p.flags, .int .i64 p.seq, .int .i64 p.ack, .string p.body] 30)) (.cells #[.int .i64 0, .int .i64 0, .int .i64 0, .int .i64 0, .int .i64 0, .int .i64 0, .int .i64 0, .int .i64 0, .int .i64 0, .string ⟨#[]⟩] 30)
    simpa using this
  have hG0 := hidS hG0'
  clear hG0'
  have hL0 := hidS (((Below.refl w.heap.size w).alloc (Nat.le_refl _) (.cells #[.int .i64 p.src, .int .i64 p.dst, .int .i64 p.proto, .int .i64 p.a, .int .i64 p.b, .int .i64 p.kind, .int .i64 p.flags, .int .i64 p.seq, .int .i64 p.ack, .string p.body] 30)).alloc (by simp) (.cells #[.int .i64 0, .int .i64 0, .int .i64 0, .int .i64 0, .int .i64 0, .int .i64 0, .int .i64 0, .int .i64 0, .int .i64 0, .string ⟨#[]⟩] 30))
  go_enter Tryd.func25, Tryd.ntmps25
  go_wp2_with fail
  refine (HR.out _).mono ?_
  rintro _ w1 ⟨rfl, hb1⟩
  rw [hr]
  have hG1 := hidS (blk_later hG0.out hb1)
  have hP1 := blk_later hP0.out hb1
  have hL1 := hidS (hL0.out.trans (hb1.mono hL0.out.size))
  clear hb1 hG0 hP0 hL0 HR
  have c0 := blk_cell hP1 0
  have c1 := blk_cell hP1 1
  have c2 := blk_cell hP1 2
  have c3 := blk_cell hP1 3
  have c4 := blk_cell hP1 4
  have c5 := blk_cell hP1 5
  have c6 := blk_cell hP1 6
  have c7 := blk_cell hP1 7
  have c8 := blk_cell hP1 8
  have c9 := blk_cell hP1 9
  simp at c0 c1 c2 c3 c4 c5 c6 c7 c8 c9
  have HP1 := hidS hP1
  clear hP1
  go_wp2_with fail
  refine (HI.out _).mono ?_
  rintro _ w2 ⟨rfl, hb2⟩
  rw [hi]
  have hG2 := hidS (blk_later hG1.out hb2)
  have HP2 := hidS (blk_later HP1.out hb2)
  have hL2 := hidS (hL1.out.trans (hb2.mono hL1.out.size))
  clear hb2 hG1 HP1 hL1 HI c0 c1 c2 c3 c4 c5 c6 c7 c8 c9
  have hv := vals_at (W := w2) [.int .i64 f] 2
  have HA := hidS (areAddrs_any w2.heap.size [f] _ (ValsAt.ints (ts := [f]) hv) (by simp))
  clear hv
  go_wp2_with fail
  refine HA.out.mono ?_
  rintro _ w3 ⟨rfl, rfl⟩
  rw [hal]
  have hG3 := hidS (blk_alloc hG2.out (.cells #[.int .i64 f] 2))
  have hP1 := blk_alloc HP2.out (.cells #[.int .i64 f] 2)
  have hL3 := hidS (hL2.out.alloc hL2.out.size (.cells #[.int .i64 f] 2))
  clear hG2 HP2 hL2 HA
  generalize w2.alloc (.cells #[.int .i64 f] 2) = w4 at hG3 hP1 hL3 ⊢
  have c0 := blk_cell hP1 0
  have c1 := blk_cell hP1 1
  have c2 := blk_cell hP1 2
  have c3 := blk_cell hP1 3
  have c4 := blk_cell hP1 4
  have c5 := blk_cell hP1 5
  have c6 := blk_cell hP1 6
  have c7 := blk_cell hP1 7
  have c8 := blk_cell hP1 8
  have c9 := blk_cell hP1 9
  simp at c0 c1 c2 c3 c4 c5 c6 c7 c8 c9
  have HP1 := hidS hP1
  clear hP1
  go_wp2_with fail
  refine (HB.out _).mono ?_
  rintro _ w5 ⟨rfl, hb5⟩
  have hG5 := hidS (blk_later hG3.out hb5)
  have HP5 := hidS (blk_later HP1.out hb5)
  have hL5 := hidS (hL3.out.trans (hb5.mono hL3.out.size))
  clear hb5 hG3 HP1 hL3 HB c0 c1 c2 c3 c4 c5 c6 c7 c8 c9
  have h28' : (28 : Int) ≤ ((bytesOf p).size : Int) := by omega
  generalize bytesOf p = t at *
  go_wp2_with fail
  refine (clone_any _ _ (by rw [ByteArray.size_extract]; omega)).mono ?_
  rintro _ w6 ⟨rfl, hb6⟩
  have hG6 := blk_later hG5.out hb6
  have hP1 := blk_later HP5.out hb6
  have hL6 := hidS (hL5.out.trans (hb6.mono hL5.out.size))
  clear hb6 hG5 HP5 hL5
  have d0 := blk_cell hP1 0
  have cg := blk_cell hG6
  have fg := blk_free hG6
  simp at d0
  clear hP1 hG6
  go_wp2_with fail
  refine bodyPost_ret (v := .tuple #[.agg #[.int .i64 f, .int .i64 p.src, .int .i64 1, .int .i64 0, .int .i64 0, .int .i64 3, .int .i64 0, .int .i64 0, .int .i64 0, .string (t.extract 0 28)], .nilIface]) (by simp [results, Tryd.results25, go_sem, *]) rfl ⟨by rw [e0.out], ?_⟩
  repeat (refine below_at ?_ (by omega))
  exact hL6.out
end Go.Proofs.YthfhbmiddillbagDoor
end

section
namespace Go.Proofs.YthfhbmiddillbagDoor
open Go.ChangeShapes Go.WideShapes Go.ChangeAt Go.RowKit
set_option linter.unusedVariables false

/-- the byte at a place -/
def byteN (s : ByteArray) (k : Nat) : Nat := (s.data.getD k 0).toNat
theorem byteN_lt (s : ByteArray) (k : Nat) : byteN s k < 256 := UInt8.toNat_lt _
theorem byteN_get {s : ByteArray} {k : Nat} (h : k < s.size) : s[k].toNat = byteN s k := by
  unfold byteN
  rw [Array.getD_eq_getD_getElem?, Array.getElem?_eq_getElem (by simpa using h)]
  rfl
/-- the number of two, of four bytes at a place -/
def word2 (s : ByteArray) (k : Nat) : Nat := 256 * byteN s k + byteN s (k + 1)
def word4 (s : ByteArray) (k : Nat) : Nat := 65536 * word2 s k + word2 s (k + 2)
theorem word2_lt (s : ByteArray) (k : Nat) : word2 s k < 65536 := by have := byteN_lt s k; have := byteN_lt s (k + 1); unfold word2; omega
theorem word4_lt (s : ByteArray) (k : Nat) : word4 s k < 4294967296 := by have := word2_lt s k; have := word2_lt s (k + 2); unfold word4; omega

theorem l03Word_any (s : ByteArray) (k : Nat) (w : World) (hk : k + 1 < s.size) (hs : s.size ≤ 8000) :
    Calls Tryd.prog 48 #[.string s, .int .i64 (k : Int)] w fun e w' => e = .returned (.int .i64 (word2 s k : Nat)) ∧ Below w.heap.size w w' := by
  have hk' : (k : Int) + 1 < (s.size : Int) := by omega
  have hs' : (s.size : Int) ≤ 8000 := by omega
  have b1 : s[k].toNat < 256 := s[k].toNat_lt
  have b2 : s[k + 1].toNat < 256 := s[k + 1].toNat_lt
  have e : Hid ((256 : Int) * (s[k].toNat : Int) + (s[k + 1].toNat : Int) = ((word2 s k : Nat) : Int)) := by
    rw [byteN_get (by omega), byteN_get hk]; unfold word2 Hid; omega
  have t1 : ((k : Int) + 1).toNat = k + 1 := by omega
  have t2 : k < s.size := by omega
  have t3 : (k : Int) < (s.size : Int) := by omega
  have t4 : (0 : Int) ≤ (k : Int) + 1 := by omega
  go_enter Tryd.func48, Tryd.ntmps48
  go_wp2
  go_region
  go_wp2
  go_ret
  exact ⟨by rw [← e.out]; rfl, (Below.refl _ _).drew⟩

theorem l03Long_any (s : ByteArray) (k : Nat) (w : World) (hk : k + 3 < s.size) (hs : s.size ≤ 8000) :
    Calls Tryd.prog 47 #[.string s, .int .i64 (k : Int)] w fun e w' => e = .returned (.int .i64 (word4 s k : Nat)) ∧ Below w.heap.size w w' := by
  have hk' : (k : Int) + 3 < (s.size : Int) := by omega
  have hs' : (s.size : Int) ≤ 8000 := by omega
  have l1 := word2_lt s k
  have l2 := word2_lt s (k + 2)
  have e : Hid ((65536 : Int) * (word2 s k : Int) + (word2 s (k + 2) : Int) = ((word4 s k : Nat) : Int)) := by unfold word4 Hid; omega
  go_enter Tryd.func47, Tryd.ntmps47
  go_wp2_with fail
  refine (l03Word_any s k _ (by omega) hs).mono ?_
  rintro _ w1 ⟨rfl, hb1⟩
  go_wp2_with fail
  refine (l03Word_any s (k + 2) _ (by omega) hs).mono ?_
  rintro _ w2 ⟨rfl, hb2⟩
  have hB := hidS (hb1.trans (hb2.mono hb1.size))
  clear hb1 hb2
  go_wp2
  go_ret
  exact ⟨by rw [← e.out]; rfl, hB.out⟩
end Go.Proofs.YthfhbmiddillbagDoor
end

section
namespace Go.Proofs.YthfhbmiddillbagDoor
open Go.ChangeShapes Go.WideShapes Go.ChangeAt Go.RowKit
open Go.ChangeMaps (open_string shut_string)
set_option linter.unusedVariables false
set_option maxRecDepth 100000

/-- the number of so many bytes -/
def numN (s : ByteArray) (k : Nat) : Nat → Nat
  | 0 => 0
  | i + 1 => 256 * numN s k i + byteN s (k + i)
theorem numN_lt (s : ByteArray) (k : Nat) : ∀ i, numN s k i < 256 ^ i
  | 0 => by simp [numN]
  | i + 1 => by
    have h1 := numN_lt s k i
    have h2 := byteN_lt s (k + i)
    have e : (256 : Nat) ^ (i + 1) = 256 * 256 ^ i := by rw [Nat.pow_succ, Nat.mul_comm]
    rw [e]; unfold numN; omega
theorem numN_small (s : ByteArray) (k i : Nat) (h : i ≤ 3) : numN s k i ≤ 16777215 := by
  have h1 := numN_lt s k i
  have : (256 : Nat) ^ i ≤ 256 ^ 3 := Nat.pow_le_pow_right (by omega) h
  omega
theorem byteN_out {s : ByteArray} {k : Nat} (h : ¬ k < s.size) : byteN s k = 0 := by
  unfold byteN
  have h' : ¬ k < s.data.size := h
  rw [Array.getD, dif_neg h']
  rfl
theorem i64_join (a b : Nat) (ha : a ≤ 16777215) (hb : b < 256) : bits BinOp.or IntKind.i64 ((a : Int) * 256) (b : Int) = ((256 * a + b : Nat) : Int) := by
  have := i64_or_nat (a * 256) b (by omega) (by omega)
  rw [nat_join 8 (a * 256) b (by omega) (by omega)] at this
  rw [show ((a : Int) * 256) = ((a * 256 : Nat) : Int) from by omega, this]
  omega

set_option maxHeartbeats 1000000 in
theorem numberAt_x (s : ByteArray) (k m : Nat) (w : World) (hk : k ≤ 1000) (hm : m ≤ 4) (hs : s.size ≤ 100000) :
    Calls Tryd.prog 75 #[.string s, .int .i64 (k : Int), .int .i64 (m : Int)] w fun e w' => e = .returned (.int .i64 (numN s k m : Nat)) ∧ w' = w := by
  go_enter Tryd.func75, Tryd.ntmps75
  go_wp2
  go_loop [7, 10] (fun v i => ∃ j x : Nat, j ≤ m ∧ i = .int .i64 j ∧ v = .int .i64 x ∧ Hid (x = numN s k j)) (fun _ i => m - (intOf i).toNat)
  case atStart => exact ⟨0, 0, by omega, rfl, rfl, rfl⟩
  case round =>
    obtain ⟨j, x, hj, rfl, rfl, hX⟩ := hrel
    by_cases h : j < m
    · have h' : (j : Int) < (m : Int) := by omega
      have hx : x ≤ 16777215 := by rw [hX.out]; exact numN_small s k j (by omega)
      by_cases hin : k + j < s.size
      · have hin' : (k : Int) + (j : Int) < (s.size : Int) := by omega
        have hb : s[k + j].toNat < 256 := s[k + j].toNat_lt
        have hE : Hid (256 * x + s[k + j].toNat = numN s k (j + 1)) := by show _ = 256 * numN s k j + byteN s (k + j); rw [hX.out, byteN_get hin]
        have hor := hidS (i64_join x s[k + j].toNat hx hb)
        clear hX
        go_wp2
        go_round
        case rel => exact ⟨j + 1, 256 * x + s[k + j].toNat, by omega, by go_num, by rw [← hor.out], hE⟩
        case measure => simp [intOf]; omega
      · have hin' : ¬ (k : Int) + (j : Int) < (s.size : Int) := by omega
        have hE : Hid (x * 256 = numN s k (j + 1)) := by show _ = 256 * numN s k j + byteN s (k + j); rw [hX.out, byteN_out hin]; omega
        clear hX
        go_wp2
        go_round
        case rel => exact ⟨j + 1, x * 256, by omega, by go_num, by go_num, hE⟩
        case measure => simp [intOf]; omega
    · have h' : ¬ (j : Int) < (m : Int) := by omega
      obtain rfl : j = m := by omega
      clear h
      go_wp2
      go_ret
      exact ⟨by rw [hX.out]; rfl, rfl⟩

theorem behindOf_x (s : ByteArray) (k : Nat) (w : World) (hk : k ≤ 1000) (hs : s.size ≤ 100000) :
    Calls Tryd.prog 76 #[.string s, .int .i64 (k : Int)] w fun e w' => e = .returned (.string (s.extract (min k s.size) s.size)) ∧ Below w.heap.size w w' := by
  have hz : (s.extract (min k s.size) s.size).size ≤ 1099511627776 := by rw [ByteArray.size_extract]; omega
  by_cases h : k ≤ s.size
  · have h' : (k : Int) ≤ (s.size : Int) := by omega
    rw [Nat.min_eq_left h] at hz ⊢
    go_enter Tryd.func76, Tryd.ntmps76
    go_wp2_with fail
    refine (clone_any _ _ hz).mono ?_
    rintro _ w1 ⟨rfl, hb1⟩
    go_wp2_with fail
    go_ret
    exact ⟨rfl, hb1⟩
  · have h' : ¬ (k : Int) ≤ (s.size : Int) := by omega
    have h2 : (s.size : Int) ≤ (k : Int) := by omega
    rw [Nat.min_eq_right (by omega)]
    have e : s.extract s.size s.size = ByteArray.empty := by simp
    rw [e]
    clear e hz
    go_enter Tryd.func76, Tryd.ntmps76
    go_wp2_with fail
    refine (clone_any _ _ (by decide)).mono ?_
    rintro _ w1 ⟨rfl, hb1⟩
    go_wp2_with fail
    go_ret
    exact ⟨rfl, hb1⟩
end Go.Proofs.YthfhbmiddillbagDoor
end
