/- Proved here: nothing of a program: rules laid out as numbers, 7 each. · Proved here: spec.DrawInNet draws three numbers, spec.l08Plain answers two rules in memory of their own; all old memory stays (conditions: the bytes can be read; at most 2^20). · Proved here: nothing of a program: a row that grows in memory of its own, beside a source that is drawn from. · Proved here: spec's source draws a word, or a number beside one; the source's block alone turns of old memory (condition: a source). -/
import Derived.Test.YtilajoafppplcaaAll5
import Derived.Test.YtilajoafppplcaaAll3
import Derived.Test.YtilajoafppplcaaAll1
import Derived.Maps.AppendAt
section
namespace Go.Proofs.Ytilajoafppplcaa
open Go.ChangeShapes Go.WideShapes Go.ChangeAt Go.RowKit
set_option linter.unusedVariables false

def flatRule : List Rl → List Int
  | [] => []
  | s :: ss => s.kind :: s.proto :: s.net :: s.bits :: s.goal :: s.low :: s.high :: flatRule ss
theorem flatRule_len : ∀ ss : List Rl, (flatRule ss).length = 7 * ss.length
  | [] => rfl
  | s :: ss => by simp only [flatRule, List.length_cons, flatRule_len ss]; omega
theorem flatRule_get : ∀ (ss : List Rl) (i : Nat), (flatRule ss).getD (7 * i) 0 = (ss.getD i zeroRl).kind ∧ (flatRule ss).getD (7 * i + 1) 0 = (ss.getD i zeroRl).proto ∧ (flatRule ss).getD (7 * i + 2) 0 = (ss.getD i zeroRl).net ∧ (flatRule ss).getD (7 * i + 3) 0 = (ss.getD i zeroRl).bits ∧ (flatRule ss).getD (7 * i + 4) 0 = (ss.getD i zeroRl).goal ∧ (flatRule ss).getD (7 * i + 5) 0 = (ss.getD i zeroRl).low ∧ (flatRule ss).getD (7 * i + 6) 0 = (ss.getD i zeroRl).high
  | [], i => by simp [flatRule, zeroRl]
  | s :: ss, 0 => by simp [flatRule]
  | s :: ss, i + 1 => by
    have := flatRule_get ss i
    have e0 : 7 * (i + 1) = 7 * i + 7 := by omega
    simp only [flatRule, e0, List.getD_cons_succ, show ∀ x : Nat, 7 * i + 7 + x = 7 * i + x + 7 by omega]
    simpa [List.getD_cons_succ] using this
/-- one read out of a row -/
theorem RowZ.rule {a : Option Addr} {ss : List Rl} {W : World} (h : RowZ a (flatRule ss) W) {i : Nat} (hi : i < ss.length) : ∃ b o, a = some ⟨b, o, none⟩ ∧ b < W.heap.size ∧
    W.cell? ⟨b, o + i * 7, none⟩ = some (.int .i64 (ss.getD i zeroRl).kind) ∧ W.cell? ⟨b, o + i * 7 + 1, none⟩ = some (.int .i64 (ss.getD i zeroRl).proto) ∧ W.cell? ⟨b, o + i * 7 + 2, none⟩ = some (.int .i64 (ss.getD i zeroRl).net) ∧ W.cell? ⟨b, o + i * 7 + 3, none⟩ = some (.int .i64 (ss.getD i zeroRl).bits) ∧ W.cell? ⟨b, o + i * 7 + 4, none⟩ = some (.int .i64 (ss.getD i zeroRl).goal) ∧ W.cell? ⟨b, o + i * 7 + 5, none⟩ = some (.int .i64 (ss.getD i zeroRl).low) ∧ W.cell? ⟨b, o + i * 7 + 6, none⟩ = some (.int .i64 (ss.getD i zeroRl).high) := by
  have hl := flatRule_len ss
  obtain ⟨g0, g1, g2, g3, g4, g5, g6⟩ := flatRule_get ss i
  obtain ⟨b, o, e, hb, c0⟩ := h (7 * i) (by omega)
  obtain ⟨b1, o1, e1, _, c1⟩ := h (7 * i + 1) (by omega)
  obtain ⟨b2, o2, e2, _, c2⟩ := h (7 * i + 2) (by omega)
  obtain ⟨b3, o3, e3, _, c3⟩ := h (7 * i + 3) (by omega)
  obtain ⟨b4, o4, e4, _, c4⟩ := h (7 * i + 4) (by omega)
  obtain ⟨b5, o5, e5, _, c5⟩ := h (7 * i + 5) (by omega)
  obtain ⟨b6, o6, e6, _, c6⟩ := h (7 * i + 6) (by omega)
  rw [e] at e1 e2 e3 e4 e5 e6
  injection e1 with e1; injection e1 with q1 r1
  injection e2 with e2; injection e2 with q2 r2
  injection e3 with e3; injection e3 with q3 r3
  injection e4 with e4; injection e4 with q4 r4
  injection e5 with e5; injection e5 with q5 r5
  injection e6 with e6; injection e6 with q6 r6
  subst q1 r1 q2 r2 q3 r3 q4 r4 q5 r5 q6 r6
  rw [g0] at c0
  rw [g1] at c1
  rw [g2] at c2
  rw [g3] at c3
  rw [g4] at c4
  rw [g5] at c5
  rw [g6] at c6
  have q : o + i * 7 = o + 7 * i := by omega
  refine ⟨b, o, e, hb, ?_⟩
  rw [q]
  exact ⟨c0, c1, c2, c3, c4, c5, c6⟩
theorem made_rules (n : Nat) : madeCells #[.int .i64 0, .int .i64 0, .int .i64 0, .int .i64 0, .int .i64 0, .int .i64 0, .int .i64 0] n = intCells (List.replicate n 0) := by
  apply Array.ext
  · simp [size_madeCells, intCells]
  · intro i h1 h2
    have h4 : i % 7 < 7 := Nat.mod_lt _ (by omega)
    simp only [madeCells, intCells, Array.getElem_map, Array.getElem_range, List.getElem_toArray, List.getElem_map, List.getElem_replicate]
    rcases (by omega : i % 7 = 0 ∨ i % 7 = 1 ∨ i % 7 = 2 ∨ i % 7 = 3 ∨ i % 7 = 4 ∨ i % 7 = 5 ∨ i % 7 = 6) with e | e | e | e | e | e | e <;> simp [e]
theorem flatRule_part (ss : List Rl) (k : Nat) (h : k < ss.length) : ((((((((partZ (flatRule ss) (7 * k)).set (7 * k) (ss.getD k zeroRl).kind).set (7 * k + 1) (ss.getD k zeroRl).proto).set (7 * k + 2) (ss.getD k zeroRl).net).set (7 * k + 3) (ss.getD k zeroRl).bits).set (7 * k + 4) (ss.getD k zeroRl).goal).set (7 * k + 5) (ss.getD k zeroRl).low).set (7 * k + 6) (ss.getD k zeroRl).high) = partZ (flatRule ss) (7 * (k + 1)) := by
  have hl := flatRule_len ss
  obtain ⟨g0, g1, g2, g3, g4, g5, g6⟩ := flatRule_get ss k
  rw [← g0, ← g1, ← g2, ← g3, ← g4, ← g5, ← g6, partZ_step _ _ (by omega), partZ_step _ _ (by omega), partZ_step _ _ (by omega), partZ_step _ _ (by omega), partZ_step _ _ (by omega), partZ_step _ _ (by omega), partZ_step _ _ (by omega)]
  congr 1
end Go.Proofs.Ytilajoafppplcaa
end

section
namespace Go.Proofs.Ytilajoafppplcaa
open Go.ChangeShapes Go.WideShapes Go.ChangeAt Go.RowKit
set_option linter.unusedVariables false
set_option linter.unusedSimpArgs false
set_option maxRecDepth 100000

set_option maxHeartbeats 2000000 in
theorem drawInNet_any (a : Option Addr) (len cap : Nat) (w : World) (hR : RowAt w.heap.size a len w) (hl : len ≤ 1048576) :
    Calls Try.prog 23 #[.slice a len cap] w fun e w' => (∃ x y z : Int, e = .returned (.tuple #[.int .i64 x, .int .i64 y, .int .i64 z])) ∧ Below w.heap.size w w' := by
  go_enter Try.func23, Try.ntmps23
  go_wp2_with fail
  refine (source_any a len cap w hR hl).mono ?_
  rintro _ w2 ⟨rfl, hS2, hb2⟩
  have hL2 := hidS hb2
  clear hb2 hR
  go_wp2_with fail
  refine (srcAddr_any w.heap.size a len cap w2 hS2).mono ?_
  rintro _ w3 ⟨x, rfl, _, _, hS3, hg3⟩
  have hL3 := hidS (hL2.out.grown hg3 hL2.out.size (fun k e => by cases e; exact Nat.le_refl _))
  clear hg3 hL2 hS2
  go_wp2_with fail
  refine (srcAddr_any w.heap.size a len cap w3 hS3).mono ?_
  rintro _ w4 ⟨y, rfl, _, _, hS4, hg4⟩
  have hL4 := hidS (hL3.out.grown hg4 hL3.out.size (fun k e => by cases e; exact Nat.le_refl _))
  clear hg4 hL3 hS3
  go_wp2_with fail
  refine (srcN_any w.heap.size a len cap 35 w4 hS4 (by omega)).mono ?_
  rintro _ w5 ⟨c, rfl, hc1, hc2, hS5, hO5⟩
  have hL5 := hidS (hL4.out.grown hO5.grown hL4.out.size (fun k e => by cases e; exact Nat.le_refl _))
  clear hS5 hO5 hL4 hS4
  go_wp2_with fail
  refine bodyPost_ret (v := .tuple #[.int .i64 x, .int .i64 y, .int .i64 (c - 1)]) (by simp [results, Try.results23, go_sem]) rfl ⟨⟨_, _, _, rfl⟩, hL5.out⟩
def plainR : List Rl := [⟨2, 6, 3405803777, 32, 167772169, 8080, 8080⟩, ⟨1, 0, 167772160, 8, 3405803777, 500, 502⟩]
theorem l08Plain_any (w : World) :
    Calls Try.prog 73 #[] w fun e w' => e = .returned (.slice (some ⟨w.heap.size, 0, none⟩) 2 2) ∧ w' = w.alloc (.cells (intCells (flatRule plainR)) 64) := by
  go_enter Try.func73, Try.ntmps73
  go_wp2_with fail
  go_ret
  exact ⟨rfl, rfl⟩
end Go.Proofs.Ytilajoafppplcaa
end

section
namespace Go.Proofs.Ytilajoafppplcaa
open Go.ChangeShapes Go.WideShapes Go.ChangeAt Go.RowKit
set_option linter.unusedVariables false
set_option linter.unusedSimpArgs false

theorem own_shape {W : World} {B sz : Nat} {t : TypeId} {v : Value} {n : Nat} {xs : List Value} (h : W.ownsRow B t sz v n xs) : ∃ a cap, v = .slice a n cap := by
  rcases h.2 with ⟨rfl, rfl⟩ | ⟨g, cap, cur, rfl, _⟩
  · exact ⟨none, 0, rfl⟩
  · exact ⟨_, cap, rfl⟩
theorem cell_many (w : World) (l : List Value) (t : TypeId) : ∀ j u, l[j]? = some u → (w.alloc (.cells l.toArray t)).cell? ((⟨w.heap.size, 0, none⟩ : Addr).add j) = some u := by
  intro j u h
  have e : ((⟨w.heap.size, 0, none⟩ : Addr).add j) = ⟨w.heap.size, j, none⟩ := by by_cases hj : j = 0 <;> simp [Addr.add, hj]
  rw [e, blk_cell (heap_newG _ _)]
  simpa using h
structure OwnS (B : Nat) (a : Option Addr) (len cap : Nat) (w0 : World) (t : TypeId) (sz : Nat) (v : Value) (n : Nat) (xs : List Value) (W : World) : Prop where
  src : Src B a len cap W
  own : W.ownsRow w0.heap.size t sz v n xs
  gr : w0.grownBy W (some B)
  lt : B < w0.heap.size
variable {B : Nat} {a : Option Addr} {len cap : Nat} {w0 : World} {t : TypeId} {sz : Nat} {v : Value} {n : Nat} {xs : List Value} {W W' : World}
theorem OwnS.drawn (h : OwnS B a len cap w0 t sz v n xs W) (hS : Src B a len cap W') (hg : W.grownBy W' (some B)) : OwnS B a len cap w0 t sz v n xs W' :=
  ⟨hS, h.own.kept hg (by
    cases hv : v.ownBlock with
    | none => exact Or.inl rfl
    | some g => exact Or.inr (fun e => by have := (h.own.lt g hv).1; have := h.lt; injection e with e; omega)), h.gr.trans hg, h.lt⟩
theorem OwnS.alloc (h : OwnS B a len cap w0 t sz v n xs W) (o : Obj) : OwnS B a len cap w0 t sz v n xs (W.alloc o) :=
  ⟨h.src.kept fun k hk => Below.heap_alloc _ _ _ (by have := h.src.lt; omega), h.own.alloc o, h.gr.trans (World.grownBy_alloc _ _ _), h.lt⟩
theorem OwnS.app {v' : Value} {n' : Nat} {xs' : List Value} (h : OwnS B a len cap w0 t sz v n xs W) (hown : W'.ownsRow w0.heap.size t sz v' n' xs') (hg : W.grownBy W' v.ownBlock) : OwnS B a len cap w0 t sz v' n' xs' W' := by
  have hs := h.src.lt
  have hne : ∀ k, k < w0.heap.size → some k ≠ v.ownBlock := fun k hk e => by have := (h.own.lt k e.symm).1; omega
  refine ⟨h.src.kept fun k hk => hg.block k (by omega) (hne k (by have := h.lt; omega)), hown, ?_, h.lt⟩
  exact ⟨hg.os.trans h.gr.os, hg.tape.trans h.gr.tape, hg.output.trans h.gr.output, Nat.le_trans h.gr.size hg.size, fun k hk hkB => (hg.block k (Nat.lt_of_lt_of_le hk h.gr.size) (hne k hk)).trans (h.gr.block k hk hkB)⟩
theorem OwnS.set (h : OwnS B a len cap w0 t sz v n xs W) (g o : Nat) (x : Value) (hg : w0.heap.size ≤ g) (hne : v.ownBlock ≠ some g) : OwnS B a len cap w0 t sz v n xs (W.setCell ⟨g, o, none⟩ x) := by
  have hs := h.src.lt
  have hO := ((Only.refl g W).setCell o x).grown
  refine ⟨h.src.kept fun k hk => hO.block k (by omega) (fun e => by injection e with e; have := h.lt; omega), h.own.kept hO (Or.inr hne), ?_, h.lt⟩
  exact ⟨hO.os.trans h.gr.os, hO.tape.trans h.gr.tape, hO.output.trans h.gr.output, Nat.le_trans h.gr.size hO.size, fun k hk hkB => (hO.block k (Nat.lt_of_lt_of_le hk h.gr.size) (fun e => by injection e with e; omega)).trans (h.gr.block k hk hkB)⟩
/-- a row that lies whole in a block of its own -/
theorem own_whole {P : Nat} {cs : Array Value} {D : Nat} (n : Nat) (h : W.heap[P]? = some (.cells cs t)) (hD : D ≤ P) (hs : cs.size = n * sz) (hn : n ≤ maxLen) : W.ownsRow D t sz (.slice (some ⟨P, 0, none⟩) n n) n cs.toList :=
  ⟨by simpa using hs, .inr ⟨P, n, cs, rfl, hD, h, Nat.le_refl _, hn, hs, by rw [← hs, ← Array.length_toList, List.take_length]⟩⟩
theorem own_rowZ {D c : Nat} {ad : Option Addr} {zs : List Int} (h : W.ownsRow D t sz (.slice ad n c) n (zs.map (.int .i64))) : RowZ ad zs W := by
  intro j hj
  rcases h.2 with ⟨e, hn⟩ | ⟨g, cap', cur, e, _, hh, _, _, _, htk⟩
  · have := h.1
    simp [hn] at this
    rw [this] at hj
    simp at hj
  · injection e with e1 e2 e3
    subst e1
    refine ⟨g, 0, rfl, blk_lt hh, ?_⟩
    rw [Nat.zero_add, blk_cell hh]
    have h2 : (cur.toList.take (n * sz))[j]? = some (.int .i64 (zs.getD j 0)) := by
      rw [htk]
      simp [List.getElem?_eq_getElem hj, List.getD_eq_getElem?_getD]
    have hlt : j < n * sz := by have := h.1; simp at this; omega
    rw [List.getElem?_take, if_pos hlt] at h2
    simpa using h2
end Go.Proofs.Ytilajoafppplcaa
end

section
namespace Go.Proofs.Ytilajoafppplcaa
open Go.ChangeShapes Go.WideShapes Go.ChangeAt Go.RowKit
set_option linter.unusedVariables false
set_option linter.unusedSimpArgs false

set_option maxRecDepth 100000 in
set_option maxHeartbeats 2000000 in
theorem srcWord_g (B : Nat) (a : Option Addr) (len cap : Nat) (w : World) (hS : Src B a len cap w) :
    Calls Try.prog 74 #[.pointer (some ⟨B, 0, none⟩)] w fun e w' => DrawnR B a len cap (-1) 65536 w e w' := by
  have hlt := hS.lt
  go_enter Try.func74, Try.ntmps74
  go_wp2_with fail
  refine (srcOne_any B a len cap 8 w hS (by omega)).mono ?_
  rintro e w1 ⟨c, rfl, hS1, hO1⟩
  have hlt1 := hS1.lt
  have hb1 := hidS hO1.grown
  clear hO1 hS
  cases c
  · go_wp2_with fail
    refine (srcN_any B a len cap 256 w1 hS1 (by omega)).mono ?_
    rintro e w2 ⟨r, rfl, hr1, hr2, hS2, hO2⟩
    have hr3 : r ≤ 255 := by omega
    have hb2 := hidS (grown_trans hb1.out hO2.grown)
    clear hr2 hO2 hS1 hb1
    go_wp2_with fail
    refine (srcN_any B a len cap 256 w2 hS2 (by omega)).mono ?_
    rintro e w3 ⟨q, rfl, hq1, hq2, hS3, hO3⟩
    have hq3 : q ≤ 255 := by omega
    have hb3 := hidS (grown_trans hb2.out hO3.grown)
    clear hq2 hO3 hS2 hb2
    go_wp2
    go_ret
    exact ⟨_, rfl, by omega, by omega, hS3, hb3.out⟩
  · go_wp2_with fail
    refine (srcN_any B a len cap 4 _ (hS1.kept fun k hk => Below.heap_alloc _ _ _ (by omega)) (by omega)).mono ?_
    rintro e w2 ⟨r, rfl, hr1, hr2, hS2, hO2⟩
    have hr3 : r ≤ 3 := by omega
    have hrow : ∃ z : Int, -1 ≤ z ∧ z ≤ 65536 ∧ w2.cell? ⟨w1.heap.size, r.toNat, none⟩ = some (.int .i64 z) := by
      have hh := (hO2.block w1.heap.size (by omega)).trans (heap_new _ _)
      obtain ⟨j, rfl⟩ : ∃ j : Nat, r = j := ⟨r.toNat, by omega⟩
      rw [Int.toNat_natCast, cellOfHeap hh]
      rcases (by omega : j = 0 ∨ j = 1 ∨ j = 2 ∨ j = 3) with rfl | rfl | rfl | rfl
      all_goals exact ⟨_, by decide, by decide, rfl⟩
    obtain ⟨z, hz1, hz2, hc⟩ := hrow
    clear hr2
    have hb2 : w.grownBy w2 (some B) := grown_trans (grown_trans hb1.out (World.grownBy_alloc _ _ _)) hO2.grown
    clear hO2 hb1
    go_wp2
    go_ret
    exact ⟨z, rfl, hz1, hz2, hS2, hb2⟩

end Go.Proofs.Ytilajoafppplcaa
end
