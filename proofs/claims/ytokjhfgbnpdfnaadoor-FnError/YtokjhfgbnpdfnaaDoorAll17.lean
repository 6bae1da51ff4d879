/- Proved here: spec.DrawErrorOf draws a packet of at most 101 bytes of body and a number; all old memory stays (condition: the bytes that are drawn from can be read, at most 2^20). · Proved here: spec's source spoils a text: the answer is a text of at most one byte more; the source's block alone turns of old memory (condition: a source, a text of at most 2^20 bytes). -/
import Derived.Test.YtokjhfgbnpdfnaaDoorPkSome
import Derived.Test.YtokjhfgbnpdfnaaDoorAll16
import Derived.Test.YtokjhfgbnpdfnaaDoorAll2
import Derived.Test.YtokjhfgbnpdfnaaDoorAll4
import Derived.BigQuiet
section
namespace Go.Proofs.YtokjhfgbnpdfnaaDoor
open Go.ChangeShapes Go.WideShapes Go.ChangeAt Go.RowKit
set_option linter.unusedVariables false
set_option linter.unusedSimpArgs false
set_option maxRecDepth 100000

theorem setCells_otherD : ∀ (l : List Value) (w : World) (b o i : Nat), i ≠ b → (w.setCells b o l).heap[i]? = w.heap[i]?
  | [], w, b, o, i, _ => rfl
  | v :: l, w, b, o, i, h => by
    have := setCells_otherD l (w.setCell ⟨b, o, none⟩ v) b (o + 1) i h
    have h2 := Below.heap_setCell w ⟨b, o, none⟩ v i h
    exact (show ((w.setCell ⟨b, o, none⟩ v).setCells b (o + 1) l).heap[i]? = _ from this).trans h2
theorem below_cellsD {B : Nat} {w0 : World} (b : Nat) (hb : B ≤ b) : ∀ (l : List Value) (w : World) (o : Nat), Below B w0 w → Below B w0 (w.setCells b o l)
  | [], w, o, h => h
  | v :: l, w, o, h => below_cellsD b hb l (w.setCell ⟨b, o, none⟩ v) (o + 1) (h.setCell (p := ⟨b, o, none⟩) hb v)
/-- what is known while the packet and a number are handed back, in whatever order -/
def ErrC (B : Nat) (a : Option Addr) (len cap : Nat) (w : World) (g : Nat) (p : Pk) (L : Nat → Prop) (v : Nat → Value) (W : World) : Prop :=
  Src B a len cap W ∧ Below w.heap.size w W ∧ W.heap[g]? = some (.cells #[.int .i64 p.src, .int .i64 p.dst, .int .i64 p.proto, .int .i64 p.a, .int .i64 p.b, .int .i64 p.kind, .int .i64 p.flags, .int .i64 p.seq, .int .i64 p.ack, .string p.body] 35) ∧ (¬ L 3 → W.heap[w.heap.size]? = some (.cells #[.int .i64 0, .int .i64 0, .int .i64 0, .int .i64 0, .int .i64 0, .int .i64 0, .int .i64 0, .int .i64 0, .int .i64 0, .string ⟨#[]⟩] 35)) ∧ (L 3 → W.heap[w.heap.size]? = some (.cells #[.int .i64 p.src, .int .i64 p.dst, .int .i64 p.proto, .int .i64 p.a, .int .i64 p.b, .int .i64 p.kind, .int .i64 p.flags, .int .i64 p.seq, .int .i64 p.ack, .string p.body] 35)) ∧
  (L 0 → v 0 = .agg #[.int .i64 p.src, .int .i64 p.dst, .int .i64 p.proto, .int .i64 p.a, .int .i64 p.b, .int .i64 p.kind, .int .i64 p.flags, .int .i64 p.seq, .int .i64 p.ack, .string p.body]) ∧ (L 1 → v 1 = .pointer (some ⟨B, 0, none⟩)) ∧ (L 2 → ∃ n : Int, v 2 = .int .i64 n) ∧ (L 4 → ∃ n : Int, v 4 = .int .i64 n)

set_option maxHeartbeats 2000000 in
theorem drawErrorOf_any (a : Option Addr) (len cap : Nat) (w : World) (hR : RowAt w.heap.size a len w) (hl : len ≤ 1048576) :
    Calls Tryd.prog 13 #[.slice a len cap] w fun e w' => ∃ (p : Pk) (n : Int), e = .returned (.tuple #[.agg #[.int .i64 p.src, .int .i64 p.dst, .int .i64 p.proto, .int .i64 p.a, .int .i64 p.b, .int .i64 p.kind, .int .i64 p.flags, .int .i64 p.seq, .int .i64 p.ack, .string p.body], .int .i64 n]) ∧ p.body.size ≤ 101 ∧ Below w.heap.size w w' := by
  have hL0 := hidS ((Below.refl w.heap.size w).alloc (Nat.le_refl _) (.cells #[.int .i64 0, .int .i64 0, .int .i64 0, .int .i64 0, .int .i64 0, .int .i64 0, .int .i64 0, .int .i64 0, .int .i64 0, .string ⟨#[]⟩] 35))
  have hR0 := hidS (hR.later hL0.out)
  have hG0 := hidS (heap_newG w (.cells #[.int .i64 0, .int .i64 0, .int .i64 0, .int .i64 0, .int .i64 0, .int .i64 0, .int .i64 0, .int .i64 0, .int .i64 0, .string ⟨#[]⟩] 35))
  have hRR := hidS hR
  clear hR
  go_enter Tryd.func13, Tryd.ntmps13
  go_wp2_with fail
  generalize w.alloc (.cells #[.int .i64 0, .int .i64 0, .int .i64 0, .int .i64 0, .int .i64 0, .int .i64 0, .int .i64 0, .int .i64 0, .int .i64 0, .string ⟨#[]⟩] 35) = w1 at hL0 hR0 hG0 ⊢
  refine (source_any a len cap w1 hR0.out hl).mono ?_
  rintro _ w2 ⟨rfl, hS2, hb2⟩
  have hRB : w.heap.size < w1.heap.size := blk_lt hG0.out
  have hL2 := hidS (hL0.out.trans (hb2.mono hL0.out.size))
  have hG2 := hidS (blk_later hG0.out hb2)
  have HS2 := hidS hS2
  clear hb2 hL0 hR0 hG0 hS2
  generalize w1.heap.size = B at *
  go_wp2_with fail
  refine (srcSome_any B a len cap w2 HS2.out).mono ?_
  rintro _ w3 ⟨p, rfl, hp, hS3, hg3⟩
  have hBl := hS3.lt
  have hL3 := hidS (hL2.out.grown hg3 hL2.out.size (fun k e => by cases e; omega))
  have hG3 := hidS ((hg3.block _ (blk_lt hG2.out) (fun e => by injection e with e; omega)).trans hG2.out)
  have HP := hidS hp
  have hS4 := hidS (hS3.kept (w' := w3.alloc (.cells #[.int .i64 p.src, .int .i64 p.dst, .int .i64 p.proto, .int .i64 p.a, .int .i64 p.b, .int .i64 p.kind, .int .i64 p.flags, .int .i64 p.seq, .int .i64 p.ack, .string p.body] 35)) fun k hk => Below.heap_alloc _ _ _ (by omega))
  have hL4 := hidS (hL3.out.alloc hL3.out.size (.cells #[.int .i64 p.src, .int .i64 p.dst, .int .i64 p.proto, .int .i64 p.a, .int .i64 p.b, .int .i64 p.kind, .int .i64 p.flags, .int .i64 p.seq, .int .i64 p.ack, .string p.body] 35))
  have hG4 := hidS (blk_alloc hG3.out (.cells #[.int .i64 p.src, .int .i64 p.dst, .int .i64 p.proto, .int .i64 p.a, .int .i64 p.b, .int .i64 p.kind, .int .i64 p.flags, .int .i64 p.seq, .int .i64 p.ack, .string p.body] 35))
  have hP4 := hidS (heap_newG w3 (.cells #[.int .i64 p.src, .int .i64 p.dst, .int .i64 p.proto, .int .i64 p.a, .int .i64 p.b, .int .i64 p.kind, .int .i64 p.flags, .int .i64 p.seq, .int .i64 p.ack, .string p.body] 35))
  have hgB : B < w3.heap.size := hBl
  clear hg3 hL2 hG2 HS2 hS3 hL3 hG3 hp hBl
  go_upto_region 3 with fail
  generalize w3.alloc (.cells #[.int .i64 p.src, .int .i64 p.dst, .int .i64 p.proto, .int .i64 p.a, .int .i64 p.b, .int .i64 p.kind, .int .i64 p.flags, .int .i64 p.seq, .int .i64 p.ack, .string p.body] 35) = w4 at hS4 hL4 hG4 hP4 ⊢
  generalize w3.heap.size = g at *
  refine growS (ErrC B a len cap w g p) (by kernel_rfl) (by kernel_rfl) ?start ?steps ?fin
  case start =>
    intro L v hno
    exact ⟨hS4.out, hL4.out.drew, hP4.out, fun _ => hG4.out, fun h => (hno _ h).elim, fun h => (hno _ h).elim, fun h => (hno _ h).elim, fun h => (hno _ h).elim, fun h => (hno _ h).elim⟩
  case steps =>
    refine ⟨?_, ?_, ?_, ?_, ?_, trivial⟩
    · refine ⟨rfl, fun L v W ρ hC hn hd kc kf ks ki => ?_⟩
      obtain ⟨hS, hB, hg, hz, hr, h0, h1, h2, h4⟩ := hC
      have t5 : ρ (.tmp 5) = .pointer (some ⟨g, 0, none⟩) := ki 5 (by decide)
      have c0 := blk_cell hg 0
      have c1 := blk_cell hg 1
      have c2 := blk_cell hg 2
      have c3 := blk_cell hg 3
      have c4 := blk_cell hg 4
      have c5 := blk_cell hg 5
      have c6 := blk_cell hg 6
      have c7 := blk_cell hg 7
      have c8 := blk_cell hg 8
      have c9 := blk_cell hg 9
      simp at c0 c1 c2 c3 c4 c5 c6 c7 c8 c9
      simp [execOp, go_sem, t5, c0, c1, c2, c3, c4, c5, c6, c7, c8, c9]
      simp only [RanS]
      exact ⟨hS, hB, hg, fun h => hz (fun x => h (.inl x)), fun h => hr (h.resolve_right (by omega)), fun _ => rfl, fun h => h1 (h.resolve_right (by omega)), fun h => h2 (h.resolve_right (by omega)), fun h => h4 (h.resolve_right (by omega))⟩
    · refine ⟨rfl, fun L v W ρ hC hn hd kc kf ks ki => ?_⟩
      obtain ⟨hS, hB, hg, hz, hr, h0, h1, h2, h4⟩ := hC
      have t4 : ρ (.tmp 4) = .pointer (some ⟨B, 0, none⟩) := ki 4 (by decide)
      simp [execOp, go_sem, t4]
      simp only [RanS]
      exact ⟨hS, hB, hg, fun h => hz (fun x => h (.inl x)), fun h => hr (h.resolve_right (by omega)), fun h => h0 (h.resolve_right (by omega)), fun _ => rfl, fun h => h2 (h.resolve_right (by omega)), fun h => h4 (h.resolve_right (by omega))⟩
    · refine ⟨rfl, fun L v W ρ hC hn hd kc kf ks ki => ?_⟩
      obtain ⟨hS, hB, hg, hz, hr, h0, h1, h2, h4⟩ := hC
      have L1 : L 1 := hd _ (Array.mem_of_getElem? (i := 0) rfl) rfl
      have t11 : ρ (.tmp 11) = .pointer (some ⟨B, 0, none⟩) := (ks 1 11 (by decide) rfl).trans (h1 L1)
      simp [execOp, go_sem, t11, kf]
      simp only [RanS]
      refine Calls.mono (srcAddr_any B a len cap W hS) (fun e x h => ?_)
      obtain ⟨r, rfl, _, _, hSx, hgx⟩ := h
      exact ⟨_, rfl, hSx, hB.grown hgx hB.size (fun k e => by cases e; omega), (hgx.block _ (blk_lt hg) (fun e => by injection e with e; omega)).trans hg, fun h => (hgx.block _ (blk_lt (hz (fun x => h (.inl x)))) (fun e => by injection e with e; omega)).trans (hz (fun x => h (.inl x))), fun h => (hgx.block _ (blk_lt (hr (h.resolve_right (by omega)))) (fun e => by injection e with e; omega)).trans (hr (h.resolve_right (by omega))), fun h => h0 (h.resolve_right (by omega)), fun h => h1 (h.resolve_right (by omega)), fun _ => ⟨r, rfl⟩, fun h => h4 (h.resolve_right (by omega))⟩
    · refine ⟨rfl, fun L v W ρ hC hn hd kc kf ks ki => ?_⟩
      obtain ⟨hS, hB, hg, hz, hr, h0, h1, h2, h4⟩ := hC
      have L0 : L 0 := hd _ (Array.mem_of_getElem? (i := 0) rfl) rfl
      have t10 : ρ (.tmp 10) = .agg #[.int .i64 p.src, .int .i64 p.dst, .int .i64 p.proto, .int .i64 p.a, .int .i64 p.b, .int .i64 p.kind, .int .i64 p.flags, .int .i64 p.seq, .int .i64 p.ack, .string p.body] := (ks 0 10 (by decide) rfl).trans (h0 L0)
      have t2 : ρ (.tmp 2) = .pointer (some ⟨w.heap.size, 0, none⟩) := ki 2 (by decide)
      have hzz := hz hn
      have hth : W.there w.heap.size 0 10 := fun j hj => ⟨by simp [World.cell?, hzz]; omega, by simp [World.frozen?, hzz]⟩
      have hrun := run_storeAt_mid (P := Tryd.prog) W w.heap.size 0 35 #[.int .i64 p.src, .int .i64 p.dst, .int .i64 p.proto, .int .i64 p.a, .int .i64 p.b, .int .i64 p.kind, .int .i64 p.flags, .int .i64 p.seq, .int .i64 p.ack, .string p.body] hth (by kernel_rfl) (by simp [Value.oneCell'])
      have hheap := setCells_heap (#[.int .i64 p.src, .int .i64 p.dst, .int .i64 p.proto, .int .i64 p.a, .int .i64 p.b, .int .i64 p.kind, .int .i64 p.flags, .int .i64 p.seq, .int .i64 p.ack, .string p.body] : Array Value).toList W w.heap.size 0 #[.int .i64 0, .int .i64 0, .int .i64 0, .int .i64 0, .int .i64 0, .int .i64 0, .int .i64 0, .int .i64 0, .int .i64 0, .string ⟨#[]⟩] 35 hzz (by simp)
      have hoth := fun i hi => setCells_otherD (#[.int .i64 p.src, .int .i64 p.dst, .int .i64 p.proto, .int .i64 p.a, .int .i64 p.b, .int .i64 p.kind, .int .i64 p.flags, .int .i64 p.seq, .int .i64 p.ack, .string p.body] : Array Value).toList W w.heap.size 0 i hi
      have hnew := below_cellsD w.heap.size (Nat.le_refl _) (#[.int .i64 p.src, .int .i64 p.dst, .int .i64 p.proto, .int .i64 p.a, .int .i64 p.b, .int .i64 p.kind, .int .i64 p.flags, .int .i64 p.seq, .int .i64 p.ack, .string p.body] : Array Value).toList W 0 hB
      simp only [execOp, t2, t10, Sem.run_bind, hrun, Result.andThen_ok, Sem.run_pure]
      simp only [RanS]
      generalize W.setCells w.heap.size 0 (#[.int .i64 p.src, .int .i64 p.dst, .int .i64 p.proto, .int .i64 p.a, .int .i64 p.b, .int .i64 p.kind, .int .i64 p.flags, .int .i64 p.seq, .int .i64 p.ack, .string p.body] : Array Value).toList = W' at hheap hoth hnew ⊢
      obtain ⟨s1, ⟨x1, x2, x3, sb, sr⟩, s3⟩ := hS
      exact ⟨⟨s1, ⟨x1, x2, x3, (hoth B (by omega)).trans sb, sr⟩, (hRR.out.below fun k hk => hnew.block k hk).mono (by omega)⟩, hnew, (hoth g (by omega)).trans hg, fun h => (h (.inr rfl)).elim, fun _ => by simpa using hheap, fun h => h0 (h.resolve_right (by omega)), fun h => h1 (h.resolve_right (by omega)), fun h => h2 (h.resolve_right (by omega)), fun h => h4 (h.resolve_right (by omega))⟩
    · refine ⟨rfl, fun L v W ρ hC hn hd kc kf ks ki => ?_⟩
      obtain ⟨hS, hB, hg, hz, hr, h0, h1, h2, h4⟩ := hC
      have L2 : L 2 := hd _ (Array.mem_of_getElem? (i := 0) rfl) rfl
      obtain ⟨n, e2⟩ := h2 L2
      have t12 : ρ (.tmp 12) = .int .i64 n := (ks 2 12 (by decide) rfl).trans e2
      simp [execOp, go_sem, t12]
      simp only [RanS]
      exact ⟨hS, hB, hg, fun h => hz (fun x => h (.inl x)), fun h => hr (h.resolve_right (by omega)), fun h => h0 (h.resolve_right (by omega)), fun h => h1 (h.resolve_right (by omega)), fun h => h2 (h.resolve_right (by omega)), fun _ => ⟨n, rfl⟩⟩
  case fin =>
    intro L v W hC hall
    obtain ⟨hS, hB, hg, hz, hr, h0, h1, h2, h4⟩ := hC
    obtain ⟨n, e4⟩ := h4 (hall 4 (by decide))
    have hR9 := hr (hall 3 (by decide))
    have HB := hidS hB
    clear hS hB hg hz hr h0 h1 h2 h4 hall hS4 hL4 hG4 hP4
    simp [upto, Act.put]
    rw [e4]
    have kR := blk_cell hR9
    clear hR9 e4
    go_wp2_with fail
    exact bodyPost_ret (v := .tuple #[.agg #[.int .i64 p.src, .int .i64 p.dst, .int .i64 p.proto, .int .i64 p.a, .int .i64 p.b, .int .i64 p.kind, .int .i64 p.flags, .int .i64 p.seq, .int .i64 p.ack, .string p.body], .int .i64 n]) (by simp [results, Tryd.results13, go_sem, *]) rfl ⟨p, n, rfl, HP.out, HB.out⟩
end Go.Proofs.YtokjhfgbnpdfnaaDoor
end

section
namespace Go.Proofs.YtokjhfgbnpdfnaaDoor
open Go.ChangeShapes Go.WideShapes Go.ChangeAt Go.RowKit
set_option linter.unusedVariables false
set_option linter.unusedSimpArgs false
set_option maxRecDepth 100000

theorem src_alloc {B : Nat} {a : Option Addr} {len cap : Nat} {w : World} (h : Src B a len cap w) (o : Obj) : Src B a len cap (w.alloc o) := h.kept fun k hk => Below.heap_alloc _ _ _ (by have := h.lt; omega)
theorem grown_drewN {a w : World} {r : Option Nat} (h : a.grownBy w r) (n : Nat) : a.grownBy (w.drewN n) r := ⟨h.os, h.tape, h.output, h.size, h.block⟩
theorem one_size (b : UInt8) : (⟨#[b]⟩ : ByteArray).size = 1 := rfl
theorem conv_one (b : UInt8) (W : World) : (convert 22 9 (.slice (some ⟨W.heap.size, 0, none⟩) 1 1)).run Tryd.prog (W.alloc (.cells #[.int .u8 (b.toNat : Int)] 5)) = .ok (.string ⟨#[b]⟩) (W.alloc (.cells #[.int .u8 (b.toNat : Int)] 5)) :=
  run_convert_bytes_back (P := Tryd.prog) (W.alloc (.cells #[.int .u8 (b.toNat : Int)] 5)) 22 9 5 ⟨W.heap.size, 0, none⟩ 1 [b] Tryd.underlying22 Tryd.underlying5 Tryd.underlying9 (fun j hj => by
    rw [Addr.add_lit, Nat.zero_add, blk_cell (heap_newG W (.cells #[.int .u8 (b.toNat : Int)] 5)) j]
    have hj' : j = 0 := by simpa using hj
    subst hj'
    rfl)
set_option maxHeartbeats 2000000 in
theorem srcSpoil_any (B : Nat) (a : Option Addr) (len cap : Nat) (t : ByteArray) (w : World) (hS : Src B a len cap w) (ht : t.size ≤ 1048576) :
    Calls Tryd.prog 37 #[.pointer (some ⟨B, 0, none⟩), .string t] w fun e w' => ∃ s : ByteArray, e = .returned (.string s) ∧ s.size ≤ t.size + 1 ∧ Src B a len cap w' ∧ w.grownBy w' (some B) := by
  have hlt := hS.lt
  go_enter Tryd.func37, Tryd.ntmps37
  go_wp2_with fail
  refine (srcN_any B a len cap ((t.size : Int) + 1) w hS (by omega)).mono ?_
  rintro _ w1 ⟨k0, rfl, hk1, hk2, hS1, hO1⟩
  obtain ⟨k, rfl⟩ : ∃ k : Nat, k0 = k := ⟨k0.toNat, by omega⟩
  have hk : k ≤ t.size := by omega
  have hg1 := hidS hO1.grown
  clear hk1 hk2 hO1 hS
  go_wp2_with fail
  refine (srcN_any B a len cap 17 w1 hS1 (by omega)).mono ?_
  rintro _ w2 ⟨j0, rfl, hj1, hj2, hS2, hO2⟩
  obtain ⟨j, rfl⟩ : ∃ j : Nat, j0 = j := ⟨j0.toNat, by omega⟩
  have hj : j < 17 := by omega
  have hg2 := hidS (grown_trans hg1.out hO2.grown)
  clear hj1 hj2 hO2 hS1 hg1
  go_wp2_with fail
  rw [conv_one]
  have hg3 := hidS (grown_trans hg2.out (World.grownBy_alloc w2 (.cells #[.int .u8 ((({ data := #[32, 10, 48, 97, 45, 110, 44, 58, 93, 255, 40, 120, 126, 49, 128, 225, 59] } : ByteArray)[j]'hj).toNat : Int)] 5) (some B)))
  have hS3 := hidS (src_alloc hS2 (.cells #[.int .u8 ((({ data := #[32, 10, 48, 97, 45, 110, 44, 58, 93, 255, 40, 120, 126, 49, 128, 225, 59] } : ByteArray)[j]'hj).toNat : Int)] 5))
  generalize (({ data := #[32, 10, 48, 97, 45, 110, 44, 58, 93, 255, 40, 120, 126, 49, 128, 225, 59] } : ByteArray)[j]'hj) = cb at *
  generalize w2.alloc (.cells #[.int .u8 (cb.toNat : Int)] 5) = w3 at hg3 hS3 ⊢
  clear hg2 hS2
  go_wp2_with fail
  · go_quiet (fail)
    go_wp2_with fail
    go_ret
    refine ⟨_, rfl, ?_, hS3.out, grown_drewN hg3.out _⟩
    simp only [ByteArray.size_append, ByteArray.size_extract, one_size]
    omega
  · refine (srcOne_any B a len cap 3 w3 hS3.out (by omega)).mono ?_
    rintro _ w4 ⟨c, rfl, hS4, hO4⟩
    have hk2 : k < t.size := by omega
    have hg4 := hidS (grown_trans hg3.out hO4.grown)
    have HS4 := hidS hS4
    clear hO4 hS4 hS3 hg3
    cases c
    · go_wp2_with fail
      refine (srcOne_any B a len cap 2 w4 HS4.out (by omega)).mono ?_
      rintro _ w5 ⟨d, rfl, hS5, hO5⟩
      have hg5 := hidS (grown_trans hg4.out hO5.grown)
      have HS5 := hidS hS5
      clear hO5 hS5 HS4 hg4
      cases d
      · go_wp2_with fail
        go_quiet (fail)
        go_wp2_with fail
        go_ret
        refine ⟨_, rfl, ?_, HS5.out, grown_drewN hg5.out _⟩
        simp only [ByteArray.size_append, ByteArray.size_extract, one_size]
        omega
      · go_wp2_with fail
        go_quiet (fail)
        go_wp2_with fail
        go_ret
        refine ⟨_, rfl, ?_, HS5.out, grown_drewN hg5.out _⟩
        simp only [ByteArray.size_append, ByteArray.size_extract, one_size]
        omega
    · go_wp2_with fail
      go_quiet (fail)
      go_wp2_with fail
      go_ret
      refine ⟨_, rfl, ?_, HS4.out, grown_drewN hg4.out _⟩
      simp only [ByteArray.size_append, ByteArray.size_extract, one_size]
      omega
end Go.Proofs.YtokjhfgbnpdfnaaDoor
end
