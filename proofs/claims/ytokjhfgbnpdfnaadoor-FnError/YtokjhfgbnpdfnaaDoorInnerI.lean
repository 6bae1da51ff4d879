/- Proved here: impl.readInner answers the packet of which an error speaks, or why not; all old memory stays (conditions: the body is a string; the four package variables hold four errors; what the part's functions answer is told). -/
import Derived.Test.YtokjhfgbnpdfnaaDoorErrI
import Derived.Test.YtokjhfgbnpdfnaaDoorScan
import Derived.Test.YtokjhfgbnpdfnaaDoorAll39
namespace Go.Proofs.YtokjhfgbnpdfnaaDoor
open Go.ChangeShapes Go.WideShapes Go.ChangeAt Go.RowKit
open Go.ChangeMaps (open_string shut_string)
set_option linter.unusedVariables false
set_option maxRecDepth 100000

theorem own_later {B : Nat} {e : TypeId} {z : Nat} {v : Value} {n : Nat} {xs : List Value} {W W' : World} (h : W.ownsRow B e z v n xs) (hb : Below W.heap.size W W') : W'.ownsRow B e z v n xs := by
  refine ⟨h.1, ?_⟩
  rcases h.2 with h0 | ⟨g, cap, cur, e1, e2, e3, e4⟩
  · exact Or.inl h0
  · exact Or.inr ⟨g, cap, cur, e1, e2, (hb.block g (Array.getElem?_eq_some_iff.1 e3).1).trans e3, e4⟩
theorem intsV_app (l m : List Nat) : intsV (l ++ m) = intsV l ++ intsV m := by simp [intsV]
theorem intsV_get (l : List Nat) (j : Nat) (hj : j < l.length) : (intsV l)[j]? = some (.int .i64 (l[j] : Int)) := by
  unfold intsV; rw [List.getElem?_map, List.getElem?_eq_getElem hj]; rfl
theorem below_appI {B : Nat} {w wr w1 : World} {v : Value} {n : Nat} {xs : List Value} {o : Obj} {B2 : Nat} (hBB : B ≤ B2) (hbel : Below B w wr) (hB : B ≤ wr.heap.size) (hown : wr.ownsRow B2 3 1 v n xs) (hg : (wr.alloc o).grownBy w1 v.ownBlock) : Below B w w1 :=
  (hbel.alloc hB o).grown hg (by simp; omega) (fun k hk => Nat.le_trans hBB (hown.lt k hk).1)
theorem cells_two_new (w : World) (a b : Value) (t : TypeId) : ∀ j v, [a, b][j]? = some v → (w.alloc (.cells #[a, b] t)).cell? ((⟨w.heap.size, 0, none⟩ : Addr).add j) = some v := by
  intro j v h
  have hv := (vals_at (W := w) [a, b] t).2 j (by obtain ⟨h1, _⟩ := List.getElem?_eq_some_iff.1 h; exact h1)
  rw [Addr.add_lit, Nat.zero_add]
  obtain ⟨h1, h2⟩ := List.getElem?_eq_some_iff.1 h
  rw [← h2]; exact hv

set_option maxHeartbeats 2000000 in
theorem innerI_form {aF aS aY aM : Addr} (p : Pk) (w : World) (hs : p.body.size ≤ maxLen) (hS : Sent aF aS aY aM w) (h : (rightB p && (p.proto == 1 && p.kind == 3)) = false) :
    Calls Tryd.prog 40 #[.agg #[.int .i64 p.src, .int .i64 p.dst, .int .i64 p.proto, .int .i64 p.a, .int .i64 p.b, .int .i64 p.kind, .int .i64 p.flags, .int .i64 p.seq, .int .i64 p.ack, .string p.body]] w fun e w' => e = .returned (.tuple #[.agg #[.int .i64 zeroPk.src, .int .i64 zeroPk.dst, .int .i64 zeroPk.proto, .int .i64 zeroPk.a, .int .i64 zeroPk.b, .int .i64 zeroPk.kind, .int .i64 zeroPk.flags, .int .i64 zeroPk.seq, .int .i64 zeroPk.ack, .string zeroPk.body], .iface 141 (.pointer (some aF))]) ∧ Below w.heap.size w w' := by
  have hlt0 : 1 < w.heap.size := World.block_lt_of_cell? w _ hS.cF
  have HR := hidS (fun W => implRight_any p W hs)
  have HI := hidS (fun W => isError_any p W)
  have hP0 := hidS (blk_alloc (heap_newG w (.cells #[.int .i64 p.src, .int .i64 p.dst, .int .i64 p.proto, .int .i64 p.a, .int .i64 p.b, .int .i64 p.kind, .int .i64 p.flags, .int .i64 p.seq, .int .i64 p.ack, .string p.body] 35)) (.cells #[.int .i64 0, .int .i64 0, .int .i64 0, .int .i64 0, .int .i64 0, .int .i64 0, .int .i64 0, .int .i64 0, .int .i64 0, .string ⟨#[]⟩] 35))
  have hG0' : ((w.alloc (.cells #[.int .i64 p.src, .int .i64 p.dst, .int .i64 p.proto, .int .i64 p.a, .int .i64 p.b, .int .i64 p.kind, .int .i64 p.flags, .int .i64 p.seq, .int .i64 p.ack, .string p.body] 35)).alloc (.cells #[.int .i64 0, .int .i64 0, .int .i64 0, .int .i64 0, .int .i64 0, .int .i64 0, .int .i64 0, .int .i64 0, .int .i64 0, .string ⟨#[]⟩] 35)).heap[w.heap.size + 1]? = some (.cells #[.int .i64 0, .int .i64 0, .int .i64 0, .int .i64 0, .int .i64 0, .int .i64 0, .int .i64 0, .int .i64 0, .int .i64 0, .string ⟨#[]⟩] 35) := by
    have := heap_newG (w.alloc (.cells #[.int .i64 p.src, .int .i64 p.dst, .int .i64 p.proto, .int .i64 p.a, .int .i64 p.b, .int .i64 p.kind, .int .i64 p.flags, .int .i64 p.seq, .int .i64 p.ack, .string p.body] 35)) (.cells #[.int .i64 0, .int .i64 0, .int .i64 0, .int .i64 0, .int .i64 0, .int .i64 0, .int .i64 0, .int .i64 0, .int .i64 0, .string ⟨#[]⟩] 35)
    simpa using this
  have hG0 := hidS hG0'
  clear hG0'
  have hS0 := hidS (sent_allocE (sent_allocE hS (.cells #[.int .i64 p.src, .int .i64 p.dst, .int .i64 p.proto, .int .i64 p.a, .int .i64 p.b, .int .i64 p.kind, .int .i64 p.flags, .int .i64 p.seq, .int .i64 p.ack, .string p.body] 35)) (.cells #[.int .i64 0, .int .i64 0, .int .i64 0, .int .i64 0, .int .i64 0, .int .i64 0, .int .i64 0, .int .i64 0, .int .i64 0, .string ⟨#[]⟩] 35))
  have hL0 := hidS (((Below.refl w.heap.size w).alloc (Nat.le_refl _) (.cells #[.int .i64 p.src, .int .i64 p.dst, .int .i64 p.proto, .int .i64 p.a, .int .i64 p.b, .int .i64 p.kind, .int .i64 p.flags, .int .i64 p.seq, .int .i64 p.ack, .string p.body] 35)).alloc (by simp) (.cells #[.int .i64 0, .int .i64 0, .int .i64 0, .int .i64 0, .int .i64 0, .int .i64 0, .int .i64 0, .int .i64 0, .int .i64 0, .string ⟨#[]⟩] 35))
  clear hS
  cases hr : rightB p
  · clear h
    go_enter Tryd.func40, Tryd.ntmps40
    go_wp2_with fail
    refine (HR.out _).mono ?_
    rintro _ w1 ⟨rfl, hb1⟩
    rw [hr]
    have hG9 := blk_later hG0.out hb1
    have hS9 := hidS (hS0.out.later hb1)
    have hL9 := hidS (hL0.out.trans (hb1.mono hL0.out.size))
    clear hb1 hG0 hS0 hL0 hP0 HR
    have hg := hS9.out.cF
    have hne : w.heap.size + 1 ≠ 1 := by omega
    have cg := blk_cell hG9
    have fg := blk_free hG9
    clear hS9 hG9
    go_wp2_with fail
    go_region
    go_wp2_with fail
    refine bodyPost_ret (v := .tuple #[.agg #[.int .i64 zeroPk.src, .int .i64 zeroPk.dst, .int .i64 zeroPk.proto, .int .i64 zeroPk.a, .int .i64 zeroPk.b, .int .i64 zeroPk.kind, .int .i64 zeroPk.flags, .int .i64 zeroPk.seq, .int .i64 zeroPk.ack, .string zeroPk.body], .iface 141 (.pointer (some aF))]) (by simp [results, Tryd.results40, go_sem, zeroPk, *]) rfl ⟨rfl, ?_⟩
    refine Below.drew ?_
    repeat (refine below_at ?_ (by omega))
    exact hL9.out
  rw [hr, Bool.true_and] at h
  go_enter Tryd.func40, Tryd.ntmps40
  go_wp2_with fail
  refine (HR.out _).mono ?_
  rintro _ w1 ⟨rfl, hb1⟩
  rw [hr]
  have hG1 := hidS (blk_later hG0.out hb1)
  have hP1 := blk_later hP0.out hb1
  have hS1 := hidS (hS0.out.later hb1)
  have hL1 := hidS (hL0.out.trans (hb1.mono hL0.out.size))
  clear hb1 hG0 hP0 hS0 hL0 HR
  have c0 := blk_cell hP1 0
  have c1 := blk_cell hP1 1
  have c2 := blk_cell hP1 2
  have c3 := blk_cell hP1 3
  have c4 := blk_cell hP1 4
  have c5 := blk_cell hP1 5
  have c6 := blk_cell hP1 6
  have c7 := blk_cell hP1 7
  have c8 := blk_cell hP1 8
  have c9 := blk_cell hP1 9
  simp at c0 c1 c2 c3 c4 c5 c6 c7 c8 c9
  go_wp2_with fail
  refine (HI.out _).mono ?_
  rintro _ w2 ⟨rfl, hb2⟩
  rw [h]
  have hG9 := blk_later hG1.out hb2
  have hS9 := hidS (hS1.out.later hb2)
  have hL9 := hidS (hL1.out.trans (hb2.mono hL1.out.size))
  clear hb2 hG1 hP1 hS1 hL1 HI c0 c1 c2 c3 c4 c5 c6 c7 c8 c9
  have hg := hS9.out.cF
  have hne : w.heap.size + 1 ≠ 1 := by omega
  have cg := blk_cell hG9
  have fg := blk_free hG9
  clear hS9 hG9
  go_wp2_with fail
  go_region
  go_wp2_with fail
  refine bodyPost_ret (v := .tuple #[.agg #[.int .i64 zeroPk.src, .int .i64 zeroPk.dst, .int .i64 zeroPk.proto, .int .i64 zeroPk.a, .int .i64 zeroPk.b, .int .i64 zeroPk.kind, .int .i64 zeroPk.flags, .int .i64 zeroPk.seq, .int .i64 zeroPk.ack, .string zeroPk.body], .iface 141 (.pointer (some aF))]) (by simp [results, Tryd.results40, go_sem, zeroPk, *]) rfl ⟨rfl, ?_⟩
  refine Below.drew ?_
  repeat (refine below_at ?_ (by omega))
  exact hL9.out

set_option maxHeartbeats 1000000 in
theorem innerI_short {aF aS aY aM : Addr} (p x : Pk) (t : ByteArray) (v : Value) (k : Nat) (ls : List Nat) (w : World) (hs : p.body.size ≤ maxLen) (hS : Sent aF aS aY aM w) (hr : rightB p = true) (hi : (p.proto == 1 && p.kind == 3) = true) (h28 : 28 ≤ p.body.size) (ht : t = p.body.extract 0 28) (htz : t.size = 28) (hx : x = scanPk t) (hk : k ≤ 100) (hls : ls.length ≤ 2) (hlk : ∀ j ∈ ls, j ≤ 100) (hb : (bytesAns x).size ≤ 8000) (hbod : x.body.size ≤ maxLen)
    (hPT : ∀ W, Calls Tryd.prog 62 #[.agg #[.int .i64 x.src, .int .i64 x.dst, .int .i64 x.proto, .int .i64 x.a, .int .i64 x.b, .int .i64 x.kind, .int .i64 x.flags, .int .i64 x.seq, .int .i64 x.ack, .string x.body]] W fun e w' => e = .returned v ∧ Below W.heap.size W w')
    (hCN : ∀ W, Calls Tryd.prog 63 #[v] W fun e w' => Counts W.heap.size ls e w' ∧ Below W.heap.size W w')
    (hCA : ∀ W, Calls Tryd.prog 64 #[v] W fun e w' => e = .returned (.int .i64 (k : Int)) ∧ Below W.heap.size W w')
    (hu : (bytesAns x).size < 28) :
    Calls Tryd.prog 40 #[.agg #[.int .i64 p.src, .int .i64 p.dst, .int .i64 p.proto, .int .i64 p.a, .int .i64 p.b, .int .i64 p.kind, .int .i64 p.flags, .int .i64 p.seq, .int .i64 p.ack, .string p.body]] w fun e w' => e = .returned (.tuple #[.agg #[.int .i64 zeroPk.src, .int .i64 zeroPk.dst, .int .i64 zeroPk.proto, .int .i64 zeroPk.a, .int .i64 zeroPk.b, .int .i64 zeroPk.kind, .int .i64 zeroPk.flags, .int .i64 zeroPk.seq, .int .i64 zeroPk.ack, .string zeroPk.body], .iface 141 (.pointer (some aY))]) ∧ Below w.heap.size w w' := by
  have hlt0 : 2 < w.heap.size := World.block_lt_of_cell? w _ hS.cY
  have h28' : (28 : Int) ≤ (p.body.size : Int) := by omega
  have HSC := hidS (fun W => scan_any t W (by omega) (by omega))
  rw [← hx] at HSC
  have HB := hidS (fun W => implBytes_any x W hbod)
  have HPT := hidS hPT
  have HCA := hidS hCA
  have HCN := hidS hCN
  have hw0 : wordB 0 = true := rfl
  have HT := hidS ht
  have HLK := hidS hlk
  have HR := hidS (fun W => implRight_any p W hs)
  have HI := hidS (fun W => isError_any p W)
  have hP0 := hidS (blk_alloc (heap_newG w (.cells #[.int .i64 p.src, .int .i64 p.dst, .int .i64 p.proto, .int .i64 p.a, .int .i64 p.b, .int .i64 p.kind, .int .i64 p.flags, .int .i64 p.seq, .int .i64 p.ack, .string p.body] 35)) (.cells #[.int .i64 0, .int .i64 0, .int .i64 0, .int .i64 0, .int .i64 0, .int .i64 0, .int .i64 0, .int .i64 0, .int .i64 0, .string ⟨#[]⟩] 35))
  have hG0' : ((w.alloc (.cells #[.int .i64 p.src, .int .i64 p.dst, .int .i64 p.proto, .int .i64 p.a, .int .i64 p.b, .int .i64 p.kind, .int .i64 p.flags, .int .i64 p.seq, .int .i64 p.ack, .string p.body] 35)).alloc (.cells #[.int .i64 0, .int .i64 0, .int .i64 0, .int .i64 0, .int .i64 0, .int .i64 0, .int .i64 0, .int .i64 0, .int .i64 0, .string ⟨#[]⟩] 35)).heap[w.heap.size + 1]? = some (.cells #[.int .i64 0, .int .i64 0, .int .i64 0, .int .i64 0, .int .i64 0, .int .i64 0, .int .i64 0, .int .i64 0, .int .i64 0, .string ⟨#[]⟩] 35) := by
    have := heap_newG (w.alloc (.cells #[.int .i64 p.src, .int .i64 p.dst, .int .i64 p.proto, .int .i64 p.a, .int .i64 p.b, .int .i64 p.kind, .int .i64 p.flags, .int .i64 p.seq, .int .i64 p.ack, .string p.body] 35)) (.cells #[.int .i64 0, .int .i64 0, .int .i64 0, .int .i64 0, .int .i64 0, .int .i64 0, .int .i64 0, .int .i64 0, .int .i64 0, .string ⟨#[]⟩] 35)
    simpa using this
  have hG0 := hidS hG0'
  clear hG0'
  have hS0 := hidS (sent_allocE (sent_allocE hS (.cells #[.int .i64 p.src, .int .i64 p.dst, .int .i64 p.proto, .int .i64 p.a, .int .i64 p.b, .int .i64 p.kind, .int .i64 p.flags, .int .i64 p.seq, .int .i64 p.ack, .string p.body] 35)) (.cells #[.int .i64 0, .int .i64 0, .int .i64 0, .int .i64 0, .int .i64 0, .int .i64 0, .int .i64 0, .int .i64 0, .int .i64 0, .string ⟨#[]⟩] 35))
  have hL0 := hidS (((Below.refl w.heap.size w).alloc (Nat.le_refl _) (.cells #[.int .i64 p.src, .int .i64 p.dst, .int .i64 p.proto, .int .i64 p.a, .int .i64 p.b, .int .i64 p.kind, .int .i64 p.flags, .int .i64 p.seq, .int .i64 p.ack, .string p.body] 35)).alloc (by simp) (.cells #[.int .i64 0, .int .i64 0, .int .i64 0, .int .i64 0, .int .i64 0, .int .i64 0, .int .i64 0, .int .i64 0, .int .i64 0, .string ⟨#[]⟩] 35))
  have HSw := hidS hS
  clear hS hx hPT hCA hCN ht hlk
  go_enter Tryd.func40, Tryd.ntmps40
  go_wp2_with fail
  refine (HR.out _).mono ?_
  rintro _ w1 ⟨rfl, hb1⟩
  rw [hr]
  have hG1 := hidS (blk_later hG0.out hb1)
  have hP1 := blk_later hP0.out hb1
  have hS1 := hidS (hS0.out.later hb1)
  have hL1 := hidS (hL0.out.trans (hb1.mono hL0.out.size))
  clear hb1 hG0 hP0 hS0 hL0 HR
  have c0 := blk_cell hP1 0
  have c1 := blk_cell hP1 1
  have c2 := blk_cell hP1 2
  have c3 := blk_cell hP1 3
  have c4 := blk_cell hP1 4
  have c5 := blk_cell hP1 5
  have c6 := blk_cell hP1 6
  have c7 := blk_cell hP1 7
  have c8 := blk_cell hP1 8
  have c9 := blk_cell hP1 9
  simp at c0 c1 c2 c3 c4 c5 c6 c7 c8 c9
  have HP1 := hidS hP1
  clear hP1
  go_wp2_with fail
  refine (HI.out _).mono ?_
  rintro _ w2 ⟨rfl, hb2⟩
  rw [hi]
  have hG2 := hidS (blk_later hG1.out hb2)
  have hP2 := blk_later HP1.out hb2
  have hS2 := hidS (hS1.out.later hb2)
  have hL2 := hidS (hL1.out.trans (hb2.mono hL1.out.size))
  clear hb2 hG1 HP1 hS1 hL1 HI c0 c1 c2 c3 c4 c5 c6 c7 c8 c9
  have c9 := blk_cell hP2 9
  simp at c9
  clear hP2
  go_wp2_with fail
  rw [← HT.out]
  refine (HSC.out _).mono ?_
  rintro _ w3 ⟨rfl, hb3⟩
  have hG3 := hidS (blk_alloc (blk_later hG2.out hb3) (.cells #[.int .i64 x.src, .int .i64 x.dst, .int .i64 x.proto, .int .i64 x.a, .int .i64 x.b, .int .i64 x.kind, .int .i64 x.flags, .int .i64 x.seq, .int .i64 x.ack, .string x.body] 35))
  have hP3 := hidS (heap_newG w3 (.cells #[.int .i64 x.src, .int .i64 x.dst, .int .i64 x.proto, .int .i64 x.a, .int .i64 x.b, .int .i64 x.kind, .int .i64 x.flags, .int .i64 x.seq, .int .i64 x.ack, .string x.body] 35))
  have hS3 := hidS (sent_allocE (hS2.out.later hb3) (.cells #[.int .i64 x.src, .int .i64 x.dst, .int .i64 x.proto, .int .i64 x.a, .int .i64 x.b, .int .i64 x.kind, .int .i64 x.flags, .int .i64 x.seq, .int .i64 x.ack, .string x.body] 35))
  have hL3' := hL2.out.trans (hb3.mono hL2.out.size)
  have hL3 := hidS (hL3'.alloc hL3'.size (.cells #[.int .i64 x.src, .int .i64 x.dst, .int .i64 x.proto, .int .i64 x.a, .int .i64 x.b, .int .i64 x.kind, .int .i64 x.flags, .int .i64 x.seq, .int .i64 x.ack, .string x.body] 35))
  have hlt3 : w.heap.size + 1 < w3.heap.size := by have h0 := blk_lt hG2.out; have := hb3.size; omega
  clear hb3 hG2 hS2 hL2 hL3' HSC c9
  go_wp2_with fail
  refine (HB.out _).mono ?_
  rintro _ w4 ⟨rfl, hb4⟩
  have hG4 := hidS (blk_later hG3.out hb4)
  have hP4 := blk_later hP3.out hb4
  have hS4 := hidS (hS3.out.later hb4)
  have hL4 := hidS (hL3.out.trans (hb4.mono hL3.out.size))
  clear hb4 hG3 hP3 hS3 hL3 HB
  generalize bytesAns x = u at *
  have hG9 := hG4.out
  have hS9 := hS4
  have hL9 := hL4
  clear hG4 hS4 hL4 hP4
  have hg := hS9.out.cY
  have hne : w.heap.size + 1 ≠ 2 := by omega
  have cg := blk_cell hG9
  have fg := blk_free hG9
  clear hS9 hG9
  go_wp2_with fail
  go_region
  go_wp2_with fail
  refine bodyPost_ret (v := .tuple #[.agg #[.int .i64 zeroPk.src, .int .i64 zeroPk.dst, .int .i64 zeroPk.proto, .int .i64 zeroPk.a, .int .i64 zeroPk.b, .int .i64 zeroPk.kind, .int .i64 zeroPk.flags, .int .i64 zeroPk.seq, .int .i64 zeroPk.ack, .string zeroPk.body], .iface 141 (.pointer (some aY))]) (by simp [results, Tryd.results40, go_sem, zeroPk, *]) rfl ⟨rfl, ?_⟩
  refine Below.drew ?_
  repeat (refine below_at ?_ (by omega))
  exact hL9.out

set_option maxHeartbeats 1000000 in
theorem innerI_ok {aF aS aY aM : Addr} (p x : Pk) (t : ByteArray) (v : Value) (k : Nat) (ls : List Nat) (w : World) (hs : p.body.size ≤ maxLen) (hS : Sent aF aS aY aM w) (hr : rightB p = true) (hi : (p.proto == 1 && p.kind == 3) = true) (h28 : 28 ≤ p.body.size) (ht : t = p.body.extract 0 28) (htz : t.size = 28) (hx : x = scanPk t) (hk : k ≤ 100) (hls : ls.length ≤ 2) (hlk : ∀ j ∈ ls, j ≤ 100) (hb : (bytesAns x).size ≤ 8000) (hbod : x.body.size ≤ maxLen)
    (hPT : ∀ W, Calls Tryd.prog 62 #[.agg #[.int .i64 x.src, .int .i64 x.dst, .int .i64 x.proto, .int .i64 x.a, .int .i64 x.b, .int .i64 x.kind, .int .i64 x.flags, .int .i64 x.seq, .int .i64 x.ack, .string x.body]] W fun e w' => e = .returned v ∧ Below W.heap.size W w')
    (hCN : ∀ W, Calls Tryd.prog 63 #[v] W fun e w' => Counts W.heap.size ls e w' ∧ Below W.heap.size W w')
    (hCA : ∀ W, Calls Tryd.prog 64 #[v] W fun e w' => e = .returned (.int .i64 (k : Int)) ∧ Below W.heap.size W w')
    (hu : 28 ≤ (bytesAns x).size) (hbl : (putAll (twoT 0).data.toList ((bytesAns x).extract 0 28).data.toList (ls ++ [10, k]) == putAll (twoT 0).data.toList t.data.toList (ls ++ [10, k])) = true) :
    Calls Tryd.prog 40 #[.agg #[.int .i64 p.src, .int .i64 p.dst, .int .i64 p.proto, .int .i64 p.a, .int .i64 p.b, .int .i64 p.kind, .int .i64 p.flags, .int .i64 p.seq, .int .i64 p.ack, .string p.body]] w fun e w' => e = .returned (.tuple #[.agg #[.int .i64 x.src, .int .i64 x.dst, .int .i64 x.proto, .int .i64 x.a, .int .i64 x.b, .int .i64 x.kind, .int .i64 x.flags, .int .i64 x.seq, .int .i64 x.ack, .string x.body], .nilIface]) ∧ Below w.heap.size w w' := by
  have hlt0 : 2 < w.heap.size := World.block_lt_of_cell? w _ hS.cY
  have h28' : (28 : Int) ≤ (p.body.size : Int) := by omega
  have HSC := hidS (fun W => scan_any t W (by omega) (by omega))
  rw [← hx] at HSC
  have HB := hidS (fun W => implBytes_any x W hbod)
  have HPT := hidS hPT
  have HCA := hidS hCA
  have HCN := hidS hCN
  have hw0 : wordB 0 = true := rfl
  have HT := hidS ht
  have HLK := hidS hlk
  have HR := hidS (fun W => implRight_any p W hs)
  have HI := hidS (fun W => isError_any p W)
  have hP0 := hidS (blk_alloc (heap_newG w (.cells #[.int .i64 p.src, .int .i64 p.dst, .int .i64 p.proto, .int .i64 p.a, .int .i64 p.b, .int .i64 p.kind, .int .i64 p.flags, .int .i64 p.seq, .int .i64 p.ack, .string p.body] 35)) (.cells #[.int .i64 0, .int .i64 0, .int .i64 0, .int .i64 0, .int .i64 0, .int .i64 0, .int .i64 0, .int .i64 0, .int .i64 0, .string ⟨#[]⟩] 35))
  have hG0' : ((w.alloc (.cells #[.int .i64 p.src, .int .i64 p.dst, .int .i64 p.proto, .int .i64 p.a, .int .i64 p.b, .int .i64 p.kind, .int .i64 p.flags, .int .i64 p.seq, .int .i64 p.ack, .string p.body] 35)).alloc (.cells #[.int .i64 0, .int .i64 0, .int .i64 0, .int .i64 0, .int .i64 0, .int .i64 0, .int .i64 0, .int .i64 0, .int .i64 0, .string ⟨#[]⟩] 35)).heap[w.heap.size + 1]? = some (.cells #[.int .i64 0, .int .i64 0, .int .i64 0, .int .i64 0, .int .i64 0, .int .i64 0, .int .i64 0, .int .i64 0, .int .i64 0, .string ⟨#[]⟩] 35) := by
    have := heap_newG (w.alloc (.cells #[.int .i64 p.src, .int .i64 p.dst, .int .i64 p.proto, .int .i64 p.a, .int .i64 p.b, .int .i64 p.kind, .int .i64 p.flags, .int .i64 p.seq, .int .i64 p.ack, .string p.body] 35)) (.cells #[.int .i64 0, .int .i64 0, .int .i64 0, .int .i64 0, .int .i64 0, .int .i64 0, .int .i64 0, .int .i64 0, .int .i64 0, .string ⟨#[]⟩] 35)
    simpa using this
  have hG0 := hidS hG0'
  clear hG0'
  have hS0 := hidS (sent_allocE (sent_allocE hS (.cells #[.int .i64 p.src, .int .i64 p.dst, .int .i64 p.proto, .int .i64 p.a, .int .i64 p.b, .int .i64 p.kind, .int .i64 p.flags, .int .i64 p.seq, .int .i64 p.ack, .string p.body] 35)) (.cells #[.int .i64 0, .int .i64 0, .int .i64 0, .int .i64 0, .int .i64 0, .int .i64 0, .int .i64 0, .int .i64 0, .int .i64 0, .string ⟨#[]⟩] 35))
  have hL0 := hidS (((Below.refl w.heap.size w).alloc (Nat.le_refl _) (.cells #[.int .i64 p.src, .int .i64 p.dst, .int .i64 p.proto, .int .i64 p.a, .int .i64 p.b, .int .i64 p.kind, .int .i64 p.flags, .int .i64 p.seq, .int .i64 p.ack, .string p.body] 35)).alloc (by simp) (.cells #[.int .i64 0, .int .i64 0, .int .i64 0, .int .i64 0, .int .i64 0, .int .i64 0, .int .i64 0, .int .i64 0, .int .i64 0, .string ⟨#[]⟩] 35))
  have HSw := hidS hS
  clear hS hx hPT hCA hCN ht hlk
  go_enter Tryd.func40, Tryd.ntmps40
  go_wp2_with fail
  refine (HR.out _).mono ?_
  rintro _ w1 ⟨rfl, hb1⟩
  rw [hr]
  have hG1 := hidS (blk_later hG0.out hb1)
  have hP1 := blk_later hP0.out hb1
  have hS1 := hidS (hS0.out.later hb1)
  have hL1 := hidS (hL0.out.trans (hb1.mono hL0.out.size))
  clear hb1 hG0 hP0 hS0 hL0 HR
  have c0 := blk_cell hP1 0
  have c1 := blk_cell hP1 1
  have c2 := blk_cell hP1 2
  have c3 := blk_cell hP1 3
  have c4 := blk_cell hP1 4
  have c5 := blk_cell hP1 5
  have c6 := blk_cell hP1 6
  have c7 := blk_cell hP1 7
  have c8 := blk_cell hP1 8
  have c9 := blk_cell hP1 9
  simp at c0 c1 c2 c3 c4 c5 c6 c7 c8 c9
  have HP1 := hidS hP1
  clear hP1
  go_wp2_with fail
  refine (HI.out _).mono ?_
  rintro _ w2 ⟨rfl, hb2⟩
  rw [hi]
  have hG2 := hidS (blk_later hG1.out hb2)
  have hP2 := blk_later HP1.out hb2
  have hS2 := hidS (hS1.out.later hb2)
  have hL2 := hidS (hL1.out.trans (hb2.mono hL1.out.size))
  clear hb2 hG1 HP1 hS1 hL1 HI c0 c1 c2 c3 c4 c5 c6 c7 c8 c9
  have c9 := blk_cell hP2 9
  simp at c9
  clear hP2
  go_wp2_with fail
  rw [← HT.out]
  refine (HSC.out _).mono ?_
  rintro _ w3 ⟨rfl, hb3⟩
  have hG3 := hidS (blk_alloc (blk_later hG2.out hb3) (.cells #[.int .i64 x.src, .int .i64 x.dst, .int .i64 x.proto, .int .i64 x.a, .int .i64 x.b, .int .i64 x.kind, .int .i64 x.flags, .int .i64 x.seq, .int .i64 x.ack, .string x.body] 35))
  have hP3 := hidS (heap_newG w3 (.cells #[.int .i64 x.src, .int .i64 x.dst, .int .i64 x.proto, .int .i64 x.a, .int .i64 x.b, .int .i64 x.kind, .int .i64 x.flags, .int .i64 x.seq, .int .i64 x.ack, .string x.body] 35))
  have hS3 := hidS (sent_allocE (hS2.out.later hb3) (.cells #[.int .i64 x.src, .int .i64 x.dst, .int .i64 x.proto, .int .i64 x.a, .int .i64 x.b, .int .i64 x.kind, .int .i64 x.flags, .int .i64 x.seq, .int .i64 x.ack, .string x.body] 35))
  have hL3' := hL2.out.trans (hb3.mono hL2.out.size)
  have hL3 := hidS (hL3'.alloc hL3'.size (.cells #[.int .i64 x.src, .int .i64 x.dst, .int .i64 x.proto, .int .i64 x.a, .int .i64 x.b, .int .i64 x.kind, .int .i64 x.flags, .int .i64 x.seq, .int .i64 x.ack, .string x.body] 35))
  have hlt3 : w.heap.size + 1 < w3.heap.size := by have h0 := blk_lt hG2.out; have := hb3.size; omega
  clear hb3 hG2 hS2 hL2 hL3' HSC c9
  go_wp2_with fail
  refine (HB.out _).mono ?_
  rintro _ w4 ⟨rfl, hb4⟩
  have hG4 := hidS (blk_later hG3.out hb4)
  have hP4 := blk_later hP3.out hb4
  have hS4 := hidS (hS3.out.later hb4)
  have hL4 := hidS (hL3.out.trans (hb4.mono hL3.out.size))
  clear hb4 hG3 hP3 hS3 hL3 HB
  generalize bytesAns x = u at *
  have hu' : ¬ (u.size : Int) < 28 := by omega
  have hu2 : (28 : Int) ≤ (u.size : Int) := by omega
  have c0 := blk_cell hP4 0
  have c1 := blk_cell hP4 1
  have c2 := blk_cell hP4 2
  have c3 := blk_cell hP4 3
  have c4 := blk_cell hP4 4
  have c5 := blk_cell hP4 5
  have c6 := blk_cell hP4 6
  have c7 := blk_cell hP4 7
  have c8 := blk_cell hP4 8
  have c9 := blk_cell hP4 9
  simp at c0 c1 c2 c3 c4 c5 c6 c7 c8 c9
  have HP4 := hidS hP4
  clear hP4
  go_wp2_with fail
  refine (HPT.out _).mono ?_
  rintro _ w5 ⟨rfl, hb5⟩
  have hG5 := hidS (blk_later hG4.out hb5)
  have hP5 := hidS (blk_later HP4.out hb5)
  have hS5 := hidS (hS4.out.later hb5)
  have hL5 := hidS (hL4.out.trans (hb5.mono hL4.out.size))
  clear hb5 hG4 HP4 hS4 hL4 HPT c0 c1 c2 c3 c4 c5 c6 c7 c8 c9
  go_wp2_with fail
  refine (HCN.out _).mono ?_
  rintro _ w6 ⟨⟨v1, rfl, hown⟩, hb6⟩
  have hG6 := hidS (blk_later hG5.out hb6)
  have hP6 := hidS (blk_later hP5.out hb6)
  have hS6 := hidS (hS5.out.later hb6)
  have hL6 := hidS (hL5.out.trans (hb6.mono hL5.out.size))
  have HO6 := hidS hown
  have hB5 : w.heap.size ≤ w5.heap.size := hL5.out.size
  have hlt5 : w3.heap.size < w5.heap.size := blk_lt hP5.out
  have h56 := hb6.size
  clear hb6 hG5 hP5 hS5 hL5 HCN hown
  go_wp2_with fail
  refine (HCA.out _).mono ?_
  rintro _ w7 ⟨rfl, hb7⟩
  have hG7 := hidS (blk_later hG6.out hb7)
  have hP7 := hidS (blk_later hP6.out hb7)
  have hS7 := hidS (hS6.out.later hb7)
  have hL7 := hidS (hL6.out.trans (hb7.mono hL6.out.size))
  have HO7 := hidS (own_later HO6.out hb7)
  have h57 : w5.heap.size ≤ w7.heap.size := by have := hb7.size; omega
  clear hb7 hG6 hP6 hS6 hL6 HCA HO6 h56
  obtain ⟨i0, hi0, hz0, hz1, hz2⟩ := info_parts Tryd.infoInt
  have HI0 := hidS hi0
  go_wp2_with (at_builtin; refine wpList_append_own _ rfl _ _ 99 rfl w5.heap.size 3 i0 (.int .i64 0) 1 8 Tryd.underlying99 hi0 hz0 hz1 hz2 rfl (by decide) _ _ _ rfl (HO7.out.alloc _) ⟨w7.heap.size, 0, none⟩ 2 2 [.int .i64 10, .int .i64 (k : Int)] rfl rfl (cells_two_new _ _ _ _) ?c2 ?c3 ?c4 ?c5 ?_)
  case c2 => first | (intro x hx; simp at hx; rcases hx with rfl | rfl <;> rfl) | rfl
  case c3 => unfold maxLen; omega
  case c4 => omega
  case c5 => first | omega | (simp; omega)
  intro v' w8 hown' hgrow _
  have hown2 : w8.ownsRow w5.heap.size 3 1 v' (ls ++ [10, k]).length (intsV (ls ++ [10, k])) := by rw [intsV_app, List.length_append]; exact hown'
  have hL8 := hidS (below_appI hB5 hL7.out hL7.out.size HO7.out hgrow)
  have hbw : Below w5.heap.size w7 w8 := below_appI (Nat.le_refl _) (Below.refl _ _) h57 HO7.out hgrow
  have hG8 := hidS ((hbw.block _ (by omega)).trans hG7.out)
  have hP8 := hidS ((hbw.block _ (by omega)).trans hP7.out)
  clear hown' hgrow HO7 hbw hG7 hP7 hS7 hL7 HI0 hi0 hz0 hz1 hz2
  have hll : (ls ++ [10, k]).length = ls.length + 2 := by simp
  obtain ⟨g, cap, hv, hgl, hcl⟩ : ∃ g cap, v' = .slice (some ⟨g, 0, none⟩) (ls ++ [10, k]).length cap ∧ g < w8.heap.size ∧ ∀ j, (hj : j < (ls ++ [10, k]).length) → w8.cell? ⟨g, j, none⟩ = some (.int .i64 ((ls ++ [10, k])[j] : Int)) := by
    have h0 := hown2
    rcases hown2.2 with ⟨_, hn⟩ | ⟨g, cap, cur, e1, e2, e3, e4⟩
    · omega
    · subst e1
      refine ⟨g, cap, rfl, (Array.getElem?_eq_some_iff.1 e3).1, fun j hj => ?_⟩
      rw [h0.cellAt j (by omega)]
      exact intsV_get _ j hj
  have HCL := hidS hcl
  have HLS : Hid (∀ j ∈ ls ++ [10, k], j ≤ 100000) := fun j hj => by
    rcases List.mem_append.1 hj with h | h
    · have := HLK.out j h; omega
    · simp at h; omega
  subst hv
  have hlb : (ls ++ [10, k]).length ≤ 4 := by omega
  clear hown2 hcl HLK hll
  have huz : (u.extract 0 28).size = 28 := by rw [ByteArray.size_extract]; omega
  generalize ls ++ [10, k] = ks at *
  go_wp2_with fail
  refine (withWord_x (u.extract 0 28) 0 g cap ks _ hw0 HCL.out hgl (by omega) HLS.out (by omega)).mono ?_
  rintro _ w9 ⟨rfl, hb9⟩
  generalize u.extract 0 28 = uu at *
  have hG10 := hidS (blk_later hG8.out hb9)
  have hP10 := hidS (blk_later hP8.out hb9)
  have hL10 := hidS (hL8.out.trans (hb9.mono hL8.out.size))
  have HC10 : Hid (∀ j, (hj : j < ks.length) → w9.cell? ⟨g, j, none⟩ = some (.int .i64 (ks[j] : Int))) := fun j hj => (hb9.cell (p := ⟨g, j, none⟩) hgl).trans (HCL.out j hj)
  have hg9 : g < w9.heap.size := Nat.lt_of_lt_of_le hgl hb9.size
  clear hb9 hG8 hP8 hL8 HCL hgl
  go_wp2_with fail
  refine (withWord_x t 0 g cap ks _ hw0 HC10.out hg9 (by omega) HLS.out (by omega)).mono ?_
  rintro _ w11 ⟨rfl, hb11⟩
  have hG9 := blk_later hG10.out hb11
  have hP11 := blk_later hP10.out hb11
  have hL9 := hidS (hL10.out.trans (hb11.mono hL10.out.size))
  have hS9 := hidS (HSw.out.later hL9.out)
  clear hb11 hG10 hP10 hL10 HC10 hg9 HLS
  have d0 := blk_cell hP11 0
  have d1 := blk_cell hP11 1
  have d2 := blk_cell hP11 2
  have d3 := blk_cell hP11 3
  have d4 := blk_cell hP11 4
  have d5 := blk_cell hP11 5
  have d6 := blk_cell hP11 6
  have d7 := blk_cell hP11 7
  have d8 := blk_cell hP11 8
  have d9 := blk_cell hP11 9
  simp at d0 d1 d2 d3 d4 d5 d6 d7 d8 d9
  have hne3 : w.heap.size + 1 ≠ w3.heap.size := by omega
  have cg := blk_cell hG9
  have fg := blk_free hG9
  clear hS9 hG9 hP11
  go_wp2_with fail
  refine bodyPost_ret (v := .tuple #[.agg #[.int .i64 x.src, .int .i64 x.dst, .int .i64 x.proto, .int .i64 x.a, .int .i64 x.b, .int .i64 x.kind, .int .i64 x.flags, .int .i64 x.seq, .int .i64 x.ack, .string x.body], .nilIface]) (by simp [results, Tryd.results40, go_sem, *]) rfl ⟨rfl, ?_⟩
  repeat (refine below_at ?_ (by omega))
  exact hL9.out

set_option maxHeartbeats 1000000 in
theorem innerI_syntax {aF aS aY aM : Addr} (p x : Pk) (t : ByteArray) (v : Value) (k : Nat) (ls : List Nat) (w : World) (hs : p.body.size ≤ maxLen) (hS : Sent aF aS aY aM w) (hr : rightB p = true) (hi : (p.proto == 1 && p.kind == 3) = true) (h28 : 28 ≤ p.body.size) (ht : t = p.body.extract 0 28) (htz : t.size = 28) (hx : x = scanPk t) (hk : k ≤ 100) (hls : ls.length ≤ 2) (hlk : ∀ j ∈ ls, j ≤ 100) (hb : (bytesAns x).size ≤ 8000) (hbod : x.body.size ≤ maxLen)
    (hPT : ∀ W, Calls Tryd.prog 62 #[.agg #[.int .i64 x.src, .int .i64 x.dst, .int .i64 x.proto, .int .i64 x.a, .int .i64 x.b, .int .i64 x.kind, .int .i64 x.flags, .int .i64 x.seq, .int .i64 x.ack, .string x.body]] W fun e w' => e = .returned v ∧ Below W.heap.size W w')
    (hCN : ∀ W, Calls Tryd.prog 63 #[v] W fun e w' => Counts W.heap.size ls e w' ∧ Below W.heap.size W w')
    (hCA : ∀ W, Calls Tryd.prog 64 #[v] W fun e w' => e = .returned (.int .i64 (k : Int)) ∧ Below W.heap.size W w')
    (hu : 28 ≤ (bytesAns x).size) (hbl : (putAll (twoT 0).data.toList ((bytesAns x).extract 0 28).data.toList (ls ++ [10, k]) == putAll (twoT 0).data.toList t.data.toList (ls ++ [10, k])) = false) :
    Calls Tryd.prog 40 #[.agg #[.int .i64 p.src, .int .i64 p.dst, .int .i64 p.proto, .int .i64 p.a, .int .i64 p.b, .int .i64 p.kind, .int .i64 p.flags, .int .i64 p.seq, .int .i64 p.ack, .string p.body]] w fun e w' => e = .returned (.tuple #[.agg #[.int .i64 zeroPk.src, .int .i64 zeroPk.dst, .int .i64 zeroPk.proto, .int .i64 zeroPk.a, .int .i64 zeroPk.b, .int .i64 zeroPk.kind, .int .i64 zeroPk.flags, .int .i64 zeroPk.seq, .int .i64 zeroPk.ack, .string zeroPk.body], .iface 141 (.pointer (some aY))]) ∧ Below w.heap.size w w' := by
  have hlt0 : 2 < w.heap.size := World.block_lt_of_cell? w _ hS.cY
  have h28' : (28 : Int) ≤ (p.body.size : Int) := by omega
  have HSC := hidS (fun W => scan_any t W (by omega) (by omega))
  rw [← hx] at HSC
  have HB := hidS (fun W => implBytes_any x W hbod)
  have HPT := hidS hPT
  have HCA := hidS hCA
  have HCN := hidS hCN
  have hw0 : wordB 0 = true := rfl
  have HT := hidS ht
  have HLK := hidS hlk
  have HR := hidS (fun W => implRight_any p W hs)
  have HI := hidS (fun W => isError_any p W)
  have hP0 := hidS (blk_alloc (heap_newG w (.cells #[.int .i64 p.src, .int .i64 p.dst, .int .i64 p.proto, .int .i64 p.a, .int .i64 p.b, .int .i64 p.kind, .int .i64 p.flags, .int .i64 p.seq, .int .i64 p.ack, .string p.body] 35)) (.cells #[.int .i64 0, .int .i64 0, .int .i64 0, .int .i64 0, .int .i64 0, .int .i64 0, .int .i64 0, .int .i64 0, .int .i64 0, .string ⟨#[]⟩] 35))
  have hG0' : ((w.alloc (.cells #[.int .i64 p.src, .int .i64 p.dst, .int .i64 p.proto, .int .i64 p.a, .int .i64 p.b, .int .i64 p.kind, .int .i64 p.flags, .int .i64 p.seq, .int .i64 p.ack, .string p.body] 35)).alloc (.cells #[.int .i64 0, .int .i64 0, .int .i64 0, .int .i64 0, .int .i64 0, .int .i64 0, .int .i64 0, .int .i64 0, .int .i64 0, .string ⟨#[]⟩] 35)).heap[w.heap.size + 1]? = some (.cells #[.int .i64 0, .int .i64 0, .int .i64 0, .int .i64 0, .int .i64 0, .int .i64 0, .int .i64 0, .int .i64 0, .int .i64 0, .string ⟨#[]⟩] 35) := by
    have := heap_newG (w.alloc (.cells #[.int .i64 p.src, .int .i64 p.dst, .int .i64 p.proto, .int .i64 p.a, .int .i64 p.b, .int .i64 p.kind, .int .i64 p.flags, .int .i64 p.seq, .int .i64 p.ack, .string p.body] 35)) (.cells #[.int .i64 0, .int .i64 0, .int .i64 0, .int .i64 0, .int .i64 0, .int .i64 0, .int .i64 0, .int .i64 0, .int .i64 0, .string ⟨#[]⟩] 35)
    simpa using this
  have hG0 := hidS hG0'
  clear hG0'
  have hS0 := hidS (sent_allocE (sent_allocE hS (.cells #[.int .i64 p.src, .int .i64 p.dst, .int .i64 p.proto, .int .i64 p.a, .int .i64 p.b, .int .i64 p.kind, .int .i64 p.flags, .int .i64 p.seq, .int .i64 p.ack, .string p.body] 35)) (.cells #[.int .i64 0, .int .i64 0, .int .i64 0, .int .i64 0, .int .i64 0, .int .i64 0, .int .i64 0, .int .i64 0, .int .i64 0, .string ⟨#[]⟩] 35))
  have hL0 := hidS (((Below.refl w.heap.size w).alloc (Nat.le_refl _) (.cells #[.int .i64 p.src, .int .i64 p.dst, .int .i64 p.proto, .int .i64 p.a, .int .i64 p.b, .int .i64 p.kind, .int .i64 p.flags, .int .i64 p.seq, .int .i64 p.ack, .string p.body] 35)).alloc (by simp) (.cells #[.int .i64 0, .int .i64 0, .int .i64 0, .int .i64 0, .int .i64 0, .int .i64 0, .int .i64 0, .int .i64 0, .int .i64 0, .string ⟨#[]⟩] 35))
  have HSw := hidS hS
  clear hS hx hPT hCA hCN ht hlk
  go_enter Tryd.func40, Tryd.ntmps40
  go_wp2_with fail
  refine (HR.out _).mono ?_
  rintro _ w1 ⟨rfl, hb1⟩
  rw [hr]
  have hG1 := hidS (blk_later hG0.out hb1)
  have hP1 := blk_later hP0.out hb1
  have hS1 := hidS (hS0.out.later hb1)
  have hL1 := hidS (hL0.out.trans (hb1.mono hL0.out.size))
  clear hb1 hG0 hP0 hS0 hL0 HR
  have c0 := blk_cell hP1 0
  have c1 := blk_cell hP1 1
  have c2 := blk_cell hP1 2
  have c3 := blk_cell hP1 3
  have c4 := blk_cell hP1 4
  have c5 := blk_cell hP1 5
  have c6 := blk_cell hP1 6
  have c7 := blk_cell hP1 7
  have c8 := blk_cell hP1 8
  have c9 := blk_cell hP1 9
  simp at c0 c1 c2 c3 c4 c5 c6 c7 c8 c9
  have HP1 := hidS hP1
  clear hP1
  go_wp2_with fail
  refine (HI.out _).mono ?_
  rintro _ w2 ⟨rfl, hb2⟩
  rw [hi]
  have hG2 := hidS (blk_later hG1.out hb2)
  have hP2 := blk_later HP1.out hb2
  have hS2 := hidS (hS1.out.later hb2)
  have hL2 := hidS (hL1.out.trans (hb2.mono hL1.out.size))
  clear hb2 hG1 HP1 hS1 hL1 HI c0 c1 c2 c3 c4 c5 c6 c7 c8 c9
  have c9 := blk_cell hP2 9
  simp at c9
  clear hP2
  go_wp2_with fail
  rw [← HT.out]
  refine (HSC.out _).mono ?_
  rintro _ w3 ⟨rfl, hb3⟩
  have hG3 := hidS (blk_alloc (blk_later hG2.out hb3) (.cells #[.int .i64 x.src, .int .i64 x.dst, .int .i64 x.proto, .int .i64 x.a, .int .i64 x.b, .int .i64 x.kind, .int .i64 x.flags, .int .i64 x.seq, .int .i64 x.ack, .string x.body] 35))
  have hP3 := hidS (heap_newG w3 (.cells #[.int .i64 x.src, .int .i64 x.dst, .int .i64 x.proto, .int .i64 x.a, .int .i64 x.b, .int .i64 x.kind, .int .i64 x.flags, .int .i64 x.seq, .int .i64 x.ack, .string x.body] 35))
  have hS3 := hidS (sent_allocE (hS2.out.later hb3) (.cells #[.int .i64 x.src, .int .i64 x.dst, .int .i64 x.proto, .int .i64 x.a, .int .i64 x.b, .int .i64 x.kind, .int .i64 x.flags, .int .i64 x.seq, .int .i64 x.ack, .string x.body] 35))
  have hL3' := hL2.out.trans (hb3.mono hL2.out.size)
  have hL3 := hidS (hL3'.alloc hL3'.size (.cells #[.int .i64 x.src, .int .i64 x.dst, .int .i64 x.proto, .int .i64 x.a, .int .i64 x.b, .int .i64 x.kind, .int .i64 x.flags, .int .i64 x.seq, .int .i64 x.ack, .string x.body] 35))
  have hlt3 : w.heap.size + 1 < w3.heap.size := by have h0 := blk_lt hG2.out; have := hb3.size; omega
  clear hb3 hG2 hS2 hL2 hL3' HSC c9
  go_wp2_with fail
  refine (HB.out _).mono ?_
  rintro _ w4 ⟨rfl, hb4⟩
  have hG4 := hidS (blk_later hG3.out hb4)
  have hP4 := blk_later hP3.out hb4
  have hS4 := hidS (hS3.out.later hb4)
  have hL4 := hidS (hL3.out.trans (hb4.mono hL3.out.size))
  clear hb4 hG3 hP3 hS3 hL3 HB
  generalize bytesAns x = u at *
  have hu' : ¬ (u.size : Int) < 28 := by omega
  have hu2 : (28 : Int) ≤ (u.size : Int) := by omega
  have c0 := blk_cell hP4 0
  have c1 := blk_cell hP4 1
  have c2 := blk_cell hP4 2
  have c3 := blk_cell hP4 3
  have c4 := blk_cell hP4 4
  have c5 := blk_cell hP4 5
  have c6 := blk_cell hP4 6
  have c7 := blk_cell hP4 7
  have c8 := blk_cell hP4 8
  have c9 := blk_cell hP4 9
  simp at c0 c1 c2 c3 c4 c5 c6 c7 c8 c9
  have HP4 := hidS hP4
  clear hP4
  go_wp2_with fail
  refine (HPT.out _).mono ?_
  rintro _ w5 ⟨rfl, hb5⟩
  have hG5 := hidS (blk_later hG4.out hb5)
  have hP5 := hidS (blk_later HP4.out hb5)
  have hS5 := hidS (hS4.out.later hb5)
  have hL5 := hidS (hL4.out.trans (hb5.mono hL4.out.size))
  clear hb5 hG4 HP4 hS4 hL4 HPT c0 c1 c2 c3 c4 c5 c6 c7 c8 c9
  go_wp2_with fail
  refine (HCN.out _).mono ?_
  rintro _ w6 ⟨⟨v1, rfl, hown⟩, hb6⟩
  have hG6 := hidS (blk_later hG5.out hb6)
  have hP6 := hidS (blk_later hP5.out hb6)
  have hS6 := hidS (hS5.out.later hb6)
  have hL6 := hidS (hL5.out.trans (hb6.mono hL5.out.size))
  have HO6 := hidS hown
  have hB5 : w.heap.size ≤ w5.heap.size := hL5.out.size
  have hlt5 : w3.heap.size < w5.heap.size := blk_lt hP5.out
  have h56 := hb6.size
  clear hb6 hG5 hP5 hS5 hL5 HCN hown
  go_wp2_with fail
  refine (HCA.out _).mono ?_
  rintro _ w7 ⟨rfl, hb7⟩
  have hG7 := hidS (blk_later hG6.out hb7)
  have hP7 := hidS (blk_later hP6.out hb7)
  have hS7 := hidS (hS6.out.later hb7)
  have hL7 := hidS (hL6.out.trans (hb7.mono hL6.out.size))
  have HO7 := hidS (own_later HO6.out hb7)
  have h57 : w5.heap.size ≤ w7.heap.size := by have := hb7.size; omega
  clear hb7 hG6 hP6 hS6 hL6 HCA HO6 h56
  obtain ⟨i0, hi0, hz0, hz1, hz2⟩ := info_parts Tryd.infoInt
  have HI0 := hidS hi0
  go_wp2_with (at_builtin; refine wpList_append_own _ rfl _ _ 99 rfl w5.heap.size 3 i0 (.int .i64 0) 1 8 Tryd.underlying99 hi0 hz0 hz1 hz2 rfl (by decide) _ _ _ rfl (HO7.out.alloc _) ⟨w7.heap.size, 0, none⟩ 2 2 [.int .i64 10, .int .i64 (k : Int)] rfl rfl (cells_two_new _ _ _ _) ?c2 ?c3 ?c4 ?c5 ?_)
  case c2 => first | (intro x hx; simp at hx; rcases hx with rfl | rfl <;> rfl) | rfl
  case c3 => unfold maxLen; omega
  case c4 => omega
  case c5 => first | omega | (simp; omega)
  intro v' w8 hown' hgrow _
  have hown2 : w8.ownsRow w5.heap.size 3 1 v' (ls ++ [10, k]).length (intsV (ls ++ [10, k])) := by rw [intsV_app, List.length_append]; exact hown'
  have hL8 := hidS (below_appI hB5 hL7.out hL7.out.size HO7.out hgrow)
  have hbw : Below w5.heap.size w7 w8 := below_appI (Nat.le_refl _) (Below.refl _ _) h57 HO7.out hgrow
  have hG8 := hidS ((hbw.block _ (by omega)).trans hG7.out)
  have hP8 := hidS ((hbw.block _ (by omega)).trans hP7.out)
  clear hown' hgrow HO7 hbw hG7 hP7 hS7 hL7 HI0 hi0 hz0 hz1 hz2
  have hll : (ls ++ [10, k]).length = ls.length + 2 := by simp
  obtain ⟨g, cap, hv, hgl, hcl⟩ : ∃ g cap, v' = .slice (some ⟨g, 0, none⟩) (ls ++ [10, k]).length cap ∧ g < w8.heap.size ∧ ∀ j, (hj : j < (ls ++ [10, k]).length) → w8.cell? ⟨g, j, none⟩ = some (.int .i64 ((ls ++ [10, k])[j] : Int)) := by
    have h0 := hown2
    rcases hown2.2 with ⟨_, hn⟩ | ⟨g, cap, cur, e1, e2, e3, e4⟩
    · omega
    · subst e1
      refine ⟨g, cap, rfl, (Array.getElem?_eq_some_iff.1 e3).1, fun j hj => ?_⟩
      rw [h0.cellAt j (by omega)]
      exact intsV_get _ j hj
  have HCL := hidS hcl
  have HLS : Hid (∀ j ∈ ls ++ [10, k], j ≤ 100000) := fun j hj => by
    rcases List.mem_append.1 hj with h | h
    · have := HLK.out j h; omega
    · simp at h; omega
  subst hv
  have hlb : (ls ++ [10, k]).length ≤ 4 := by omega
  clear hown2 hcl HLK hll
  have huz : (u.extract 0 28).size = 28 := by rw [ByteArray.size_extract]; omega
  generalize ls ++ [10, k] = ks at *
  go_wp2_with fail
  refine (withWord_x (u.extract 0 28) 0 g cap ks _ hw0 HCL.out hgl (by omega) HLS.out (by omega)).mono ?_
  rintro _ w9 ⟨rfl, hb9⟩
  generalize u.extract 0 28 = uu at *
  have hG10 := hidS (blk_later hG8.out hb9)
  have hP10 := hidS (blk_later hP8.out hb9)
  have hL10 := hidS (hL8.out.trans (hb9.mono hL8.out.size))
  have HC10 : Hid (∀ j, (hj : j < ks.length) → w9.cell? ⟨g, j, none⟩ = some (.int .i64 (ks[j] : Int))) := fun j hj => (hb9.cell (p := ⟨g, j, none⟩) hgl).trans (HCL.out j hj)
  have hg9 : g < w9.heap.size := Nat.lt_of_lt_of_le hgl hb9.size
  clear hb9 hG8 hP8 hL8 HCL hgl
  go_wp2_with fail
  refine (withWord_x t 0 g cap ks _ hw0 HC10.out hg9 (by omega) HLS.out (by omega)).mono ?_
  rintro _ w11 ⟨rfl, hb11⟩
  have hG9 := blk_later hG10.out hb11
  have hP11 := blk_later hP10.out hb11
  have hL9 := hidS (hL10.out.trans (hb11.mono hL10.out.size))
  have hS9 := hidS (HSw.out.later hL9.out)
  clear hb11 hG10 hP10 hL10 HC10 hg9 HLS
  have hg := hS9.out.cY
  have hne : w.heap.size + 1 ≠ 2 := by omega
  have cg := blk_cell hG9
  have fg := blk_free hG9
  clear hS9 hG9
  go_wp2_with fail
  go_region
  go_wp2_with fail
  refine bodyPost_ret (v := .tuple #[.agg #[.int .i64 zeroPk.src, .int .i64 zeroPk.dst, .int .i64 zeroPk.proto, .int .i64 zeroPk.a, .int .i64 zeroPk.b, .int .i64 zeroPk.kind, .int .i64 zeroPk.flags, .int .i64 zeroPk.seq, .int .i64 zeroPk.ack, .string zeroPk.body], .iface 141 (.pointer (some aY))]) (by simp [results, Tryd.results40, go_sem, zeroPk, *]) rfl ⟨rfl, ?_⟩
  refine Below.drew ?_
  repeat (refine below_at ?_ (by omega))
  exact hL9.out
end Go.Proofs.YtokjhfgbnpdfnaaDoor
