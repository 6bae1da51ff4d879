/- Proved here: laws.FnTuple answers true, whatever is drawn; all old memory stays (condition: the bytes that are drawn from can be read, at most 2^20 each; the sentinels and the library's table lie where they are laid). -/
import Derived.Test.YtedknnkdnccfmaaGreatDoorTpDraws2
import Derived.Test.YtedknnkdnccfmaaGreatDoorTpDraws3
import Derived.Test.YtedknnkdnccfmaaGreatDoorAll29
import Derived.Test.YtedknnkdnccfmaaGreatDoorAll28
import Derived.Test.YtedknnkdnccfmaaGreatDoorAll30
import Derived.Test.YtedknnkdnccfmaaGreatDoorAll33
import Derived.Test.YtedknnkdnccfmaaGreatDoorAll35
import Derived.Test.YtedknnkdnccfmaaGreatDoorInvI
import Derived.Test.YtedknnkdnccfmaaGreatDoorLessI
import Derived.Test.YtedknnkdnccfmaaGreatDoorLessSpec
import Derived.Test.YtedknnkdnccfmaaGreatDoorTextI
import Derived.Test.YtedknnkdnccfmaaGreatDoorAll42
import Derived.Test.YtedknnkdnccfmaaGreatDoorTupOfI
import Derived.Test.YtedknnkdnccfmaaGreatDoorTupOfSpec
import Derived.Test.YtedknnkdnccfmaaGreatDoorTWithI2
import Derived.Test.YtedknnkdnccfmaaGreatDoorTWithSpec
namespace Go.Proofs.YtedknnkdnccfmaaGreatDoor
open Go.ChangeShapes Go.WideShapes Go.ChangeAt Go.RowKit
set_option linter.unusedVariables false
set_option linter.unusedSimpArgs false
set_option maxRecDepth 100000

theorem small_102 {n : Nat} (h : n ≤ 102) : n ≤ maxLen := by unfold maxLen; omega
theorem withP_body (p : Pk) (t : Tp) (h : p.body.size ≤ 101) : (withP p t).body.size ≤ 101 := by
  unfold withP
  split
  · exact h
  · show 0 ≤ 101; omega
theorem with_ok {p : Pk} {t : Tp} (h : withC p t = 0) : ofAns (withP p t) = t ∧ withP (withP p t) (ofAns p) = p ∧ withC (withP p t) (ofAns p) = 0 := by
  unfold withC at h
  by_cases hb : withB p t = true
  · obtain ⟨h1, h2⟩ := with_back hb
    have e : withP p t = withT p t := if_pos hb
    rw [e]
    refine ⟨with_has hb, ?_, ?_⟩
    · unfold withP; rw [if_pos h1, h2]
    · unfold withC; rw [if_pos h1]
  · rw [if_neg hb] at h; omega
set_option maxHeartbeats 8000000 in
theorem fnTuple_in (a0 : Option Addr) (len0 cap0 : Nat) (a1 : Option Addr) (len1 cap1 : Nat) (w : World) (h0 : RowAt w.heap.size a0 len0 w) (h1 : RowAt w.heap.size a1 len1 w) (hl0 : len0 ≤ 1048576) (hl1 : len1 ≤ 1048576) (hX : (∃ aF aS aY aM, Sent aF aS aY aM w) ∧ Lib.TabIs Tryz.prog w "internal/strconv.uint64pow10" .u64 Lib.pow10Tab) :
    Calls Tryz.prog 4 #[.slice a0 len0 cap0, .slice a1 len1 cap1] w fun e w' => e = .returned (.bool true) ∧ Below w.heap.size w w' := by
  obtain ⟨⟨aF, aS, aY, aM, hS⟩, hK⟩ := hX
  have g0 : ¬ ((1048576 : Int) < (len0 : Int)) := by omega
  have g1 : ¬ ((1048576 : Int) < (len1 : Int)) := by omega
  have HS := hidS hS
  have HK := hidS hK
  have H0 := hidS h0
  have H1 := hidS h1
  clear hS h0 h1 hK
  go_enter Tryz.func4, Tryz.ntmps4
  go_wp2_with fail
  refine (drawInvert_any a0 len0 cap0 _ H0.out hl0).mono ?_
  rintro _ w1 ⟨⟨t, rfl⟩, hb1⟩
  have hL2 := hidS (hb1.alloc hb1.size (.cells #[.int .i64 t.proto, .int .i64 t.src, .int .i64 t.sport, .int .i64 t.dst, .int .i64 t.dport, .int .i64 t.kind] 40))
  have hT2 := hidS (heap_newG w1 (.cells #[.int .i64 t.proto, .int .i64 t.src, .int .i64 t.sport, .int .i64 t.dst, .int .i64 t.dport, .int .i64 t.kind] 40))
  clear hb1
  go_upto_region 4 with fail
  generalize w1.alloc (.cells #[.int .i64 t.proto, .int .i64 t.src, .int .i64 t.sport, .int .i64 t.dst, .int .i64 t.dport, .int .i64 t.kind] 40) = w2 at hL2 hT2 ⊢
  generalize w1.heap.size = gt at *
  have hl9 := hT2.out
  have x0 := blk_cell hl9 0
  have x1 := blk_cell hl9 1
  have x2 := blk_cell hl9 2
  have x3 := blk_cell hl9 3
  have x4 := blk_cell hl9 4
  have x5 := blk_cell hl9 5
  simp at x0 x1 x2 x3 x4 x5
  clear hl9
  have HVi := hidS (fun W => implInv_any t W)
  have HVs := hidS (fun W => specInv_any t W)
  have HRi := hidS (fun W => implTRight_any t W)
  have HRs := hidS (fun W => specTRight_any t W)
  have HTi := hidS (fun W (h : Below w.heap.size w W) => implText_any t W (tab_later HK.out h))
  have HTs := hidS (fun W => specText_any t W)
  have HVV := hidS (fun W => implInv_any (invAns t) W)
  have HVT := hidS (fun W (h : Below w.heap.size w W) => implText_any (invAns t) W (tab_later HK.out h))
  have HV2 := hidS (fun h => invAns_twice (t := t) h)
  have HV3 := hidS (fun h => invAns_right (t := t) h)
  generalize invAns t = V at *
  go_wp2_with fail
  refine (HVi.out w2).mono ?_
  rintro _ w3 ⟨rfl, hb3⟩
  clear x0 x1 x2 x3 x4 x5
  have hL3 := hidS (hL2.out.trans (hb3.mono hL2.out.size))
  have hL4 := hidS (hL3.out.alloc hL3.out.size (.cells #[.int .i64 V.proto, .int .i64 V.src, .int .i64 V.sport, .int .i64 V.dst, .int .i64 V.dport, .int .i64 V.kind] 40))
  have hT4 := hidS (blk_alloc (blk_later hT2.out hb3) (.cells #[.int .i64 V.proto, .int .i64 V.src, .int .i64 V.sport, .int .i64 V.dst, .int .i64 V.dport, .int .i64 V.kind] 40))
  have hV4 := hidS (heap_newG w3 (.cells #[.int .i64 V.proto, .int .i64 V.src, .int .i64 V.sport, .int .i64 V.dst, .int .i64 V.dport, .int .i64 V.kind] 40))
  clear hb3 hL2 hL3 hT2 HVi
  go_upto_region 5 with fail
  generalize w3.alloc (.cells #[.int .i64 V.proto, .int .i64 V.src, .int .i64 V.sport, .int .i64 V.dst, .int .i64 V.dport, .int .i64 V.kind] 40) = w4 at hL4 hT4 hV4 ⊢
  generalize w3.heap.size = gv at *
  go_wp2_with fail
  refine (drawTupleLess_any a1 len1 cap1 w4 (H1.out.later hL4.out) hl1).mono ?_
  rintro _ w5 ⟨⟨ta, tb, rfl⟩, hb5⟩
  have hL5 := hidS (hL4.out.trans (hb5.mono hL4.out.size))
  have hL6 := hidS (hL5.out.alloc hL5.out.size (.cells #[.int .i64 ta.proto, .int .i64 ta.src, .int .i64 ta.sport, .int .i64 ta.dst, .int .i64 ta.dport, .int .i64 ta.kind] 40))
  have hT6 := hidS (blk_alloc (blk_later hT4.out hb5) (.cells #[.int .i64 ta.proto, .int .i64 ta.src, .int .i64 ta.sport, .int .i64 ta.dst, .int .i64 ta.dport, .int .i64 ta.kind] 40))
  have hV6 := hidS (blk_alloc (blk_later hV4.out hb5) (.cells #[.int .i64 ta.proto, .int .i64 ta.src, .int .i64 ta.sport, .int .i64 ta.dst, .int .i64 ta.dport, .int .i64 ta.kind] 40))
  have hA6 := hidS (heap_newG w5 (.cells #[.int .i64 ta.proto, .int .i64 ta.src, .int .i64 ta.sport, .int .i64 ta.dst, .int .i64 ta.dport, .int .i64 ta.kind] 40))
  have hL7 := hidS (hL6.out.alloc hL6.out.size (.cells #[.int .i64 tb.proto, .int .i64 tb.src, .int .i64 tb.sport, .int .i64 tb.dst, .int .i64 tb.dport, .int .i64 tb.kind] 40))
  have hT7 := hidS (blk_alloc hT6.out (.cells #[.int .i64 tb.proto, .int .i64 tb.src, .int .i64 tb.sport, .int .i64 tb.dst, .int .i64 tb.dport, .int .i64 tb.kind] 40))
  have hV7 := hidS (blk_alloc hV6.out (.cells #[.int .i64 tb.proto, .int .i64 tb.src, .int .i64 tb.sport, .int .i64 tb.dst, .int .i64 tb.dport, .int .i64 tb.kind] 40))
  have hA7 := hidS (blk_alloc hA6.out (.cells #[.int .i64 tb.proto, .int .i64 tb.src, .int .i64 tb.sport, .int .i64 tb.dst, .int .i64 tb.dport, .int .i64 tb.kind] 40))
  have hB7 : Hid (((w5.alloc (.cells #[.int .i64 ta.proto, .int .i64 ta.src, .int .i64 ta.sport, .int .i64 ta.dst, .int .i64 ta.dport, .int .i64 ta.kind] 40)).alloc (.cells #[.int .i64 tb.proto, .int .i64 tb.src, .int .i64 tb.sport, .int .i64 tb.dst, .int .i64 tb.dport, .int .i64 tb.kind] 40)).heap[w5.heap.size + 1]? = some (.cells #[.int .i64 tb.proto, .int .i64 tb.src, .int .i64 tb.sport, .int .i64 tb.dst, .int .i64 tb.dport, .int .i64 tb.kind] 40)) := by
    show _ = _
    have := heap_newG (w5.alloc (.cells #[.int .i64 ta.proto, .int .i64 ta.src, .int .i64 ta.sport, .int .i64 ta.dst, .int .i64 ta.dport, .int .i64 ta.kind] 40)) (.cells #[.int .i64 tb.proto, .int .i64 tb.src, .int .i64 tb.sport, .int .i64 tb.dst, .int .i64 tb.dport, .int .i64 tb.kind] 40)
    simpa using this
  clear hb5 hL4 hT4 hV4 hL5 hL6 hT6 hV6 hA6
  go_upto_region 6 with fail
  generalize (w5.alloc (.cells #[.int .i64 ta.proto, .int .i64 ta.src, .int .i64 ta.sport, .int .i64 ta.dst, .int .i64 ta.dport, .int .i64 ta.kind] 40)).alloc (.cells #[.int .i64 tb.proto, .int .i64 tb.src, .int .i64 tb.sport, .int .i64 tb.dst, .int .i64 tb.dport, .int .i64 tb.kind] 40) = w7 at hL7 hT7 hV7 hA7 hB7 ⊢
  generalize w5.heap.size + 1 = gb at *
  generalize w5.heap.size = ga at *
  go_wp2_with fail
  refine (drawWithTuple_any a1 len1 cap1 w7 (H1.out.later hL7.out) hl1).mono ?_
  rintro _ w8 ⟨⟨p, tw, rfl, hp⟩, hb8⟩
  have HPz := hidS hp
  clear hp
  have hL8 := hidS (hL7.out.trans (hb8.mono hL7.out.size))
  have hT8 := hidS (blk_later hT7.out hb8)
  have hV8 := hidS (blk_later hV7.out hb8)
  have hA8 := hidS (blk_later hA7.out hb8)
  have hB8 := hidS (blk_later hB7.out hb8)
  clear hb8 hL7 hT7 hV7 hA7 hB7
  have hL9 := hidS ((hL8.out.alloc hL8.out.size (.cells #[.int .i64 p.src, .int .i64 p.dst, .int .i64 p.proto, .int .i64 p.a, .int .i64 p.b, .int .i64 p.kind, .int .i64 p.flags, .int .i64 p.seq, .int .i64 p.ack, .string p.body] 24)).alloc (hL8.out.alloc hL8.out.size (.cells #[.int .i64 p.src, .int .i64 p.dst, .int .i64 p.proto, .int .i64 p.a, .int .i64 p.b, .int .i64 p.kind, .int .i64 p.flags, .int .i64 p.seq, .int .i64 p.ack, .string p.body] 24)).size (.cells #[.int .i64 tw.proto, .int .i64 tw.src, .int .i64 tw.sport, .int .i64 tw.dst, .int .i64 tw.dport, .int .i64 tw.kind] 40))
  have hT9 := hidS (blk_alloc (blk_alloc hT8.out (.cells #[.int .i64 p.src, .int .i64 p.dst, .int .i64 p.proto, .int .i64 p.a, .int .i64 p.b, .int .i64 p.kind, .int .i64 p.flags, .int .i64 p.seq, .int .i64 p.ack, .string p.body] 24)) (.cells #[.int .i64 tw.proto, .int .i64 tw.src, .int .i64 tw.sport, .int .i64 tw.dst, .int .i64 tw.dport, .int .i64 tw.kind] 40))
  have hV9 := hidS (blk_alloc (blk_alloc hV8.out (.cells #[.int .i64 p.src, .int .i64 p.dst, .int .i64 p.proto, .int .i64 p.a, .int .i64 p.b, .int .i64 p.kind, .int .i64 p.flags, .int .i64 p.seq, .int .i64 p.ack, .string p.body] 24)) (.cells #[.int .i64 tw.proto, .int .i64 tw.src, .int .i64 tw.sport, .int .i64 tw.dst, .int .i64 tw.dport, .int .i64 tw.kind] 40))
  have hA9 := hidS (blk_alloc (blk_alloc hA8.out (.cells #[.int .i64 p.src, .int .i64 p.dst, .int .i64 p.proto, .int .i64 p.a, .int .i64 p.b, .int .i64 p.kind, .int .i64 p.flags, .int .i64 p.seq, .int .i64 p.ack, .string p.body] 24)) (.cells #[.int .i64 tw.proto, .int .i64 tw.src, .int .i64 tw.sport, .int .i64 tw.dst, .int .i64 tw.dport, .int .i64 tw.kind] 40))
  have hB9 := hidS (blk_alloc (blk_alloc hB8.out (.cells #[.int .i64 p.src, .int .i64 p.dst, .int .i64 p.proto, .int .i64 p.a, .int .i64 p.b, .int .i64 p.kind, .int .i64 p.flags, .int .i64 p.seq, .int .i64 p.ack, .string p.body] 24)) (.cells #[.int .i64 tw.proto, .int .i64 tw.src, .int .i64 tw.sport, .int .i64 tw.dst, .int .i64 tw.dport, .int .i64 tw.kind] 40))
  have hP9 := hidS (blk_alloc (heap_newG w8 (.cells #[.int .i64 p.src, .int .i64 p.dst, .int .i64 p.proto, .int .i64 p.a, .int .i64 p.b, .int .i64 p.kind, .int .i64 p.flags, .int .i64 p.seq, .int .i64 p.ack, .string p.body] 24)) (.cells #[.int .i64 tw.proto, .int .i64 tw.src, .int .i64 tw.sport, .int .i64 tw.dst, .int .i64 tw.dport, .int .i64 tw.kind] 40))
  have hW9 : Hid (((w8.alloc (.cells #[.int .i64 p.src, .int .i64 p.dst, .int .i64 p.proto, .int .i64 p.a, .int .i64 p.b, .int .i64 p.kind, .int .i64 p.flags, .int .i64 p.seq, .int .i64 p.ack, .string p.body] 24)).alloc (.cells #[.int .i64 tw.proto, .int .i64 tw.src, .int .i64 tw.sport, .int .i64 tw.dst, .int .i64 tw.dport, .int .i64 tw.kind] 40)).heap[w8.heap.size + 1]? = some (.cells #[.int .i64 tw.proto, .int .i64 tw.src, .int .i64 tw.sport, .int .i64 tw.dst, .int .i64 tw.dport, .int .i64 tw.kind] 40)) := by
    show _ = _
    have := heap_newG (w8.alloc (.cells #[.int .i64 p.src, .int .i64 p.dst, .int .i64 p.proto, .int .i64 p.a, .int .i64 p.b, .int .i64 p.kind, .int .i64 p.flags, .int .i64 p.seq, .int .i64 p.ack, .string p.body] 24)) (.cells #[.int .i64 tw.proto, .int .i64 tw.src, .int .i64 tw.sport, .int .i64 tw.dst, .int .i64 tw.dport, .int .i64 tw.kind] 40)
    simpa using this
  clear hL8 hT8 hV8 hA8 hB8
  go_upto_region 7 with fail
  generalize (w8.alloc (.cells #[.int .i64 p.src, .int .i64 p.dst, .int .i64 p.proto, .int .i64 p.a, .int .i64 p.b, .int .i64 p.kind, .int .i64 p.flags, .int .i64 p.seq, .int .i64 p.ack, .string p.body] 24)).alloc (.cells #[.int .i64 tw.proto, .int .i64 tw.src, .int .i64 tw.sport, .int .i64 tw.dst, .int .i64 tw.dport, .int .i64 tw.kind] 40) = w9 at hL9 hT9 hV9 hA9 hB9 hP9 hW9 ⊢
  generalize w8.heap.size + 1 = gw at *
  generalize w8.heap.size = gp at *
  have hl9 := hP9.out
  have x0 := blk_cell hl9 0
  have x1 := blk_cell hl9 1
  have x2 := blk_cell hl9 2
  have x3 := blk_cell hl9 3
  have x4 := blk_cell hl9 4
  have x5 := blk_cell hl9 5
  have x6 := blk_cell hl9 6
  have x7 := blk_cell hl9 7
  have x8 := blk_cell hl9 8
  have x9 := blk_cell hl9 9
  simp at x0 x1 x2 x3 x4 x5 x6 x7 x8 x9
  clear hl9
  have hl9 := hW9.out
  have y0 := blk_cell hl9 0
  have y1 := blk_cell hl9 1
  have y2 := blk_cell hl9 2
  have y3 := blk_cell hl9 3
  have y4 := blk_cell hl9 4
  have y5 := blk_cell hl9 5
  simp at y0 y1 y2 y3 y4 y5
  clear hl9
  have HWi := hidS (fun W (h : Below w.heap.size w W) => implWith_any p tw W (small_102 (Nat.le_trans HPz.out (by omega))) (HS.out.later h))
  have HWs := hidS (fun W => specWith_any p tw W (small_102 (Nat.le_trans HPz.out (by omega))))
  have HXo := hidS (fun W => implTOf_any (withP p tw) W (small_102 (Nat.le_trans (withP_body p tw HPz.out) (by omega))))
  have HPo := hidS (fun W => implTOf_any p W (small_102 (Nat.le_trans HPz.out (by omega))))
  have HWb := hidS (fun W (h : Below w.heap.size w W) => implWith_any (withP p tw) (ofAns p) W (small_102 (Nat.le_trans (withP_body p tw HPz.out) (by omega))) (HS.out.later h))
  have HWo := hidS (fun h => with_ok (p := p) (t := tw) h)
  generalize withP p tw = X at *
  generalize withC p tw = C at *
  generalize ofAns p = OP at *
  go_wp2_with fail
  refine (HWi.out w9 hL9.out).mono ?_
  rintro _ w10 ⟨rfl, hb10⟩
  clear x0 x1 x2 x3 x4 x5 x6 x7 x8 x9 y0 y1 y2 y3 y4 y5 HWi
  have hL10 := hidS (hL9.out.trans (hb10.mono hL9.out.size))
  have hT10 := hidS (blk_later hT9.out hb10)
  have hV10 := hidS (blk_later hV9.out hb10)
  have hA10 := hidS (blk_later hA9.out hb10)
  have hB10 := hidS (blk_later hB9.out hb10)
  have hP10 := hidS (blk_later hP9.out hb10)
  have hW10 := hidS (blk_later hW9.out hb10)
  clear hb10 hL9 hT9 hV9 hA9 hB9 hP9 hW9
  have hL11 := hidS (hL10.out.alloc hL10.out.size (.cells #[.int .i64 X.src, .int .i64 X.dst, .int .i64 X.proto, .int .i64 X.a, .int .i64 X.b, .int .i64 X.kind, .int .i64 X.flags, .int .i64 X.seq, .int .i64 X.ack, .string X.body, .int .i64 C] 29))
  have hT11 := hidS (blk_alloc hT10.out (.cells #[.int .i64 X.src, .int .i64 X.dst, .int .i64 X.proto, .int .i64 X.a, .int .i64 X.b, .int .i64 X.kind, .int .i64 X.flags, .int .i64 X.seq, .int .i64 X.ack, .string X.body, .int .i64 C] 29))
  have hV11 := hidS (blk_alloc hV10.out (.cells #[.int .i64 X.src, .int .i64 X.dst, .int .i64 X.proto, .int .i64 X.a, .int .i64 X.b, .int .i64 X.kind, .int .i64 X.flags, .int .i64 X.seq, .int .i64 X.ack, .string X.body, .int .i64 C] 29))
  have hA11 := hidS (blk_alloc hA10.out (.cells #[.int .i64 X.src, .int .i64 X.dst, .int .i64 X.proto, .int .i64 X.a, .int .i64 X.b, .int .i64 X.kind, .int .i64 X.flags, .int .i64 X.seq, .int .i64 X.ack, .string X.body, .int .i64 C] 29))
  have hB11 := hidS (blk_alloc hB10.out (.cells #[.int .i64 X.src, .int .i64 X.dst, .int .i64 X.proto, .int .i64 X.a, .int .i64 X.b, .int .i64 X.kind, .int .i64 X.flags, .int .i64 X.seq, .int .i64 X.ack, .string X.body, .int .i64 C] 29))
  have hP11 := hidS (blk_alloc hP10.out (.cells #[.int .i64 X.src, .int .i64 X.dst, .int .i64 X.proto, .int .i64 X.a, .int .i64 X.b, .int .i64 X.kind, .int .i64 X.flags, .int .i64 X.seq, .int .i64 X.ack, .string X.body, .int .i64 C] 29))
  have hW11 := hidS (blk_alloc hW10.out (.cells #[.int .i64 X.src, .int .i64 X.dst, .int .i64 X.proto, .int .i64 X.a, .int .i64 X.b, .int .i64 X.kind, .int .i64 X.flags, .int .i64 X.seq, .int .i64 X.ack, .string X.body, .int .i64 C] 29))
  have hX11 := hidS (heap_newG w10 (.cells #[.int .i64 X.src, .int .i64 X.dst, .int .i64 X.proto, .int .i64 X.a, .int .i64 X.b, .int .i64 X.kind, .int .i64 X.flags, .int .i64 X.seq, .int .i64 X.ack, .string X.body, .int .i64 C] 29))
  clear hL10 hT10 hV10 hA10 hB10 hP10 hW10
  go_upto_region 8 with fail
  generalize w10.alloc (.cells #[.int .i64 X.src, .int .i64 X.dst, .int .i64 X.proto, .int .i64 X.a, .int .i64 X.b, .int .i64 X.kind, .int .i64 X.flags, .int .i64 X.seq, .int .i64 X.ack, .string X.body, .int .i64 C] 29) = w11 at hL11 hT11 hV11 hA11 hB11 hP11 hW11 hX11 ⊢
  generalize w10.heap.size = gx at *
  go_wp2_with fail
  refine (drawTupleHash_any a0 len0 cap0 w11 (H0.out.later hL11.out) hl0).mono ?_
  rintro _ w12 ⟨⟨th, key, many, rfl, hkz⟩, hb12⟩
  have HKz := hidS hkz
  clear hkz
  have hL12 := hidS (hL11.out.trans (hb12.mono hL11.out.size))
  have hT12 := hidS (blk_later hT11.out hb12)
  have hV12 := hidS (blk_later hV11.out hb12)
  have hA12 := hidS (blk_later hA11.out hb12)
  have hB12 := hidS (blk_later hB11.out hb12)
  have hP12 := hidS (blk_later hP11.out hb12)
  have hW12 := hidS (blk_later hW11.out hb12)
  have hX12 := hidS (blk_later hX11.out hb12)
  clear hb12 hL11 hT11 hV11 hA11 hB11 hP11 hW11 hX11
  have hL13 := hidS (hL12.out.alloc hL12.out.size (.cells #[.int .i64 th.proto, .int .i64 th.src, .int .i64 th.sport, .int .i64 th.dst, .int .i64 th.dport, .int .i64 th.kind] 40))
  have hT13 := hidS (blk_alloc hT12.out (.cells #[.int .i64 th.proto, .int .i64 th.src, .int .i64 th.sport, .int .i64 th.dst, .int .i64 th.dport, .int .i64 th.kind] 40))
  have hV13 := hidS (blk_alloc hV12.out (.cells #[.int .i64 th.proto, .int .i64 th.src, .int .i64 th.sport, .int .i64 th.dst, .int .i64 th.dport, .int .i64 th.kind] 40))
  have hA13 := hidS (blk_alloc hA12.out (.cells #[.int .i64 th.proto, .int .i64 th.src, .int .i64 th.sport, .int .i64 th.dst, .int .i64 th.dport, .int .i64 th.kind] 40))
  have hB13 := hidS (blk_alloc hB12.out (.cells #[.int .i64 th.proto, .int .i64 th.src, .int .i64 th.sport, .int .i64 th.dst, .int .i64 th.dport, .int .i64 th.kind] 40))
  have hP13 := hidS (blk_alloc hP12.out (.cells #[.int .i64 th.proto, .int .i64 th.src, .int .i64 th.sport, .int .i64 th.dst, .int .i64 th.dport, .int .i64 th.kind] 40))
  have hW13 := hidS (blk_alloc hW12.out (.cells #[.int .i64 th.proto, .int .i64 th.src, .int .i64 th.sport, .int .i64 th.dst, .int .i64 th.dport, .int .i64 th.kind] 40))
  have hX13 := hidS (blk_alloc hX12.out (.cells #[.int .i64 th.proto, .int .i64 th.src, .int .i64 th.sport, .int .i64 th.dst, .int .i64 th.dport, .int .i64 th.kind] 40))
  have hH13 := hidS (heap_newG w12 (.cells #[.int .i64 th.proto, .int .i64 th.src, .int .i64 th.sport, .int .i64 th.dst, .int .i64 th.dport, .int .i64 th.kind] 40))
  clear hL12 hT12 hV12 hA12 hB12 hP12 hW12 hX12
  go_upto_region 9 with fail
  generalize w12.alloc (.cells #[.int .i64 th.proto, .int .i64 th.src, .int .i64 th.sport, .int .i64 th.dst, .int .i64 th.dport, .int .i64 th.kind] 40) = w13 at hL13 hT13 hV13 hA13 hB13 hP13 hW13 hX13 hH13 ⊢
  generalize w12.heap.size = gh at *
  have hl9 := hH13.out
  have x0 := blk_cell hl9 0
  have x1 := blk_cell hl9 1
  have x2 := blk_cell hl9 2
  have x3 := blk_cell hl9 3
  have x4 := blk_cell hl9 4
  have x5 := blk_cell hl9 5
  simp at x0 x1 x2 x3 x4 x5
  clear hl9
  have HHi := hidS (fun W (h : Below w.heap.size w W) => implHash_any th key many W (small_102 (Nat.le_trans HKz.out (by omega))) (tab_later HK.out h))
  have HHs := hidS (fun W => specHash_any th key many W (small_102 (Nat.le_trans HKz.out (by omega))))
  have HHb := hidS (hash_below th key many)
  generalize hashAns th key many = nh at *
  go_wp2_with fail
  refine (HHi.out w13 hL13.out).mono ?_
  rintro _ w14 ⟨rfl, hb14⟩
  clear x0 x1 x2 x3 x4 x5 HHi H0
  have hL14 := hidS (hL13.out.trans (hb14.mono hL13.out.size))
  have hT14 := hidS (blk_later hT13.out hb14)
  have hV14 := hidS (blk_later hV13.out hb14)
  have hA14 := hidS (blk_later hA13.out hb14)
  have hB14 := hidS (blk_later hB13.out hb14)
  have hP14 := hidS (blk_later hP13.out hb14)
  have hW14 := hidS (blk_later hW13.out hb14)
  have hX14 := hidS (blk_later hX13.out hb14)
  have hH14 := hidS (blk_later hH13.out hb14)
  clear hb14 hL13 hT13 hV13 hA13 hB13 hP13 hW13 hX13 hH13
  go_wp2_with fail
  refine (drawTupleOf_any a1 len1 cap1 w14 (H1.out.later hL14.out) hl1).mono ?_
  rintro _ w15 ⟨⟨q, rfl, hq⟩, hb15⟩
  have HQi := hidS (fun W => implTOf_any q W (small_102 (Nat.le_trans hq (by omega))))
  have HQs := hidS (fun W => specTOf_any q W (small_102 (Nat.le_trans hq (by omega))))
  generalize ofAns q = OQ at HQi HQs
  clear hq H1
  have hL15 := hidS (hL14.out.trans (hb15.mono hL14.out.size))
  have hT15 := hidS (blk_later hT14.out hb15)
  have hV15 := hidS (blk_later hV14.out hb15)
  have hA15 := hidS (blk_later hA14.out hb15)
  have hB15 := hidS (blk_later hB14.out hb15)
  have hP15 := hidS (blk_later hP14.out hb15)
  have hW15 := hidS (blk_later hW14.out hb15)
  have hX15 := hidS (blk_later hX14.out hb15)
  have hH15 := hidS (blk_later hH14.out hb15)
  clear hb15 hL14 hT14 hV14 hA14 hB14 hP14 hW14 hX14 hH14
  have hL16 := hidS (hL15.out.alloc hL15.out.size (.cells #[.int .i64 q.src, .int .i64 q.dst, .int .i64 q.proto, .int .i64 q.a, .int .i64 q.b, .int .i64 q.kind, .int .i64 q.flags, .int .i64 q.seq, .int .i64 q.ack, .string q.body] 24))
  have hT16 := hidS (blk_alloc hT15.out (.cells #[.int .i64 q.src, .int .i64 q.dst, .int .i64 q.proto, .int .i64 q.a, .int .i64 q.b, .int .i64 q.kind, .int .i64 q.flags, .int .i64 q.seq, .int .i64 q.ack, .string q.body] 24))
  have hV16 := hidS (blk_alloc hV15.out (.cells #[.int .i64 q.src, .int .i64 q.dst, .int .i64 q.proto, .int .i64 q.a, .int .i64 q.b, .int .i64 q.kind, .int .i64 q.flags, .int .i64 q.seq, .int .i64 q.ack, .string q.body] 24))
  have hA16 := hidS (blk_alloc hA15.out (.cells #[.int .i64 q.src, .int .i64 q.dst, .int .i64 q.proto, .int .i64 q.a, .int .i64 q.b, .int .i64 q.kind, .int .i64 q.flags, .int .i64 q.seq, .int .i64 q.ack, .string q.body] 24))
  have hB16 := hidS (blk_alloc hB15.out (.cells #[.int .i64 q.src, .int .i64 q.dst, .int .i64 q.proto, .int .i64 q.a, .int .i64 q.b, .int .i64 q.kind, .int .i64 q.flags, .int .i64 q.seq, .int .i64 q.ack, .string q.body] 24))
  have hP16 := hidS (blk_alloc hP15.out (.cells #[.int .i64 q.src, .int .i64 q.dst, .int .i64 q.proto, .int .i64 q.a, .int .i64 q.b, .int .i64 q.kind, .int .i64 q.flags, .int .i64 q.seq, .int .i64 q.ack, .string q.body] 24))
  have hW16 := hidS (blk_alloc hW15.out (.cells #[.int .i64 q.src, .int .i64 q.dst, .int .i64 q.proto, .int .i64 q.a, .int .i64 q.b, .int .i64 q.kind, .int .i64 q.flags, .int .i64 q.seq, .int .i64 q.ack, .string q.body] 24))
  have hX16 := hidS (blk_alloc hX15.out (.cells #[.int .i64 q.src, .int .i64 q.dst, .int .i64 q.proto, .int .i64 q.a, .int .i64 q.b, .int .i64 q.kind, .int .i64 q.flags, .int .i64 q.seq, .int .i64 q.ack, .string q.body] 24))
  have hH16 := hidS (blk_alloc hH15.out (.cells #[.int .i64 q.src, .int .i64 q.dst, .int .i64 q.proto, .int .i64 q.a, .int .i64 q.b, .int .i64 q.kind, .int .i64 q.flags, .int .i64 q.seq, .int .i64 q.ack, .string q.body] 24))
  have hQ16 := hidS (heap_newG w15 (.cells #[.int .i64 q.src, .int .i64 q.dst, .int .i64 q.proto, .int .i64 q.a, .int .i64 q.b, .int .i64 q.kind, .int .i64 q.flags, .int .i64 q.seq, .int .i64 q.ack, .string q.body] 24))
  clear hL15 hT15 hV15 hA15 hB15 hP15 hW15 hX15 hH15
  go_upto_region 11 with fail
  generalize w15.alloc (.cells #[.int .i64 q.src, .int .i64 q.dst, .int .i64 q.proto, .int .i64 q.a, .int .i64 q.b, .int .i64 q.kind, .int .i64 q.flags, .int .i64 q.seq, .int .i64 q.ack, .string q.body] 24) = w16 at hL16 hT16 hV16 hA16 hB16 hP16 hW16 hX16 hH16 hQ16 ⊢
  generalize w15.heap.size = gq at *
  have HLi := hidS (fun W => implLess_any ta tb W)
  have HLs := hidS (fun W => specLess_any ta tb W)
  have nV : ∀ W, (binOp .neq 40 (.agg #[.int .i64 V.proto, .int .i64 V.src, .int .i64 V.sport, .int .i64 V.dst, .int .i64 V.dport, .int .i64 V.kind]) (.agg #[.int .i64 V.proto, .int .i64 V.src, .int .i64 V.sport, .int .i64 V.dst, .int .i64 V.dport, .int .i64 V.kind])).run Tryz.prog W = .ok (.bool false) W := fun W => by rw [neq_tup, sameT_iff.2 rfl]; rfl
  have nQ : ∀ W, (binOp .neq 40 (.agg #[.int .i64 OQ.proto, .int .i64 OQ.src, .int .i64 OQ.sport, .int .i64 OQ.dst, .int .i64 OQ.dport, .int .i64 OQ.kind]) (.agg #[.int .i64 OQ.proto, .int .i64 OQ.src, .int .i64 OQ.sport, .int .i64 OQ.dst, .int .i64 OQ.dport, .int .i64 OQ.kind])).run Tryz.prog W = .ok (.bool false) W := fun W => by rw [neq_tup, sameT_iff.2 rfl]; rfl
  refine grow_guarded 49 [.is (.agg #[.int .i64 V.proto, .int .i64 V.src, .int .i64 V.sport, .int .i64 V.dst, .int .i64 V.dport, .int .i64 V.kind]), .is (.agg #[.int .i64 t.proto, .int .i64 t.src, .int .i64 t.sport, .int .i64 t.dst, .int .i64 t.dport, .int .i64 t.kind]), .is (.agg #[.int .i64 V.proto, .int .i64 V.src, .int .i64 V.sport, .int .i64 V.dst, .int .i64 V.dport, .int .i64 V.kind]), .is (.bool false), .is (.bool false), .is (.agg #[.int .i64 t.proto, .int .i64 t.src, .int .i64 t.sport, .int .i64 t.dst, .int .i64 t.dport, .int .i64 t.kind]), .is (.bool (rightT t)), .is (.agg #[.int .i64 t.proto, .int .i64 t.src, .int .i64 t.sport, .int .i64 t.dst, .int .i64 t.dport, .int .i64 t.kind]), .is (.bool (rightT t)), .is (.bool false), .is (.bool false), .is (.bool false), .is (.agg #[.int .i64 ta.proto, .int .i64 ta.src, .int .i64 ta.sport, .int .i64 ta.dst, .int .i64 ta.dport, .int .i64 ta.kind]), .is (.agg #[.int .i64 tb.proto, .int .i64 tb.src, .int .i64 tb.sport, .int .i64 tb.dst, .int .i64 tb.dport, .int .i64 tb.kind]), .is (.bool (lessAns ta tb)), .is (.agg #[.int .i64 ta.proto, .int .i64 ta.src, .int .i64 ta.sport, .int .i64 ta.dst, .int .i64 ta.dport, .int .i64 ta.kind]), .is (.agg #[.int .i64 tb.proto, .int .i64 tb.src, .int .i64 tb.sport, .int .i64 tb.dst, .int .i64 tb.dport, .int .i64 tb.kind]), .is (.bool (lessAns ta tb)), .is (.bool false), .is (.bool false), .is (.bool false), .is (.agg #[.int .i64 X.src, .int .i64 X.dst, .int .i64 X.proto, .int .i64 X.a, .int .i64 X.b, .int .i64 X.kind, .int .i64 X.flags, .int .i64 X.seq, .int .i64 X.ack, .string X.body, .int .i64 C]), .is (.agg #[.int .i64 p.src, .int .i64 p.dst, .int .i64 p.proto, .int .i64 p.a, .int .i64 p.b, .int .i64 p.kind, .int .i64 p.flags, .int .i64 p.seq, .int .i64 p.ack, .string p.body]), .is (.agg #[.int .i64 tw.proto, .int .i64 tw.src, .int .i64 tw.sport, .int .i64 tw.dst, .int .i64 tw.dport, .int .i64 tw.kind]), .is (.agg #[.int .i64 X.src, .int .i64 X.dst, .int .i64 X.proto, .int .i64 X.a, .int .i64 X.b, .int .i64 X.kind, .int .i64 X.flags, .int .i64 X.seq, .int .i64 X.ack, .string X.body, .int .i64 C]), .is (.bool false), .is (.bool false), .is (.bool false), .is (.int .i64 nh), .is (.agg #[.int .i64 th.proto, .int .i64 th.src, .int .i64 th.sport, .int .i64 th.dst, .int .i64 th.dport, .int .i64 th.kind]), .is (.string key), .is (.int .i64 many), .is (.int .i64 nh), .is (.bool false), .is (.bool false), .is (.bool false), .is (.agg #[.int .i64 q.src, .int .i64 q.dst, .int .i64 q.proto, .int .i64 q.a, .int .i64 q.b, .int .i64 q.kind, .int .i64 q.flags, .int .i64 q.seq, .int .i64 q.ack, .string q.body]), .is (.agg #[.int .i64 OQ.proto, .int .i64 OQ.src, .int .i64 OQ.sport, .int .i64 OQ.dst, .int .i64 OQ.dport, .int .i64 OQ.kind]), .is (.agg #[.int .i64 q.src, .int .i64 q.dst, .int .i64 q.proto, .int .i64 q.a, .int .i64 q.b, .int .i64 q.kind, .int .i64 q.flags, .int .i64 q.seq, .int .i64 q.ack, .string q.body]), .is (.agg #[.int .i64 OQ.proto, .int .i64 OQ.src, .int .i64 OQ.sport, .int .i64 OQ.dst, .int .i64 OQ.dport, .int .i64 OQ.kind]), .is (.bool false), .is (.bool false), .is (.bool false), .is (.agg #[.int .i64 t.proto, .int .i64 t.src, .int .i64 t.sport, .int .i64 t.dst, .int .i64 t.dport, .int .i64 t.kind]), .is (.string (textAns t)), .is (.agg #[.int .i64 t.proto, .int .i64 t.src, .int .i64 t.sport, .int .i64 t.dst, .int .i64 t.dport, .int .i64 t.kind]), .is (.string (textAns t)), .is (.bool false), .is (.bool false)] rfl (by kernel_rfl) (by kernel_rfl) ?steps11 ?fin11
  case steps11 =>
    refine ⟨?_, ?_, ?_, ?_, ?_, ?_, ?_, ?_, ?_, ?_, ?_, ?_, ?_, ?_, ?_, ?_, ?_, ?_, ?_, ?_, ?_, ?_, ?_, ?_, ?_, ?_, ?_, ?_, ?_, ?_, ?_, ?_, ?_, ?_, ?_, ?_, ?_, ?_, ?_, ?_, ?_, ?_, ?_, ?_, ?_, ?_, ?_, ?_, ?_, trivial⟩
    · refine stepW_of_u ⟨rfl, fun v W ρ hC kc kf ks ki kd => ?_⟩
      have t6 : ρ (.tmp 6) = .pointer (some ⟨gv, 0, none⟩) := ki 6 (by decide)
      have hg := blk_later hV16.out hC
      have c0 := blk_cell hg 0
      have c1 := blk_cell hg 1
      have c2 := blk_cell hg 2
      have c3 := blk_cell hg 3
      have c4 := blk_cell hg 4
      have c5 := blk_cell hg 5
      simp at c0 c1 c2 c3 c4 c5
      simp [execOp, go_sem, kc, t6, c0, c1, c2, c3, c4, c5]
      exact ⟨hC, Below.refl _ _, rfl⟩
    · refine stepW_of_u ⟨rfl, fun v W ρ hC kc kf ks ki kd => ?_⟩
      have t5 : ρ (.tmp 5) = .pointer (some ⟨gt, 0, none⟩) := ki 5 (by decide)
      have hg := blk_later hT16.out hC
      have c0 := blk_cell hg 0
      have c1 := blk_cell hg 1
      have c2 := blk_cell hg 2
      have c3 := blk_cell hg 3
      have c4 := blk_cell hg 4
      have c5 := blk_cell hg 5
      simp at c0 c1 c2 c3 c4 c5
      simp [execOp, go_sem, kc, t5, c0, c1, c2, c3, c4, c5]
      exact ⟨hC, Below.refl _ _, rfl⟩
    · refine stepW_of_u ⟨rfl, fun v W ρ hC kc kf ks ki kd => ?_⟩
      have d1 : v 1 = .agg #[.int .i64 t.proto, .int .i64 t.src, .int .i64 t.sport, .int .i64 t.dst, .int .i64 t.dport, .int .i64 t.kind] := by first | exact kd _ (mem0 rfl) rfl | exact kd _ (mem1 rfl) rfl | exact kd _ (mem2 rfl) rfl | exact kd _ (mem3 rfl) rfl | exact kd _ (mem4 rfl) rfl | exact kd _ (mem5 rfl) rfl
      have t55 : ρ (.tmp 55) = .agg #[.int .i64 t.proto, .int .i64 t.src, .int .i64 t.sport, .int .i64 t.dst, .int .i64 t.dport, .int .i64 t.kind] := (ks 1 55 (by decide) rfl).trans d1
      simp [execOp, go_sem, t55, kf]
      exact Calls.mono (HVs.out W) (fun e x h => ⟨_, h.1, hC.trans (h.2.mono hC.size), h.2, rfl⟩)
    · refine stepW_of_u ⟨rfl, fun v W ρ hC kc kf ks ki kd => ?_⟩
      have d0 : v 0 = .agg #[.int .i64 V.proto, .int .i64 V.src, .int .i64 V.sport, .int .i64 V.dst, .int .i64 V.dport, .int .i64 V.kind] := by first | exact kd _ (mem0 rfl) rfl | exact kd _ (mem1 rfl) rfl | exact kd _ (mem2 rfl) rfl | exact kd _ (mem3 rfl) rfl | exact kd _ (mem4 rfl) rfl | exact kd _ (mem5 rfl) rfl
      have t54 : ρ (.tmp 54) = .agg #[.int .i64 V.proto, .int .i64 V.src, .int .i64 V.sport, .int .i64 V.dst, .int .i64 V.dport, .int .i64 V.kind] := (ks 0 54 (by decide) rfl).trans d0
      have d2 : v 2 = .agg #[.int .i64 V.proto, .int .i64 V.src, .int .i64 V.sport, .int .i64 V.dst, .int .i64 V.dport, .int .i64 V.kind] := by first | exact kd _ (mem0 rfl) rfl | exact kd _ (mem1 rfl) rfl | exact kd _ (mem2 rfl) rfl | exact kd _ (mem3 rfl) rfl | exact kd _ (mem4 rfl) rfl | exact kd _ (mem5 rfl) rfl
      have t56 : ρ (.tmp 56) = .agg #[.int .i64 V.proto, .int .i64 V.src, .int .i64 V.sport, .int .i64 V.dst, .int .i64 V.dport, .int .i64 V.kind] := (ks 2 56 (by decide) rfl).trans d2
      simp [execOp, go_sem, kc, t54, t56, nV]
      exact ⟨hC, Below.refl _ _, rfl⟩
    · refine stepW_of_u ⟨rfl, fun v W ρ hC kc kf ks ki kd => ?_⟩
      have d3 : v 3 = .bool false := by first | exact kd _ (mem0 rfl) rfl | exact kd _ (mem1 rfl) rfl | exact kd _ (mem2 rfl) rfl | exact kd _ (mem3 rfl) rfl | exact kd _ (mem4 rfl) rfl | exact kd _ (mem5 rfl) rfl
      have t57 : ρ (.tmp 57) = .bool false := (ks 3 57 (by decide) rfl).trans d3
      simp [execOp, go_sem, kc, t57]
      exact ⟨hC, Below.refl _ _, rfl⟩
    · intro v W ρ y hC kc kf ks ki ky ku kd
      have dg : v 4 = .bool false := by first | exact kd _ (mem0 rfl) rfl | exact kd _ (mem1 rfl) rfl | exact kd _ (mem2 rfl) rfl | exact kd _ (mem3 rfl) rfl | exact kd _ (mem4 rfl) rfl | exact kd _ (mem5 rfl) rfl
      have hy := ky 4 58 false (by decide) rfl dg
      rw [if_pos (by simp [Region.wanted, hy])]
      have t5 : ρ (.tmp 5) = .pointer (some ⟨gt, 0, none⟩) := ki 5 (by decide)
      have hg := blk_later hT16.out hC
      have c0 := blk_cell hg 0
      have c1 := blk_cell hg 1
      have c2 := blk_cell hg 2
      have c3 := blk_cell hg 3
      have c4 := blk_cell hg 4
      have c5 := blk_cell hg 5
      simp at c0 c1 c2 c3 c4 c5
      simp [execOp, go_sem, kc, t5, c0, c1, c2, c3, c4, c5]
      exact ⟨hC, Below.refl _ _, rfl⟩
    · intro v W ρ y hC kc kf ks ki ky ku kd
      have dg : v 4 = .bool false := by first | exact kd _ (mem0 rfl) rfl | exact kd _ (mem1 rfl) rfl | exact kd _ (mem2 rfl) rfl | exact kd _ (mem3 rfl) rfl | exact kd _ (mem4 rfl) rfl | exact kd _ (mem5 rfl) rfl
      have hy := ky 4 58 false (by decide) rfl dg
      rw [if_pos (by simp [Region.wanted, hy])]
      have d5 : v 5 = .agg #[.int .i64 t.proto, .int .i64 t.src, .int .i64 t.sport, .int .i64 t.dst, .int .i64 t.dport, .int .i64 t.kind] := by first | exact kd _ (mem0 rfl) rfl | exact kd _ (mem1 rfl) rfl | exact kd _ (mem2 rfl) rfl | exact kd _ (mem3 rfl) rfl | exact kd _ (mem4 rfl) rfl | exact kd _ (mem5 rfl) rfl
      have t59 : ρ (.tmp 59) = .agg #[.int .i64 t.proto, .int .i64 t.src, .int .i64 t.sport, .int .i64 t.dst, .int .i64 t.dport, .int .i64 t.kind] := (ks 5 59 (by decide) rfl).trans d5
      simp [execOp, go_sem, t59, kf]
      exact Calls.mono (HRi.out W) (fun e x h => ⟨_, h.1, hC.trans (h.2.mono hC.size), h.2, rfl⟩)
    · intro v W ρ y hC kc kf ks ki ky ku kd
      have dg : v 4 = .bool false := by first | exact kd _ (mem0 rfl) rfl | exact kd _ (mem1 rfl) rfl | exact kd _ (mem2 rfl) rfl | exact kd _ (mem3 rfl) rfl | exact kd _ (mem4 rfl) rfl | exact kd _ (mem5 rfl) rfl
      have hy := ky 4 58 false (by decide) rfl dg
      rw [if_pos (by simp [Region.wanted, hy])]
      have t5 : ρ (.tmp 5) = .pointer (some ⟨gt, 0, none⟩) := ki 5 (by decide)
      have hg := blk_later hT16.out hC
      have c0 := blk_cell hg 0
      have c1 := blk_cell hg 1
      have c2 := blk_cell hg 2
      have c3 := blk_cell hg 3
      have c4 := blk_cell hg 4
      have c5 := blk_cell hg 5
      simp at c0 c1 c2 c3 c4 c5
      simp [execOp, go_sem, kc, t5, c0, c1, c2, c3, c4, c5]
      exact ⟨hC, Below.refl _ _, rfl⟩
    · intro v W ρ y hC kc kf ks ki ky ku kd
      have dg : v 4 = .bool false := by first | exact kd _ (mem0 rfl) rfl | exact kd _ (mem1 rfl) rfl | exact kd _ (mem2 rfl) rfl | exact kd _ (mem3 rfl) rfl | exact kd _ (mem4 rfl) rfl | exact kd _ (mem5 rfl) rfl
      have hy := ky 4 58 false (by decide) rfl dg
      rw [if_pos (by simp [Region.wanted, hy])]
      have d7 : v 7 = .agg #[.int .i64 t.proto, .int .i64 t.src, .int .i64 t.sport, .int .i64 t.dst, .int .i64 t.dport, .int .i64 t.kind] := by first | exact kd _ (mem0 rfl) rfl | exact kd _ (mem1 rfl) rfl | exact kd _ (mem2 rfl) rfl | exact kd _ (mem3 rfl) rfl | exact kd _ (mem4 rfl) rfl | exact kd _ (mem5 rfl) rfl
      have t61 : ρ (.tmp 61) = .agg #[.int .i64 t.proto, .int .i64 t.src, .int .i64 t.sport, .int .i64 t.dst, .int .i64 t.dport, .int .i64 t.kind] := (ks 7 61 (by decide) rfl).trans d7
      simp [execOp, go_sem, t61, kf]
      exact Calls.mono (HRs.out W) (fun e x h => ⟨_, h.1, hC.trans (h.2.mono hC.size), h.2, rfl⟩)
    · intro v W ρ y hC kc kf ks ki ky ku kd
      have dg : v 4 = .bool false := by first | exact kd _ (mem0 rfl) rfl | exact kd _ (mem1 rfl) rfl | exact kd _ (mem2 rfl) rfl | exact kd _ (mem3 rfl) rfl | exact kd _ (mem4 rfl) rfl | exact kd _ (mem5 rfl) rfl
      have hy := ky 4 58 false (by decide) rfl dg
      rw [if_pos (by simp [Region.wanted, hy])]
      have d6 : v 6 = .bool (rightT t) := by first | exact kd _ (mem0 rfl) rfl | exact kd _ (mem1 rfl) rfl | exact kd _ (mem2 rfl) rfl | exact kd _ (mem3 rfl) rfl | exact kd _ (mem4 rfl) rfl | exact kd _ (mem5 rfl) rfl
      have t60 : ρ (.tmp 60) = .bool (rightT t) := (ks 6 60 (by decide) rfl).trans d6
      have d8 : v 8 = .bool (rightT t) := by first | exact kd _ (mem0 rfl) rfl | exact kd _ (mem1 rfl) rfl | exact kd _ (mem2 rfl) rfl | exact kd _ (mem3 rfl) rfl | exact kd _ (mem4 rfl) rfl | exact kd _ (mem5 rfl) rfl
      have t62 : ρ (.tmp 62) = .bool (rightT t) := (ks 8 62 (by decide) rfl).trans d8
      simp [execOp, go_sem, kc, t60, t62]
      exact ⟨hC, Below.refl _ _, rfl⟩
    · refine stepW_of_u ⟨rfl, fun v W ρ hC kc kf ks ki kd => ?_⟩
      have d4 : v 4 = .bool false := by first | exact kd _ (mem0 rfl) rfl | exact kd _ (mem1 rfl) rfl | exact kd _ (mem2 rfl) rfl | exact kd _ (mem3 rfl) rfl | exact kd _ (mem4 rfl) rfl | exact kd _ (mem5 rfl) rfl
      have t58 : ρ (.tmp 58) = .bool false := (ks 4 58 (by decide) rfl).trans d4
      have d9 : v 9 = .bool false := by first | exact kd _ (mem0 rfl) rfl | exact kd _ (mem1 rfl) rfl | exact kd _ (mem2 rfl) rfl | exact kd _ (mem3 rfl) rfl | exact kd _ (mem4 rfl) rfl | exact kd _ (mem5 rfl) rfl
      have t63 : ρ (.tmp 63) = .bool false := (ks 9 63 (by decide) rfl).trans d9
      simp [execOp, go_sem, kc, t58, t63]
      exact ⟨hC, Below.refl _ _, rfl⟩
    · refine stepW_of_u ⟨rfl, fun v W ρ hC kc kf ks ki kd => ?_⟩
      have d10 : v 10 = .bool false := by first | exact kd _ (mem0 rfl) rfl | exact kd _ (mem1 rfl) rfl | exact kd _ (mem2 rfl) rfl | exact kd _ (mem3 rfl) rfl | exact kd _ (mem4 rfl) rfl | exact kd _ (mem5 rfl) rfl
      have t64 : ρ (.tmp 64) = .bool false := (ks 10 64 (by decide) rfl).trans d10
      simp [execOp, go_sem, kc, t64]
      exact ⟨hC, Below.refl _ _, rfl⟩
    · intro v W ρ y hC kc kf ks ki ky ku kd
      have dg : v 11 = .bool false := by first | exact kd _ (mem0 rfl) rfl | exact kd _ (mem1 rfl) rfl | exact kd _ (mem2 rfl) rfl | exact kd _ (mem3 rfl) rfl | exact kd _ (mem4 rfl) rfl | exact kd _ (mem5 rfl) rfl
      have hy := ky 11 65 false (by decide) rfl dg
      rw [if_pos (by simp [Region.wanted, hy])]
      have t7 : ρ (.tmp 7) = .pointer (some ⟨ga, 0, none⟩) := ki 7 (by decide)
      have hg := blk_later hA16.out hC
      have c0 := blk_cell hg 0
      have c1 := blk_cell hg 1
      have c2 := blk_cell hg 2
      have c3 := blk_cell hg 3
      have c4 := blk_cell hg 4
      have c5 := blk_cell hg 5
      simp at c0 c1 c2 c3 c4 c5
      simp [execOp, go_sem, kc, t7, c0, c1, c2, c3, c4, c5]
      exact ⟨hC, Below.refl _ _, rfl⟩
    · intro v W ρ y hC kc kf ks ki ky ku kd
      have dg : v 11 = .bool false := by first | exact kd _ (mem0 rfl) rfl | exact kd _ (mem1 rfl) rfl | exact kd _ (mem2 rfl) rfl | exact kd _ (mem3 rfl) rfl | exact kd _ (mem4 rfl) rfl | exact kd _ (mem5 rfl) rfl
      have hy := ky 11 65 false (by decide) rfl dg
      rw [if_pos (by simp [Region.wanted, hy])]
      have t8 : ρ (.tmp 8) = .pointer (some ⟨gb, 0, none⟩) := ki 8 (by decide)
      have hg := blk_later hB16.out hC
      have c0 := blk_cell hg 0
      have c1 := blk_cell hg 1
      have c2 := blk_cell hg 2
      have c3 := blk_cell hg 3
      have c4 := blk_cell hg 4
      have c5 := blk_cell hg 5
      simp at c0 c1 c2 c3 c4 c5
      simp [execOp, go_sem, kc, t8, c0, c1, c2, c3, c4, c5]
      exact ⟨hC, Below.refl _ _, rfl⟩
    · intro v W ρ y hC kc kf ks ki ky ku kd
      have dg : v 11 = .bool false := by first | exact kd _ (mem0 rfl) rfl | exact kd _ (mem1 rfl) rfl | exact kd _ (mem2 rfl) rfl | exact kd _ (mem3 rfl) rfl | exact kd _ (mem4 rfl) rfl | exact kd _ (mem5 rfl) rfl
      have hy := ky 11 65 false (by decide) rfl dg
      rw [if_pos (by simp [Region.wanted, hy])]
      have d12 : v 12 = .agg #[.int .i64 ta.proto, .int .i64 ta.src, .int .i64 ta.sport, .int .i64 ta.dst, .int .i64 ta.dport, .int .i64 ta.kind] := by first | exact kd _ (mem0 rfl) rfl | exact kd _ (mem1 rfl) rfl | exact kd _ (mem2 rfl) rfl | exact kd _ (mem3 rfl) rfl | exact kd _ (mem4 rfl) rfl | exact kd _ (mem5 rfl) rfl
      have t66 : ρ (.tmp 66) = .agg #[.int .i64 ta.proto, .int .i64 ta.src, .int .i64 ta.sport, .int .i64 ta.dst, .int .i64 ta.dport, .int .i64 ta.kind] := (ks 12 66 (by decide) rfl).trans d12
      have d13 : v 13 = .agg #[.int .i64 tb.proto, .int .i64 tb.src, .int .i64 tb.sport, .int .i64 tb.dst, .int .i64 tb.dport, .int .i64 tb.kind] := by first | exact kd _ (mem0 rfl) rfl | exact kd _ (mem1 rfl) rfl | exact kd _ (mem2 rfl) rfl | exact kd _ (mem3 rfl) rfl | exact kd _ (mem4 rfl) rfl | exact kd _ (mem5 rfl) rfl
      have t67 : ρ (.tmp 67) = .agg #[.int .i64 tb.proto, .int .i64 tb.src, .int .i64 tb.sport, .int .i64 tb.dst, .int .i64 tb.dport, .int .i64 tb.kind] := (ks 13 67 (by decide) rfl).trans d13
      simp [execOp, go_sem, t66, t67, kf]
      exact Calls.mono (HLi.out W) (fun e x h => ⟨_, h.1, hC.trans (h.2.mono hC.size), h.2, rfl⟩)
    · intro v W ρ y hC kc kf ks ki ky ku kd
      have dg : v 11 = .bool false := by first | exact kd _ (mem0 rfl) rfl | exact kd _ (mem1 rfl) rfl | exact kd _ (mem2 rfl) rfl | exact kd _ (mem3 rfl) rfl | exact kd _ (mem4 rfl) rfl | exact kd _ (mem5 rfl) rfl
      have hy := ky 11 65 false (by decide) rfl dg
      rw [if_pos (by simp [Region.wanted, hy])]
      have t7 : ρ (.tmp 7) = .pointer (some ⟨ga, 0, none⟩) := ki 7 (by decide)
      have hg := blk_later hA16.out hC
      have c0 := blk_cell hg 0
      have c1 := blk_cell hg 1
      have c2 := blk_cell hg 2
      have c3 := blk_cell hg 3
      have c4 := blk_cell hg 4
      have c5 := blk_cell hg 5
      simp at c0 c1 c2 c3 c4 c5
      simp [execOp, go_sem, kc, t7, c0, c1, c2, c3, c4, c5]
      exact ⟨hC, Below.refl _ _, rfl⟩
    · intro v W ρ y hC kc kf ks ki ky ku kd
      have dg : v 11 = .bool false := by first | exact kd _ (mem0 rfl) rfl | exact kd _ (mem1 rfl) rfl | exact kd _ (mem2 rfl) rfl | exact kd _ (mem3 rfl) rfl | exact kd _ (mem4 rfl) rfl | exact kd _ (mem5 rfl) rfl
      have hy := ky 11 65 false (by decide) rfl dg
      rw [if_pos (by simp [Region.wanted, hy])]
      have t8 : ρ (.tmp 8) = .pointer (some ⟨gb, 0, none⟩) := ki 8 (by decide)
      have hg := blk_later hB16.out hC
      have c0 := blk_cell hg 0
      have c1 := blk_cell hg 1
      have c2 := blk_cell hg 2
      have c3 := blk_cell hg 3
      have c4 := blk_cell hg 4
      have c5 := blk_cell hg 5
      simp at c0 c1 c2 c3 c4 c5
      simp [execOp, go_sem, kc, t8, c0, c1, c2, c3, c4, c5]
      exact ⟨hC, Below.refl _ _, rfl⟩
    · intro v W ρ y hC kc kf ks ki ky ku kd
      have dg : v 11 = .bool false := by first | exact kd _ (mem0 rfl) rfl | exact kd _ (mem1 rfl) rfl | exact kd _ (mem2 rfl) rfl | exact kd _ (mem3 rfl) rfl | exact kd _ (mem4 rfl) rfl | exact kd _ (mem5 rfl) rfl
      have hy := ky 11 65 false (by decide) rfl dg
      rw [if_pos (by simp [Region.wanted, hy])]
      have d15 : v 15 = .agg #[.int .i64 ta.proto, .int .i64 ta.src, .int .i64 ta.sport, .int .i64 ta.dst, .int .i64 ta.dport, .int .i64 ta.kind] := by first | exact kd _ (mem0 rfl) rfl | exact kd _ (mem1 rfl) rfl | exact kd _ (mem2 rfl) rfl | exact kd _ (mem3 rfl) rfl | exact kd _ (mem4 rfl) rfl | exact kd _ (mem5 rfl) rfl
      have t69 : ρ (.tmp 69) = .agg #[.int .i64 ta.proto, .int .i64 ta.src, .int .i64 ta.sport, .int .i64 ta.dst, .int .i64 ta.dport, .int .i64 ta.kind] := (ks 15 69 (by decide) rfl).trans d15
      have d16 : v 16 = .agg #[.int .i64 tb.proto, .int .i64 tb.src, .int .i64 tb.sport, .int .i64 tb.dst, .int .i64 tb.dport, .int .i64 tb.kind] := by first | exact kd _ (mem0 rfl) rfl | exact kd _ (mem1 rfl) rfl | exact kd _ (mem2 rfl) rfl | exact kd _ (mem3 rfl) rfl | exact kd _ (mem4 rfl) rfl | exact kd _ (mem5 rfl) rfl
      have t70 : ρ (.tmp 70) = .agg #[.int .i64 tb.proto, .int .i64 tb.src, .int .i64 tb.sport, .int .i64 tb.dst, .int .i64 tb.dport, .int .i64 tb.kind] := (ks 16 70 (by decide) rfl).trans d16
      simp [execOp, go_sem, t69, t70, kf]
      exact Calls.mono (HLs.out W) (fun e x h => ⟨_, h.1, hC.trans (h.2.mono hC.size), h.2, rfl⟩)
    · intro v W ρ y hC kc kf ks ki ky ku kd
      have dg : v 11 = .bool false := by first | exact kd _ (mem0 rfl) rfl | exact kd _ (mem1 rfl) rfl | exact kd _ (mem2 rfl) rfl | exact kd _ (mem3 rfl) rfl | exact kd _ (mem4 rfl) rfl | exact kd _ (mem5 rfl) rfl
      have hy := ky 11 65 false (by decide) rfl dg
      rw [if_pos (by simp [Region.wanted, hy])]
      have d14 : v 14 = .bool (lessAns ta tb) := by first | exact kd _ (mem0 rfl) rfl | exact kd _ (mem1 rfl) rfl | exact kd _ (mem2 rfl) rfl | exact kd _ (mem3 rfl) rfl | exact kd _ (mem4 rfl) rfl | exact kd _ (mem5 rfl) rfl
      have t68 : ρ (.tmp 68) = .bool (lessAns ta tb) := (ks 14 68 (by decide) rfl).trans d14
      have d17 : v 17 = .bool (lessAns ta tb) := by first | exact kd _ (mem0 rfl) rfl | exact kd _ (mem1 rfl) rfl | exact kd _ (mem2 rfl) rfl | exact kd _ (mem3 rfl) rfl | exact kd _ (mem4 rfl) rfl | exact kd _ (mem5 rfl) rfl
      have t71 : ρ (.tmp 71) = .bool (lessAns ta tb) := (ks 17 71 (by decide) rfl).trans d17
      simp [execOp, go_sem, kc, t68, t71]
      exact ⟨hC, Below.refl _ _, rfl⟩
    · refine stepW_of_u ⟨rfl, fun v W ρ hC kc kf ks ki kd => ?_⟩
      have d11 : v 11 = .bool false := by first | exact kd _ (mem0 rfl) rfl | exact kd _ (mem1 rfl) rfl | exact kd _ (mem2 rfl) rfl | exact kd _ (mem3 rfl) rfl | exact kd _ (mem4 rfl) rfl | exact kd _ (mem5 rfl) rfl
      have t65 : ρ (.tmp 65) = .bool false := (ks 11 65 (by decide) rfl).trans d11
      have d18 : v 18 = .bool false := by first | exact kd _ (mem0 rfl) rfl | exact kd _ (mem1 rfl) rfl | exact kd _ (mem2 rfl) rfl | exact kd _ (mem3 rfl) rfl | exact kd _ (mem4 rfl) rfl | exact kd _ (mem5 rfl) rfl
      have t72 : ρ (.tmp 72) = .bool false := (ks 18 72 (by decide) rfl).trans d18
      simp [execOp, go_sem, kc, t65, t72]
      exact ⟨hC, Below.refl _ _, rfl⟩
    · refine stepW_of_u ⟨rfl, fun v W ρ hC kc kf ks ki kd => ?_⟩
      have d19 : v 19 = .bool false := by first | exact kd _ (mem0 rfl) rfl | exact kd _ (mem1 rfl) rfl | exact kd _ (mem2 rfl) rfl | exact kd _ (mem3 rfl) rfl | exact kd _ (mem4 rfl) rfl | exact kd _ (mem5 rfl) rfl
      have t73 : ρ (.tmp 73) = .bool false := (ks 19 73 (by decide) rfl).trans d19
      simp [execOp, go_sem, kc, t73]
      exact ⟨hC, Below.refl _ _, rfl⟩
    · intro v W ρ y hC kc kf ks ki ky ku kd
      have dg : v 20 = .bool false := by first | exact kd _ (mem0 rfl) rfl | exact kd _ (mem1 rfl) rfl | exact kd _ (mem2 rfl) rfl | exact kd _ (mem3 rfl) rfl | exact kd _ (mem4 rfl) rfl | exact kd _ (mem5 rfl) rfl
      have hy := ky 20 74 false (by decide) rfl dg
      rw [if_pos (by simp [Region.wanted, hy])]
      have t11 : ρ (.tmp 11) = .pointer (some ⟨gx, 0, none⟩) := ki 11 (by decide)
      have hg := blk_later hX16.out hC
      have c0 := blk_cell hg 0
      have c1 := blk_cell hg 1
      have c2 := blk_cell hg 2
      have c3 := blk_cell hg 3
      have c4 := blk_cell hg 4
      have c5 := blk_cell hg 5
      have c6 := blk_cell hg 6
      have c7 := blk_cell hg 7
      have c8 := blk_cell hg 8
      have c9 := blk_cell hg 9
      have c10 := blk_cell hg 10
      simp at c0 c1 c2 c3 c4 c5 c6 c7 c8 c9 c10
      simp [execOp, go_sem, kc, t11, c0, c1, c2, c3, c4, c5, c6, c7, c8, c9, c10]
      exact ⟨hC, Below.refl _ _, rfl⟩
    · intro v W ρ y hC kc kf ks ki ky ku kd
      have dg : v 20 = .bool false := by first | exact kd _ (mem0 rfl) rfl | exact kd _ (mem1 rfl) rfl | exact kd _ (mem2 rfl) rfl | exact kd _ (mem3 rfl) rfl | exact kd _ (mem4 rfl) rfl | exact kd _ (mem5 rfl) rfl
      have hy := ky 20 74 false (by decide) rfl dg
      rw [if_pos (by simp [Region.wanted, hy])]
      have t9 : ρ (.tmp 9) = .pointer (some ⟨gp, 0, none⟩) := ki 9 (by decide)
      have hg := blk_later hP16.out hC
      have c0 := blk_cell hg 0
      have c1 := blk_cell hg 1
      have c2 := blk_cell hg 2
      have c3 := blk_cell hg 3
      have c4 := blk_cell hg 4
      have c5 := blk_cell hg 5
      have c6 := blk_cell hg 6
      have c7 := blk_cell hg 7
      have c8 := blk_cell hg 8
      have c9 := blk_cell hg 9
      simp at c0 c1 c2 c3 c4 c5 c6 c7 c8 c9
      simp [execOp, go_sem, kc, t9, c0, c1, c2, c3, c4, c5, c6, c7, c8, c9]
      exact ⟨hC, Below.refl _ _, rfl⟩
    · intro v W ρ y hC kc kf ks ki ky ku kd
      have dg : v 20 = .bool false := by first | exact kd _ (mem0 rfl) rfl | exact kd _ (mem1 rfl) rfl | exact kd _ (mem2 rfl) rfl | exact kd _ (mem3 rfl) rfl | exact kd _ (mem4 rfl) rfl | exact kd _ (mem5 rfl) rfl
      have hy := ky 20 74 false (by decide) rfl dg
      rw [if_pos (by simp [Region.wanted, hy])]
      have t10 : ρ (.tmp 10) = .pointer (some ⟨gw, 0, none⟩) := ki 10 (by decide)
      have hg := blk_later hW16.out hC
      have c0 := blk_cell hg 0
      have c1 := blk_cell hg 1
      have c2 := blk_cell hg 2
      have c3 := blk_cell hg 3
      have c4 := blk_cell hg 4
      have c5 := blk_cell hg 5
      simp at c0 c1 c2 c3 c4 c5
      simp [execOp, go_sem, kc, t10, c0, c1, c2, c3, c4, c5]
      exact ⟨hC, Below.refl _ _, rfl⟩
    · intro v W ρ y hC kc kf ks ki ky ku kd
      have dg : v 20 = .bool false := by first | exact kd _ (mem0 rfl) rfl | exact kd _ (mem1 rfl) rfl | exact kd _ (mem2 rfl) rfl | exact kd _ (mem3 rfl) rfl | exact kd _ (mem4 rfl) rfl | exact kd _ (mem5 rfl) rfl
      have hy := ky 20 74 false (by decide) rfl dg
      rw [if_pos (by simp [Region.wanted, hy])]
      have d22 : v 22 = .agg #[.int .i64 p.src, .int .i64 p.dst, .int .i64 p.proto, .int .i64 p.a, .int .i64 p.b, .int .i64 p.kind, .int .i64 p.flags, .int .i64 p.seq, .int .i64 p.ack, .string p.body] := by first | exact kd _ (mem0 rfl) rfl | exact kd _ (mem1 rfl) rfl | exact kd _ (mem2 rfl) rfl | exact kd _ (mem3 rfl) rfl | exact kd _ (mem4 rfl) rfl | exact kd _ (mem5 rfl) rfl
      have t76 : ρ (.tmp 76) = .agg #[.int .i64 p.src, .int .i64 p.dst, .int .i64 p.proto, .int .i64 p.a, .int .i64 p.b, .int .i64 p.kind, .int .i64 p.flags, .int .i64 p.seq, .int .i64 p.ack, .string p.body] := (ks 22 76 (by decide) rfl).trans d22
      have d23 : v 23 = .agg #[.int .i64 tw.proto, .int .i64 tw.src, .int .i64 tw.sport, .int .i64 tw.dst, .int .i64 tw.dport, .int .i64 tw.kind] := by first | exact kd _ (mem0 rfl) rfl | exact kd _ (mem1 rfl) rfl | exact kd _ (mem2 rfl) rfl | exact kd _ (mem3 rfl) rfl | exact kd _ (mem4 rfl) rfl | exact kd _ (mem5 rfl) rfl
      have t77 : ρ (.tmp 77) = .agg #[.int .i64 tw.proto, .int .i64 tw.src, .int .i64 tw.sport, .int .i64 tw.dst, .int .i64 tw.dport, .int .i64 tw.kind] := (ks 23 77 (by decide) rfl).trans d23
      simp [execOp, go_sem, t76, t77, kf]
      exact Calls.mono (HWs.out W) (fun e x h => ⟨_, h.1, hC.trans (h.2.mono hC.size), h.2, rfl⟩)
    · intro v W ρ y hC kc kf ks ki ky ku kd
      have dg : v 20 = .bool false := by first | exact kd _ (mem0 rfl) rfl | exact kd _ (mem1 rfl) rfl | exact kd _ (mem2 rfl) rfl | exact kd _ (mem3 rfl) rfl | exact kd _ (mem4 rfl) rfl | exact kd _ (mem5 rfl) rfl
      have hy := ky 20 74 false (by decide) rfl dg
      rw [if_pos (by simp [Region.wanted, hy])]
      have d21 : v 21 = .agg #[.int .i64 X.src, .int .i64 X.dst, .int .i64 X.proto, .int .i64 X.a, .int .i64 X.b, .int .i64 X.kind, .int .i64 X.flags, .int .i64 X.seq, .int .i64 X.ack, .string X.body, .int .i64 C] := by first | exact kd _ (mem0 rfl) rfl | exact kd _ (mem1 rfl) rfl | exact kd _ (mem2 rfl) rfl | exact kd _ (mem3 rfl) rfl | exact kd _ (mem4 rfl) rfl | exact kd _ (mem5 rfl) rfl
      have t75 : ρ (.tmp 75) = .agg #[.int .i64 X.src, .int .i64 X.dst, .int .i64 X.proto, .int .i64 X.a, .int .i64 X.b, .int .i64 X.kind, .int .i64 X.flags, .int .i64 X.seq, .int .i64 X.ack, .string X.body, .int .i64 C] := (ks 21 75 (by decide) rfl).trans d21
      have d24 : v 24 = .agg #[.int .i64 X.src, .int .i64 X.dst, .int .i64 X.proto, .int .i64 X.a, .int .i64 X.b, .int .i64 X.kind, .int .i64 X.flags, .int .i64 X.seq, .int .i64 X.ack, .string X.body, .int .i64 C] := by first | exact kd _ (mem0 rfl) rfl | exact kd _ (mem1 rfl) rfl | exact kd _ (mem2 rfl) rfl | exact kd _ (mem3 rfl) rfl | exact kd _ (mem4 rfl) rfl | exact kd _ (mem5 rfl) rfl
      have t78 : ρ (.tmp 78) = .agg #[.int .i64 X.src, .int .i64 X.dst, .int .i64 X.proto, .int .i64 X.a, .int .i64 X.b, .int .i64 X.kind, .int .i64 X.flags, .int .i64 X.seq, .int .i64 X.ack, .string X.body, .int .i64 C] := (ks 24 78 (by decide) rfl).trans d24
      simp [execOp, go_sem, kc, t75, t78, neq_pko X C W]
      exact ⟨hC, Below.refl _ _, rfl⟩
    · refine stepW_of_u ⟨rfl, fun v W ρ hC kc kf ks ki kd => ?_⟩
      have d20 : v 20 = .bool false := by first | exact kd _ (mem0 rfl) rfl | exact kd _ (mem1 rfl) rfl | exact kd _ (mem2 rfl) rfl | exact kd _ (mem3 rfl) rfl | exact kd _ (mem4 rfl) rfl | exact kd _ (mem5 rfl) rfl
      have t74 : ρ (.tmp 74) = .bool false := (ks 20 74 (by decide) rfl).trans d20
      have d25 : v 25 = .bool false := by first | exact kd _ (mem0 rfl) rfl | exact kd _ (mem1 rfl) rfl | exact kd _ (mem2 rfl) rfl | exact kd _ (mem3 rfl) rfl | exact kd _ (mem4 rfl) rfl | exact kd _ (mem5 rfl) rfl
      have t79 : ρ (.tmp 79) = .bool false := (ks 25 79 (by decide) rfl).trans d25
      simp [execOp, go_sem, kc, t74, t79]
      exact ⟨hC, Below.refl _ _, rfl⟩
    · refine stepW_of_u ⟨rfl, fun v W ρ hC kc kf ks ki kd => ?_⟩
      have d26 : v 26 = .bool false := by first | exact kd _ (mem0 rfl) rfl | exact kd _ (mem1 rfl) rfl | exact kd _ (mem2 rfl) rfl | exact kd _ (mem3 rfl) rfl | exact kd _ (mem4 rfl) rfl | exact kd _ (mem5 rfl) rfl
      have t80 : ρ (.tmp 80) = .bool false := (ks 26 80 (by decide) rfl).trans d26
      simp [execOp, go_sem, kc, t80]
      exact ⟨hC, Below.refl _ _, rfl⟩
    · intro v W ρ y hC kc kf ks ki ky ku kd
      have dg : v 27 = .bool false := by first | exact kd _ (mem0 rfl) rfl | exact kd _ (mem1 rfl) rfl | exact kd _ (mem2 rfl) rfl | exact kd _ (mem3 rfl) rfl | exact kd _ (mem4 rfl) rfl | exact kd _ (mem5 rfl) rfl
      have hy := ky 27 81 false (by decide) rfl dg
      rw [if_pos (by simp [Region.wanted, hy])]
      have t15 : ρ (.tmp 15) = .int .i64 nh := ki 15 (by decide)
      simp [execOp, go_sem, kc, t15]
      exact ⟨hC, Below.refl _ _, rfl⟩
    · intro v W ρ y hC kc kf ks ki ky ku kd
      have dg : v 27 = .bool false := by first | exact kd _ (mem0 rfl) rfl | exact kd _ (mem1 rfl) rfl | exact kd _ (mem2 rfl) rfl | exact kd _ (mem3 rfl) rfl | exact kd _ (mem4 rfl) rfl | exact kd _ (mem5 rfl) rfl
      have hy := ky 27 81 false (by decide) rfl dg
      rw [if_pos (by simp [Region.wanted, hy])]
      have t12 : ρ (.tmp 12) = .pointer (some ⟨gh, 0, none⟩) := ki 12 (by decide)
      have hg := blk_later hH16.out hC
      have c0 := blk_cell hg 0
      have c1 := blk_cell hg 1
      have c2 := blk_cell hg 2
      have c3 := blk_cell hg 3
      have c4 := blk_cell hg 4
      have c5 := blk_cell hg 5
      simp at c0 c1 c2 c3 c4 c5
      simp [execOp, go_sem, kc, t12, c0, c1, c2, c3, c4, c5]
      exact ⟨hC, Below.refl _ _, rfl⟩
    · intro v W ρ y hC kc kf ks ki ky ku kd
      have dg : v 27 = .bool false := by first | exact kd _ (mem0 rfl) rfl | exact kd _ (mem1 rfl) rfl | exact kd _ (mem2 rfl) rfl | exact kd _ (mem3 rfl) rfl | exact kd _ (mem4 rfl) rfl | exact kd _ (mem5 rfl) rfl
      have hy := ky 27 81 false (by decide) rfl dg
      rw [if_pos (by simp [Region.wanted, hy])]
      have t13 : ρ (.tmp 13) = .string key := ki 13 (by decide)
      simp [execOp, go_sem, kc, t13]
      exact ⟨hC, Below.refl _ _, rfl⟩
    · intro v W ρ y hC kc kf ks ki ky ku kd
      have dg : v 27 = .bool false := by first | exact kd _ (mem0 rfl) rfl | exact kd _ (mem1 rfl) rfl | exact kd _ (mem2 rfl) rfl | exact kd _ (mem3 rfl) rfl | exact kd _ (mem4 rfl) rfl | exact kd _ (mem5 rfl) rfl
      have hy := ky 27 81 false (by decide) rfl dg
      rw [if_pos (by simp [Region.wanted, hy])]
      have t14 : ρ (.tmp 14) = .int .i64 many := ki 14 (by decide)
      simp [execOp, go_sem, kc, t14]
      exact ⟨hC, Below.refl _ _, rfl⟩
    · intro v W ρ y hC kc kf ks ki ky ku kd
      have dg : v 27 = .bool false := by first | exact kd _ (mem0 rfl) rfl | exact kd _ (mem1 rfl) rfl | exact kd _ (mem2 rfl) rfl | exact kd _ (mem3 rfl) rfl | exact kd _ (mem4 rfl) rfl | exact kd _ (mem5 rfl) rfl
      have hy := ky 27 81 false (by decide) rfl dg
      rw [if_pos (by simp [Region.wanted, hy])]
      have d29 : v 29 = .agg #[.int .i64 th.proto, .int .i64 th.src, .int .i64 th.sport, .int .i64 th.dst, .int .i64 th.dport, .int .i64 th.kind] := by first | exact kd _ (mem0 rfl) rfl | exact kd _ (mem1 rfl) rfl | exact kd _ (mem2 rfl) rfl | exact kd _ (mem3 rfl) rfl | exact kd _ (mem4 rfl) rfl | exact kd _ (mem5 rfl) rfl
      have t83 : ρ (.tmp 83) = .agg #[.int .i64 th.proto, .int .i64 th.src, .int .i64 th.sport, .int .i64 th.dst, .int .i64 th.dport, .int .i64 th.kind] := (ks 29 83 (by decide) rfl).trans d29
      have d30 : v 30 = .string key := by first | exact kd _ (mem0 rfl) rfl | exact kd _ (mem1 rfl) rfl | exact kd _ (mem2 rfl) rfl | exact kd _ (mem3 rfl) rfl | exact kd _ (mem4 rfl) rfl | exact kd _ (mem5 rfl) rfl
      have t84 : ρ (.tmp 84) = .string key := (ks 30 84 (by decide) rfl).trans d30
      have d31 : v 31 = .int .i64 many := by first | exact kd _ (mem0 rfl) rfl | exact kd _ (mem1 rfl) rfl | exact kd _ (mem2 rfl) rfl | exact kd _ (mem3 rfl) rfl | exact kd _ (mem4 rfl) rfl | exact kd _ (mem5 rfl) rfl
      have t85 : ρ (.tmp 85) = .int .i64 many := (ks 31 85 (by decide) rfl).trans d31
      simp [execOp, go_sem, t83, t84, t85, kf]
      exact Calls.mono (HHs.out W) (fun e x h => ⟨_, h.1, hC.trans (h.2.mono hC.size), h.2, rfl⟩)
    · intro v W ρ y hC kc kf ks ki ky ku kd
      have dg : v 27 = .bool false := by first | exact kd _ (mem0 rfl) rfl | exact kd _ (mem1 rfl) rfl | exact kd _ (mem2 rfl) rfl | exact kd _ (mem3 rfl) rfl | exact kd _ (mem4 rfl) rfl | exact kd _ (mem5 rfl) rfl
      have hy := ky 27 81 false (by decide) rfl dg
      rw [if_pos (by simp [Region.wanted, hy])]
      have d28 : v 28 = .int .i64 nh := by first | exact kd _ (mem0 rfl) rfl | exact kd _ (mem1 rfl) rfl | exact kd _ (mem2 rfl) rfl | exact kd _ (mem3 rfl) rfl | exact kd _ (mem4 rfl) rfl | exact kd _ (mem5 rfl) rfl
      have t82 : ρ (.tmp 82) = .int .i64 nh := (ks 28 82 (by decide) rfl).trans d28
      have d32 : v 32 = .int .i64 nh := by first | exact kd _ (mem0 rfl) rfl | exact kd _ (mem1 rfl) rfl | exact kd _ (mem2 rfl) rfl | exact kd _ (mem3 rfl) rfl | exact kd _ (mem4 rfl) rfl | exact kd _ (mem5 rfl) rfl
      have t86 : ρ (.tmp 86) = .int .i64 nh := (ks 32 86 (by decide) rfl).trans d32
      simp [execOp, go_sem, kc, t82, t86]
      exact ⟨hC, Below.refl _ _, rfl⟩
    · refine stepW_of_u ⟨rfl, fun v W ρ hC kc kf ks ki kd => ?_⟩
      have d27 : v 27 = .bool false := by first | exact kd _ (mem0 rfl) rfl | exact kd _ (mem1 rfl) rfl | exact kd _ (mem2 rfl) rfl | exact kd _ (mem3 rfl) rfl | exact kd _ (mem4 rfl) rfl | exact kd _ (mem5 rfl) rfl
      have t81 : ρ (.tmp 81) = .bool false := (ks 27 81 (by decide) rfl).trans d27
      have d33 : v 33 = .bool false := by first | exact kd _ (mem0 rfl) rfl | exact kd _ (mem1 rfl) rfl | exact kd _ (mem2 rfl) rfl | exact kd _ (mem3 rfl) rfl | exact kd _ (mem4 rfl) rfl | exact kd _ (mem5 rfl) rfl
      have t87 : ρ (.tmp 87) = .bool false := (ks 33 87 (by decide) rfl).trans d33
      simp [execOp, go_sem, kc, t81, t87]
      exact ⟨hC, Below.refl _ _, rfl⟩
    · refine stepW_of_u ⟨rfl, fun v W ρ hC kc kf ks ki kd => ?_⟩
      have d34 : v 34 = .bool false := by first | exact kd _ (mem0 rfl) rfl | exact kd _ (mem1 rfl) rfl | exact kd _ (mem2 rfl) rfl | exact kd _ (mem3 rfl) rfl | exact kd _ (mem4 rfl) rfl | exact kd _ (mem5 rfl) rfl
      have t88 : ρ (.tmp 88) = .bool false := (ks 34 88 (by decide) rfl).trans d34
      simp [execOp, go_sem, kc, t88]
      exact ⟨hC, Below.refl _ _, rfl⟩
    · intro v W ρ y hC kc kf ks ki ky ku kd
      have dg : v 35 = .bool false := by first | exact kd _ (mem0 rfl) rfl | exact kd _ (mem1 rfl) rfl | exact kd _ (mem2 rfl) rfl | exact kd _ (mem3 rfl) rfl | exact kd _ (mem4 rfl) rfl | exact kd _ (mem5 rfl) rfl
      have hy := ky 35 89 false (by decide) rfl dg
      rw [if_pos (by simp [Region.wanted, hy])]
      have t16 : ρ (.tmp 16) = .pointer (some ⟨gq, 0, none⟩) := ki 16 (by decide)
      have hg := blk_later hQ16.out hC
      have c0 := blk_cell hg 0
      have c1 := blk_cell hg 1
      have c2 := blk_cell hg 2
      have c3 := blk_cell hg 3
      have c4 := blk_cell hg 4
      have c5 := blk_cell hg 5
      have c6 := blk_cell hg 6
      have c7 := blk_cell hg 7
      have c8 := blk_cell hg 8
      have c9 := blk_cell hg 9
      simp at c0 c1 c2 c3 c4 c5 c6 c7 c8 c9
      simp [execOp, go_sem, kc, t16, c0, c1, c2, c3, c4, c5, c6, c7, c8, c9]
      exact ⟨hC, Below.refl _ _, rfl⟩
    · intro v W ρ y hC kc kf ks ki ky ku kd
      have dg : v 35 = .bool false := by first | exact kd _ (mem0 rfl) rfl | exact kd _ (mem1 rfl) rfl | exact kd _ (mem2 rfl) rfl | exact kd _ (mem3 rfl) rfl | exact kd _ (mem4 rfl) rfl | exact kd _ (mem5 rfl) rfl
      have hy := ky 35 89 false (by decide) rfl dg
      rw [if_pos (by simp [Region.wanted, hy])]
      have d36 : v 36 = .agg #[.int .i64 q.src, .int .i64 q.dst, .int .i64 q.proto, .int .i64 q.a, .int .i64 q.b, .int .i64 q.kind, .int .i64 q.flags, .int .i64 q.seq, .int .i64 q.ack, .string q.body] := by first | exact kd _ (mem0 rfl) rfl | exact kd _ (mem1 rfl) rfl | exact kd _ (mem2 rfl) rfl | exact kd _ (mem3 rfl) rfl | exact kd _ (mem4 rfl) rfl | exact kd _ (mem5 rfl) rfl
      have t90 : ρ (.tmp 90) = .agg #[.int .i64 q.src, .int .i64 q.dst, .int .i64 q.proto, .int .i64 q.a, .int .i64 q.b, .int .i64 q.kind, .int .i64 q.flags, .int .i64 q.seq, .int .i64 q.ack, .string q.body] := (ks 36 90 (by decide) rfl).trans d36
      simp [execOp, go_sem, t90, kf]
      exact Calls.mono (HQi.out W) (fun e x h => ⟨_, h.1, hC.trans (h.2.mono hC.size), h.2, rfl⟩)
    · intro v W ρ y hC kc kf ks ki ky ku kd
      have dg : v 35 = .bool false := by first | exact kd _ (mem0 rfl) rfl | exact kd _ (mem1 rfl) rfl | exact kd _ (mem2 rfl) rfl | exact kd _ (mem3 rfl) rfl | exact kd _ (mem4 rfl) rfl | exact kd _ (mem5 rfl) rfl
      have hy := ky 35 89 false (by decide) rfl dg
      rw [if_pos (by simp [Region.wanted, hy])]
      have t16 : ρ (.tmp 16) = .pointer (some ⟨gq, 0, none⟩) := ki 16 (by decide)
      have hg := blk_later hQ16.out hC
      have c0 := blk_cell hg 0
      have c1 := blk_cell hg 1
      have c2 := blk_cell hg 2
      have c3 := blk_cell hg 3
      have c4 := blk_cell hg 4
      have c5 := blk_cell hg 5
      have c6 := blk_cell hg 6
      have c7 := blk_cell hg 7
      have c8 := blk_cell hg 8
      have c9 := blk_cell hg 9
      simp at c0 c1 c2 c3 c4 c5 c6 c7 c8 c9
      simp [execOp, go_sem, kc, t16, c0, c1, c2, c3, c4, c5, c6, c7, c8, c9]
      exact ⟨hC, Below.refl _ _, rfl⟩
    · intro v W ρ y hC kc kf ks ki ky ku kd
      have dg : v 35 = .bool false := by first | exact kd _ (mem0 rfl) rfl | exact kd _ (mem1 rfl) rfl | exact kd _ (mem2 rfl) rfl | exact kd _ (mem3 rfl) rfl | exact kd _ (mem4 rfl) rfl | exact kd _ (mem5 rfl) rfl
      have hy := ky 35 89 false (by decide) rfl dg
      rw [if_pos (by simp [Region.wanted, hy])]
      have d38 : v 38 = .agg #[.int .i64 q.src, .int .i64 q.dst, .int .i64 q.proto, .int .i64 q.a, .int .i64 q.b, .int .i64 q.kind, .int .i64 q.flags, .int .i64 q.seq, .int .i64 q.ack, .string q.body] := by first | exact kd _ (mem0 rfl) rfl | exact kd _ (mem1 rfl) rfl | exact kd _ (mem2 rfl) rfl | exact kd _ (mem3 rfl) rfl | exact kd _ (mem4 rfl) rfl | exact kd _ (mem5 rfl) rfl
      have t92 : ρ (.tmp 92) = .agg #[.int .i64 q.src, .int .i64 q.dst, .int .i64 q.proto, .int .i64 q.a, .int .i64 q.b, .int .i64 q.kind, .int .i64 q.flags, .int .i64 q.seq, .int .i64 q.ack, .string q.body] := (ks 38 92 (by decide) rfl).trans d38
      simp [execOp, go_sem, t92, kf]
      exact Calls.mono (HQs.out W) (fun e x h => ⟨_, h.1, hC.trans (h.2.mono hC.size), h.2, rfl⟩)
    · intro v W ρ y hC kc kf ks ki ky ku kd
      have dg : v 35 = .bool false := by first | exact kd _ (mem0 rfl) rfl | exact kd _ (mem1 rfl) rfl | exact kd _ (mem2 rfl) rfl | exact kd _ (mem3 rfl) rfl | exact kd _ (mem4 rfl) rfl | exact kd _ (mem5 rfl) rfl
      have hy := ky 35 89 false (by decide) rfl dg
      rw [if_pos (by simp [Region.wanted, hy])]
      have d37 : v 37 = .agg #[.int .i64 OQ.proto, .int .i64 OQ.src, .int .i64 OQ.sport, .int .i64 OQ.dst, .int .i64 OQ.dport, .int .i64 OQ.kind] := by first | exact kd _ (mem0 rfl) rfl | exact kd _ (mem1 rfl) rfl | exact kd _ (mem2 rfl) rfl | exact kd _ (mem3 rfl) rfl | exact kd _ (mem4 rfl) rfl | exact kd _ (mem5 rfl) rfl
      have t91 : ρ (.tmp 91) = .agg #[.int .i64 OQ.proto, .int .i64 OQ.src, .int .i64 OQ.sport, .int .i64 OQ.dst, .int .i64 OQ.dport, .int .i64 OQ.kind] := (ks 37 91 (by decide) rfl).trans d37
      have d39 : v 39 = .agg #[.int .i64 OQ.proto, .int .i64 OQ.src, .int .i64 OQ.sport, .int .i64 OQ.dst, .int .i64 OQ.dport, .int .i64 OQ.kind] := by first | exact kd _ (mem0 rfl) rfl | exact kd _ (mem1 rfl) rfl | exact kd _ (mem2 rfl) rfl | exact kd _ (mem3 rfl) rfl | exact kd _ (mem4 rfl) rfl | exact kd _ (mem5 rfl) rfl
      have t93 : ρ (.tmp 93) = .agg #[.int .i64 OQ.proto, .int .i64 OQ.src, .int .i64 OQ.sport, .int .i64 OQ.dst, .int .i64 OQ.dport, .int .i64 OQ.kind] := (ks 39 93 (by decide) rfl).trans d39
      simp [execOp, go_sem, kc, t91, t93, nQ]
      exact ⟨hC, Below.refl _ _, rfl⟩
    · refine stepW_of_u ⟨rfl, fun v W ρ hC kc kf ks ki kd => ?_⟩
      have d35 : v 35 = .bool false := by first | exact kd _ (mem0 rfl) rfl | exact kd _ (mem1 rfl) rfl | exact kd _ (mem2 rfl) rfl | exact kd _ (mem3 rfl) rfl | exact kd _ (mem4 rfl) rfl | exact kd _ (mem5 rfl) rfl
      have t89 : ρ (.tmp 89) = .bool false := (ks 35 89 (by decide) rfl).trans d35
      have d40 : v 40 = .bool false := by first | exact kd _ (mem0 rfl) rfl | exact kd _ (mem1 rfl) rfl | exact kd _ (mem2 rfl) rfl | exact kd _ (mem3 rfl) rfl | exact kd _ (mem4 rfl) rfl | exact kd _ (mem5 rfl) rfl
      have t94 : ρ (.tmp 94) = .bool false := (ks 40 94 (by decide) rfl).trans d40
      simp [execOp, go_sem, kc, t89, t94]
      exact ⟨hC, Below.refl _ _, rfl⟩
    · refine stepW_of_u ⟨rfl, fun v W ρ hC kc kf ks ki kd => ?_⟩
      have d41 : v 41 = .bool false := by first | exact kd _ (mem0 rfl) rfl | exact kd _ (mem1 rfl) rfl | exact kd _ (mem2 rfl) rfl | exact kd _ (mem3 rfl) rfl | exact kd _ (mem4 rfl) rfl | exact kd _ (mem5 rfl) rfl
      have t95 : ρ (.tmp 95) = .bool false := (ks 41 95 (by decide) rfl).trans d41
      simp [execOp, go_sem, kc, t95]
      exact ⟨hC, Below.refl _ _, rfl⟩
    · intro v W ρ y hC kc kf ks ki ky ku kd
      have dg : v 42 = .bool false := by first | exact kd _ (mem0 rfl) rfl | exact kd _ (mem1 rfl) rfl | exact kd _ (mem2 rfl) rfl | exact kd _ (mem3 rfl) rfl | exact kd _ (mem4 rfl) rfl | exact kd _ (mem5 rfl) rfl
      have hy := ky 42 96 false (by decide) rfl dg
      rw [if_pos (by simp [Region.wanted, hy])]
      have t5 : ρ (.tmp 5) = .pointer (some ⟨gt, 0, none⟩) := ki 5 (by decide)
      have hg := blk_later hT16.out hC
      have c0 := blk_cell hg 0
      have c1 := blk_cell hg 1
      have c2 := blk_cell hg 2
      have c3 := blk_cell hg 3
      have c4 := blk_cell hg 4
      have c5 := blk_cell hg 5
      simp at c0 c1 c2 c3 c4 c5
      simp [execOp, go_sem, kc, t5, c0, c1, c2, c3, c4, c5]
      exact ⟨hC, Below.refl _ _, rfl⟩
    · intro v W ρ y hC kc kf ks ki ky ku kd
      have dg : v 42 = .bool false := by first | exact kd _ (mem0 rfl) rfl | exact kd _ (mem1 rfl) rfl | exact kd _ (mem2 rfl) rfl | exact kd _ (mem3 rfl) rfl | exact kd _ (mem4 rfl) rfl | exact kd _ (mem5 rfl) rfl
      have hy := ky 42 96 false (by decide) rfl dg
      rw [if_pos (by simp [Region.wanted, hy])]
      have d43 : v 43 = .agg #[.int .i64 t.proto, .int .i64 t.src, .int .i64 t.sport, .int .i64 t.dst, .int .i64 t.dport, .int .i64 t.kind] := by first | exact kd _ (mem0 rfl) rfl | exact kd _ (mem1 rfl) rfl | exact kd _ (mem2 rfl) rfl | exact kd _ (mem3 rfl) rfl | exact kd _ (mem4 rfl) rfl | exact kd _ (mem5 rfl) rfl
      have t97 : ρ (.tmp 97) = .agg #[.int .i64 t.proto, .int .i64 t.src, .int .i64 t.sport, .int .i64 t.dst, .int .i64 t.dport, .int .i64 t.kind] := (ks 43 97 (by decide) rfl).trans d43
      simp [execOp, go_sem, t97, kf]
      exact Calls.mono (HTi.out W (hL16.out.trans (hC.mono hL16.out.size))) (fun e x h => ⟨_, h.1, hC.trans (h.2.mono hC.size), h.2, rfl⟩)
    · intro v W ρ y hC kc kf ks ki ky ku kd
      have dg : v 42 = .bool false := by first | exact kd _ (mem0 rfl) rfl | exact kd _ (mem1 rfl) rfl | exact kd _ (mem2 rfl) rfl | exact kd _ (mem3 rfl) rfl | exact kd _ (mem4 rfl) rfl | exact kd _ (mem5 rfl) rfl
      have hy := ky 42 96 false (by decide) rfl dg
      rw [if_pos (by simp [Region.wanted, hy])]
      have t5 : ρ (.tmp 5) = .pointer (some ⟨gt, 0, none⟩) := ki 5 (by decide)
      have hg := blk_later hT16.out hC
      have c0 := blk_cell hg 0
      have c1 := blk_cell hg 1
      have c2 := blk_cell hg 2
      have c3 := blk_cell hg 3
      have c4 := blk_cell hg 4
      have c5 := blk_cell hg 5
      simp at c0 c1 c2 c3 c4 c5
      simp [execOp, go_sem, kc, t5, c0, c1, c2, c3, c4, c5]
      exact ⟨hC, Below.refl _ _, rfl⟩
    · intro v W ρ y hC kc kf ks ki ky ku kd
      have dg : v 42 = .bool false := by first | exact kd _ (mem0 rfl) rfl | exact kd _ (mem1 rfl) rfl | exact kd _ (mem2 rfl) rfl | exact kd _ (mem3 rfl) rfl | exact kd _ (mem4 rfl) rfl | exact kd _ (mem5 rfl) rfl
      have hy := ky 42 96 false (by decide) rfl dg
      rw [if_pos (by simp [Region.wanted, hy])]
      have d45 : v 45 = .agg #[.int .i64 t.proto, .int .i64 t.src, .int .i64 t.sport, .int .i64 t.dst, .int .i64 t.dport, .int .i64 t.kind] := by first | exact kd _ (mem0 rfl) rfl | exact kd _ (mem1 rfl) rfl | exact kd _ (mem2 rfl) rfl | exact kd _ (mem3 rfl) rfl | exact kd _ (mem4 rfl) rfl | exact kd _ (mem5 rfl) rfl
      have t99 : ρ (.tmp 99) = .agg #[.int .i64 t.proto, .int .i64 t.src, .int .i64 t.sport, .int .i64 t.dst, .int .i64 t.dport, .int .i64 t.kind] := (ks 45 99 (by decide) rfl).trans d45
      simp [execOp, go_sem, t99, kf]
      exact Calls.mono (HTs.out W) (fun e x h => ⟨_, h.1, hC.trans (h.2.mono hC.size), h.2, rfl⟩)
    · intro v W ρ y hC kc kf ks ki ky ku kd
      have dg : v 42 = .bool false := by first | exact kd _ (mem0 rfl) rfl | exact kd _ (mem1 rfl) rfl | exact kd _ (mem2 rfl) rfl | exact kd _ (mem3 rfl) rfl | exact kd _ (mem4 rfl) rfl | exact kd _ (mem5 rfl) rfl
      have hy := ky 42 96 false (by decide) rfl dg
      rw [if_pos (by simp [Region.wanted, hy])]
      have d44 : v 44 = .string (textAns t) := by first | exact kd _ (mem0 rfl) rfl | exact kd _ (mem1 rfl) rfl | exact kd _ (mem2 rfl) rfl | exact kd _ (mem3 rfl) rfl | exact kd _ (mem4 rfl) rfl | exact kd _ (mem5 rfl) rfl
      have t98 : ρ (.tmp 98) = .string (textAns t) := (ks 44 98 (by decide) rfl).trans d44
      have d46 : v 46 = .string (textAns t) := by first | exact kd _ (mem0 rfl) rfl | exact kd _ (mem1 rfl) rfl | exact kd _ (mem2 rfl) rfl | exact kd _ (mem3 rfl) rfl | exact kd _ (mem4 rfl) rfl | exact kd _ (mem5 rfl) rfl
      have t100 : ρ (.tmp 100) = .string (textAns t) := (ks 46 100 (by decide) rfl).trans d46
      simp [execOp, go_sem, kc, t98, t100]
      exact ⟨hC, Below.refl _ _, rfl⟩
    · refine stepW_of_u ⟨rfl, fun v W ρ hC kc kf ks ki kd => ?_⟩
      have d42 : v 42 = .bool false := by first | exact kd _ (mem0 rfl) rfl | exact kd _ (mem1 rfl) rfl | exact kd _ (mem2 rfl) rfl | exact kd _ (mem3 rfl) rfl | exact kd _ (mem4 rfl) rfl | exact kd _ (mem5 rfl) rfl
      have t96 : ρ (.tmp 96) = .bool false := (ks 42 96 (by decide) rfl).trans d42
      have d47 : v 47 = .bool false := by first | exact kd _ (mem0 rfl) rfl | exact kd _ (mem1 rfl) rfl | exact kd _ (mem2 rfl) rfl | exact kd _ (mem3 rfl) rfl | exact kd _ (mem4 rfl) rfl | exact kd _ (mem5 rfl) rfl
      have t101 : ρ (.tmp 101) = .bool false := (ks 47 101 (by decide) rfl).trans d47
      simp [execOp, go_sem, kc, t96, t101]
      exact ⟨hC, Below.refl _ _, rfl⟩
  intro v11 W11 hb11 hall
  have hv11 : v11 48 = .bool false := hall 48 (by decide)
  simp [upto, Act.put]
  rw [hv11]
  clear hall hv11
  have hL17 := hidS (hL16.out.trans (hb11.mono hL16.out.size))
  have hT17 := hidS (blk_later hT16.out hb11)
  have hV17 := hidS (blk_later hV16.out hb11)
  have hA17 := hidS (blk_later hA16.out hb11)
  have hB17 := hidS (blk_later hB16.out hb11)
  have hP17 := hidS (blk_later hP16.out hb11)
  have hW17 := hidS (blk_later hW16.out hb11)
  have hX17 := hidS (blk_later hX16.out hb11)
  clear hb11 hL16 hT16 hV16 hA16 hB16 hP16 hW16 hX16
  clear hH16 hQ16 HVs HRi HLs HWs HHs HQi HQs HTi HTs nV nQ
  go_wp2_with fail
  obtain ⟨R, hR⟩ : ∃ R, rightT t = R := ⟨_, rfl⟩
  have HV4 : Hid (R = true → ∀ W, Calls Tryz.prog 21 #[.agg #[.int .i64 V.proto, .int .i64 V.src, .int .i64 V.sport, .int .i64 V.dst, .int .i64 V.dport, .int .i64 V.kind]] W fun e w' => e = .returned (.agg #[.int .i64 t.proto, .int .i64 t.src, .int .i64 t.sport, .int .i64 t.dst, .int .i64 t.dport, .int .i64 t.kind]) ∧ Below W.heap.size W w') := hidS (fun h => by
    have := HVV.out
    rw [HV2.out (hR.trans h)] at this
    exact this)
  have HV5 : Hid (R = true → ((textAns V).toList == []) = false) := hidS (fun h => by
    have hr := HV3.out (hR.trans h)
    have := tupT_pos V hr
    rw [text_right hr, beq_eq_false_iff_ne]
    intro e
    rw [e] at this
    cases this)
  generalize textAns V = TV at HVT HV5
  rw [hR] at HRs
  clear HVV HV2 HV3 hR
  obtain ⟨G, hG⟩ : ∃ G, decide (many ≤ nh) = G := ⟨_, rfl⟩
  have HG1 : Hid (G = true → many ≤ nh ∧ ¬ 0 < nh) := hidS (fun h => by
    have h1 : many ≤ nh := of_decide_eq_true (hG.trans h)
    exact ⟨h1, fun h2 => HHb.out ⟨h1, h2⟩⟩)
  have HG2 : Hid (G = false → ¬ many ≤ nh) := hidS (fun h => of_decide_eq_false (hG.trans h))
  clear HHb hG
  have HAs := hidS (fun W => specTRight_any ta W)
  have HBs := hidS (fun W => specTRight_any tb W)
  have HL2 := hidS (fun W => implLess_any tb ta W)
  have HTa := hidS (fun W (h : Below w.heap.size w W) => implText_any ta W (tab_later HK.out h))
  have HTb := hidS (fun W (h : Below w.heap.size w W) => implText_any tb W (tab_later HK.out h))
  obtain ⟨A, hA⟩ : ∃ A, rightT ta = A := ⟨_, rfl⟩
  obtain ⟨D, hD⟩ : ∃ D, rightT tb = D := ⟨_, rfl⟩
  obtain ⟨S, hSm⟩ : ∃ S, sameT ta tb = S := ⟨_, rfl⟩
  have qN : Hid (∀ W, (binOp .neq 40 (.agg #[.int .i64 ta.proto, .int .i64 ta.src, .int .i64 ta.sport, .int .i64 ta.dst, .int .i64 ta.dport, .int .i64 ta.kind]) (.agg #[.int .i64 tb.proto, .int .i64 tb.src, .int .i64 tb.sport, .int .i64 tb.dst, .int .i64 tb.dport, .int .i64 tb.kind])).run Tryz.prog W = .ok (.bool (!S)) W) := hidS (fun W => by rw [neq_tup, hSm])
  have qE : Hid (∀ W, (binOp .eql 40 (.agg #[.int .i64 ta.proto, .int .i64 ta.src, .int .i64 ta.sport, .int .i64 ta.dst, .int .i64 ta.dport, .int .i64 ta.kind]) (.agg #[.int .i64 tb.proto, .int .i64 tb.src, .int .i64 tb.sport, .int .i64 tb.dst, .int .i64 tb.dport, .int .i64 tb.kind])).run Tryz.prog W = .ok (.bool S) W) := hidS (fun W => by rw [eql_tup, hSm])
  have HLL : Hid (A = true → D = true → S = false → (lessAns ta tb == lessAns tb ta) = false) := hidS (fun h1 h2 h3 => by
    rw [less_one (hA.trans h1) (hD.trans h2) (fun e => by rw [sameT_iff.2 e] at hSm; rw [← hSm] at h3; cases h3)]
    cases lessAns ta tb <;> rfl)
  have HTT : Hid (S = true → textAns ta = textAns tb) := hidS (fun h => by rw [sameT_iff.1 (hSm.trans h)])
  have HTN : Hid (A = true → D = true → S = false → ((textAns ta).toList == (textAns tb).toList) = false) := hidS (fun h1 h2 h3 => by
    rw [text_right (hA.trans h1), text_right (hD.trans h2), beq_eq_false_iff_ne]
    intro e
    rw [toList_data, toList_data] at e
    have e2 : tupT ta = tupT tb := by
      cases hx : tupT ta with | mk x => cases hy : tupT tb with | mk y => rw [hx, hy] at e; simp at e; rw [e]
    have := tupT_inj (hA.trans h1) (hD.trans h2) e2
    rw [sameT_iff.2 this] at hSm
    rw [← hSm] at h3
    cases h3)
  rw [hA] at HAs
  rw [hD] at HBs
  clear hA hD hSm
  generalize lessAns ta tb = L1 at *
  generalize lessAns tb ta = L2 at *
  generalize textAns ta = TA at *
  generalize textAns tb = TB at *
  have nT : ∀ W, (binOp .neq 40 (.agg #[.int .i64 t.proto, .int .i64 t.src, .int .i64 t.sport, .int .i64 t.dst, .int .i64 t.dport, .int .i64 t.kind]) (.agg #[.int .i64 t.proto, .int .i64 t.src, .int .i64 t.sport, .int .i64 t.dst, .int .i64 t.dport, .int .i64 t.kind])).run Tryz.prog W = .ok (.bool false) W := fun W => by rw [neq_tup, sameT_iff.2 rfl]; rfl
  refine grow_guarded 44 [.is (.agg #[.int .i64 t.proto, .int .i64 t.src, .int .i64 t.sport, .int .i64 t.dst, .int .i64 t.dport, .int .i64 t.kind]), .is (cond R (.bool true) (.bool false)), .is (cond R (.bool true) (.bool false)), .is (cond R (.agg #[.int .i64 V.proto, .int .i64 V.src, .int .i64 V.sport, .int .i64 V.dst, .int .i64 V.dport, .int .i64 V.kind]) (undef)), .is (cond R (.agg #[.int .i64 t.proto, .int .i64 t.src, .int .i64 t.sport, .int .i64 t.dst, .int .i64 t.dport, .int .i64 t.kind]) (undef)), .is (cond R (.agg #[.int .i64 t.proto, .int .i64 t.src, .int .i64 t.sport, .int .i64 t.dst, .int .i64 t.dport, .int .i64 t.kind]) (undef)), .is (cond R (.bool false) (undef)), .is (cond R (.bool false) (undef)), .is (cond R (.agg #[.int .i64 V.proto, .int .i64 V.src, .int .i64 V.sport, .int .i64 V.dst, .int .i64 V.dport, .int .i64 V.kind]) (undef)), .is (cond R (.string TV) (undef)), .is (cond R (.bool false) (undef)), .is (cond R (.bool false) (undef)), .is (.bool false), .is (.bool false), .is (.int .i64 nh), .is (.int .i64 many), .is (cond G (.bool true) (.bool false)), .is (cond G (.bool true) (.bool false)), .is (cond G (.int .i64 nh) (undef)), .is (cond G (.bool false) (undef)), .is (.bool false), .is (.bool false), .is (.bool false), .is (.agg #[.int .i64 ta.proto, .int .i64 ta.src, .int .i64 ta.sport, .int .i64 ta.dst, .int .i64 ta.dport, .int .i64 ta.kind]), .is (cond A (.bool true) (.bool false)), .is (cond A (.bool true) (.bool false)), .is (cond A (.agg #[.int .i64 tb.proto, .int .i64 tb.src, .int .i64 tb.sport, .int .i64 tb.dst, .int .i64 tb.dport, .int .i64 tb.kind]) (undef)), .is (cond A (cond D (.bool true) (.bool false)) (undef)), .is (cond A (cond D (.bool true) (.bool false)) (.bool false)), .is (cond A (cond D (.bool true) (.bool false)) (.bool false)), .is (cond A (cond D (.agg #[.int .i64 ta.proto, .int .i64 ta.src, .int .i64 ta.sport, .int .i64 ta.dst, .int .i64 ta.dport, .int .i64 ta.kind]) (undef)) (undef)), .is (cond A (cond D (.agg #[.int .i64 tb.proto, .int .i64 tb.src, .int .i64 tb.sport, .int .i64 tb.dst, .int .i64 tb.dport, .int .i64 tb.kind]) (undef)) (undef)), .is (cond A (cond D (cond S (.bool false) (.bool true)) (undef)) (undef)), .is (cond A (cond D (cond S (.bool false) (.bool true)) (.bool false)) (.bool false)), .is (cond A (cond D (cond S (.bool false) (.bool true)) (.bool false)) (.bool false)), .is (cond A (cond D (cond S (undef) (.agg #[.int .i64 ta.proto, .int .i64 ta.src, .int .i64 ta.sport, .int .i64 ta.dst, .int .i64 ta.dport, .int .i64 ta.kind])) (undef)) (undef)), .is (cond A (cond D (cond S (undef) (.agg #[.int .i64 tb.proto, .int .i64 tb.src, .int .i64 tb.sport, .int .i64 tb.dst, .int .i64 tb.dport, .int .i64 tb.kind])) (undef)) (undef)), .is (cond A (cond D (cond S (undef) (.bool L1)) (undef)) (undef)), .is (cond A (cond D (cond S (undef) (.agg #[.int .i64 tb.proto, .int .i64 tb.src, .int .i64 tb.sport, .int .i64 tb.dst, .int .i64 tb.dport, .int .i64 tb.kind])) (undef)) (undef)), .is (cond A (cond D (cond S (undef) (.agg #[.int .i64 ta.proto, .int .i64 ta.src, .int .i64 ta.sport, .int .i64 ta.dst, .int .i64 ta.dport, .int .i64 ta.kind])) (undef)) (undef)), .is (cond A (cond D (cond S (undef) (.bool L2)) (undef)) (undef)), .is (cond A (cond D (cond S (undef) (.bool false)) (undef)) (undef)), .is (.bool false), .is (.bool false)] rfl (by kernel_rfl) (by kernel_rfl) ?steps13 ?fin13
  case steps13 =>
    refine ⟨?_, ?_, ?_, ?_, ?_, ?_, ?_, ?_, ?_, ?_, ?_, ?_, ?_, ?_, ?_, ?_, ?_, ?_, ?_, ?_, ?_, ?_, ?_, ?_, ?_, ?_, ?_, ?_, ?_, ?_, ?_, ?_, ?_, ?_, ?_, ?_, ?_, ?_, ?_, ?_, ?_, ?_, ?_, ?_, trivial⟩
    · cases R
      · refine stepW_of_u ⟨rfl, fun v W ρ hC kc kf ks ki kd => ?_⟩
        have t5 : ρ (.tmp 5) = .pointer (some ⟨gt, 0, none⟩) := ki 5 (by decide)
        have hg := blk_later hT17.out hC
        have c0 := blk_cell hg 0
        have c1 := blk_cell hg 1
        have c2 := blk_cell hg 2
        have c3 := blk_cell hg 3
        have c4 := blk_cell hg 4
        have c5 := blk_cell hg 5
        simp at c0 c1 c2 c3 c4 c5
        simp [execOp, go_sem, kc, t5, c0, c1, c2, c3, c4, c5]
        exact ⟨hC, Below.refl _ _, rfl⟩
      · refine stepW_of_u ⟨rfl, fun v W ρ hC kc kf ks ki kd => ?_⟩
        have t5 : ρ (.tmp 5) = .pointer (some ⟨gt, 0, none⟩) := ki 5 (by decide)
        have hg := blk_later hT17.out hC
        have c0 := blk_cell hg 0
        have c1 := blk_cell hg 1
        have c2 := blk_cell hg 2
        have c3 := blk_cell hg 3
        have c4 := blk_cell hg 4
        have c5 := blk_cell hg 5
        simp at c0 c1 c2 c3 c4 c5
        simp [execOp, go_sem, kc, t5, c0, c1, c2, c3, c4, c5]
        exact ⟨hC, Below.refl _ _, rfl⟩
    · cases R
      · refine stepW_of_u ⟨rfl, fun v W ρ hC kc kf ks ki kd => ?_⟩
        have d0 : v 0 = .agg #[.int .i64 t.proto, .int .i64 t.src, .int .i64 t.sport, .int .i64 t.dst, .int .i64 t.dport, .int .i64 t.kind] := by first | exact kd _ (mem0 rfl) rfl | exact kd _ (mem1 rfl) rfl | exact kd _ (mem2 rfl) rfl | exact kd _ (mem3 rfl) rfl | exact kd _ (mem4 rfl) rfl | exact kd _ (mem5 rfl) rfl
        have t103 : ρ (.tmp 103) = .agg #[.int .i64 t.proto, .int .i64 t.src, .int .i64 t.sport, .int .i64 t.dst, .int .i64 t.dport, .int .i64 t.kind] := (ks 0 103 (by decide) rfl).trans d0
        simp [execOp, go_sem, t103, kf]
        exact Calls.mono (HRs.out W) (fun e x h => ⟨_, h.1, hC.trans (h.2.mono hC.size), h.2, rfl⟩)
      · refine stepW_of_u ⟨rfl, fun v W ρ hC kc kf ks ki kd => ?_⟩
        have d0 : v 0 = .agg #[.int .i64 t.proto, .int .i64 t.src, .int .i64 t.sport, .int .i64 t.dst, .int .i64 t.dport, .int .i64 t.kind] := by first | exact kd _ (mem0 rfl) rfl | exact kd _ (mem1 rfl) rfl | exact kd _ (mem2 rfl) rfl | exact kd _ (mem3 rfl) rfl | exact kd _ (mem4 rfl) rfl | exact kd _ (mem5 rfl) rfl
        have t103 : ρ (.tmp 103) = .agg #[.int .i64 t.proto, .int .i64 t.src, .int .i64 t.sport, .int .i64 t.dst, .int .i64 t.dport, .int .i64 t.kind] := (ks 0 103 (by decide) rfl).trans d0
        simp [execOp, go_sem, t103, kf]
        exact Calls.mono (HRs.out W) (fun e x h => ⟨_, h.1, hC.trans (h.2.mono hC.size), h.2, rfl⟩)
    · cases R
      · refine stepW_of_u ⟨rfl, fun v W ρ hC kc kf ks ki kd => ?_⟩
        have d1 : v 1 = .bool false := by first | exact kd _ (mem0 rfl) rfl | exact kd _ (mem1 rfl) rfl | exact kd _ (mem2 rfl) rfl | exact kd _ (mem3 rfl) rfl | exact kd _ (mem4 rfl) rfl | exact kd _ (mem5 rfl) rfl
        have t104 : ρ (.tmp 104) = .bool false := (ks 1 104 (by decide) rfl).trans d1
        simp [execOp, go_sem, kc, t104]
        exact ⟨hC, Below.refl _ _, rfl⟩
      · refine stepW_of_u ⟨rfl, fun v W ρ hC kc kf ks ki kd => ?_⟩
        have d1 : v 1 = .bool true := by first | exact kd _ (mem0 rfl) rfl | exact kd _ (mem1 rfl) rfl | exact kd _ (mem2 rfl) rfl | exact kd _ (mem3 rfl) rfl | exact kd _ (mem4 rfl) rfl | exact kd _ (mem5 rfl) rfl
        have t104 : ρ (.tmp 104) = .bool true := (ks 1 104 (by decide) rfl).trans d1
        simp [execOp, go_sem, kc, t104]
        exact ⟨hC, Below.refl _ _, rfl⟩
    · cases R
      · intro v W ρ y hC kc kf ks ki ky ku kd
        have dg : v 2 = .bool false := by first | exact kd _ (mem0 rfl) rfl | exact kd _ (mem1 rfl) rfl | exact kd _ (mem2 rfl) rfl | exact kd _ (mem3 rfl) rfl | exact kd _ (mem4 rfl) rfl | exact kd _ (mem5 rfl) rfl
        have hy := ky 2 105 false (by decide) rfl dg
        rw [if_neg (by simp [Region.wanted, hy])]
        exact ⟨Below.refl _ _, rfl⟩
      · intro v W ρ y hC kc kf ks ki ky ku kd
        have dg : v 2 = .bool true := by first | exact kd _ (mem0 rfl) rfl | exact kd _ (mem1 rfl) rfl | exact kd _ (mem2 rfl) rfl | exact kd _ (mem3 rfl) rfl | exact kd _ (mem4 rfl) rfl | exact kd _ (mem5 rfl) rfl
        have hy := ky 2 105 true (by decide) rfl dg
        rw [if_pos (by simp [Region.wanted, hy])]
        have t6 : ρ (.tmp 6) = .pointer (some ⟨gv, 0, none⟩) := ki 6 (by decide)
        have hg := blk_later hV17.out hC
        have c0 := blk_cell hg 0
        have c1 := blk_cell hg 1
        have c2 := blk_cell hg 2
        have c3 := blk_cell hg 3
        have c4 := blk_cell hg 4
        have c5 := blk_cell hg 5
        simp at c0 c1 c2 c3 c4 c5
        simp [execOp, go_sem, kc, t6, c0, c1, c2, c3, c4, c5]
        exact ⟨hC, Below.refl _ _, rfl⟩
    · cases R
      · intro v W ρ y hC kc kf ks ki ky ku kd
        have dg : v 2 = .bool false := by first | exact kd _ (mem0 rfl) rfl | exact kd _ (mem1 rfl) rfl | exact kd _ (mem2 rfl) rfl | exact kd _ (mem3 rfl) rfl | exact kd _ (mem4 rfl) rfl | exact kd _ (mem5 rfl) rfl
        have hy := ky 2 105 false (by decide) rfl dg
        rw [if_neg (by simp [Region.wanted, hy])]
        exact ⟨Below.refl _ _, rfl⟩
      · intro v W ρ y hC kc kf ks ki ky ku kd
        have dg : v 2 = .bool true := by first | exact kd _ (mem0 rfl) rfl | exact kd _ (mem1 rfl) rfl | exact kd _ (mem2 rfl) rfl | exact kd _ (mem3 rfl) rfl | exact kd _ (mem4 rfl) rfl | exact kd _ (mem5 rfl) rfl
        have hy := ky 2 105 true (by decide) rfl dg
        rw [if_pos (by simp [Region.wanted, hy])]
        have d3 : v 3 = .agg #[.int .i64 V.proto, .int .i64 V.src, .int .i64 V.sport, .int .i64 V.dst, .int .i64 V.dport, .int .i64 V.kind] := by first | exact kd _ (mem0 rfl) rfl | exact kd _ (mem1 rfl) rfl | exact kd _ (mem2 rfl) rfl | exact kd _ (mem3 rfl) rfl | exact kd _ (mem4 rfl) rfl | exact kd _ (mem5 rfl) rfl
        have t106 : ρ (.tmp 106) = .agg #[.int .i64 V.proto, .int .i64 V.src, .int .i64 V.sport, .int .i64 V.dst, .int .i64 V.dport, .int .i64 V.kind] := (ks 3 106 (by decide) rfl).trans d3
        simp [execOp, go_sem, t106, kf]
        exact Calls.mono (HV4.out rfl W) (fun e x h => ⟨_, h.1, hC.trans (h.2.mono hC.size), h.2, rfl⟩)
    · cases R
      · intro v W ρ y hC kc kf ks ki ky ku kd
        have dg : v 2 = .bool false := by first | exact kd _ (mem0 rfl) rfl | exact kd _ (mem1 rfl) rfl | exact kd _ (mem2 rfl) rfl | exact kd _ (mem3 rfl) rfl | exact kd _ (mem4 rfl) rfl | exact kd _ (mem5 rfl) rfl
        have hy := ky 2 105 false (by decide) rfl dg
        rw [if_neg (by simp [Region.wanted, hy])]
        exact ⟨Below.refl _ _, rfl⟩
      · intro v W ρ y hC kc kf ks ki ky ku kd
        have dg : v 2 = .bool true := by first | exact kd _ (mem0 rfl) rfl | exact kd _ (mem1 rfl) rfl | exact kd _ (mem2 rfl) rfl | exact kd _ (mem3 rfl) rfl | exact kd _ (mem4 rfl) rfl | exact kd _ (mem5 rfl) rfl
        have hy := ky 2 105 true (by decide) rfl dg
        rw [if_pos (by simp [Region.wanted, hy])]
        have t5 : ρ (.tmp 5) = .pointer (some ⟨gt, 0, none⟩) := ki 5 (by decide)
        have hg := blk_later hT17.out hC
        have c0 := blk_cell hg 0
        have c1 := blk_cell hg 1
        have c2 := blk_cell hg 2
        have c3 := blk_cell hg 3
        have c4 := blk_cell hg 4
        have c5 := blk_cell hg 5
        simp at c0 c1 c2 c3 c4 c5
        simp [execOp, go_sem, kc, t5, c0, c1, c2, c3, c4, c5]
        exact ⟨hC, Below.refl _ _, rfl⟩
    · cases R
      · intro v W ρ y hC kc kf ks ki ky ku kd
        have dg : v 2 = .bool false := by first | exact kd _ (mem0 rfl) rfl | exact kd _ (mem1 rfl) rfl | exact kd _ (mem2 rfl) rfl | exact kd _ (mem3 rfl) rfl | exact kd _ (mem4 rfl) rfl | exact kd _ (mem5 rfl) rfl
        have hy := ky 2 105 false (by decide) rfl dg
        rw [if_neg (by simp [Region.wanted, hy])]
        exact ⟨Below.refl _ _, rfl⟩
      · intro v W ρ y hC kc kf ks ki ky ku kd
        have dg : v 2 = .bool true := by first | exact kd _ (mem0 rfl) rfl | exact kd _ (mem1 rfl) rfl | exact kd _ (mem2 rfl) rfl | exact kd _ (mem3 rfl) rfl | exact kd _ (mem4 rfl) rfl | exact kd _ (mem5 rfl) rfl
        have hy := ky 2 105 true (by decide) rfl dg
        rw [if_pos (by simp [Region.wanted, hy])]
        have d4 : v 4 = .agg #[.int .i64 t.proto, .int .i64 t.src, .int .i64 t.sport, .int .i64 t.dst, .int .i64 t.dport, .int .i64 t.kind] := by first | exact kd _ (mem0 rfl) rfl | exact kd _ (mem1 rfl) rfl | exact kd _ (mem2 rfl) rfl | exact kd _ (mem3 rfl) rfl | exact kd _ (mem4 rfl) rfl | exact kd _ (mem5 rfl) rfl
        have t107 : ρ (.tmp 107) = .agg #[.int .i64 t.proto, .int .i64 t.src, .int .i64 t.sport, .int .i64 t.dst, .int .i64 t.dport, .int .i64 t.kind] := (ks 4 107 (by decide) rfl).trans d4
        have d5 : v 5 = .agg #[.int .i64 t.proto, .int .i64 t.src, .int .i64 t.sport, .int .i64 t.dst, .int .i64 t.dport, .int .i64 t.kind] := by first | exact kd _ (mem0 rfl) rfl | exact kd _ (mem1 rfl) rfl | exact kd _ (mem2 rfl) rfl | exact kd _ (mem3 rfl) rfl | exact kd _ (mem4 rfl) rfl | exact kd _ (mem5 rfl) rfl
        have t108 : ρ (.tmp 108) = .agg #[.int .i64 t.proto, .int .i64 t.src, .int .i64 t.sport, .int .i64 t.dst, .int .i64 t.dport, .int .i64 t.kind] := (ks 5 108 (by decide) rfl).trans d5
        simp [execOp, go_sem, kc, t107, t108, nT]
        exact ⟨hC, Below.refl _ _, rfl⟩
    · cases R
      · intro v W ρ y hC kc kf ks ki ky ku kd
        have dg : v 2 = .bool false := by first | exact kd _ (mem0 rfl) rfl | exact kd _ (mem1 rfl) rfl | exact kd _ (mem2 rfl) rfl | exact kd _ (mem3 rfl) rfl | exact kd _ (mem4 rfl) rfl | exact kd _ (mem5 rfl) rfl
        have hy := ky 2 105 false (by decide) rfl dg
        rw [if_neg (by simp [Region.wanted, hy])]
        exact ⟨Below.refl _ _, rfl⟩
      · intro v W ρ y hC kc kf ks ki ky ku kd
        have dg : v 2 = .bool true := by first | exact kd _ (mem0 rfl) rfl | exact kd _ (mem1 rfl) rfl | exact kd _ (mem2 rfl) rfl | exact kd _ (mem3 rfl) rfl | exact kd _ (mem4 rfl) rfl | exact kd _ (mem5 rfl) rfl
        have hy := ky 2 105 true (by decide) rfl dg
        rw [if_pos (by simp [Region.wanted, hy])]
        have d6 : v 6 = .bool false := by first | exact kd _ (mem0 rfl) rfl | exact kd _ (mem1 rfl) rfl | exact kd _ (mem2 rfl) rfl | exact kd _ (mem3 rfl) rfl | exact kd _ (mem4 rfl) rfl | exact kd _ (mem5 rfl) rfl
        have t109 : ρ (.tmp 109) = .bool false := (ks 6 109 (by decide) rfl).trans d6
        simp [execOp, go_sem, kc, t109]
        exact ⟨hC, Below.refl _ _, rfl⟩
    · cases R
      · intro v W ρ y hC kc kf ks ki ky ku kd
        have dg : v 7 = undef := by first | exact kd _ (mem0 rfl) rfl | exact kd _ (mem1 rfl) rfl | exact kd _ (mem2 rfl) rfl | exact kd _ (mem3 rfl) rfl | exact kd _ (mem4 rfl) rfl | exact kd _ (mem5 rfl) rfl
        have hy := ku 7 110 (by decide) rfl dg
        rw [if_neg (by simp [Region.wanted, hy])]
        exact ⟨Below.refl _ _, rfl⟩
      · intro v W ρ y hC kc kf ks ki ky ku kd
        have dg : v 7 = .bool false := by first | exact kd _ (mem0 rfl) rfl | exact kd _ (mem1 rfl) rfl | exact kd _ (mem2 rfl) rfl | exact kd _ (mem3 rfl) rfl | exact kd _ (mem4 rfl) rfl | exact kd _ (mem5 rfl) rfl
        have hy := ky 7 110 false (by decide) rfl dg
        rw [if_pos (by simp [Region.wanted, hy])]
        have t6 : ρ (.tmp 6) = .pointer (some ⟨gv, 0, none⟩) := ki 6 (by decide)
        have hg := blk_later hV17.out hC
        have c0 := blk_cell hg 0
        have c1 := blk_cell hg 1
        have c2 := blk_cell hg 2
        have c3 := blk_cell hg 3
        have c4 := blk_cell hg 4
        have c5 := blk_cell hg 5
        simp at c0 c1 c2 c3 c4 c5
        simp [execOp, go_sem, kc, t6, c0, c1, c2, c3, c4, c5]
        exact ⟨hC, Below.refl _ _, rfl⟩
    · cases R
      · intro v W ρ y hC kc kf ks ki ky ku kd
        have dg : v 7 = undef := by first | exact kd _ (mem0 rfl) rfl | exact kd _ (mem1 rfl) rfl | exact kd _ (mem2 rfl) rfl | exact kd _ (mem3 rfl) rfl | exact kd _ (mem4 rfl) rfl | exact kd _ (mem5 rfl) rfl
        have hy := ku 7 110 (by decide) rfl dg
        rw [if_neg (by simp [Region.wanted, hy])]
        exact ⟨Below.refl _ _, rfl⟩
      · intro v W ρ y hC kc kf ks ki ky ku kd
        have dg : v 7 = .bool false := by first | exact kd _ (mem0 rfl) rfl | exact kd _ (mem1 rfl) rfl | exact kd _ (mem2 rfl) rfl | exact kd _ (mem3 rfl) rfl | exact kd _ (mem4 rfl) rfl | exact kd _ (mem5 rfl) rfl
        have hy := ky 7 110 false (by decide) rfl dg
        rw [if_pos (by simp [Region.wanted, hy])]
        have d8 : v 8 = .agg #[.int .i64 V.proto, .int .i64 V.src, .int .i64 V.sport, .int .i64 V.dst, .int .i64 V.dport, .int .i64 V.kind] := by first | exact kd _ (mem0 rfl) rfl | exact kd _ (mem1 rfl) rfl | exact kd _ (mem2 rfl) rfl | exact kd _ (mem3 rfl) rfl | exact kd _ (mem4 rfl) rfl | exact kd _ (mem5 rfl) rfl
        have t111 : ρ (.tmp 111) = .agg #[.int .i64 V.proto, .int .i64 V.src, .int .i64 V.sport, .int .i64 V.dst, .int .i64 V.dport, .int .i64 V.kind] := (ks 8 111 (by decide) rfl).trans d8
        simp [execOp, go_sem, t111, kf]
        exact Calls.mono (HVT.out W (hL17.out.trans (hC.mono hL17.out.size))) (fun e x h => ⟨_, h.1, hC.trans (h.2.mono hC.size), h.2, rfl⟩)
    · cases R
      · intro v W ρ y hC kc kf ks ki ky ku kd
        have dg : v 7 = undef := by first | exact kd _ (mem0 rfl) rfl | exact kd _ (mem1 rfl) rfl | exact kd _ (mem2 rfl) rfl | exact kd _ (mem3 rfl) rfl | exact kd _ (mem4 rfl) rfl | exact kd _ (mem5 rfl) rfl
        have hy := ku 7 110 (by decide) rfl dg
        rw [if_neg (by simp [Region.wanted, hy])]
        exact ⟨Below.refl _ _, rfl⟩
      · intro v W ρ y hC kc kf ks ki ky ku kd
        have dg : v 7 = .bool false := by first | exact kd _ (mem0 rfl) rfl | exact kd _ (mem1 rfl) rfl | exact kd _ (mem2 rfl) rfl | exact kd _ (mem3 rfl) rfl | exact kd _ (mem4 rfl) rfl | exact kd _ (mem5 rfl) rfl
        have hy := ky 7 110 false (by decide) rfl dg
        rw [if_pos (by simp [Region.wanted, hy])]
        have d9 : v 9 = .string TV := by first | exact kd _ (mem0 rfl) rfl | exact kd _ (mem1 rfl) rfl | exact kd _ (mem2 rfl) rfl | exact kd _ (mem3 rfl) rfl | exact kd _ (mem4 rfl) rfl | exact kd _ (mem5 rfl) rfl
        have t112 : ρ (.tmp 112) = .string TV := (ks 9 112 (by decide) rfl).trans d9
        simp [execOp, go_sem, kc, t112, HV5.out rfl]
        exact ⟨hC, Below.refl _ _, rfl⟩
    · cases R
      · intro v W ρ y hC kc kf ks ki ky ku kd
        have dg : v 2 = .bool false := by first | exact kd _ (mem0 rfl) rfl | exact kd _ (mem1 rfl) rfl | exact kd _ (mem2 rfl) rfl | exact kd _ (mem3 rfl) rfl | exact kd _ (mem4 rfl) rfl | exact kd _ (mem5 rfl) rfl
        have hy := ky 2 105 false (by decide) rfl dg
        rw [if_neg (by simp [Region.wanted, hy])]
        exact ⟨Below.refl _ _, rfl⟩
      · intro v W ρ y hC kc kf ks ki ky ku kd
        have dg : v 2 = .bool true := by first | exact kd _ (mem0 rfl) rfl | exact kd _ (mem1 rfl) rfl | exact kd _ (mem2 rfl) rfl | exact kd _ (mem3 rfl) rfl | exact kd _ (mem4 rfl) rfl | exact kd _ (mem5 rfl) rfl
        have hy := ky 2 105 true (by decide) rfl dg
        rw [if_pos (by simp [Region.wanted, hy])]
        have d7 : v 7 = .bool false := by first | exact kd _ (mem0 rfl) rfl | exact kd _ (mem1 rfl) rfl | exact kd _ (mem2 rfl) rfl | exact kd _ (mem3 rfl) rfl | exact kd _ (mem4 rfl) rfl | exact kd _ (mem5 rfl) rfl
        have t110 : ρ (.tmp 110) = .bool false := (ks 7 110 (by decide) rfl).trans d7
        have d10 : v 10 = .bool false := by first | exact kd _ (mem0 rfl) rfl | exact kd _ (mem1 rfl) rfl | exact kd _ (mem2 rfl) rfl | exact kd _ (mem3 rfl) rfl | exact kd _ (mem4 rfl) rfl | exact kd _ (mem5 rfl) rfl
        have t113 : ρ (.tmp 113) = .bool false := (ks 10 113 (by decide) rfl).trans d10
        simp [execOp, go_sem, kc, t110, t113]
        exact ⟨hC, Below.refl _ _, rfl⟩
    · cases R
      · refine stepW_of_u ⟨rfl, fun v W ρ hC kc kf ks ki kd => ?_⟩
        have d2 : v 2 = .bool false := by first | exact kd _ (mem0 rfl) rfl | exact kd _ (mem1 rfl) rfl | exact kd _ (mem2 rfl) rfl | exact kd _ (mem3 rfl) rfl | exact kd _ (mem4 rfl) rfl | exact kd _ (mem5 rfl) rfl
        have t105 : ρ (.tmp 105) = .bool false := (ks 2 105 (by decide) rfl).trans d2
        simp [execOp, go_sem, kc, t105]
        exact ⟨hC, Below.refl _ _, rfl⟩
      · refine stepW_of_u ⟨rfl, fun v W ρ hC kc kf ks ki kd => ?_⟩
        have d2 : v 2 = .bool true := by first | exact kd _ (mem0 rfl) rfl | exact kd _ (mem1 rfl) rfl | exact kd _ (mem2 rfl) rfl | exact kd _ (mem3 rfl) rfl | exact kd _ (mem4 rfl) rfl | exact kd _ (mem5 rfl) rfl
        have t105 : ρ (.tmp 105) = .bool true := (ks 2 105 (by decide) rfl).trans d2
        have d11 : v 11 = .bool false := by first | exact kd _ (mem0 rfl) rfl | exact kd _ (mem1 rfl) rfl | exact kd _ (mem2 rfl) rfl | exact kd _ (mem3 rfl) rfl | exact kd _ (mem4 rfl) rfl | exact kd _ (mem5 rfl) rfl
        have t114 : ρ (.tmp 114) = .bool false := (ks 11 114 (by decide) rfl).trans d11
        simp [execOp, go_sem, kc, t105, t114]
        exact ⟨hC, Below.refl _ _, rfl⟩
    · cases R
      · refine stepW_of_u ⟨rfl, fun v W ρ hC kc kf ks ki kd => ?_⟩
        have d12 : v 12 = .bool false := by first | exact kd _ (mem0 rfl) rfl | exact kd _ (mem1 rfl) rfl | exact kd _ (mem2 rfl) rfl | exact kd _ (mem3 rfl) rfl | exact kd _ (mem4 rfl) rfl | exact kd _ (mem5 rfl) rfl
        have t115 : ρ (.tmp 115) = .bool false := (ks 12 115 (by decide) rfl).trans d12
        simp [execOp, go_sem, kc, t115]
        exact ⟨hC, Below.refl _ _, rfl⟩
      · refine stepW_of_u ⟨rfl, fun v W ρ hC kc kf ks ki kd => ?_⟩
        have d12 : v 12 = .bool false := by first | exact kd _ (mem0 rfl) rfl | exact kd _ (mem1 rfl) rfl | exact kd _ (mem2 rfl) rfl | exact kd _ (mem3 rfl) rfl | exact kd _ (mem4 rfl) rfl | exact kd _ (mem5 rfl) rfl
        have t115 : ρ (.tmp 115) = .bool false := (ks 12 115 (by decide) rfl).trans d12
        simp [execOp, go_sem, kc, t115]
        exact ⟨hC, Below.refl _ _, rfl⟩
    · cases G
      · intro v W ρ y hC kc kf ks ki ky ku kd
        have dg : v 13 = .bool false := by first | exact kd _ (mem0 rfl) rfl | exact kd _ (mem1 rfl) rfl | exact kd _ (mem2 rfl) rfl | exact kd _ (mem3 rfl) rfl | exact kd _ (mem4 rfl) rfl | exact kd _ (mem5 rfl) rfl
        have hy := ky 13 116 false (by decide) rfl dg
        rw [if_pos (by simp [Region.wanted, hy])]
        have t15 : ρ (.tmp 15) = .int .i64 nh := ki 15 (by decide)
        simp [execOp, go_sem, kc, t15]
        exact ⟨hC, Below.refl _ _, rfl⟩
      · intro v W ρ y hC kc kf ks ki ky ku kd
        have dg : v 13 = .bool false := by first | exact kd _ (mem0 rfl) rfl | exact kd _ (mem1 rfl) rfl | exact kd _ (mem2 rfl) rfl | exact kd _ (mem3 rfl) rfl | exact kd _ (mem4 rfl) rfl | exact kd _ (mem5 rfl) rfl
        have hy := ky 13 116 false (by decide) rfl dg
        rw [if_pos (by simp [Region.wanted, hy])]
        have t15 : ρ (.tmp 15) = .int .i64 nh := ki 15 (by decide)
        simp [execOp, go_sem, kc, t15]
        exact ⟨hC, Below.refl _ _, rfl⟩
    · cases G
      · intro v W ρ y hC kc kf ks ki ky ku kd
        have dg : v 13 = .bool false := by first | exact kd _ (mem0 rfl) rfl | exact kd _ (mem1 rfl) rfl | exact kd _ (mem2 rfl) rfl | exact kd _ (mem3 rfl) rfl | exact kd _ (mem4 rfl) rfl | exact kd _ (mem5 rfl) rfl
        have hy := ky 13 116 false (by decide) rfl dg
        rw [if_pos (by simp [Region.wanted, hy])]
        have t14 : ρ (.tmp 14) = .int .i64 many := ki 14 (by decide)
        simp [execOp, go_sem, kc, t14]
        exact ⟨hC, Below.refl _ _, rfl⟩
      · intro v W ρ y hC kc kf ks ki ky ku kd
        have dg : v 13 = .bool false := by first | exact kd _ (mem0 rfl) rfl | exact kd _ (mem1 rfl) rfl | exact kd _ (mem2 rfl) rfl | exact kd _ (mem3 rfl) rfl | exact kd _ (mem4 rfl) rfl | exact kd _ (mem5 rfl) rfl
        have hy := ky 13 116 false (by decide) rfl dg
        rw [if_pos (by simp [Region.wanted, hy])]
        have t14 : ρ (.tmp 14) = .int .i64 many := ki 14 (by decide)
        simp [execOp, go_sem, kc, t14]
        exact ⟨hC, Below.refl _ _, rfl⟩
    · cases G
      · intro v W ρ y hC kc kf ks ki ky ku kd
        have dg : v 13 = .bool false := by first | exact kd _ (mem0 rfl) rfl | exact kd _ (mem1 rfl) rfl | exact kd _ (mem2 rfl) rfl | exact kd _ (mem3 rfl) rfl | exact kd _ (mem4 rfl) rfl | exact kd _ (mem5 rfl) rfl
        have hy := ky 13 116 false (by decide) rfl dg
        rw [if_pos (by simp [Region.wanted, hy])]
        have d14 : v 14 = .int .i64 nh := by first | exact kd _ (mem0 rfl) rfl | exact kd _ (mem1 rfl) rfl | exact kd _ (mem2 rfl) rfl | exact kd _ (mem3 rfl) rfl | exact kd _ (mem4 rfl) rfl | exact kd _ (mem5 rfl) rfl
        have t117 : ρ (.tmp 117) = .int .i64 nh := (ks 14 117 (by decide) rfl).trans d14
        have d15 : v 15 = .int .i64 many := by first | exact kd _ (mem0 rfl) rfl | exact kd _ (mem1 rfl) rfl | exact kd _ (mem2 rfl) rfl | exact kd _ (mem3 rfl) rfl | exact kd _ (mem4 rfl) rfl | exact kd _ (mem5 rfl) rfl
        have t118 : ρ (.tmp 118) = .int .i64 many := (ks 15 118 (by decide) rfl).trans d15
        have e1 := HG2.out rfl
        simp [execOp, go_sem, kc, t117, t118, e1]
        exact ⟨hC, Below.refl _ _, rfl⟩
      · intro v W ρ y hC kc kf ks ki ky ku kd
        have dg : v 13 = .bool false := by first | exact kd _ (mem0 rfl) rfl | exact kd _ (mem1 rfl) rfl | exact kd _ (mem2 rfl) rfl | exact kd _ (mem3 rfl) rfl | exact kd _ (mem4 rfl) rfl | exact kd _ (mem5 rfl) rfl
        have hy := ky 13 116 false (by decide) rfl dg
        rw [if_pos (by simp [Region.wanted, hy])]
        have d14 : v 14 = .int .i64 nh := by first | exact kd _ (mem0 rfl) rfl | exact kd _ (mem1 rfl) rfl | exact kd _ (mem2 rfl) rfl | exact kd _ (mem3 rfl) rfl | exact kd _ (mem4 rfl) rfl | exact kd _ (mem5 rfl) rfl
        have t117 : ρ (.tmp 117) = .int .i64 nh := (ks 14 117 (by decide) rfl).trans d14
        have d15 : v 15 = .int .i64 many := by first | exact kd _ (mem0 rfl) rfl | exact kd _ (mem1 rfl) rfl | exact kd _ (mem2 rfl) rfl | exact kd _ (mem3 rfl) rfl | exact kd _ (mem4 rfl) rfl | exact kd _ (mem5 rfl) rfl
        have t118 : ρ (.tmp 118) = .int .i64 many := (ks 15 118 (by decide) rfl).trans d15
        have e1 := (HG1.out rfl).1
        simp [execOp, go_sem, kc, t117, t118, e1]
        exact ⟨hC, Below.refl _ _, rfl⟩
    · cases G
      · intro v W ρ y hC kc kf ks ki ky ku kd
        have dg : v 13 = .bool false := by first | exact kd _ (mem0 rfl) rfl | exact kd _ (mem1 rfl) rfl | exact kd _ (mem2 rfl) rfl | exact kd _ (mem3 rfl) rfl | exact kd _ (mem4 rfl) rfl | exact kd _ (mem5 rfl) rfl
        have hy := ky 13 116 false (by decide) rfl dg
        rw [if_pos (by simp [Region.wanted, hy])]
        have d16 : v 16 = .bool false := by first | exact kd _ (mem0 rfl) rfl | exact kd _ (mem1 rfl) rfl | exact kd _ (mem2 rfl) rfl | exact kd _ (mem3 rfl) rfl | exact kd _ (mem4 rfl) rfl | exact kd _ (mem5 rfl) rfl
        have t119 : ρ (.tmp 119) = .bool false := (ks 16 119 (by decide) rfl).trans d16
        simp [execOp, go_sem, kc, t119]
        exact ⟨hC, Below.refl _ _, rfl⟩
      · intro v W ρ y hC kc kf ks ki ky ku kd
        have dg : v 13 = .bool false := by first | exact kd _ (mem0 rfl) rfl | exact kd _ (mem1 rfl) rfl | exact kd _ (mem2 rfl) rfl | exact kd _ (mem3 rfl) rfl | exact kd _ (mem4 rfl) rfl | exact kd _ (mem5 rfl) rfl
        have hy := ky 13 116 false (by decide) rfl dg
        rw [if_pos (by simp [Region.wanted, hy])]
        have d16 : v 16 = .bool true := by first | exact kd _ (mem0 rfl) rfl | exact kd _ (mem1 rfl) rfl | exact kd _ (mem2 rfl) rfl | exact kd _ (mem3 rfl) rfl | exact kd _ (mem4 rfl) rfl | exact kd _ (mem5 rfl) rfl
        have t119 : ρ (.tmp 119) = .bool true := (ks 16 119 (by decide) rfl).trans d16
        simp [execOp, go_sem, kc, t119]
        exact ⟨hC, Below.refl _ _, rfl⟩
    · cases G
      · intro v W ρ y hC kc kf ks ki ky ku kd
        have dg : v 17 = .bool false := by first | exact kd _ (mem0 rfl) rfl | exact kd _ (mem1 rfl) rfl | exact kd _ (mem2 rfl) rfl | exact kd _ (mem3 rfl) rfl | exact kd _ (mem4 rfl) rfl | exact kd _ (mem5 rfl) rfl
        have hy := ky 17 120 false (by decide) rfl dg
        rw [if_neg (by simp [Region.wanted, hy])]
        exact ⟨Below.refl _ _, rfl⟩
      · intro v W ρ y hC kc kf ks ki ky ku kd
        have dg : v 17 = .bool true := by first | exact kd _ (mem0 rfl) rfl | exact kd _ (mem1 rfl) rfl | exact kd _ (mem2 rfl) rfl | exact kd _ (mem3 rfl) rfl | exact kd _ (mem4 rfl) rfl | exact kd _ (mem5 rfl) rfl
        have hy := ky 17 120 true (by decide) rfl dg
        rw [if_pos (by simp [Region.wanted, hy])]
        have t15 : ρ (.tmp 15) = .int .i64 nh := ki 15 (by decide)
        simp [execOp, go_sem, kc, t15]
        exact ⟨hC, Below.refl _ _, rfl⟩
    · cases G
      · intro v W ρ y hC kc kf ks ki ky ku kd
        have dg : v 17 = .bool false := by first | exact kd _ (mem0 rfl) rfl | exact kd _ (mem1 rfl) rfl | exact kd _ (mem2 rfl) rfl | exact kd _ (mem3 rfl) rfl | exact kd _ (mem4 rfl) rfl | exact kd _ (mem5 rfl) rfl
        have hy := ky 17 120 false (by decide) rfl dg
        rw [if_neg (by simp [Region.wanted, hy])]
        exact ⟨Below.refl _ _, rfl⟩
      · intro v W ρ y hC kc kf ks ki ky ku kd
        have dg : v 17 = .bool true := by first | exact kd _ (mem0 rfl) rfl | exact kd _ (mem1 rfl) rfl | exact kd _ (mem2 rfl) rfl | exact kd _ (mem3 rfl) rfl | exact kd _ (mem4 rfl) rfl | exact kd _ (mem5 rfl) rfl
        have hy := ky 17 120 true (by decide) rfl dg
        rw [if_pos (by simp [Region.wanted, hy])]
        have d18 : v 18 = .int .i64 nh := by first | exact kd _ (mem0 rfl) rfl | exact kd _ (mem1 rfl) rfl | exact kd _ (mem2 rfl) rfl | exact kd _ (mem3 rfl) rfl | exact kd _ (mem4 rfl) rfl | exact kd _ (mem5 rfl) rfl
        have t121 : ρ (.tmp 121) = .int .i64 nh := (ks 18 121 (by decide) rfl).trans d18
        have e1 := (HG1.out rfl).2
        simp [execOp, go_sem, kc, t121, e1]
        exact ⟨hC, Below.refl _ _, rfl⟩
    · cases G
      · intro v W ρ y hC kc kf ks ki ky ku kd
        have dg : v 13 = .bool false := by first | exact kd _ (mem0 rfl) rfl | exact kd _ (mem1 rfl) rfl | exact kd _ (mem2 rfl) rfl | exact kd _ (mem3 rfl) rfl | exact kd _ (mem4 rfl) rfl | exact kd _ (mem5 rfl) rfl
        have hy := ky 13 116 false (by decide) rfl dg
        rw [if_pos (by simp [Region.wanted, hy])]
        have d17 : v 17 = .bool false := by first | exact kd _ (mem0 rfl) rfl | exact kd _ (mem1 rfl) rfl | exact kd _ (mem2 rfl) rfl | exact kd _ (mem3 rfl) rfl | exact kd _ (mem4 rfl) rfl | exact kd _ (mem5 rfl) rfl
        have t120 : ρ (.tmp 120) = .bool false := (ks 17 120 (by decide) rfl).trans d17
        simp [execOp, go_sem, kc, t120]
        exact ⟨hC, Below.refl _ _, rfl⟩
      · intro v W ρ y hC kc kf ks ki ky ku kd
        have dg : v 13 = .bool false := by first | exact kd _ (mem0 rfl) rfl | exact kd _ (mem1 rfl) rfl | exact kd _ (mem2 rfl) rfl | exact kd _ (mem3 rfl) rfl | exact kd _ (mem4 rfl) rfl | exact kd _ (mem5 rfl) rfl
        have hy := ky 13 116 false (by decide) rfl dg
        rw [if_pos (by simp [Region.wanted, hy])]
        have d17 : v 17 = .bool true := by first | exact kd _ (mem0 rfl) rfl | exact kd _ (mem1 rfl) rfl | exact kd _ (mem2 rfl) rfl | exact kd _ (mem3 rfl) rfl | exact kd _ (mem4 rfl) rfl | exact kd _ (mem5 rfl) rfl
        have t120 : ρ (.tmp 120) = .bool true := (ks 17 120 (by decide) rfl).trans d17
        have d19 : v 19 = .bool false := by first | exact kd _ (mem0 rfl) rfl | exact kd _ (mem1 rfl) rfl | exact kd _ (mem2 rfl) rfl | exact kd _ (mem3 rfl) rfl | exact kd _ (mem4 rfl) rfl | exact kd _ (mem5 rfl) rfl
        have t122 : ρ (.tmp 122) = .bool false := (ks 19 122 (by decide) rfl).trans d19
        simp [execOp, go_sem, kc, t120, t122]
        exact ⟨hC, Below.refl _ _, rfl⟩
    · cases G
      · refine stepW_of_u ⟨rfl, fun v W ρ hC kc kf ks ki kd => ?_⟩
        have d13 : v 13 = .bool false := by first | exact kd _ (mem0 rfl) rfl | exact kd _ (mem1 rfl) rfl | exact kd _ (mem2 rfl) rfl | exact kd _ (mem3 rfl) rfl | exact kd _ (mem4 rfl) rfl | exact kd _ (mem5 rfl) rfl
        have t116 : ρ (.tmp 116) = .bool false := (ks 13 116 (by decide) rfl).trans d13
        have d20 : v 20 = .bool false := by first | exact kd _ (mem0 rfl) rfl | exact kd _ (mem1 rfl) rfl | exact kd _ (mem2 rfl) rfl | exact kd _ (mem3 rfl) rfl | exact kd _ (mem4 rfl) rfl | exact kd _ (mem5 rfl) rfl
        have t123 : ρ (.tmp 123) = .bool false := (ks 20 123 (by decide) rfl).trans d20
        simp [execOp, go_sem, kc, t116, t123]
        exact ⟨hC, Below.refl _ _, rfl⟩
      · refine stepW_of_u ⟨rfl, fun v W ρ hC kc kf ks ki kd => ?_⟩
        have d13 : v 13 = .bool false := by first | exact kd _ (mem0 rfl) rfl | exact kd _ (mem1 rfl) rfl | exact kd _ (mem2 rfl) rfl | exact kd _ (mem3 rfl) rfl | exact kd _ (mem4 rfl) rfl | exact kd _ (mem5 rfl) rfl
        have t116 : ρ (.tmp 116) = .bool false := (ks 13 116 (by decide) rfl).trans d13
        have d20 : v 20 = .bool false := by first | exact kd _ (mem0 rfl) rfl | exact kd _ (mem1 rfl) rfl | exact kd _ (mem2 rfl) rfl | exact kd _ (mem3 rfl) rfl | exact kd _ (mem4 rfl) rfl | exact kd _ (mem5 rfl) rfl
        have t123 : ρ (.tmp 123) = .bool false := (ks 20 123 (by decide) rfl).trans d20
        simp [execOp, go_sem, kc, t116, t123]
        exact ⟨hC, Below.refl _ _, rfl⟩
    · cases G
      · refine stepW_of_u ⟨rfl, fun v W ρ hC kc kf ks ki kd => ?_⟩
        have d21 : v 21 = .bool false := by first | exact kd _ (mem0 rfl) rfl | exact kd _ (mem1 rfl) rfl | exact kd _ (mem2 rfl) rfl | exact kd _ (mem3 rfl) rfl | exact kd _ (mem4 rfl) rfl | exact kd _ (mem5 rfl) rfl
        have t124 : ρ (.tmp 124) = .bool false := (ks 21 124 (by decide) rfl).trans d21
        simp [execOp, go_sem, kc, t124]
        exact ⟨hC, Below.refl _ _, rfl⟩
      · refine stepW_of_u ⟨rfl, fun v W ρ hC kc kf ks ki kd => ?_⟩
        have d21 : v 21 = .bool false := by first | exact kd _ (mem0 rfl) rfl | exact kd _ (mem1 rfl) rfl | exact kd _ (mem2 rfl) rfl | exact kd _ (mem3 rfl) rfl | exact kd _ (mem4 rfl) rfl | exact kd _ (mem5 rfl) rfl
        have t124 : ρ (.tmp 124) = .bool false := (ks 21 124 (by decide) rfl).trans d21
        simp [execOp, go_sem, kc, t124]
        exact ⟨hC, Below.refl _ _, rfl⟩
    · cases A
      · intro v W ρ y hC kc kf ks ki ky ku kd
        have dg : v 22 = .bool false := by first | exact kd _ (mem0 rfl) rfl | exact kd _ (mem1 rfl) rfl | exact kd _ (mem2 rfl) rfl | exact kd _ (mem3 rfl) rfl | exact kd _ (mem4 rfl) rfl | exact kd _ (mem5 rfl) rfl
        have hy := ky 22 125 false (by decide) rfl dg
        rw [if_pos (by simp [Region.wanted, hy])]
        have t7 : ρ (.tmp 7) = .pointer (some ⟨ga, 0, none⟩) := ki 7 (by decide)
        have hg := blk_later hA17.out hC
        have c0 := blk_cell hg 0
        have c1 := blk_cell hg 1
        have c2 := blk_cell hg 2
        have c3 := blk_cell hg 3
        have c4 := blk_cell hg 4
        have c5 := blk_cell hg 5
        simp at c0 c1 c2 c3 c4 c5
        simp [execOp, go_sem, kc, t7, c0, c1, c2, c3, c4, c5]
        exact ⟨hC, Below.refl _ _, rfl⟩
      · cases D
        · intro v W ρ y hC kc kf ks ki ky ku kd
          have dg : v 22 = .bool false := by first | exact kd _ (mem0 rfl) rfl | exact kd _ (mem1 rfl) rfl | exact kd _ (mem2 rfl) rfl | exact kd _ (mem3 rfl) rfl | exact kd _ (mem4 rfl) rfl | exact kd _ (mem5 rfl) rfl
          have hy := ky 22 125 false (by decide) rfl dg
          rw [if_pos (by simp [Region.wanted, hy])]
          have t7 : ρ (.tmp 7) = .pointer (some ⟨ga, 0, none⟩) := ki 7 (by decide)
          have hg := blk_later hA17.out hC
          have c0 := blk_cell hg 0
          have c1 := blk_cell hg 1
          have c2 := blk_cell hg 2
          have c3 := blk_cell hg 3
          have c4 := blk_cell hg 4
          have c5 := blk_cell hg 5
          simp at c0 c1 c2 c3 c4 c5
          simp [execOp, go_sem, kc, t7, c0, c1, c2, c3, c4, c5]
          exact ⟨hC, Below.refl _ _, rfl⟩
        · cases S
          · intro v W ρ y hC kc kf ks ki ky ku kd
            have dg : v 22 = .bool false := by first | exact kd _ (mem0 rfl) rfl | exact kd _ (mem1 rfl) rfl | exact kd _ (mem2 rfl) rfl | exact kd _ (mem3 rfl) rfl | exact kd _ (mem4 rfl) rfl | exact kd _ (mem5 rfl) rfl
            have hy := ky 22 125 false (by decide) rfl dg
            rw [if_pos (by simp [Region.wanted, hy])]
            have t7 : ρ (.tmp 7) = .pointer (some ⟨ga, 0, none⟩) := ki 7 (by decide)
            have hg := blk_later hA17.out hC
            have c0 := blk_cell hg 0
            have c1 := blk_cell hg 1
            have c2 := blk_cell hg 2
            have c3 := blk_cell hg 3
            have c4 := blk_cell hg 4
            have c5 := blk_cell hg 5
            simp at c0 c1 c2 c3 c4 c5
            simp [execOp, go_sem, kc, t7, c0, c1, c2, c3, c4, c5]
            exact ⟨hC, Below.refl _ _, rfl⟩
          · intro v W ρ y hC kc kf ks ki ky ku kd
            have dg : v 22 = .bool false := by first | exact kd _ (mem0 rfl) rfl | exact kd _ (mem1 rfl) rfl | exact kd _ (mem2 rfl) rfl | exact kd _ (mem3 rfl) rfl | exact kd _ (mem4 rfl) rfl | exact kd _ (mem5 rfl) rfl
            have hy := ky 22 125 false (by decide) rfl dg
            rw [if_pos (by simp [Region.wanted, hy])]
            have t7 : ρ (.tmp 7) = .pointer (some ⟨ga, 0, none⟩) := ki 7 (by decide)
            have hg := blk_later hA17.out hC
            have c0 := blk_cell hg 0
            have c1 := blk_cell hg 1
            have c2 := blk_cell hg 2
            have c3 := blk_cell hg 3
            have c4 := blk_cell hg 4
            have c5 := blk_cell hg 5
            simp at c0 c1 c2 c3 c4 c5
            simp [execOp, go_sem, kc, t7, c0, c1, c2, c3, c4, c5]
            exact ⟨hC, Below.refl _ _, rfl⟩
    · cases A
      · intro v W ρ y hC kc kf ks ki ky ku kd
        have dg : v 22 = .bool false := by first | exact kd _ (mem0 rfl) rfl | exact kd _ (mem1 rfl) rfl | exact kd _ (mem2 rfl) rfl | exact kd _ (mem3 rfl) rfl | exact kd _ (mem4 rfl) rfl | exact kd _ (mem5 rfl) rfl
        have hy := ky 22 125 false (by decide) rfl dg
        rw [if_pos (by simp [Region.wanted, hy])]
        have d23 : v 23 = .agg #[.int .i64 ta.proto, .int .i64 ta.src, .int .i64 ta.sport, .int .i64 ta.dst, .int .i64 ta.dport, .int .i64 ta.kind] := by first | exact kd _ (mem0 rfl) rfl | exact kd _ (mem1 rfl) rfl | exact kd _ (mem2 rfl) rfl | exact kd _ (mem3 rfl) rfl | exact kd _ (mem4 rfl) rfl | exact kd _ (mem5 rfl) rfl
        have t126 : ρ (.tmp 126) = .agg #[.int .i64 ta.proto, .int .i64 ta.src, .int .i64 ta.sport, .int .i64 ta.dst, .int .i64 ta.dport, .int .i64 ta.kind] := (ks 23 126 (by decide) rfl).trans d23
        simp [execOp, go_sem, t126, kf]
        exact Calls.mono (HAs.out W) (fun e x h => ⟨_, h.1, hC.trans (h.2.mono hC.size), h.2, rfl⟩)
      · cases D
        · intro v W ρ y hC kc kf ks ki ky ku kd
          have dg : v 22 = .bool false := by first | exact kd _ (mem0 rfl) rfl | exact kd _ (mem1 rfl) rfl | exact kd _ (mem2 rfl) rfl | exact kd _ (mem3 rfl) rfl | exact kd _ (mem4 rfl) rfl | exact kd _ (mem5 rfl) rfl
          have hy := ky 22 125 false (by decide) rfl dg
          rw [if_pos (by simp [Region.wanted, hy])]
          have d23 : v 23 = .agg #[.int .i64 ta.proto, .int .i64 ta.src, .int .i64 ta.sport, .int .i64 ta.dst, .int .i64 ta.dport, .int .i64 ta.kind] := by first | exact kd _ (mem0 rfl) rfl | exact kd _ (mem1 rfl) rfl | exact kd _ (mem2 rfl) rfl | exact kd _ (mem3 rfl) rfl | exact kd _ (mem4 rfl) rfl | exact kd _ (mem5 rfl) rfl
          have t126 : ρ (.tmp 126) = .agg #[.int .i64 ta.proto, .int .i64 ta.src, .int .i64 ta.sport, .int .i64 ta.dst, .int .i64 ta.dport, .int .i64 ta.kind] := (ks 23 126 (by decide) rfl).trans d23
          simp [execOp, go_sem, t126, kf]
          exact Calls.mono (HAs.out W) (fun e x h => ⟨_, h.1, hC.trans (h.2.mono hC.size), h.2, rfl⟩)
        · cases S
          · intro v W ρ y hC kc kf ks ki ky ku kd
            have dg : v 22 = .bool false := by first | exact kd _ (mem0 rfl) rfl | exact kd _ (mem1 rfl) rfl | exact kd _ (mem2 rfl) rfl | exact kd _ (mem3 rfl) rfl | exact kd _ (mem4 rfl) rfl | exact kd _ (mem5 rfl) rfl
            have hy := ky 22 125 false (by decide) rfl dg
            rw [if_pos (by simp [Region.wanted, hy])]
            have d23 : v 23 = .agg #[.int .i64 ta.proto, .int .i64 ta.src, .int .i64 ta.sport, .int .i64 ta.dst, .int .i64 ta.dport, .int .i64 ta.kind] := by first | exact kd _ (mem0 rfl) rfl | exact kd _ (mem1 rfl) rfl | exact kd _ (mem2 rfl) rfl | exact kd _ (mem3 rfl) rfl | exact kd _ (mem4 rfl) rfl | exact kd _ (mem5 rfl) rfl
            have t126 : ρ (.tmp 126) = .agg #[.int .i64 ta.proto, .int .i64 ta.src, .int .i64 ta.sport, .int .i64 ta.dst, .int .i64 ta.dport, .int .i64 ta.kind] := (ks 23 126 (by decide) rfl).trans d23
            simp [execOp, go_sem, t126, kf]
            exact Calls.mono (HAs.out W) (fun e x h => ⟨_, h.1, hC.trans (h.2.mono hC.size), h.2, rfl⟩)
          · intro v W ρ y hC kc kf ks ki ky ku kd
            have dg : v 22 = .bool false := by first | exact kd _ (mem0 rfl) rfl | exact kd _ (mem1 rfl) rfl | exact kd _ (mem2 rfl) rfl | exact kd _ (mem3 rfl) rfl | exact kd _ (mem4 rfl) rfl | exact kd _ (mem5 rfl) rfl
            have hy := ky 22 125 false (by decide) rfl dg
            rw [if_pos (by simp [Region.wanted, hy])]
            have d23 : v 23 = .agg #[.int .i64 ta.proto, .int .i64 ta.src, .int .i64 ta.sport, .int .i64 ta.dst, .int .i64 ta.dport, .int .i64 ta.kind] := by first | exact kd _ (mem0 rfl) rfl | exact kd _ (mem1 rfl) rfl | exact kd _ (mem2 rfl) rfl | exact kd _ (mem3 rfl) rfl | exact kd _ (mem4 rfl) rfl | exact kd _ (mem5 rfl) rfl
            have t126 : ρ (.tmp 126) = .agg #[.int .i64 ta.proto, .int .i64 ta.src, .int .i64 ta.sport, .int .i64 ta.dst, .int .i64 ta.dport, .int .i64 ta.kind] := (ks 23 126 (by decide) rfl).trans d23
            simp [execOp, go_sem, t126, kf]
            exact Calls.mono (HAs.out W) (fun e x h => ⟨_, h.1, hC.trans (h.2.mono hC.size), h.2, rfl⟩)
    · cases A
      · intro v W ρ y hC kc kf ks ki ky ku kd
        have dg : v 22 = .bool false := by first | exact kd _ (mem0 rfl) rfl | exact kd _ (mem1 rfl) rfl | exact kd _ (mem2 rfl) rfl | exact kd _ (mem3 rfl) rfl | exact kd _ (mem4 rfl) rfl | exact kd _ (mem5 rfl) rfl
        have hy := ky 22 125 false (by decide) rfl dg
        rw [if_pos (by simp [Region.wanted, hy])]
        have d24 : v 24 = .bool false := by first | exact kd _ (mem0 rfl) rfl | exact kd _ (mem1 rfl) rfl | exact kd _ (mem2 rfl) rfl | exact kd _ (mem3 rfl) rfl | exact kd _ (mem4 rfl) rfl | exact kd _ (mem5 rfl) rfl
        have t127 : ρ (.tmp 127) = .bool false := (ks 24 127 (by decide) rfl).trans d24
        simp [execOp, go_sem, kc, t127]
        exact ⟨hC, Below.refl _ _, rfl⟩
      · cases D
        · intro v W ρ y hC kc kf ks ki ky ku kd
          have dg : v 22 = .bool false := by first | exact kd _ (mem0 rfl) rfl | exact kd _ (mem1 rfl) rfl | exact kd _ (mem2 rfl) rfl | exact kd _ (mem3 rfl) rfl | exact kd _ (mem4 rfl) rfl | exact kd _ (mem5 rfl) rfl
          have hy := ky 22 125 false (by decide) rfl dg
          rw [if_pos (by simp [Region.wanted, hy])]
          have d24 : v 24 = .bool true := by first | exact kd _ (mem0 rfl) rfl | exact kd _ (mem1 rfl) rfl | exact kd _ (mem2 rfl) rfl | exact kd _ (mem3 rfl) rfl | exact kd _ (mem4 rfl) rfl | exact kd _ (mem5 rfl) rfl
          have t127 : ρ (.tmp 127) = .bool true := (ks 24 127 (by decide) rfl).trans d24
          simp [execOp, go_sem, kc, t127]
          exact ⟨hC, Below.refl _ _, rfl⟩
        · cases S
          · intro v W ρ y hC kc kf ks ki ky ku kd
            have dg : v 22 = .bool false := by first | exact kd _ (mem0 rfl) rfl | exact kd _ (mem1 rfl) rfl | exact kd _ (mem2 rfl) rfl | exact kd _ (mem3 rfl) rfl | exact kd _ (mem4 rfl) rfl | exact kd _ (mem5 rfl) rfl
            have hy := ky 22 125 false (by decide) rfl dg
            rw [if_pos (by simp [Region.wanted, hy])]
            have d24 : v 24 = .bool true := by first | exact kd _ (mem0 rfl) rfl | exact kd _ (mem1 rfl) rfl | exact kd _ (mem2 rfl) rfl | exact kd _ (mem3 rfl) rfl | exact kd _ (mem4 rfl) rfl | exact kd _ (mem5 rfl) rfl
            have t127 : ρ (.tmp 127) = .bool true := (ks 24 127 (by decide) rfl).trans d24
            simp [execOp, go_sem, kc, t127]
            exact ⟨hC, Below.refl _ _, rfl⟩
          · intro v W ρ y hC kc kf ks ki ky ku kd
            have dg : v 22 = .bool false := by first | exact kd _ (mem0 rfl) rfl | exact kd _ (mem1 rfl) rfl | exact kd _ (mem2 rfl) rfl | exact kd _ (mem3 rfl) rfl | exact kd _ (mem4 rfl) rfl | exact kd _ (mem5 rfl) rfl
            have hy := ky 22 125 false (by decide) rfl dg
            rw [if_pos (by simp [Region.wanted, hy])]
            have d24 : v 24 = .bool true := by first | exact kd _ (mem0 rfl) rfl | exact kd _ (mem1 rfl) rfl | exact kd _ (mem2 rfl) rfl | exact kd _ (mem3 rfl) rfl | exact kd _ (mem4 rfl) rfl | exact kd _ (mem5 rfl) rfl
            have t127 : ρ (.tmp 127) = .bool true := (ks 24 127 (by decide) rfl).trans d24
            simp [execOp, go_sem, kc, t127]
            exact ⟨hC, Below.refl _ _, rfl⟩
    · cases A
      · intro v W ρ y hC kc kf ks ki ky ku kd
        have dg : v 25 = .bool false := by first | exact kd _ (mem0 rfl) rfl | exact kd _ (mem1 rfl) rfl | exact kd _ (mem2 rfl) rfl | exact kd _ (mem3 rfl) rfl | exact kd _ (mem4 rfl) rfl | exact kd _ (mem5 rfl) rfl
        have hy := ky 25 128 false (by decide) rfl dg
        rw [if_neg (by simp [Region.wanted, hy])]
        exact ⟨Below.refl _ _, rfl⟩
      · cases D
        · intro v W ρ y hC kc kf ks ki ky ku kd
          have dg : v 25 = .bool true := by first | exact kd _ (mem0 rfl) rfl | exact kd _ (mem1 rfl) rfl | exact kd _ (mem2 rfl) rfl | exact kd _ (mem3 rfl) rfl | exact kd _ (mem4 rfl) rfl | exact kd _ (mem5 rfl) rfl
          have hy := ky 25 128 true (by decide) rfl dg
          rw [if_pos (by simp [Region.wanted, hy])]
          have t8 : ρ (.tmp 8) = .pointer (some ⟨gb, 0, none⟩) := ki 8 (by decide)
          have hg := blk_later hB17.out hC
          have c0 := blk_cell hg 0
          have c1 := blk_cell hg 1
          have c2 := blk_cell hg 2
          have c3 := blk_cell hg 3
          have c4 := blk_cell hg 4
          have c5 := blk_cell hg 5
          simp at c0 c1 c2 c3 c4 c5
          simp [execOp, go_sem, kc, t8, c0, c1, c2, c3, c4, c5]
          exact ⟨hC, Below.refl _ _, rfl⟩
        · cases S
          · intro v W ρ y hC kc kf ks ki ky ku kd
            have dg : v 25 = .bool true := by first | exact kd _ (mem0 rfl) rfl | exact kd _ (mem1 rfl) rfl | exact kd _ (mem2 rfl) rfl | exact kd _ (mem3 rfl) rfl | exact kd _ (mem4 rfl) rfl | exact kd _ (mem5 rfl) rfl
            have hy := ky 25 128 true (by decide) rfl dg
            rw [if_pos (by simp [Region.wanted, hy])]
            have t8 : ρ (.tmp 8) = .pointer (some ⟨gb, 0, none⟩) := ki 8 (by decide)
            have hg := blk_later hB17.out hC
            have c0 := blk_cell hg 0
            have c1 := blk_cell hg 1
            have c2 := blk_cell hg 2
            have c3 := blk_cell hg 3
            have c4 := blk_cell hg 4
            have c5 := blk_cell hg 5
            simp at c0 c1 c2 c3 c4 c5
            simp [execOp, go_sem, kc, t8, c0, c1, c2, c3, c4, c5]
            exact ⟨hC, Below.refl _ _, rfl⟩
          · intro v W ρ y hC kc kf ks ki ky ku kd
            have dg : v 25 = .bool true := by first | exact kd _ (mem0 rfl) rfl | exact kd _ (mem1 rfl) rfl | exact kd _ (mem2 rfl) rfl | exact kd _ (mem3 rfl) rfl | exact kd _ (mem4 rfl) rfl | exact kd _ (mem5 rfl) rfl
            have hy := ky 25 128 true (by decide) rfl dg
            rw [if_pos (by simp [Region.wanted, hy])]
            have t8 : ρ (.tmp 8) = .pointer (some ⟨gb, 0, none⟩) := ki 8 (by decide)
            have hg := blk_later hB17.out hC
            have c0 := blk_cell hg 0
            have c1 := blk_cell hg 1
            have c2 := blk_cell hg 2
            have c3 := blk_cell hg 3
            have c4 := blk_cell hg 4
            have c5 := blk_cell hg 5
            simp at c0 c1 c2 c3 c4 c5
            simp [execOp, go_sem, kc, t8, c0, c1, c2, c3, c4, c5]
            exact ⟨hC, Below.refl _ _, rfl⟩
    · cases A
      · intro v W ρ y hC kc kf ks ki ky ku kd
        have dg : v 25 = .bool false := by first | exact kd _ (mem0 rfl) rfl | exact kd _ (mem1 rfl) rfl | exact kd _ (mem2 rfl) rfl | exact kd _ (mem3 rfl) rfl | exact kd _ (mem4 rfl) rfl | exact kd _ (mem5 rfl) rfl
        have hy := ky 25 128 false (by decide) rfl dg
        rw [if_neg (by simp [Region.wanted, hy])]
        exact ⟨Below.refl _ _, rfl⟩
      · cases D
        · intro v W ρ y hC kc kf ks ki ky ku kd
          have dg : v 25 = .bool true := by first | exact kd _ (mem0 rfl) rfl | exact kd _ (mem1 rfl) rfl | exact kd _ (mem2 rfl) rfl | exact kd _ (mem3 rfl) rfl | exact kd _ (mem4 rfl) rfl | exact kd _ (mem5 rfl) rfl
          have hy := ky 25 128 true (by decide) rfl dg
          rw [if_pos (by simp [Region.wanted, hy])]
          have d26 : v 26 = .agg #[.int .i64 tb.proto, .int .i64 tb.src, .int .i64 tb.sport, .int .i64 tb.dst, .int .i64 tb.dport, .int .i64 tb.kind] := by first | exact kd _ (mem0 rfl) rfl | exact kd _ (mem1 rfl) rfl | exact kd _ (mem2 rfl) rfl | exact kd _ (mem3 rfl) rfl | exact kd _ (mem4 rfl) rfl | exact kd _ (mem5 rfl) rfl
          have t129 : ρ (.tmp 129) = .agg #[.int .i64 tb.proto, .int .i64 tb.src, .int .i64 tb.sport, .int .i64 tb.dst, .int .i64 tb.dport, .int .i64 tb.kind] := (ks 26 129 (by decide) rfl).trans d26
          simp [execOp, go_sem, t129, kf]
          exact Calls.mono (HBs.out W) (fun e x h => ⟨_, h.1, hC.trans (h.2.mono hC.size), h.2, rfl⟩)
        · cases S
          · intro v W ρ y hC kc kf ks ki ky ku kd
            have dg : v 25 = .bool true := by first | exact kd _ (mem0 rfl) rfl | exact kd _ (mem1 rfl) rfl | exact kd _ (mem2 rfl) rfl | exact kd _ (mem3 rfl) rfl | exact kd _ (mem4 rfl) rfl | exact kd _ (mem5 rfl) rfl
            have hy := ky 25 128 true (by decide) rfl dg
            rw [if_pos (by simp [Region.wanted, hy])]
            have d26 : v 26 = .agg #[.int .i64 tb.proto, .int .i64 tb.src, .int .i64 tb.sport, .int .i64 tb.dst, .int .i64 tb.dport, .int .i64 tb.kind] := by first | exact kd _ (mem0 rfl) rfl | exact kd _ (mem1 rfl) rfl | exact kd _ (mem2 rfl) rfl | exact kd _ (mem3 rfl) rfl | exact kd _ (mem4 rfl) rfl | exact kd _ (mem5 rfl) rfl
            have t129 : ρ (.tmp 129) = .agg #[.int .i64 tb.proto, .int .i64 tb.src, .int .i64 tb.sport, .int .i64 tb.dst, .int .i64 tb.dport, .int .i64 tb.kind] := (ks 26 129 (by decide) rfl).trans d26
            simp [execOp, go_sem, t129, kf]
            exact Calls.mono (HBs.out W) (fun e x h => ⟨_, h.1, hC.trans (h.2.mono hC.size), h.2, rfl⟩)
          · intro v W ρ y hC kc kf ks ki ky ku kd
            have dg : v 25 = .bool true := by first | exact kd _ (mem0 rfl) rfl | exact kd _ (mem1 rfl) rfl | exact kd _ (mem2 rfl) rfl | exact kd _ (mem3 rfl) rfl | exact kd _ (mem4 rfl) rfl | exact kd _ (mem5 rfl) rfl
            have hy := ky 25 128 true (by decide) rfl dg
            rw [if_pos (by simp [Region.wanted, hy])]
            have d26 : v 26 = .agg #[.int .i64 tb.proto, .int .i64 tb.src, .int .i64 tb.sport, .int .i64 tb.dst, .int .i64 tb.dport, .int .i64 tb.kind] := by first | exact kd _ (mem0 rfl) rfl | exact kd _ (mem1 rfl) rfl | exact kd _ (mem2 rfl) rfl | exact kd _ (mem3 rfl) rfl | exact kd _ (mem4 rfl) rfl | exact kd _ (mem5 rfl) rfl
            have t129 : ρ (.tmp 129) = .agg #[.int .i64 tb.proto, .int .i64 tb.src, .int .i64 tb.sport, .int .i64 tb.dst, .int .i64 tb.dport, .int .i64 tb.kind] := (ks 26 129 (by decide) rfl).trans d26
            simp [execOp, go_sem, t129, kf]
            exact Calls.mono (HBs.out W) (fun e x h => ⟨_, h.1, hC.trans (h.2.mono hC.size), h.2, rfl⟩)
    · cases A
      · intro v W ρ y hC kc kf ks ki ky ku kd
        have dg : v 22 = .bool false := by first | exact kd _ (mem0 rfl) rfl | exact kd _ (mem1 rfl) rfl | exact kd _ (mem2 rfl) rfl | exact kd _ (mem3 rfl) rfl | exact kd _ (mem4 rfl) rfl | exact kd _ (mem5 rfl) rfl
        have hy := ky 22 125 false (by decide) rfl dg
        rw [if_pos (by simp [Region.wanted, hy])]
        have d25 : v 25 = .bool false := by first | exact kd _ (mem0 rfl) rfl | exact kd _ (mem1 rfl) rfl | exact kd _ (mem2 rfl) rfl | exact kd _ (mem3 rfl) rfl | exact kd _ (mem4 rfl) rfl | exact kd _ (mem5 rfl) rfl
        have t128 : ρ (.tmp 128) = .bool false := (ks 25 128 (by decide) rfl).trans d25
        simp [execOp, go_sem, kc, t128]
        exact ⟨hC, Below.refl _ _, rfl⟩
      · cases D
        · intro v W ρ y hC kc kf ks ki ky ku kd
          have dg : v 22 = .bool false := by first | exact kd _ (mem0 rfl) rfl | exact kd _ (mem1 rfl) rfl | exact kd _ (mem2 rfl) rfl | exact kd _ (mem3 rfl) rfl | exact kd _ (mem4 rfl) rfl | exact kd _ (mem5 rfl) rfl
          have hy := ky 22 125 false (by decide) rfl dg
          rw [if_pos (by simp [Region.wanted, hy])]
          have d25 : v 25 = .bool true := by first | exact kd _ (mem0 rfl) rfl | exact kd _ (mem1 rfl) rfl | exact kd _ (mem2 rfl) rfl | exact kd _ (mem3 rfl) rfl | exact kd _ (mem4 rfl) rfl | exact kd _ (mem5 rfl) rfl
          have t128 : ρ (.tmp 128) = .bool true := (ks 25 128 (by decide) rfl).trans d25
          have d27 : v 27 = .bool false := by first | exact kd _ (mem0 rfl) rfl | exact kd _ (mem1 rfl) rfl | exact kd _ (mem2 rfl) rfl | exact kd _ (mem3 rfl) rfl | exact kd _ (mem4 rfl) rfl | exact kd _ (mem5 rfl) rfl
          have t130 : ρ (.tmp 130) = .bool false := (ks 27 130 (by decide) rfl).trans d27
          simp [execOp, go_sem, kc, t128, t130]
          exact ⟨hC, Below.refl _ _, rfl⟩
        · cases S
          · intro v W ρ y hC kc kf ks ki ky ku kd
            have dg : v 22 = .bool false := by first | exact kd _ (mem0 rfl) rfl | exact kd _ (mem1 rfl) rfl | exact kd _ (mem2 rfl) rfl | exact kd _ (mem3 rfl) rfl | exact kd _ (mem4 rfl) rfl | exact kd _ (mem5 rfl) rfl
            have hy := ky 22 125 false (by decide) rfl dg
            rw [if_pos (by simp [Region.wanted, hy])]
            have d25 : v 25 = .bool true := by first | exact kd _ (mem0 rfl) rfl | exact kd _ (mem1 rfl) rfl | exact kd _ (mem2 rfl) rfl | exact kd _ (mem3 rfl) rfl | exact kd _ (mem4 rfl) rfl | exact kd _ (mem5 rfl) rfl
            have t128 : ρ (.tmp 128) = .bool true := (ks 25 128 (by decide) rfl).trans d25
            have d27 : v 27 = .bool true := by first | exact kd _ (mem0 rfl) rfl | exact kd _ (mem1 rfl) rfl | exact kd _ (mem2 rfl) rfl | exact kd _ (mem3 rfl) rfl | exact kd _ (mem4 rfl) rfl | exact kd _ (mem5 rfl) rfl
            have t130 : ρ (.tmp 130) = .bool true := (ks 27 130 (by decide) rfl).trans d27
            simp [execOp, go_sem, kc, t128, t130]
            exact ⟨hC, Below.refl _ _, rfl⟩
          · intro v W ρ y hC kc kf ks ki ky ku kd
            have dg : v 22 = .bool false := by first | exact kd _ (mem0 rfl) rfl | exact kd _ (mem1 rfl) rfl | exact kd _ (mem2 rfl) rfl | exact kd _ (mem3 rfl) rfl | exact kd _ (mem4 rfl) rfl | exact kd _ (mem5 rfl) rfl
            have hy := ky 22 125 false (by decide) rfl dg
            rw [if_pos (by simp [Region.wanted, hy])]
            have d25 : v 25 = .bool true := by first | exact kd _ (mem0 rfl) rfl | exact kd _ (mem1 rfl) rfl | exact kd _ (mem2 rfl) rfl | exact kd _ (mem3 rfl) rfl | exact kd _ (mem4 rfl) rfl | exact kd _ (mem5 rfl) rfl
            have t128 : ρ (.tmp 128) = .bool true := (ks 25 128 (by decide) rfl).trans d25
            have d27 : v 27 = .bool true := by first | exact kd _ (mem0 rfl) rfl | exact kd _ (mem1 rfl) rfl | exact kd _ (mem2 rfl) rfl | exact kd _ (mem3 rfl) rfl | exact kd _ (mem4 rfl) rfl | exact kd _ (mem5 rfl) rfl
            have t130 : ρ (.tmp 130) = .bool true := (ks 27 130 (by decide) rfl).trans d27
            simp [execOp, go_sem, kc, t128, t130]
            exact ⟨hC, Below.refl _ _, rfl⟩
    · cases A
      · intro v W ρ y hC kc kf ks ki ky ku kd
        have dg : v 22 = .bool false := by first | exact kd _ (mem0 rfl) rfl | exact kd _ (mem1 rfl) rfl | exact kd _ (mem2 rfl) rfl | exact kd _ (mem3 rfl) rfl | exact kd _ (mem4 rfl) rfl | exact kd _ (mem5 rfl) rfl
        have hy := ky 22 125 false (by decide) rfl dg
        rw [if_pos (by simp [Region.wanted, hy])]
        have d28 : v 28 = .bool false := by first | exact kd _ (mem0 rfl) rfl | exact kd _ (mem1 rfl) rfl | exact kd _ (mem2 rfl) rfl | exact kd _ (mem3 rfl) rfl | exact kd _ (mem4 rfl) rfl | exact kd _ (mem5 rfl) rfl
        have t131 : ρ (.tmp 131) = .bool false := (ks 28 131 (by decide) rfl).trans d28
        simp [execOp, go_sem, kc, t131]
        exact ⟨hC, Below.refl _ _, rfl⟩
      · cases D
        · intro v W ρ y hC kc kf ks ki ky ku kd
          have dg : v 22 = .bool false := by first | exact kd _ (mem0 rfl) rfl | exact kd _ (mem1 rfl) rfl | exact kd _ (mem2 rfl) rfl | exact kd _ (mem3 rfl) rfl | exact kd _ (mem4 rfl) rfl | exact kd _ (mem5 rfl) rfl
          have hy := ky 22 125 false (by decide) rfl dg
          rw [if_pos (by simp [Region.wanted, hy])]
          have d28 : v 28 = .bool false := by first | exact kd _ (mem0 rfl) rfl | exact kd _ (mem1 rfl) rfl | exact kd _ (mem2 rfl) rfl | exact kd _ (mem3 rfl) rfl | exact kd _ (mem4 rfl) rfl | exact kd _ (mem5 rfl) rfl
          have t131 : ρ (.tmp 131) = .bool false := (ks 28 131 (by decide) rfl).trans d28
          simp [execOp, go_sem, kc, t131]
          exact ⟨hC, Below.refl _ _, rfl⟩
        · cases S
          · intro v W ρ y hC kc kf ks ki ky ku kd
            have dg : v 22 = .bool false := by first | exact kd _ (mem0 rfl) rfl | exact kd _ (mem1 rfl) rfl | exact kd _ (mem2 rfl) rfl | exact kd _ (mem3 rfl) rfl | exact kd _ (mem4 rfl) rfl | exact kd _ (mem5 rfl) rfl
            have hy := ky 22 125 false (by decide) rfl dg
            rw [if_pos (by simp [Region.wanted, hy])]
            have d28 : v 28 = .bool true := by first | exact kd _ (mem0 rfl) rfl | exact kd _ (mem1 rfl) rfl | exact kd _ (mem2 rfl) rfl | exact kd _ (mem3 rfl) rfl | exact kd _ (mem4 rfl) rfl | exact kd _ (mem5 rfl) rfl
            have t131 : ρ (.tmp 131) = .bool true := (ks 28 131 (by decide) rfl).trans d28
            simp [execOp, go_sem, kc, t131]
            exact ⟨hC, Below.refl _ _, rfl⟩
          · intro v W ρ y hC kc kf ks ki ky ku kd
            have dg : v 22 = .bool false := by first | exact kd _ (mem0 rfl) rfl | exact kd _ (mem1 rfl) rfl | exact kd _ (mem2 rfl) rfl | exact kd _ (mem3 rfl) rfl | exact kd _ (mem4 rfl) rfl | exact kd _ (mem5 rfl) rfl
            have hy := ky 22 125 false (by decide) rfl dg
            rw [if_pos (by simp [Region.wanted, hy])]
            have d28 : v 28 = .bool true := by first | exact kd _ (mem0 rfl) rfl | exact kd _ (mem1 rfl) rfl | exact kd _ (mem2 rfl) rfl | exact kd _ (mem3 rfl) rfl | exact kd _ (mem4 rfl) rfl | exact kd _ (mem5 rfl) rfl
            have t131 : ρ (.tmp 131) = .bool true := (ks 28 131 (by decide) rfl).trans d28
            simp [execOp, go_sem, kc, t131]
            exact ⟨hC, Below.refl _ _, rfl⟩
    · cases A
      · intro v W ρ y hC kc kf ks ki ky ku kd
        have dg : v 29 = .bool false := by first | exact kd _ (mem0 rfl) rfl | exact kd _ (mem1 rfl) rfl | exact kd _ (mem2 rfl) rfl | exact kd _ (mem3 rfl) rfl | exact kd _ (mem4 rfl) rfl | exact kd _ (mem5 rfl) rfl
        have hy := ky 29 132 false (by decide) rfl dg
        rw [if_neg (by simp [Region.wanted, hy])]
        exact ⟨Below.refl _ _, rfl⟩
      · cases D
        · intro v W ρ y hC kc kf ks ki ky ku kd
          have dg : v 29 = .bool false := by first | exact kd _ (mem0 rfl) rfl | exact kd _ (mem1 rfl) rfl | exact kd _ (mem2 rfl) rfl | exact kd _ (mem3 rfl) rfl | exact kd _ (mem4 rfl) rfl | exact kd _ (mem5 rfl) rfl
          have hy := ky 29 132 false (by decide) rfl dg
          rw [if_neg (by simp [Region.wanted, hy])]
          exact ⟨Below.refl _ _, rfl⟩
        · cases S
          · intro v W ρ y hC kc kf ks ki ky ku kd
            have dg : v 29 = .bool true := by first | exact kd _ (mem0 rfl) rfl | exact kd _ (mem1 rfl) rfl | exact kd _ (mem2 rfl) rfl | exact kd _ (mem3 rfl) rfl | exact kd _ (mem4 rfl) rfl | exact kd _ (mem5 rfl) rfl
            have hy := ky 29 132 true (by decide) rfl dg
            rw [if_pos (by simp [Region.wanted, hy])]
            have t7 : ρ (.tmp 7) = .pointer (some ⟨ga, 0, none⟩) := ki 7 (by decide)
            have hg := blk_later hA17.out hC
            have c0 := blk_cell hg 0
            have c1 := blk_cell hg 1
            have c2 := blk_cell hg 2
            have c3 := blk_cell hg 3
            have c4 := blk_cell hg 4
            have c5 := blk_cell hg 5
            simp at c0 c1 c2 c3 c4 c5
            simp [execOp, go_sem, kc, t7, c0, c1, c2, c3, c4, c5]
            exact ⟨hC, Below.refl _ _, rfl⟩
          · intro v W ρ y hC kc kf ks ki ky ku kd
            have dg : v 29 = .bool true := by first | exact kd _ (mem0 rfl) rfl | exact kd _ (mem1 rfl) rfl | exact kd _ (mem2 rfl) rfl | exact kd _ (mem3 rfl) rfl | exact kd _ (mem4 rfl) rfl | exact kd _ (mem5 rfl) rfl
            have hy := ky 29 132 true (by decide) rfl dg
            rw [if_pos (by simp [Region.wanted, hy])]
            have t7 : ρ (.tmp 7) = .pointer (some ⟨ga, 0, none⟩) := ki 7 (by decide)
            have hg := blk_later hA17.out hC
            have c0 := blk_cell hg 0
            have c1 := blk_cell hg 1
            have c2 := blk_cell hg 2
            have c3 := blk_cell hg 3
            have c4 := blk_cell hg 4
            have c5 := blk_cell hg 5
            simp at c0 c1 c2 c3 c4 c5
            simp [execOp, go_sem, kc, t7, c0, c1, c2, c3, c4, c5]
            exact ⟨hC, Below.refl _ _, rfl⟩
    · cases A
      · intro v W ρ y hC kc kf ks ki ky ku kd
        have dg : v 29 = .bool false := by first | exact kd _ (mem0 rfl) rfl | exact kd _ (mem1 rfl) rfl | exact kd _ (mem2 rfl) rfl | exact kd _ (mem3 rfl) rfl | exact kd _ (mem4 rfl) rfl | exact kd _ (mem5 rfl) rfl
        have hy := ky 29 132 false (by decide) rfl dg
        rw [if_neg (by simp [Region.wanted, hy])]
        exact ⟨Below.refl _ _, rfl⟩
      · cases D
        · intro v W ρ y hC kc kf ks ki ky ku kd
          have dg : v 29 = .bool false := by first | exact kd _ (mem0 rfl) rfl | exact kd _ (mem1 rfl) rfl | exact kd _ (mem2 rfl) rfl | exact kd _ (mem3 rfl) rfl | exact kd _ (mem4 rfl) rfl | exact kd _ (mem5 rfl) rfl
          have hy := ky 29 132 false (by decide) rfl dg
          rw [if_neg (by simp [Region.wanted, hy])]
          exact ⟨Below.refl _ _, rfl⟩
        · cases S
          · intro v W ρ y hC kc kf ks ki ky ku kd
            have dg : v 29 = .bool true := by first | exact kd _ (mem0 rfl) rfl | exact kd _ (mem1 rfl) rfl | exact kd _ (mem2 rfl) rfl | exact kd _ (mem3 rfl) rfl | exact kd _ (mem4 rfl) rfl | exact kd _ (mem5 rfl) rfl
            have hy := ky 29 132 true (by decide) rfl dg
            rw [if_pos (by simp [Region.wanted, hy])]
            have t8 : ρ (.tmp 8) = .pointer (some ⟨gb, 0, none⟩) := ki 8 (by decide)
            have hg := blk_later hB17.out hC
            have c0 := blk_cell hg 0
            have c1 := blk_cell hg 1
            have c2 := blk_cell hg 2
            have c3 := blk_cell hg 3
            have c4 := blk_cell hg 4
            have c5 := blk_cell hg 5
            simp at c0 c1 c2 c3 c4 c5
            simp [execOp, go_sem, kc, t8, c0, c1, c2, c3, c4, c5]
            exact ⟨hC, Below.refl _ _, rfl⟩
          · intro v W ρ y hC kc kf ks ki ky ku kd
            have dg : v 29 = .bool true := by first | exact kd _ (mem0 rfl) rfl | exact kd _ (mem1 rfl) rfl | exact kd _ (mem2 rfl) rfl | exact kd _ (mem3 rfl) rfl | exact kd _ (mem4 rfl) rfl | exact kd _ (mem5 rfl) rfl
            have hy := ky 29 132 true (by decide) rfl dg
            rw [if_pos (by simp [Region.wanted, hy])]
            have t8 : ρ (.tmp 8) = .pointer (some ⟨gb, 0, none⟩) := ki 8 (by decide)
            have hg := blk_later hB17.out hC
            have c0 := blk_cell hg 0
            have c1 := blk_cell hg 1
            have c2 := blk_cell hg 2
            have c3 := blk_cell hg 3
            have c4 := blk_cell hg 4
            have c5 := blk_cell hg 5
            simp at c0 c1 c2 c3 c4 c5
            simp [execOp, go_sem, kc, t8, c0, c1, c2, c3, c4, c5]
            exact ⟨hC, Below.refl _ _, rfl⟩
    · cases A
      · intro v W ρ y hC kc kf ks ki ky ku kd
        have dg : v 29 = .bool false := by first | exact kd _ (mem0 rfl) rfl | exact kd _ (mem1 rfl) rfl | exact kd _ (mem2 rfl) rfl | exact kd _ (mem3 rfl) rfl | exact kd _ (mem4 rfl) rfl | exact kd _ (mem5 rfl) rfl
        have hy := ky 29 132 false (by decide) rfl dg
        rw [if_neg (by simp [Region.wanted, hy])]
        exact ⟨Below.refl _ _, rfl⟩
      · cases D
        · intro v W ρ y hC kc kf ks ki ky ku kd
          have dg : v 29 = .bool false := by first | exact kd _ (mem0 rfl) rfl | exact kd _ (mem1 rfl) rfl | exact kd _ (mem2 rfl) rfl | exact kd _ (mem3 rfl) rfl | exact kd _ (mem4 rfl) rfl | exact kd _ (mem5 rfl) rfl
          have hy := ky 29 132 false (by decide) rfl dg
          rw [if_neg (by simp [Region.wanted, hy])]
          exact ⟨Below.refl _ _, rfl⟩
        · cases S
          · intro v W ρ y hC kc kf ks ki ky ku kd
            have dg : v 29 = .bool true := by first | exact kd _ (mem0 rfl) rfl | exact kd _ (mem1 rfl) rfl | exact kd _ (mem2 rfl) rfl | exact kd _ (mem3 rfl) rfl | exact kd _ (mem4 rfl) rfl | exact kd _ (mem5 rfl) rfl
            have hy := ky 29 132 true (by decide) rfl dg
            rw [if_pos (by simp [Region.wanted, hy])]
            have d30 : v 30 = .agg #[.int .i64 ta.proto, .int .i64 ta.src, .int .i64 ta.sport, .int .i64 ta.dst, .int .i64 ta.dport, .int .i64 ta.kind] := by first | exact kd _ (mem0 rfl) rfl | exact kd _ (mem1 rfl) rfl | exact kd _ (mem2 rfl) rfl | exact kd _ (mem3 rfl) rfl | exact kd _ (mem4 rfl) rfl | exact kd _ (mem5 rfl) rfl
            have t133 : ρ (.tmp 133) = .agg #[.int .i64 ta.proto, .int .i64 ta.src, .int .i64 ta.sport, .int .i64 ta.dst, .int .i64 ta.dport, .int .i64 ta.kind] := (ks 30 133 (by decide) rfl).trans d30
            have d31 : v 31 = .agg #[.int .i64 tb.proto, .int .i64 tb.src, .int .i64 tb.sport, .int .i64 tb.dst, .int .i64 tb.dport, .int .i64 tb.kind] := by first | exact kd _ (mem0 rfl) rfl | exact kd _ (mem1 rfl) rfl | exact kd _ (mem2 rfl) rfl | exact kd _ (mem3 rfl) rfl | exact kd _ (mem4 rfl) rfl | exact kd _ (mem5 rfl) rfl
            have t134 : ρ (.tmp 134) = .agg #[.int .i64 tb.proto, .int .i64 tb.src, .int .i64 tb.sport, .int .i64 tb.dst, .int .i64 tb.dport, .int .i64 tb.kind] := (ks 31 134 (by decide) rfl).trans d31
            have eg : Tryz.prog.eqGuardType Tryz.prog.depth 40 = false := by kernel_rfl
            have e1 := qN.out W
            simp only [execOp, t133, t134, Sem.run_bind, run_eqGuard_agg, eg, e1, Result.andThen_ok, Sem.run_pure]
            exact ⟨hC, Below.refl _ _, rfl⟩
          · intro v W ρ y hC kc kf ks ki ky ku kd
            have dg : v 29 = .bool true := by first | exact kd _ (mem0 rfl) rfl | exact kd _ (mem1 rfl) rfl | exact kd _ (mem2 rfl) rfl | exact kd _ (mem3 rfl) rfl | exact kd _ (mem4 rfl) rfl | exact kd _ (mem5 rfl) rfl
            have hy := ky 29 132 true (by decide) rfl dg
            rw [if_pos (by simp [Region.wanted, hy])]
            have d30 : v 30 = .agg #[.int .i64 ta.proto, .int .i64 ta.src, .int .i64 ta.sport, .int .i64 ta.dst, .int .i64 ta.dport, .int .i64 ta.kind] := by first | exact kd _ (mem0 rfl) rfl | exact kd _ (mem1 rfl) rfl | exact kd _ (mem2 rfl) rfl | exact kd _ (mem3 rfl) rfl | exact kd _ (mem4 rfl) rfl | exact kd _ (mem5 rfl) rfl
            have t133 : ρ (.tmp 133) = .agg #[.int .i64 ta.proto, .int .i64 ta.src, .int .i64 ta.sport, .int .i64 ta.dst, .int .i64 ta.dport, .int .i64 ta.kind] := (ks 30 133 (by decide) rfl).trans d30
            have d31 : v 31 = .agg #[.int .i64 tb.proto, .int .i64 tb.src, .int .i64 tb.sport, .int .i64 tb.dst, .int .i64 tb.dport, .int .i64 tb.kind] := by first | exact kd _ (mem0 rfl) rfl | exact kd _ (mem1 rfl) rfl | exact kd _ (mem2 rfl) rfl | exact kd _ (mem3 rfl) rfl | exact kd _ (mem4 rfl) rfl | exact kd _ (mem5 rfl) rfl
            have t134 : ρ (.tmp 134) = .agg #[.int .i64 tb.proto, .int .i64 tb.src, .int .i64 tb.sport, .int .i64 tb.dst, .int .i64 tb.dport, .int .i64 tb.kind] := (ks 31 134 (by decide) rfl).trans d31
            have eg : Tryz.prog.eqGuardType Tryz.prog.depth 40 = false := by kernel_rfl
            have e1 := qN.out W
            simp only [execOp, t133, t134, Sem.run_bind, run_eqGuard_agg, eg, e1, Result.andThen_ok, Sem.run_pure]
            exact ⟨hC, Below.refl _ _, rfl⟩
    · cases A
      · intro v W ρ y hC kc kf ks ki ky ku kd
        have dg : v 22 = .bool false := by first | exact kd _ (mem0 rfl) rfl | exact kd _ (mem1 rfl) rfl | exact kd _ (mem2 rfl) rfl | exact kd _ (mem3 rfl) rfl | exact kd _ (mem4 rfl) rfl | exact kd _ (mem5 rfl) rfl
        have hy := ky 22 125 false (by decide) rfl dg
        rw [if_pos (by simp [Region.wanted, hy])]
        have d29 : v 29 = .bool false := by first | exact kd _ (mem0 rfl) rfl | exact kd _ (mem1 rfl) rfl | exact kd _ (mem2 rfl) rfl | exact kd _ (mem3 rfl) rfl | exact kd _ (mem4 rfl) rfl | exact kd _ (mem5 rfl) rfl
        have t132 : ρ (.tmp 132) = .bool false := (ks 29 132 (by decide) rfl).trans d29
        simp [execOp, go_sem, kc, t132]
        exact ⟨hC, Below.refl _ _, rfl⟩
      · cases D
        · intro v W ρ y hC kc kf ks ki ky ku kd
          have dg : v 22 = .bool false := by first | exact kd _ (mem0 rfl) rfl | exact kd _ (mem1 rfl) rfl | exact kd _ (mem2 rfl) rfl | exact kd _ (mem3 rfl) rfl | exact kd _ (mem4 rfl) rfl | exact kd _ (mem5 rfl) rfl
          have hy := ky 22 125 false (by decide) rfl dg
          rw [if_pos (by simp [Region.wanted, hy])]
          have d29 : v 29 = .bool false := by first | exact kd _ (mem0 rfl) rfl | exact kd _ (mem1 rfl) rfl | exact kd _ (mem2 rfl) rfl | exact kd _ (mem3 rfl) rfl | exact kd _ (mem4 rfl) rfl | exact kd _ (mem5 rfl) rfl
          have t132 : ρ (.tmp 132) = .bool false := (ks 29 132 (by decide) rfl).trans d29
          simp [execOp, go_sem, kc, t132]
          exact ⟨hC, Below.refl _ _, rfl⟩
        · cases S
          · intro v W ρ y hC kc kf ks ki ky ku kd
            have dg : v 22 = .bool false := by first | exact kd _ (mem0 rfl) rfl | exact kd _ (mem1 rfl) rfl | exact kd _ (mem2 rfl) rfl | exact kd _ (mem3 rfl) rfl | exact kd _ (mem4 rfl) rfl | exact kd _ (mem5 rfl) rfl
            have hy := ky 22 125 false (by decide) rfl dg
            rw [if_pos (by simp [Region.wanted, hy])]
            have d29 : v 29 = .bool true := by first | exact kd _ (mem0 rfl) rfl | exact kd _ (mem1 rfl) rfl | exact kd _ (mem2 rfl) rfl | exact kd _ (mem3 rfl) rfl | exact kd _ (mem4 rfl) rfl | exact kd _ (mem5 rfl) rfl
            have t132 : ρ (.tmp 132) = .bool true := (ks 29 132 (by decide) rfl).trans d29
            have d32 : v 32 = .bool true := by first | exact kd _ (mem0 rfl) rfl | exact kd _ (mem1 rfl) rfl | exact kd _ (mem2 rfl) rfl | exact kd _ (mem3 rfl) rfl | exact kd _ (mem4 rfl) rfl | exact kd _ (mem5 rfl) rfl
            have t135 : ρ (.tmp 135) = .bool true := (ks 32 135 (by decide) rfl).trans d32
            simp [execOp, go_sem, kc, t132, t135]
            exact ⟨hC, Below.refl _ _, rfl⟩
          · intro v W ρ y hC kc kf ks ki ky ku kd
            have dg : v 22 = .bool false := by first | exact kd _ (mem0 rfl) rfl | exact kd _ (mem1 rfl) rfl | exact kd _ (mem2 rfl) rfl | exact kd _ (mem3 rfl) rfl | exact kd _ (mem4 rfl) rfl | exact kd _ (mem5 rfl) rfl
            have hy := ky 22 125 false (by decide) rfl dg
            rw [if_pos (by simp [Region.wanted, hy])]
            have d29 : v 29 = .bool true := by first | exact kd _ (mem0 rfl) rfl | exact kd _ (mem1 rfl) rfl | exact kd _ (mem2 rfl) rfl | exact kd _ (mem3 rfl) rfl | exact kd _ (mem4 rfl) rfl | exact kd _ (mem5 rfl) rfl
            have t132 : ρ (.tmp 132) = .bool true := (ks 29 132 (by decide) rfl).trans d29
            have d32 : v 32 = .bool false := by first | exact kd _ (mem0 rfl) rfl | exact kd _ (mem1 rfl) rfl | exact kd _ (mem2 rfl) rfl | exact kd _ (mem3 rfl) rfl | exact kd _ (mem4 rfl) rfl | exact kd _ (mem5 rfl) rfl
            have t135 : ρ (.tmp 135) = .bool false := (ks 32 135 (by decide) rfl).trans d32
            simp [execOp, go_sem, kc, t132, t135]
            exact ⟨hC, Below.refl _ _, rfl⟩
    · cases A
      · intro v W ρ y hC kc kf ks ki ky ku kd
        have dg : v 22 = .bool false := by first | exact kd _ (mem0 rfl) rfl | exact kd _ (mem1 rfl) rfl | exact kd _ (mem2 rfl) rfl | exact kd _ (mem3 rfl) rfl | exact kd _ (mem4 rfl) rfl | exact kd _ (mem5 rfl) rfl
        have hy := ky 22 125 false (by decide) rfl dg
        rw [if_pos (by simp [Region.wanted, hy])]
        have d33 : v 33 = .bool false := by first | exact kd _ (mem0 rfl) rfl | exact kd _ (mem1 rfl) rfl | exact kd _ (mem2 rfl) rfl | exact kd _ (mem3 rfl) rfl | exact kd _ (mem4 rfl) rfl | exact kd _ (mem5 rfl) rfl
        have t136 : ρ (.tmp 136) = .bool false := (ks 33 136 (by decide) rfl).trans d33
        simp [execOp, go_sem, kc, t136]
        exact ⟨hC, Below.refl _ _, rfl⟩
      · cases D
        · intro v W ρ y hC kc kf ks ki ky ku kd
          have dg : v 22 = .bool false := by first | exact kd _ (mem0 rfl) rfl | exact kd _ (mem1 rfl) rfl | exact kd _ (mem2 rfl) rfl | exact kd _ (mem3 rfl) rfl | exact kd _ (mem4 rfl) rfl | exact kd _ (mem5 rfl) rfl
          have hy := ky 22 125 false (by decide) rfl dg
          rw [if_pos (by simp [Region.wanted, hy])]
          have d33 : v 33 = .bool false := by first | exact kd _ (mem0 rfl) rfl | exact kd _ (mem1 rfl) rfl | exact kd _ (mem2 rfl) rfl | exact kd _ (mem3 rfl) rfl | exact kd _ (mem4 rfl) rfl | exact kd _ (mem5 rfl) rfl
          have t136 : ρ (.tmp 136) = .bool false := (ks 33 136 (by decide) rfl).trans d33
          simp [execOp, go_sem, kc, t136]
          exact ⟨hC, Below.refl _ _, rfl⟩
        · cases S
          · intro v W ρ y hC kc kf ks ki ky ku kd
            have dg : v 22 = .bool false := by first | exact kd _ (mem0 rfl) rfl | exact kd _ (mem1 rfl) rfl | exact kd _ (mem2 rfl) rfl | exact kd _ (mem3 rfl) rfl | exact kd _ (mem4 rfl) rfl | exact kd _ (mem5 rfl) rfl
            have hy := ky 22 125 false (by decide) rfl dg
            rw [if_pos (by simp [Region.wanted, hy])]
            have d33 : v 33 = .bool true := by first | exact kd _ (mem0 rfl) rfl | exact kd _ (mem1 rfl) rfl | exact kd _ (mem2 rfl) rfl | exact kd _ (mem3 rfl) rfl | exact kd _ (mem4 rfl) rfl | exact kd _ (mem5 rfl) rfl
            have t136 : ρ (.tmp 136) = .bool true := (ks 33 136 (by decide) rfl).trans d33
            simp [execOp, go_sem, kc, t136]
            exact ⟨hC, Below.refl _ _, rfl⟩
          · intro v W ρ y hC kc kf ks ki ky ku kd
            have dg : v 22 = .bool false := by first | exact kd _ (mem0 rfl) rfl | exact kd _ (mem1 rfl) rfl | exact kd _ (mem2 rfl) rfl | exact kd _ (mem3 rfl) rfl | exact kd _ (mem4 rfl) rfl | exact kd _ (mem5 rfl) rfl
            have hy := ky 22 125 false (by decide) rfl dg
            rw [if_pos (by simp [Region.wanted, hy])]
            have d33 : v 33 = .bool false := by first | exact kd _ (mem0 rfl) rfl | exact kd _ (mem1 rfl) rfl | exact kd _ (mem2 rfl) rfl | exact kd _ (mem3 rfl) rfl | exact kd _ (mem4 rfl) rfl | exact kd _ (mem5 rfl) rfl
            have t136 : ρ (.tmp 136) = .bool false := (ks 33 136 (by decide) rfl).trans d33
            simp [execOp, go_sem, kc, t136]
            exact ⟨hC, Below.refl _ _, rfl⟩
    · cases A
      · intro v W ρ y hC kc kf ks ki ky ku kd
        have dg : v 34 = .bool false := by first | exact kd _ (mem0 rfl) rfl | exact kd _ (mem1 rfl) rfl | exact kd _ (mem2 rfl) rfl | exact kd _ (mem3 rfl) rfl | exact kd _ (mem4 rfl) rfl | exact kd _ (mem5 rfl) rfl
        have hy := ky 34 137 false (by decide) rfl dg
        rw [if_neg (by simp [Region.wanted, hy])]
        exact ⟨Below.refl _ _, rfl⟩
      · cases D
        · intro v W ρ y hC kc kf ks ki ky ku kd
          have dg : v 34 = .bool false := by first | exact kd _ (mem0 rfl) rfl | exact kd _ (mem1 rfl) rfl | exact kd _ (mem2 rfl) rfl | exact kd _ (mem3 rfl) rfl | exact kd _ (mem4 rfl) rfl | exact kd _ (mem5 rfl) rfl
          have hy := ky 34 137 false (by decide) rfl dg
          rw [if_neg (by simp [Region.wanted, hy])]
          exact ⟨Below.refl _ _, rfl⟩
        · cases S
          · intro v W ρ y hC kc kf ks ki ky ku kd
            have dg : v 34 = .bool true := by first | exact kd _ (mem0 rfl) rfl | exact kd _ (mem1 rfl) rfl | exact kd _ (mem2 rfl) rfl | exact kd _ (mem3 rfl) rfl | exact kd _ (mem4 rfl) rfl | exact kd _ (mem5 rfl) rfl
            have hy := ky 34 137 true (by decide) rfl dg
            rw [if_pos (by simp [Region.wanted, hy])]
            have t7 : ρ (.tmp 7) = .pointer (some ⟨ga, 0, none⟩) := ki 7 (by decide)
            have hg := blk_later hA17.out hC
            have c0 := blk_cell hg 0
            have c1 := blk_cell hg 1
            have c2 := blk_cell hg 2
            have c3 := blk_cell hg 3
            have c4 := blk_cell hg 4
            have c5 := blk_cell hg 5
            simp at c0 c1 c2 c3 c4 c5
            simp [execOp, go_sem, kc, t7, c0, c1, c2, c3, c4, c5]
            exact ⟨hC, Below.refl _ _, rfl⟩
          · intro v W ρ y hC kc kf ks ki ky ku kd
            have dg : v 34 = .bool false := by first | exact kd _ (mem0 rfl) rfl | exact kd _ (mem1 rfl) rfl | exact kd _ (mem2 rfl) rfl | exact kd _ (mem3 rfl) rfl | exact kd _ (mem4 rfl) rfl | exact kd _ (mem5 rfl) rfl
            have hy := ky 34 137 false (by decide) rfl dg
            rw [if_neg (by simp [Region.wanted, hy])]
            exact ⟨Below.refl _ _, rfl⟩
    · cases A
      · intro v W ρ y hC kc kf ks ki ky ku kd
        have dg : v 34 = .bool false := by first | exact kd _ (mem0 rfl) rfl | exact kd _ (mem1 rfl) rfl | exact kd _ (mem2 rfl) rfl | exact kd _ (mem3 rfl) rfl | exact kd _ (mem4 rfl) rfl | exact kd _ (mem5 rfl) rfl
        have hy := ky 34 137 false (by decide) rfl dg
        rw [if_neg (by simp [Region.wanted, hy])]
        exact ⟨Below.refl _ _, rfl⟩
      · cases D
        · intro v W ρ y hC kc kf ks ki ky ku kd
          have dg : v 34 = .bool false := by first | exact kd _ (mem0 rfl) rfl | exact kd _ (mem1 rfl) rfl | exact kd _ (mem2 rfl) rfl | exact kd _ (mem3 rfl) rfl | exact kd _ (mem4 rfl) rfl | exact kd _ (mem5 rfl) rfl
          have hy := ky 34 137 false (by decide) rfl dg
          rw [if_neg (by simp [Region.wanted, hy])]
          exact ⟨Below.refl _ _, rfl⟩
        · cases S
          · intro v W ρ y hC kc kf ks ki ky ku kd
            have dg : v 34 = .bool true := by first | exact kd _ (mem0 rfl) rfl | exact kd _ (mem1 rfl) rfl | exact kd _ (mem2 rfl) rfl | exact kd _ (mem3 rfl) rfl | exact kd _ (mem4 rfl) rfl | exact kd _ (mem5 rfl) rfl
            have hy := ky 34 137 true (by decide) rfl dg
            rw [if_pos (by simp [Region.wanted, hy])]
            have t8 : ρ (.tmp 8) = .pointer (some ⟨gb, 0, none⟩) := ki 8 (by decide)
            have hg := blk_later hB17.out hC
            have c0 := blk_cell hg 0
            have c1 := blk_cell hg 1
            have c2 := blk_cell hg 2
            have c3 := blk_cell hg 3
            have c4 := blk_cell hg 4
            have c5 := blk_cell hg 5
            simp at c0 c1 c2 c3 c4 c5
            simp [execOp, go_sem, kc, t8, c0, c1, c2, c3, c4, c5]
            exact ⟨hC, Below.refl _ _, rfl⟩
          · intro v W ρ y hC kc kf ks ki ky ku kd
            have dg : v 34 = .bool false := by first | exact kd _ (mem0 rfl) rfl | exact kd _ (mem1 rfl) rfl | exact kd _ (mem2 rfl) rfl | exact kd _ (mem3 rfl) rfl | exact kd _ (mem4 rfl) rfl | exact kd _ (mem5 rfl) rfl
            have hy := ky 34 137 false (by decide) rfl dg
            rw [if_neg (by simp [Region.wanted, hy])]
            exact ⟨Below.refl _ _, rfl⟩
    · cases A
      · intro v W ρ y hC kc kf ks ki ky ku kd
        have dg : v 34 = .bool false := by first | exact kd _ (mem0 rfl) rfl | exact kd _ (mem1 rfl) rfl | exact kd _ (mem2 rfl) rfl | exact kd _ (mem3 rfl) rfl | exact kd _ (mem4 rfl) rfl | exact kd _ (mem5 rfl) rfl
        have hy := ky 34 137 false (by decide) rfl dg
        rw [if_neg (by simp [Region.wanted, hy])]
        exact ⟨Below.refl _ _, rfl⟩
      · cases D
        · intro v W ρ y hC kc kf ks ki ky ku kd
          have dg : v 34 = .bool false := by first | exact kd _ (mem0 rfl) rfl | exact kd _ (mem1 rfl) rfl | exact kd _ (mem2 rfl) rfl | exact kd _ (mem3 rfl) rfl | exact kd _ (mem4 rfl) rfl | exact kd _ (mem5 rfl) rfl
          have hy := ky 34 137 false (by decide) rfl dg
          rw [if_neg (by simp [Region.wanted, hy])]
          exact ⟨Below.refl _ _, rfl⟩
        · cases S
          · intro v W ρ y hC kc kf ks ki ky ku kd
            have dg : v 34 = .bool true := by first | exact kd _ (mem0 rfl) rfl | exact kd _ (mem1 rfl) rfl | exact kd _ (mem2 rfl) rfl | exact kd _ (mem3 rfl) rfl | exact kd _ (mem4 rfl) rfl | exact kd _ (mem5 rfl) rfl
            have hy := ky 34 137 true (by decide) rfl dg
            rw [if_pos (by simp [Region.wanted, hy])]
            have d35 : v 35 = .agg #[.int .i64 ta.proto, .int .i64 ta.src, .int .i64 ta.sport, .int .i64 ta.dst, .int .i64 ta.dport, .int .i64 ta.kind] := by first | exact kd _ (mem0 rfl) rfl | exact kd _ (mem1 rfl) rfl | exact kd _ (mem2 rfl) rfl | exact kd _ (mem3 rfl) rfl | exact kd _ (mem4 rfl) rfl | exact kd _ (mem5 rfl) rfl
            have t138 : ρ (.tmp 138) = .agg #[.int .i64 ta.proto, .int .i64 ta.src, .int .i64 ta.sport, .int .i64 ta.dst, .int .i64 ta.dport, .int .i64 ta.kind] := (ks 35 138 (by decide) rfl).trans d35
            have d36 : v 36 = .agg #[.int .i64 tb.proto, .int .i64 tb.src, .int .i64 tb.sport, .int .i64 tb.dst, .int .i64 tb.dport, .int .i64 tb.kind] := by first | exact kd _ (mem0 rfl) rfl | exact kd _ (mem1 rfl) rfl | exact kd _ (mem2 rfl) rfl | exact kd _ (mem3 rfl) rfl | exact kd _ (mem4 rfl) rfl | exact kd _ (mem5 rfl) rfl
            have t139 : ρ (.tmp 139) = .agg #[.int .i64 tb.proto, .int .i64 tb.src, .int .i64 tb.sport, .int .i64 tb.dst, .int .i64 tb.dport, .int .i64 tb.kind] := (ks 36 139 (by decide) rfl).trans d36
            simp [execOp, go_sem, t138, t139, kf]
            exact Calls.mono (HLi.out W) (fun e x h => ⟨_, h.1, hC.trans (h.2.mono hC.size), h.2, rfl⟩)
          · intro v W ρ y hC kc kf ks ki ky ku kd
            have dg : v 34 = .bool false := by first | exact kd _ (mem0 rfl) rfl | exact kd _ (mem1 rfl) rfl | exact kd _ (mem2 rfl) rfl | exact kd _ (mem3 rfl) rfl | exact kd _ (mem4 rfl) rfl | exact kd _ (mem5 rfl) rfl
            have hy := ky 34 137 false (by decide) rfl dg
            rw [if_neg (by simp [Region.wanted, hy])]
            exact ⟨Below.refl _ _, rfl⟩
    · cases A
      · intro v W ρ y hC kc kf ks ki ky ku kd
        have dg : v 34 = .bool false := by first | exact kd _ (mem0 rfl) rfl | exact kd _ (mem1 rfl) rfl | exact kd _ (mem2 rfl) rfl | exact kd _ (mem3 rfl) rfl | exact kd _ (mem4 rfl) rfl | exact kd _ (mem5 rfl) rfl
        have hy := ky 34 137 false (by decide) rfl dg
        rw [if_neg (by simp [Region.wanted, hy])]
        exact ⟨Below.refl _ _, rfl⟩
      · cases D
        · intro v W ρ y hC kc kf ks ki ky ku kd
          have dg : v 34 = .bool false := by first | exact kd _ (mem0 rfl) rfl | exact kd _ (mem1 rfl) rfl | exact kd _ (mem2 rfl) rfl | exact kd _ (mem3 rfl) rfl | exact kd _ (mem4 rfl) rfl | exact kd _ (mem5 rfl) rfl
          have hy := ky 34 137 false (by decide) rfl dg
          rw [if_neg (by simp [Region.wanted, hy])]
          exact ⟨Below.refl _ _, rfl⟩
        · cases S
          · intro v W ρ y hC kc kf ks ki ky ku kd
            have dg : v 34 = .bool true := by first | exact kd _ (mem0 rfl) rfl | exact kd _ (mem1 rfl) rfl | exact kd _ (mem2 rfl) rfl | exact kd _ (mem3 rfl) rfl | exact kd _ (mem4 rfl) rfl | exact kd _ (mem5 rfl) rfl
            have hy := ky 34 137 true (by decide) rfl dg
            rw [if_pos (by simp [Region.wanted, hy])]
            have t8 : ρ (.tmp 8) = .pointer (some ⟨gb, 0, none⟩) := ki 8 (by decide)
            have hg := blk_later hB17.out hC
            have c0 := blk_cell hg 0
            have c1 := blk_cell hg 1
            have c2 := blk_cell hg 2
            have c3 := blk_cell hg 3
            have c4 := blk_cell hg 4
            have c5 := blk_cell hg 5
            simp at c0 c1 c2 c3 c4 c5
            simp [execOp, go_sem, kc, t8, c0, c1, c2, c3, c4, c5]
            exact ⟨hC, Below.refl _ _, rfl⟩
          · intro v W ρ y hC kc kf ks ki ky ku kd
            have dg : v 34 = .bool false := by first | exact kd _ (mem0 rfl) rfl | exact kd _ (mem1 rfl) rfl | exact kd _ (mem2 rfl) rfl | exact kd _ (mem3 rfl) rfl | exact kd _ (mem4 rfl) rfl | exact kd _ (mem5 rfl) rfl
            have hy := ky 34 137 false (by decide) rfl dg
            rw [if_neg (by simp [Region.wanted, hy])]
            exact ⟨Below.refl _ _, rfl⟩
    · cases A
      · intro v W ρ y hC kc kf ks ki ky ku kd
        have dg : v 34 = .bool false := by first | exact kd _ (mem0 rfl) rfl | exact kd _ (mem1 rfl) rfl | exact kd _ (mem2 rfl) rfl | exact kd _ (mem3 rfl) rfl | exact kd _ (mem4 rfl) rfl | exact kd _ (mem5 rfl) rfl
        have hy := ky 34 137 false (by decide) rfl dg
        rw [if_neg (by simp [Region.wanted, hy])]
        exact ⟨Below.refl _ _, rfl⟩
      · cases D
        · intro v W ρ y hC kc kf ks ki ky ku kd
          have dg : v 34 = .bool false := by first | exact kd _ (mem0 rfl) rfl | exact kd _ (mem1 rfl) rfl | exact kd _ (mem2 rfl) rfl | exact kd _ (mem3 rfl) rfl | exact kd _ (mem4 rfl) rfl | exact kd _ (mem5 rfl) rfl
          have hy := ky 34 137 false (by decide) rfl dg
          rw [if_neg (by simp [Region.wanted, hy])]
          exact ⟨Below.refl _ _, rfl⟩
        · cases S
          · intro v W ρ y hC kc kf ks ki ky ku kd
            have dg : v 34 = .bool true := by first | exact kd _ (mem0 rfl) rfl | exact kd _ (mem1 rfl) rfl | exact kd _ (mem2 rfl) rfl | exact kd _ (mem3 rfl) rfl | exact kd _ (mem4 rfl) rfl | exact kd _ (mem5 rfl) rfl
            have hy := ky 34 137 true (by decide) rfl dg
            rw [if_pos (by simp [Region.wanted, hy])]
            have t7 : ρ (.tmp 7) = .pointer (some ⟨ga, 0, none⟩) := ki 7 (by decide)
            have hg := blk_later hA17.out hC
            have c0 := blk_cell hg 0
            have c1 := blk_cell hg 1
            have c2 := blk_cell hg 2
            have c3 := blk_cell hg 3
            have c4 := blk_cell hg 4
            have c5 := blk_cell hg 5
            simp at c0 c1 c2 c3 c4 c5
            simp [execOp, go_sem, kc, t7, c0, c1, c2, c3, c4, c5]
            exact ⟨hC, Below.refl _ _, rfl⟩
          · intro v W ρ y hC kc kf ks ki ky ku kd
            have dg : v 34 = .bool false := by first | exact kd _ (mem0 rfl) rfl | exact kd _ (mem1 rfl) rfl | exact kd _ (mem2 rfl) rfl | exact kd _ (mem3 rfl) rfl | exact kd _ (mem4 rfl) rfl | exact kd _ (mem5 rfl) rfl
            have hy := ky 34 137 false (by decide) rfl dg
            rw [if_neg (by simp [Region.wanted, hy])]
            exact ⟨Below.refl _ _, rfl⟩
    · cases A
      · intro v W ρ y hC kc kf ks ki ky ku kd
        have dg : v 34 = .bool false := by first | exact kd _ (mem0 rfl) rfl | exact kd _ (mem1 rfl) rfl | exact kd _ (mem2 rfl) rfl | exact kd _ (mem3 rfl) rfl | exact kd _ (mem4 rfl) rfl | exact kd _ (mem5 rfl) rfl
        have hy := ky 34 137 false (by decide) rfl dg
        rw [if_neg (by simp [Region.wanted, hy])]
        exact ⟨Below.refl _ _, rfl⟩
      · cases D
        · intro v W ρ y hC kc kf ks ki ky ku kd
          have dg : v 34 = .bool false := by first | exact kd _ (mem0 rfl) rfl | exact kd _ (mem1 rfl) rfl | exact kd _ (mem2 rfl) rfl | exact kd _ (mem3 rfl) rfl | exact kd _ (mem4 rfl) rfl | exact kd _ (mem5 rfl) rfl
          have hy := ky 34 137 false (by decide) rfl dg
          rw [if_neg (by simp [Region.wanted, hy])]
          exact ⟨Below.refl _ _, rfl⟩
        · cases S
          · intro v W ρ y hC kc kf ks ki ky ku kd
            have dg : v 34 = .bool true := by first | exact kd _ (mem0 rfl) rfl | exact kd _ (mem1 rfl) rfl | exact kd _ (mem2 rfl) rfl | exact kd _ (mem3 rfl) rfl | exact kd _ (mem4 rfl) rfl | exact kd _ (mem5 rfl) rfl
            have hy := ky 34 137 true (by decide) rfl dg
            rw [if_pos (by simp [Region.wanted, hy])]
            have d38 : v 38 = .agg #[.int .i64 tb.proto, .int .i64 tb.src, .int .i64 tb.sport, .int .i64 tb.dst, .int .i64 tb.dport, .int .i64 tb.kind] := by first | exact kd _ (mem0 rfl) rfl | exact kd _ (mem1 rfl) rfl | exact kd _ (mem2 rfl) rfl | exact kd _ (mem3 rfl) rfl | exact kd _ (mem4 rfl) rfl | exact kd _ (mem5 rfl) rfl
            have t141 : ρ (.tmp 141) = .agg #[.int .i64 tb.proto, .int .i64 tb.src, .int .i64 tb.sport, .int .i64 tb.dst, .int .i64 tb.dport, .int .i64 tb.kind] := (ks 38 141 (by decide) rfl).trans d38
            have d39 : v 39 = .agg #[.int .i64 ta.proto, .int .i64 ta.src, .int .i64 ta.sport, .int .i64 ta.dst, .int .i64 ta.dport, .int .i64 ta.kind] := by first | exact kd _ (mem0 rfl) rfl | exact kd _ (mem1 rfl) rfl | exact kd _ (mem2 rfl) rfl | exact kd _ (mem3 rfl) rfl | exact kd _ (mem4 rfl) rfl | exact kd _ (mem5 rfl) rfl
            have t142 : ρ (.tmp 142) = .agg #[.int .i64 ta.proto, .int .i64 ta.src, .int .i64 ta.sport, .int .i64 ta.dst, .int .i64 ta.dport, .int .i64 ta.kind] := (ks 39 142 (by decide) rfl).trans d39
            simp [execOp, go_sem, t141, t142, kf]
            exact Calls.mono (HL2.out W) (fun e x h => ⟨_, h.1, hC.trans (h.2.mono hC.size), h.2, rfl⟩)
          · intro v W ρ y hC kc kf ks ki ky ku kd
            have dg : v 34 = .bool false := by first | exact kd _ (mem0 rfl) rfl | exact kd _ (mem1 rfl) rfl | exact kd _ (mem2 rfl) rfl | exact kd _ (mem3 rfl) rfl | exact kd _ (mem4 rfl) rfl | exact kd _ (mem5 rfl) rfl
            have hy := ky 34 137 false (by decide) rfl dg
            rw [if_neg (by simp [Region.wanted, hy])]
            exact ⟨Below.refl _ _, rfl⟩
    · cases A
      · intro v W ρ y hC kc kf ks ki ky ku kd
        have dg : v 34 = .bool false := by first | exact kd _ (mem0 rfl) rfl | exact kd _ (mem1 rfl) rfl | exact kd _ (mem2 rfl) rfl | exact kd _ (mem3 rfl) rfl | exact kd _ (mem4 rfl) rfl | exact kd _ (mem5 rfl) rfl
        have hy := ky 34 137 false (by decide) rfl dg
        rw [if_neg (by simp [Region.wanted, hy])]
        exact ⟨Below.refl _ _, rfl⟩
      · cases D
        · intro v W ρ y hC kc kf ks ki ky ku kd
          have dg : v 34 = .bool false := by first | exact kd _ (mem0 rfl) rfl | exact kd _ (mem1 rfl) rfl | exact kd _ (mem2 rfl) rfl | exact kd _ (mem3 rfl) rfl | exact kd _ (mem4 rfl) rfl | exact kd _ (mem5 rfl) rfl
          have hy := ky 34 137 false (by decide) rfl dg
          rw [if_neg (by simp [Region.wanted, hy])]
          exact ⟨Below.refl _ _, rfl⟩
        · cases S
          · intro v W ρ y hC kc kf ks ki ky ku kd
            have dg : v 34 = .bool true := by first | exact kd _ (mem0 rfl) rfl | exact kd _ (mem1 rfl) rfl | exact kd _ (mem2 rfl) rfl | exact kd _ (mem3 rfl) rfl | exact kd _ (mem4 rfl) rfl | exact kd _ (mem5 rfl) rfl
            have hy := ky 34 137 true (by decide) rfl dg
            rw [if_pos (by simp [Region.wanted, hy])]
            have d37 : v 37 = .bool L1 := by first | exact kd _ (mem0 rfl) rfl | exact kd _ (mem1 rfl) rfl | exact kd _ (mem2 rfl) rfl | exact kd _ (mem3 rfl) rfl | exact kd _ (mem4 rfl) rfl | exact kd _ (mem5 rfl) rfl
            have t140 : ρ (.tmp 140) = .bool L1 := (ks 37 140 (by decide) rfl).trans d37
            have d40 : v 40 = .bool L2 := by first | exact kd _ (mem0 rfl) rfl | exact kd _ (mem1 rfl) rfl | exact kd _ (mem2 rfl) rfl | exact kd _ (mem3 rfl) rfl | exact kd _ (mem4 rfl) rfl | exact kd _ (mem5 rfl) rfl
            have t143 : ρ (.tmp 143) = .bool L2 := (ks 40 143 (by decide) rfl).trans d40
            have e1 := HLL.out rfl rfl rfl
            simp [execOp, go_sem, kc, t140, t143, e1]
            exact ⟨hC, Below.refl _ _, rfl⟩
          · intro v W ρ y hC kc kf ks ki ky ku kd
            have dg : v 34 = .bool false := by first | exact kd _ (mem0 rfl) rfl | exact kd _ (mem1 rfl) rfl | exact kd _ (mem2 rfl) rfl | exact kd _ (mem3 rfl) rfl | exact kd _ (mem4 rfl) rfl | exact kd _ (mem5 rfl) rfl
            have hy := ky 34 137 false (by decide) rfl dg
            rw [if_neg (by simp [Region.wanted, hy])]
            exact ⟨Below.refl _ _, rfl⟩
    · cases A
      · intro v W ρ y hC kc kf ks ki ky ku kd
        have dg : v 22 = .bool false := by first | exact kd _ (mem0 rfl) rfl | exact kd _ (mem1 rfl) rfl | exact kd _ (mem2 rfl) rfl | exact kd _ (mem3 rfl) rfl | exact kd _ (mem4 rfl) rfl | exact kd _ (mem5 rfl) rfl
        have hy := ky 22 125 false (by decide) rfl dg
        rw [if_pos (by simp [Region.wanted, hy])]
        have d34 : v 34 = .bool false := by first | exact kd _ (mem0 rfl) rfl | exact kd _ (mem1 rfl) rfl | exact kd _ (mem2 rfl) rfl | exact kd _ (mem3 rfl) rfl | exact kd _ (mem4 rfl) rfl | exact kd _ (mem5 rfl) rfl
        have t137 : ρ (.tmp 137) = .bool false := (ks 34 137 (by decide) rfl).trans d34
        simp [execOp, go_sem, kc, t137]
        exact ⟨hC, Below.refl _ _, rfl⟩
      · cases D
        · intro v W ρ y hC kc kf ks ki ky ku kd
          have dg : v 22 = .bool false := by first | exact kd _ (mem0 rfl) rfl | exact kd _ (mem1 rfl) rfl | exact kd _ (mem2 rfl) rfl | exact kd _ (mem3 rfl) rfl | exact kd _ (mem4 rfl) rfl | exact kd _ (mem5 rfl) rfl
          have hy := ky 22 125 false (by decide) rfl dg
          rw [if_pos (by simp [Region.wanted, hy])]
          have d34 : v 34 = .bool false := by first | exact kd _ (mem0 rfl) rfl | exact kd _ (mem1 rfl) rfl | exact kd _ (mem2 rfl) rfl | exact kd _ (mem3 rfl) rfl | exact kd _ (mem4 rfl) rfl | exact kd _ (mem5 rfl) rfl
          have t137 : ρ (.tmp 137) = .bool false := (ks 34 137 (by decide) rfl).trans d34
          simp [execOp, go_sem, kc, t137]
          exact ⟨hC, Below.refl _ _, rfl⟩
        · cases S
          · intro v W ρ y hC kc kf ks ki ky ku kd
            have dg : v 22 = .bool false := by first | exact kd _ (mem0 rfl) rfl | exact kd _ (mem1 rfl) rfl | exact kd _ (mem2 rfl) rfl | exact kd _ (mem3 rfl) rfl | exact kd _ (mem4 rfl) rfl | exact kd _ (mem5 rfl) rfl
            have hy := ky 22 125 false (by decide) rfl dg
            rw [if_pos (by simp [Region.wanted, hy])]
            have d34 : v 34 = .bool true := by first | exact kd _ (mem0 rfl) rfl | exact kd _ (mem1 rfl) rfl | exact kd _ (mem2 rfl) rfl | exact kd _ (mem3 rfl) rfl | exact kd _ (mem4 rfl) rfl | exact kd _ (mem5 rfl) rfl
            have t137 : ρ (.tmp 137) = .bool true := (ks 34 137 (by decide) rfl).trans d34
            have d41 : v 41 = .bool false := by first | exact kd _ (mem0 rfl) rfl | exact kd _ (mem1 rfl) rfl | exact kd _ (mem2 rfl) rfl | exact kd _ (mem3 rfl) rfl | exact kd _ (mem4 rfl) rfl | exact kd _ (mem5 rfl) rfl
            have t144 : ρ (.tmp 144) = .bool false := (ks 41 144 (by decide) rfl).trans d41
            simp [execOp, go_sem, kc, t137, t144]
            exact ⟨hC, Below.refl _ _, rfl⟩
          · intro v W ρ y hC kc kf ks ki ky ku kd
            have dg : v 22 = .bool false := by first | exact kd _ (mem0 rfl) rfl | exact kd _ (mem1 rfl) rfl | exact kd _ (mem2 rfl) rfl | exact kd _ (mem3 rfl) rfl | exact kd _ (mem4 rfl) rfl | exact kd _ (mem5 rfl) rfl
            have hy := ky 22 125 false (by decide) rfl dg
            rw [if_pos (by simp [Region.wanted, hy])]
            have d34 : v 34 = .bool false := by first | exact kd _ (mem0 rfl) rfl | exact kd _ (mem1 rfl) rfl | exact kd _ (mem2 rfl) rfl | exact kd _ (mem3 rfl) rfl | exact kd _ (mem4 rfl) rfl | exact kd _ (mem5 rfl) rfl
            have t137 : ρ (.tmp 137) = .bool false := (ks 34 137 (by decide) rfl).trans d34
            simp [execOp, go_sem, kc, t137]
            exact ⟨hC, Below.refl _ _, rfl⟩
    · cases A
      · refine stepW_of_u ⟨rfl, fun v W ρ hC kc kf ks ki kd => ?_⟩
        have d22 : v 22 = .bool false := by first | exact kd _ (mem0 rfl) rfl | exact kd _ (mem1 rfl) rfl | exact kd _ (mem2 rfl) rfl | exact kd _ (mem3 rfl) rfl | exact kd _ (mem4 rfl) rfl | exact kd _ (mem5 rfl) rfl
        have t125 : ρ (.tmp 125) = .bool false := (ks 22 125 (by decide) rfl).trans d22
        have d42 : v 42 = .bool false := by first | exact kd _ (mem0 rfl) rfl | exact kd _ (mem1 rfl) rfl | exact kd _ (mem2 rfl) rfl | exact kd _ (mem3 rfl) rfl | exact kd _ (mem4 rfl) rfl | exact kd _ (mem5 rfl) rfl
        have t145 : ρ (.tmp 145) = .bool false := (ks 42 145 (by decide) rfl).trans d42
        simp [execOp, go_sem, kc, t125, t145]
        exact ⟨hC, Below.refl _ _, rfl⟩
      · cases D
        · refine stepW_of_u ⟨rfl, fun v W ρ hC kc kf ks ki kd => ?_⟩
          have d22 : v 22 = .bool false := by first | exact kd _ (mem0 rfl) rfl | exact kd _ (mem1 rfl) rfl | exact kd _ (mem2 rfl) rfl | exact kd _ (mem3 rfl) rfl | exact kd _ (mem4 rfl) rfl | exact kd _ (mem5 rfl) rfl
          have t125 : ρ (.tmp 125) = .bool false := (ks 22 125 (by decide) rfl).trans d22
          have d42 : v 42 = .bool false := by first | exact kd _ (mem0 rfl) rfl | exact kd _ (mem1 rfl) rfl | exact kd _ (mem2 rfl) rfl | exact kd _ (mem3 rfl) rfl | exact kd _ (mem4 rfl) rfl | exact kd _ (mem5 rfl) rfl
          have t145 : ρ (.tmp 145) = .bool false := (ks 42 145 (by decide) rfl).trans d42
          simp [execOp, go_sem, kc, t125, t145]
          exact ⟨hC, Below.refl _ _, rfl⟩
        · cases S
          · refine stepW_of_u ⟨rfl, fun v W ρ hC kc kf ks ki kd => ?_⟩
            have d22 : v 22 = .bool false := by first | exact kd _ (mem0 rfl) rfl | exact kd _ (mem1 rfl) rfl | exact kd _ (mem2 rfl) rfl | exact kd _ (mem3 rfl) rfl | exact kd _ (mem4 rfl) rfl | exact kd _ (mem5 rfl) rfl
            have t125 : ρ (.tmp 125) = .bool false := (ks 22 125 (by decide) rfl).trans d22
            have d42 : v 42 = .bool false := by first | exact kd _ (mem0 rfl) rfl | exact kd _ (mem1 rfl) rfl | exact kd _ (mem2 rfl) rfl | exact kd _ (mem3 rfl) rfl | exact kd _ (mem4 rfl) rfl | exact kd _ (mem5 rfl) rfl
            have t145 : ρ (.tmp 145) = .bool false := (ks 42 145 (by decide) rfl).trans d42
            simp [execOp, go_sem, kc, t125, t145]
            exact ⟨hC, Below.refl _ _, rfl⟩
          · refine stepW_of_u ⟨rfl, fun v W ρ hC kc kf ks ki kd => ?_⟩
            have d22 : v 22 = .bool false := by first | exact kd _ (mem0 rfl) rfl | exact kd _ (mem1 rfl) rfl | exact kd _ (mem2 rfl) rfl | exact kd _ (mem3 rfl) rfl | exact kd _ (mem4 rfl) rfl | exact kd _ (mem5 rfl) rfl
            have t125 : ρ (.tmp 125) = .bool false := (ks 22 125 (by decide) rfl).trans d22
            have d42 : v 42 = .bool false := by first | exact kd _ (mem0 rfl) rfl | exact kd _ (mem1 rfl) rfl | exact kd _ (mem2 rfl) rfl | exact kd _ (mem3 rfl) rfl | exact kd _ (mem4 rfl) rfl | exact kd _ (mem5 rfl) rfl
            have t145 : ρ (.tmp 145) = .bool false := (ks 42 145 (by decide) rfl).trans d42
            simp [execOp, go_sem, kc, t125, t145]
            exact ⟨hC, Below.refl _ _, rfl⟩
  intro v13 W13 hb13 hall
  have hv13 : v13 43 = .bool false := hall 43 (by decide)
  simp [upto, Act.put]
  rw [hv13]
  clear hall hv13
  have hL18 := hidS (hL17.out.trans (hb13.mono hL17.out.size))
  have hA18 := hidS (blk_later hA17.out hb13)
  have hB18 := hidS (blk_later hB17.out hb13)
  have hP18 := hidS (blk_later hP17.out hb13)
  have hW18 := hidS (blk_later hW17.out hb13)
  have hX18 := hidS (blk_later hX17.out hb13)
  clear hb13 hL17 hA17 hB17 hP17 hW17 hX17
  clear hT17 hV17 HRs HV4 HV5 HVT HG1 HG2 HLi HL2 HLL qN nT
  go_wp2_with fail
  refine grow_guarded 17 [.is (.agg #[.int .i64 ta.proto, .int .i64 ta.src, .int .i64 ta.sport, .int .i64 ta.dst, .int .i64 ta.dport, .int .i64 ta.kind]), .is (cond A (.bool true) (.bool false)), .is (cond A (.bool true) (.bool false)), .is (cond A (.agg #[.int .i64 tb.proto, .int .i64 tb.src, .int .i64 tb.sport, .int .i64 tb.dst, .int .i64 tb.dport, .int .i64 tb.kind]) (undef)), .is (cond A (cond D (.bool true) (.bool false)) (undef)), .is (cond A (cond D (.bool true) (.bool false)) (.bool false)), .is (cond A (cond D (.bool true) (.bool false)) (.bool false)), .is (cond A (cond D (.agg #[.int .i64 ta.proto, .int .i64 ta.src, .int .i64 ta.sport, .int .i64 ta.dst, .int .i64 ta.dport, .int .i64 ta.kind]) (undef)) (undef)), .is (cond A (cond D (.agg #[.int .i64 tb.proto, .int .i64 tb.src, .int .i64 tb.sport, .int .i64 tb.dst, .int .i64 tb.dport, .int .i64 tb.kind]) (undef)) (undef)), .is (cond A (cond D (cond S (.bool true) (.bool false)) (undef)) (undef)), .is (cond A (cond D (.agg #[.int .i64 ta.proto, .int .i64 ta.src, .int .i64 ta.sport, .int .i64 ta.dst, .int .i64 ta.dport, .int .i64 ta.kind]) (undef)) (undef)), .is (cond A (cond D (.string TA) (undef)) (undef)), .is (cond A (cond D (.agg #[.int .i64 tb.proto, .int .i64 tb.src, .int .i64 tb.sport, .int .i64 tb.dst, .int .i64 tb.dport, .int .i64 tb.kind]) (undef)) (undef)), .is (cond A (cond D (.string TB) (undef)) (undef)), .is (cond A (cond D (cond S (.bool true) (.bool false)) (undef)) (undef)), .is (cond A (cond D (.bool false) (undef)) (undef)), .is (.bool false)] rfl (by kernel_rfl) (by kernel_rfl) ?steps15 ?fin15
  case steps15 =>
    refine ⟨?_, ?_, ?_, ?_, ?_, ?_, ?_, ?_, ?_, ?_, ?_, ?_, ?_, ?_, ?_, ?_, ?_, trivial⟩
    · cases A
      · refine stepW_of_u ⟨rfl, fun v W ρ hC kc kf ks ki kd => ?_⟩
        have t7 : ρ (.tmp 7) = .pointer (some ⟨ga, 0, none⟩) := ki 7 (by decide)
        have hg := blk_later hA18.out hC
        have c0 := blk_cell hg 0
        have c1 := blk_cell hg 1
        have c2 := blk_cell hg 2
        have c3 := blk_cell hg 3
        have c4 := blk_cell hg 4
        have c5 := blk_cell hg 5
        simp at c0 c1 c2 c3 c4 c5
        simp [execOp, go_sem, kc, t7, c0, c1, c2, c3, c4, c5]
        exact ⟨hC, Below.refl _ _, rfl⟩
      · cases D
        · refine stepW_of_u ⟨rfl, fun v W ρ hC kc kf ks ki kd => ?_⟩
          have t7 : ρ (.tmp 7) = .pointer (some ⟨ga, 0, none⟩) := ki 7 (by decide)
          have hg := blk_later hA18.out hC
          have c0 := blk_cell hg 0
          have c1 := blk_cell hg 1
          have c2 := blk_cell hg 2
          have c3 := blk_cell hg 3
          have c4 := blk_cell hg 4
          have c5 := blk_cell hg 5
          simp at c0 c1 c2 c3 c4 c5
          simp [execOp, go_sem, kc, t7, c0, c1, c2, c3, c4, c5]
          exact ⟨hC, Below.refl _ _, rfl⟩
        · cases S
          · refine stepW_of_u ⟨rfl, fun v W ρ hC kc kf ks ki kd => ?_⟩
            have t7 : ρ (.tmp 7) = .pointer (some ⟨ga, 0, none⟩) := ki 7 (by decide)
            have hg := blk_later hA18.out hC
            have c0 := blk_cell hg 0
            have c1 := blk_cell hg 1
            have c2 := blk_cell hg 2
            have c3 := blk_cell hg 3
            have c4 := blk_cell hg 4
            have c5 := blk_cell hg 5
            simp at c0 c1 c2 c3 c4 c5
            simp [execOp, go_sem, kc, t7, c0, c1, c2, c3, c4, c5]
            exact ⟨hC, Below.refl _ _, rfl⟩
          · refine stepW_of_u ⟨rfl, fun v W ρ hC kc kf ks ki kd => ?_⟩
            have t7 : ρ (.tmp 7) = .pointer (some ⟨ga, 0, none⟩) := ki 7 (by decide)
            have hg := blk_later hA18.out hC
            have c0 := blk_cell hg 0
            have c1 := blk_cell hg 1
            have c2 := blk_cell hg 2
            have c3 := blk_cell hg 3
            have c4 := blk_cell hg 4
            have c5 := blk_cell hg 5
            simp at c0 c1 c2 c3 c4 c5
            simp [execOp, go_sem, kc, t7, c0, c1, c2, c3, c4, c5]
            exact ⟨hC, Below.refl _ _, rfl⟩
    · cases A
      · refine stepW_of_u ⟨rfl, fun v W ρ hC kc kf ks ki kd => ?_⟩
        have d0 : v 0 = .agg #[.int .i64 ta.proto, .int .i64 ta.src, .int .i64 ta.sport, .int .i64 ta.dst, .int .i64 ta.dport, .int .i64 ta.kind] := by first | exact kd _ (mem0 rfl) rfl | exact kd _ (mem1 rfl) rfl | exact kd _ (mem2 rfl) rfl | exact kd _ (mem3 rfl) rfl | exact kd _ (mem4 rfl) rfl | exact kd _ (mem5 rfl) rfl
        have t147 : ρ (.tmp 147) = .agg #[.int .i64 ta.proto, .int .i64 ta.src, .int .i64 ta.sport, .int .i64 ta.dst, .int .i64 ta.dport, .int .i64 ta.kind] := (ks 0 147 (by decide) rfl).trans d0
        simp [execOp, go_sem, t147, kf]
        exact Calls.mono (HAs.out W) (fun e x h => ⟨_, h.1, hC.trans (h.2.mono hC.size), h.2, rfl⟩)
      · cases D
        · refine stepW_of_u ⟨rfl, fun v W ρ hC kc kf ks ki kd => ?_⟩
          have d0 : v 0 = .agg #[.int .i64 ta.proto, .int .i64 ta.src, .int .i64 ta.sport, .int .i64 ta.dst, .int .i64 ta.dport, .int .i64 ta.kind] := by first | exact kd _ (mem0 rfl) rfl | exact kd _ (mem1 rfl) rfl | exact kd _ (mem2 rfl) rfl | exact kd _ (mem3 rfl) rfl | exact kd _ (mem4 rfl) rfl | exact kd _ (mem5 rfl) rfl
          have t147 : ρ (.tmp 147) = .agg #[.int .i64 ta.proto, .int .i64 ta.src, .int .i64 ta.sport, .int .i64 ta.dst, .int .i64 ta.dport, .int .i64 ta.kind] := (ks 0 147 (by decide) rfl).trans d0
          simp [execOp, go_sem, t147, kf]
          exact Calls.mono (HAs.out W) (fun e x h => ⟨_, h.1, hC.trans (h.2.mono hC.size), h.2, rfl⟩)
        · cases S
          · refine stepW_of_u ⟨rfl, fun v W ρ hC kc kf ks ki kd => ?_⟩
            have d0 : v 0 = .agg #[.int .i64 ta.proto, .int .i64 ta.src, .int .i64 ta.sport, .int .i64 ta.dst, .int .i64 ta.dport, .int .i64 ta.kind] := by first | exact kd _ (mem0 rfl) rfl | exact kd _ (mem1 rfl) rfl | exact kd _ (mem2 rfl) rfl | exact kd _ (mem3 rfl) rfl | exact kd _ (mem4 rfl) rfl | exact kd _ (mem5 rfl) rfl
            have t147 : ρ (.tmp 147) = .agg #[.int .i64 ta.proto, .int .i64 ta.src, .int .i64 ta.sport, .int .i64 ta.dst, .int .i64 ta.dport, .int .i64 ta.kind] := (ks 0 147 (by decide) rfl).trans d0
            simp [execOp, go_sem, t147, kf]
            exact Calls.mono (HAs.out W) (fun e x h => ⟨_, h.1, hC.trans (h.2.mono hC.size), h.2, rfl⟩)
          · refine stepW_of_u ⟨rfl, fun v W ρ hC kc kf ks ki kd => ?_⟩
            have d0 : v 0 = .agg #[.int .i64 ta.proto, .int .i64 ta.src, .int .i64 ta.sport, .int .i64 ta.dst, .int .i64 ta.dport, .int .i64 ta.kind] := by first | exact kd _ (mem0 rfl) rfl | exact kd _ (mem1 rfl) rfl | exact kd _ (mem2 rfl) rfl | exact kd _ (mem3 rfl) rfl | exact kd _ (mem4 rfl) rfl | exact kd _ (mem5 rfl) rfl
            have t147 : ρ (.tmp 147) = .agg #[.int .i64 ta.proto, .int .i64 ta.src, .int .i64 ta.sport, .int .i64 ta.dst, .int .i64 ta.dport, .int .i64 ta.kind] := (ks 0 147 (by decide) rfl).trans d0
            simp [execOp, go_sem, t147, kf]
            exact Calls.mono (HAs.out W) (fun e x h => ⟨_, h.1, hC.trans (h.2.mono hC.size), h.2, rfl⟩)
    · cases A
      · refine stepW_of_u ⟨rfl, fun v W ρ hC kc kf ks ki kd => ?_⟩
        have d1 : v 1 = .bool false := by first | exact kd _ (mem0 rfl) rfl | exact kd _ (mem1 rfl) rfl | exact kd _ (mem2 rfl) rfl | exact kd _ (mem3 rfl) rfl | exact kd _ (mem4 rfl) rfl | exact kd _ (mem5 rfl) rfl
        have t148 : ρ (.tmp 148) = .bool false := (ks 1 148 (by decide) rfl).trans d1
        simp [execOp, go_sem, kc, t148]
        exact ⟨hC, Below.refl _ _, rfl⟩
      · cases D
        · refine stepW_of_u ⟨rfl, fun v W ρ hC kc kf ks ki kd => ?_⟩
          have d1 : v 1 = .bool true := by first | exact kd _ (mem0 rfl) rfl | exact kd _ (mem1 rfl) rfl | exact kd _ (mem2 rfl) rfl | exact kd _ (mem3 rfl) rfl | exact kd _ (mem4 rfl) rfl | exact kd _ (mem5 rfl) rfl
          have t148 : ρ (.tmp 148) = .bool true := (ks 1 148 (by decide) rfl).trans d1
          simp [execOp, go_sem, kc, t148]
          exact ⟨hC, Below.refl _ _, rfl⟩
        · cases S
          · refine stepW_of_u ⟨rfl, fun v W ρ hC kc kf ks ki kd => ?_⟩
            have d1 : v 1 = .bool true := by first | exact kd _ (mem0 rfl) rfl | exact kd _ (mem1 rfl) rfl | exact kd _ (mem2 rfl) rfl | exact kd _ (mem3 rfl) rfl | exact kd _ (mem4 rfl) rfl | exact kd _ (mem5 rfl) rfl
            have t148 : ρ (.tmp 148) = .bool true := (ks 1 148 (by decide) rfl).trans d1
            simp [execOp, go_sem, kc, t148]
            exact ⟨hC, Below.refl _ _, rfl⟩
          · refine stepW_of_u ⟨rfl, fun v W ρ hC kc kf ks ki kd => ?_⟩
            have d1 : v 1 = .bool true := by first | exact kd _ (mem0 rfl) rfl | exact kd _ (mem1 rfl) rfl | exact kd _ (mem2 rfl) rfl | exact kd _ (mem3 rfl) rfl | exact kd _ (mem4 rfl) rfl | exact kd _ (mem5 rfl) rfl
            have t148 : ρ (.tmp 148) = .bool true := (ks 1 148 (by decide) rfl).trans d1
            simp [execOp, go_sem, kc, t148]
            exact ⟨hC, Below.refl _ _, rfl⟩
    · cases A
      · intro v W ρ y hC kc kf ks ki ky ku kd
        have dg : v 2 = .bool false := by first | exact kd _ (mem0 rfl) rfl | exact kd _ (mem1 rfl) rfl | exact kd _ (mem2 rfl) rfl | exact kd _ (mem3 rfl) rfl | exact kd _ (mem4 rfl) rfl | exact kd _ (mem5 rfl) rfl
        have hy := ky 2 149 false (by decide) rfl dg
        rw [if_neg (by simp [Region.wanted, hy])]
        exact ⟨Below.refl _ _, rfl⟩
      · cases D
        · intro v W ρ y hC kc kf ks ki ky ku kd
          have dg : v 2 = .bool true := by first | exact kd _ (mem0 rfl) rfl | exact kd _ (mem1 rfl) rfl | exact kd _ (mem2 rfl) rfl | exact kd _ (mem3 rfl) rfl | exact kd _ (mem4 rfl) rfl | exact kd _ (mem5 rfl) rfl
          have hy := ky 2 149 true (by decide) rfl dg
          rw [if_pos (by simp [Region.wanted, hy])]
          have t8 : ρ (.tmp 8) = .pointer (some ⟨gb, 0, none⟩) := ki 8 (by decide)
          have hg := blk_later hB18.out hC
          have c0 := blk_cell hg 0
          have c1 := blk_cell hg 1
          have c2 := blk_cell hg 2
          have c3 := blk_cell hg 3
          have c4 := blk_cell hg 4
          have c5 := blk_cell hg 5
          simp at c0 c1 c2 c3 c4 c5
          simp [execOp, go_sem, kc, t8, c0, c1, c2, c3, c4, c5]
          exact ⟨hC, Below.refl _ _, rfl⟩
        · cases S
          · intro v W ρ y hC kc kf ks ki ky ku kd
            have dg : v 2 = .bool true := by first | exact kd _ (mem0 rfl) rfl | exact kd _ (mem1 rfl) rfl | exact kd _ (mem2 rfl) rfl | exact kd _ (mem3 rfl) rfl | exact kd _ (mem4 rfl) rfl | exact kd _ (mem5 rfl) rfl
            have hy := ky 2 149 true (by decide) rfl dg
            rw [if_pos (by simp [Region.wanted, hy])]
            have t8 : ρ (.tmp 8) = .pointer (some ⟨gb, 0, none⟩) := ki 8 (by decide)
            have hg := blk_later hB18.out hC
            have c0 := blk_cell hg 0
            have c1 := blk_cell hg 1
            have c2 := blk_cell hg 2
            have c3 := blk_cell hg 3
            have c4 := blk_cell hg 4
            have c5 := blk_cell hg 5
            simp at c0 c1 c2 c3 c4 c5
            simp [execOp, go_sem, kc, t8, c0, c1, c2, c3, c4, c5]
            exact ⟨hC, Below.refl _ _, rfl⟩
          · intro v W ρ y hC kc kf ks ki ky ku kd
            have dg : v 2 = .bool true := by first | exact kd _ (mem0 rfl) rfl | exact kd _ (mem1 rfl) rfl | exact kd _ (mem2 rfl) rfl | exact kd _ (mem3 rfl) rfl | exact kd _ (mem4 rfl) rfl | exact kd _ (mem5 rfl) rfl
            have hy := ky 2 149 true (by decide) rfl dg
            rw [if_pos (by simp [Region.wanted, hy])]
            have t8 : ρ (.tmp 8) = .pointer (some ⟨gb, 0, none⟩) := ki 8 (by decide)
            have hg := blk_later hB18.out hC
            have c0 := blk_cell hg 0
            have c1 := blk_cell hg 1
            have c2 := blk_cell hg 2
            have c3 := blk_cell hg 3
            have c4 := blk_cell hg 4
            have c5 := blk_cell hg 5
            simp at c0 c1 c2 c3 c4 c5
            simp [execOp, go_sem, kc, t8, c0, c1, c2, c3, c4, c5]
            exact ⟨hC, Below.refl _ _, rfl⟩
    · cases A
      · intro v W ρ y hC kc kf ks ki ky ku kd
        have dg : v 2 = .bool false := by first | exact kd _ (mem0 rfl) rfl | exact kd _ (mem1 rfl) rfl | exact kd _ (mem2 rfl) rfl | exact kd _ (mem3 rfl) rfl | exact kd _ (mem4 rfl) rfl | exact kd _ (mem5 rfl) rfl
        have hy := ky 2 149 false (by decide) rfl dg
        rw [if_neg (by simp [Region.wanted, hy])]
        exact ⟨Below.refl _ _, rfl⟩
      · cases D
        · intro v W ρ y hC kc kf ks ki ky ku kd
          have dg : v 2 = .bool true := by first | exact kd _ (mem0 rfl) rfl | exact kd _ (mem1 rfl) rfl | exact kd _ (mem2 rfl) rfl | exact kd _ (mem3 rfl) rfl | exact kd _ (mem4 rfl) rfl | exact kd _ (mem5 rfl) rfl
          have hy := ky 2 149 true (by decide) rfl dg
          rw [if_pos (by simp [Region.wanted, hy])]
          have d3 : v 3 = .agg #[.int .i64 tb.proto, .int .i64 tb.src, .int .i64 tb.sport, .int .i64 tb.dst, .int .i64 tb.dport, .int .i64 tb.kind] := by first | exact kd _ (mem0 rfl) rfl | exact kd _ (mem1 rfl) rfl | exact kd _ (mem2 rfl) rfl | exact kd _ (mem3 rfl) rfl | exact kd _ (mem4 rfl) rfl | exact kd _ (mem5 rfl) rfl
          have t150 : ρ (.tmp 150) = .agg #[.int .i64 tb.proto, .int .i64 tb.src, .int .i64 tb.sport, .int .i64 tb.dst, .int .i64 tb.dport, .int .i64 tb.kind] := (ks 3 150 (by decide) rfl).trans d3
          simp [execOp, go_sem, t150, kf]
          exact Calls.mono (HBs.out W) (fun e x h => ⟨_, h.1, hC.trans (h.2.mono hC.size), h.2, rfl⟩)
        · cases S
          · intro v W ρ y hC kc kf ks ki ky ku kd
            have dg : v 2 = .bool true := by first | exact kd _ (mem0 rfl) rfl | exact kd _ (mem1 rfl) rfl | exact kd _ (mem2 rfl) rfl | exact kd _ (mem3 rfl) rfl | exact kd _ (mem4 rfl) rfl | exact kd _ (mem5 rfl) rfl
            have hy := ky 2 149 true (by decide) rfl dg
            rw [if_pos (by simp [Region.wanted, hy])]
            have d3 : v 3 = .agg #[.int .i64 tb.proto, .int .i64 tb.src, .int .i64 tb.sport, .int .i64 tb.dst, .int .i64 tb.dport, .int .i64 tb.kind] := by first | exact kd _ (mem0 rfl) rfl | exact kd _ (mem1 rfl) rfl | exact kd _ (mem2 rfl) rfl | exact kd _ (mem3 rfl) rfl | exact kd _ (mem4 rfl) rfl | exact kd _ (mem5 rfl) rfl
            have t150 : ρ (.tmp 150) = .agg #[.int .i64 tb.proto, .int .i64 tb.src, .int .i64 tb.sport, .int .i64 tb.dst, .int .i64 tb.dport, .int .i64 tb.kind] := (ks 3 150 (by decide) rfl).trans d3
            simp [execOp, go_sem, t150, kf]
            exact Calls.mono (HBs.out W) (fun e x h => ⟨_, h.1, hC.trans (h.2.mono hC.size), h.2, rfl⟩)
          · intro v W ρ y hC kc kf ks ki ky ku kd
            have dg : v 2 = .bool true := by first | exact kd _ (mem0 rfl) rfl | exact kd _ (mem1 rfl) rfl | exact kd _ (mem2 rfl) rfl | exact kd _ (mem3 rfl) rfl | exact kd _ (mem4 rfl) rfl | exact kd _ (mem5 rfl) rfl
            have hy := ky 2 149 true (by decide) rfl dg
            rw [if_pos (by simp [Region.wanted, hy])]
            have d3 : v 3 = .agg #[.int .i64 tb.proto, .int .i64 tb.src, .int .i64 tb.sport, .int .i64 tb.dst, .int .i64 tb.dport, .int .i64 tb.kind] := by first | exact kd _ (mem0 rfl) rfl | exact kd _ (mem1 rfl) rfl | exact kd _ (mem2 rfl) rfl | exact kd _ (mem3 rfl) rfl | exact kd _ (mem4 rfl) rfl | exact kd _ (mem5 rfl) rfl
            have t150 : ρ (.tmp 150) = .agg #[.int .i64 tb.proto, .int .i64 tb.src, .int .i64 tb.sport, .int .i64 tb.dst, .int .i64 tb.dport, .int .i64 tb.kind] := (ks 3 150 (by decide) rfl).trans d3
            simp [execOp, go_sem, t150, kf]
            exact Calls.mono (HBs.out W) (fun e x h => ⟨_, h.1, hC.trans (h.2.mono hC.size), h.2, rfl⟩)
    · cases A
      · refine stepW_of_u ⟨rfl, fun v W ρ hC kc kf ks ki kd => ?_⟩
        have d2 : v 2 = .bool false := by first | exact kd _ (mem0 rfl) rfl | exact kd _ (mem1 rfl) rfl | exact kd _ (mem2 rfl) rfl | exact kd _ (mem3 rfl) rfl | exact kd _ (mem4 rfl) rfl | exact kd _ (mem5 rfl) rfl
        have t149 : ρ (.tmp 149) = .bool false := (ks 2 149 (by decide) rfl).trans d2
        simp [execOp, go_sem, kc, t149]
        exact ⟨hC, Below.refl _ _, rfl⟩
      · cases D
        · refine stepW_of_u ⟨rfl, fun v W ρ hC kc kf ks ki kd => ?_⟩
          have d2 : v 2 = .bool true := by first | exact kd _ (mem0 rfl) rfl | exact kd _ (mem1 rfl) rfl | exact kd _ (mem2 rfl) rfl | exact kd _ (mem3 rfl) rfl | exact kd _ (mem4 rfl) rfl | exact kd _ (mem5 rfl) rfl
          have t149 : ρ (.tmp 149) = .bool true := (ks 2 149 (by decide) rfl).trans d2
          have d4 : v 4 = .bool false := by first | exact kd _ (mem0 rfl) rfl | exact kd _ (mem1 rfl) rfl | exact kd _ (mem2 rfl) rfl | exact kd _ (mem3 rfl) rfl | exact kd _ (mem4 rfl) rfl | exact kd _ (mem5 rfl) rfl
          have t151 : ρ (.tmp 151) = .bool false := (ks 4 151 (by decide) rfl).trans d4
          simp [execOp, go_sem, kc, t149, t151]
          exact ⟨hC, Below.refl _ _, rfl⟩
        · cases S
          · refine stepW_of_u ⟨rfl, fun v W ρ hC kc kf ks ki kd => ?_⟩
            have d2 : v 2 = .bool true := by first | exact kd _ (mem0 rfl) rfl | exact kd _ (mem1 rfl) rfl | exact kd _ (mem2 rfl) rfl | exact kd _ (mem3 rfl) rfl | exact kd _ (mem4 rfl) rfl | exact kd _ (mem5 rfl) rfl
            have t149 : ρ (.tmp 149) = .bool true := (ks 2 149 (by decide) rfl).trans d2
            have d4 : v 4 = .bool true := by first | exact kd _ (mem0 rfl) rfl | exact kd _ (mem1 rfl) rfl | exact kd _ (mem2 rfl) rfl | exact kd _ (mem3 rfl) rfl | exact kd _ (mem4 rfl) rfl | exact kd _ (mem5 rfl) rfl
            have t151 : ρ (.tmp 151) = .bool true := (ks 4 151 (by decide) rfl).trans d4
            simp [execOp, go_sem, kc, t149, t151]
            exact ⟨hC, Below.refl _ _, rfl⟩
          · refine stepW_of_u ⟨rfl, fun v W ρ hC kc kf ks ki kd => ?_⟩
            have d2 : v 2 = .bool true := by first | exact kd _ (mem0 rfl) rfl | exact kd _ (mem1 rfl) rfl | exact kd _ (mem2 rfl) rfl | exact kd _ (mem3 rfl) rfl | exact kd _ (mem4 rfl) rfl | exact kd _ (mem5 rfl) rfl
            have t149 : ρ (.tmp 149) = .bool true := (ks 2 149 (by decide) rfl).trans d2
            have d4 : v 4 = .bool true := by first | exact kd _ (mem0 rfl) rfl | exact kd _ (mem1 rfl) rfl | exact kd _ (mem2 rfl) rfl | exact kd _ (mem3 rfl) rfl | exact kd _ (mem4 rfl) rfl | exact kd _ (mem5 rfl) rfl
            have t151 : ρ (.tmp 151) = .bool true := (ks 4 151 (by decide) rfl).trans d4
            simp [execOp, go_sem, kc, t149, t151]
            exact ⟨hC, Below.refl _ _, rfl⟩
    · cases A
      · refine stepW_of_u ⟨rfl, fun v W ρ hC kc kf ks ki kd => ?_⟩
        have d5 : v 5 = .bool false := by first | exact kd _ (mem0 rfl) rfl | exact kd _ (mem1 rfl) rfl | exact kd _ (mem2 rfl) rfl | exact kd _ (mem3 rfl) rfl | exact kd _ (mem4 rfl) rfl | exact kd _ (mem5 rfl) rfl
        have t152 : ρ (.tmp 152) = .bool false := (ks 5 152 (by decide) rfl).trans d5
        simp [execOp, go_sem, kc, t152]
        exact ⟨hC, Below.refl _ _, rfl⟩
      · cases D
        · refine stepW_of_u ⟨rfl, fun v W ρ hC kc kf ks ki kd => ?_⟩
          have d5 : v 5 = .bool false := by first | exact kd _ (mem0 rfl) rfl | exact kd _ (mem1 rfl) rfl | exact kd _ (mem2 rfl) rfl | exact kd _ (mem3 rfl) rfl | exact kd _ (mem4 rfl) rfl | exact kd _ (mem5 rfl) rfl
          have t152 : ρ (.tmp 152) = .bool false := (ks 5 152 (by decide) rfl).trans d5
          simp [execOp, go_sem, kc, t152]
          exact ⟨hC, Below.refl _ _, rfl⟩
        · cases S
          · refine stepW_of_u ⟨rfl, fun v W ρ hC kc kf ks ki kd => ?_⟩
            have d5 : v 5 = .bool true := by first | exact kd _ (mem0 rfl) rfl | exact kd _ (mem1 rfl) rfl | exact kd _ (mem2 rfl) rfl | exact kd _ (mem3 rfl) rfl | exact kd _ (mem4 rfl) rfl | exact kd _ (mem5 rfl) rfl
            have t152 : ρ (.tmp 152) = .bool true := (ks 5 152 (by decide) rfl).trans d5
            simp [execOp, go_sem, kc, t152]
            exact ⟨hC, Below.refl _ _, rfl⟩
          · refine stepW_of_u ⟨rfl, fun v W ρ hC kc kf ks ki kd => ?_⟩
            have d5 : v 5 = .bool true := by first | exact kd _ (mem0 rfl) rfl | exact kd _ (mem1 rfl) rfl | exact kd _ (mem2 rfl) rfl | exact kd _ (mem3 rfl) rfl | exact kd _ (mem4 rfl) rfl | exact kd _ (mem5 rfl) rfl
            have t152 : ρ (.tmp 152) = .bool true := (ks 5 152 (by decide) rfl).trans d5
            simp [execOp, go_sem, kc, t152]
            exact ⟨hC, Below.refl _ _, rfl⟩
    · cases A
      · intro v W ρ y hC kc kf ks ki ky ku kd
        have dg : v 6 = .bool false := by first | exact kd _ (mem0 rfl) rfl | exact kd _ (mem1 rfl) rfl | exact kd _ (mem2 rfl) rfl | exact kd _ (mem3 rfl) rfl | exact kd _ (mem4 rfl) rfl | exact kd _ (mem5 rfl) rfl
        have hy := ky 6 153 false (by decide) rfl dg
        rw [if_neg (by simp [Region.wanted, hy])]
        exact ⟨Below.refl _ _, rfl⟩
      · cases D
        · intro v W ρ y hC kc kf ks ki ky ku kd
          have dg : v 6 = .bool false := by first | exact kd _ (mem0 rfl) rfl | exact kd _ (mem1 rfl) rfl | exact kd _ (mem2 rfl) rfl | exact kd _ (mem3 rfl) rfl | exact kd _ (mem4 rfl) rfl | exact kd _ (mem5 rfl) rfl
          have hy := ky 6 153 false (by decide) rfl dg
          rw [if_neg (by simp [Region.wanted, hy])]
          exact ⟨Below.refl _ _, rfl⟩
        · cases S
          · intro v W ρ y hC kc kf ks ki ky ku kd
            have dg : v 6 = .bool true := by first | exact kd _ (mem0 rfl) rfl | exact kd _ (mem1 rfl) rfl | exact kd _ (mem2 rfl) rfl | exact kd _ (mem3 rfl) rfl | exact kd _ (mem4 rfl) rfl | exact kd _ (mem5 rfl) rfl
            have hy := ky 6 153 true (by decide) rfl dg
            rw [if_pos (by simp [Region.wanted, hy])]
            have t7 : ρ (.tmp 7) = .pointer (some ⟨ga, 0, none⟩) := ki 7 (by decide)
            have hg := blk_later hA18.out hC
            have c0 := blk_cell hg 0
            have c1 := blk_cell hg 1
            have c2 := blk_cell hg 2
            have c3 := blk_cell hg 3
            have c4 := blk_cell hg 4
            have c5 := blk_cell hg 5
            simp at c0 c1 c2 c3 c4 c5
            simp [execOp, go_sem, kc, t7, c0, c1, c2, c3, c4, c5]
            exact ⟨hC, Below.refl _ _, rfl⟩
          · intro v W ρ y hC kc kf ks ki ky ku kd
            have dg : v 6 = .bool true := by first | exact kd _ (mem0 rfl) rfl | exact kd _ (mem1 rfl) rfl | exact kd _ (mem2 rfl) rfl | exact kd _ (mem3 rfl) rfl | exact kd _ (mem4 rfl) rfl | exact kd _ (mem5 rfl) rfl
            have hy := ky 6 153 true (by decide) rfl dg
            rw [if_pos (by simp [Region.wanted, hy])]
            have t7 : ρ (.tmp 7) = .pointer (some ⟨ga, 0, none⟩) := ki 7 (by decide)
            have hg := blk_later hA18.out hC
            have c0 := blk_cell hg 0
            have c1 := blk_cell hg 1
            have c2 := blk_cell hg 2
            have c3 := blk_cell hg 3
            have c4 := blk_cell hg 4
            have c5 := blk_cell hg 5
            simp at c0 c1 c2 c3 c4 c5
            simp [execOp, go_sem, kc, t7, c0, c1, c2, c3, c4, c5]
            exact ⟨hC, Below.refl _ _, rfl⟩
    · cases A
      · intro v W ρ y hC kc kf ks ki ky ku kd
        have dg : v 6 = .bool false := by first | exact kd _ (mem0 rfl) rfl | exact kd _ (mem1 rfl) rfl | exact kd _ (mem2 rfl) rfl | exact kd _ (mem3 rfl) rfl | exact kd _ (mem4 rfl) rfl | exact kd _ (mem5 rfl) rfl
        have hy := ky 6 153 false (by decide) rfl dg
        rw [if_neg (by simp [Region.wanted, hy])]
        exact ⟨Below.refl _ _, rfl⟩
      · cases D
        · intro v W ρ y hC kc kf ks ki ky ku kd
          have dg : v 6 = .bool false := by first | exact kd _ (mem0 rfl) rfl | exact kd _ (mem1 rfl) rfl | exact kd _ (mem2 rfl) rfl | exact kd _ (mem3 rfl) rfl | exact kd _ (mem4 rfl) rfl | exact kd _ (mem5 rfl) rfl
          have hy := ky 6 153 false (by decide) rfl dg
          rw [if_neg (by simp [Region.wanted, hy])]
          exact ⟨Below.refl _ _, rfl⟩
        · cases S
          · intro v W ρ y hC kc kf ks ki ky ku kd
            have dg : v 6 = .bool true := by first | exact kd _ (mem0 rfl) rfl | exact kd _ (mem1 rfl) rfl | exact kd _ (mem2 rfl) rfl | exact kd _ (mem3 rfl) rfl | exact kd _ (mem4 rfl) rfl | exact kd _ (mem5 rfl) rfl
            have hy := ky 6 153 true (by decide) rfl dg
            rw [if_pos (by simp [Region.wanted, hy])]
            have t8 : ρ (.tmp 8) = .pointer (some ⟨gb, 0, none⟩) := ki 8 (by decide)
            have hg := blk_later hB18.out hC
            have c0 := blk_cell hg 0
            have c1 := blk_cell hg 1
            have c2 := blk_cell hg 2
            have c3 := blk_cell hg 3
            have c4 := blk_cell hg 4
            have c5 := blk_cell hg 5
            simp at c0 c1 c2 c3 c4 c5
            simp [execOp, go_sem, kc, t8, c0, c1, c2, c3, c4, c5]
            exact ⟨hC, Below.refl _ _, rfl⟩
          · intro v W ρ y hC kc kf ks ki ky ku kd
            have dg : v 6 = .bool true := by first | exact kd _ (mem0 rfl) rfl | exact kd _ (mem1 rfl) rfl | exact kd _ (mem2 rfl) rfl | exact kd _ (mem3 rfl) rfl | exact kd _ (mem4 rfl) rfl | exact kd _ (mem5 rfl) rfl
            have hy := ky 6 153 true (by decide) rfl dg
            rw [if_pos (by simp [Region.wanted, hy])]
            have t8 : ρ (.tmp 8) = .pointer (some ⟨gb, 0, none⟩) := ki 8 (by decide)
            have hg := blk_later hB18.out hC
            have c0 := blk_cell hg 0
            have c1 := blk_cell hg 1
            have c2 := blk_cell hg 2
            have c3 := blk_cell hg 3
            have c4 := blk_cell hg 4
            have c5 := blk_cell hg 5
            simp at c0 c1 c2 c3 c4 c5
            simp [execOp, go_sem, kc, t8, c0, c1, c2, c3, c4, c5]
            exact ⟨hC, Below.refl _ _, rfl⟩
    · cases A
      · intro v W ρ y hC kc kf ks ki ky ku kd
        have dg : v 6 = .bool false := by first | exact kd _ (mem0 rfl) rfl | exact kd _ (mem1 rfl) rfl | exact kd _ (mem2 rfl) rfl | exact kd _ (mem3 rfl) rfl | exact kd _ (mem4 rfl) rfl | exact kd _ (mem5 rfl) rfl
        have hy := ky 6 153 false (by decide) rfl dg
        rw [if_neg (by simp [Region.wanted, hy])]
        exact ⟨Below.refl _ _, rfl⟩
      · cases D
        · intro v W ρ y hC kc kf ks ki ky ku kd
          have dg : v 6 = .bool false := by first | exact kd _ (mem0 rfl) rfl | exact kd _ (mem1 rfl) rfl | exact kd _ (mem2 rfl) rfl | exact kd _ (mem3 rfl) rfl | exact kd _ (mem4 rfl) rfl | exact kd _ (mem5 rfl) rfl
          have hy := ky 6 153 false (by decide) rfl dg
          rw [if_neg (by simp [Region.wanted, hy])]
          exact ⟨Below.refl _ _, rfl⟩
        · cases S
          · intro v W ρ y hC kc kf ks ki ky ku kd
            have dg : v 6 = .bool true := by first | exact kd _ (mem0 rfl) rfl | exact kd _ (mem1 rfl) rfl | exact kd _ (mem2 rfl) rfl | exact kd _ (mem3 rfl) rfl | exact kd _ (mem4 rfl) rfl | exact kd _ (mem5 rfl) rfl
            have hy := ky 6 153 true (by decide) rfl dg
            rw [if_pos (by simp [Region.wanted, hy])]
            have d7 : v 7 = .agg #[.int .i64 ta.proto, .int .i64 ta.src, .int .i64 ta.sport, .int .i64 ta.dst, .int .i64 ta.dport, .int .i64 ta.kind] := by first | exact kd _ (mem0 rfl) rfl | exact kd _ (mem1 rfl) rfl | exact kd _ (mem2 rfl) rfl | exact kd _ (mem3 rfl) rfl | exact kd _ (mem4 rfl) rfl | exact kd _ (mem5 rfl) rfl
            have t154 : ρ (.tmp 154) = .agg #[.int .i64 ta.proto, .int .i64 ta.src, .int .i64 ta.sport, .int .i64 ta.dst, .int .i64 ta.dport, .int .i64 ta.kind] := (ks 7 154 (by decide) rfl).trans d7
            have d8 : v 8 = .agg #[.int .i64 tb.proto, .int .i64 tb.src, .int .i64 tb.sport, .int .i64 tb.dst, .int .i64 tb.dport, .int .i64 tb.kind] := by first | exact kd _ (mem0 rfl) rfl | exact kd _ (mem1 rfl) rfl | exact kd _ (mem2 rfl) rfl | exact kd _ (mem3 rfl) rfl | exact kd _ (mem4 rfl) rfl | exact kd _ (mem5 rfl) rfl
            have t155 : ρ (.tmp 155) = .agg #[.int .i64 tb.proto, .int .i64 tb.src, .int .i64 tb.sport, .int .i64 tb.dst, .int .i64 tb.dport, .int .i64 tb.kind] := (ks 8 155 (by decide) rfl).trans d8
            have eg : Tryz.prog.eqGuardType Tryz.prog.depth 40 = false := by kernel_rfl
            have e1 := qE.out W
            simp only [execOp, t154, t155, Sem.run_bind, run_eqGuard_agg, eg, e1, Result.andThen_ok, Sem.run_pure]
            exact ⟨hC, Below.refl _ _, rfl⟩
          · intro v W ρ y hC kc kf ks ki ky ku kd
            have dg : v 6 = .bool true := by first | exact kd _ (mem0 rfl) rfl | exact kd _ (mem1 rfl) rfl | exact kd _ (mem2 rfl) rfl | exact kd _ (mem3 rfl) rfl | exact kd _ (mem4 rfl) rfl | exact kd _ (mem5 rfl) rfl
            have hy := ky 6 153 true (by decide) rfl dg
            rw [if_pos (by simp [Region.wanted, hy])]
            have d7 : v 7 = .agg #[.int .i64 ta.proto, .int .i64 ta.src, .int .i64 ta.sport, .int .i64 ta.dst, .int .i64 ta.dport, .int .i64 ta.kind] := by first | exact kd _ (mem0 rfl) rfl | exact kd _ (mem1 rfl) rfl | exact kd _ (mem2 rfl) rfl | exact kd _ (mem3 rfl) rfl | exact kd _ (mem4 rfl) rfl | exact kd _ (mem5 rfl) rfl
            have t154 : ρ (.tmp 154) = .agg #[.int .i64 ta.proto, .int .i64 ta.src, .int .i64 ta.sport, .int .i64 ta.dst, .int .i64 ta.dport, .int .i64 ta.kind] := (ks 7 154 (by decide) rfl).trans d7
            have d8 : v 8 = .agg #[.int .i64 tb.proto, .int .i64 tb.src, .int .i64 tb.sport, .int .i64 tb.dst, .int .i64 tb.dport, .int .i64 tb.kind] := by first | exact kd _ (mem0 rfl) rfl | exact kd _ (mem1 rfl) rfl | exact kd _ (mem2 rfl) rfl | exact kd _ (mem3 rfl) rfl | exact kd _ (mem4 rfl) rfl | exact kd _ (mem5 rfl) rfl
            have t155 : ρ (.tmp 155) = .agg #[.int .i64 tb.proto, .int .i64 tb.src, .int .i64 tb.sport, .int .i64 tb.dst, .int .i64 tb.dport, .int .i64 tb.kind] := (ks 8 155 (by decide) rfl).trans d8
            have eg : Tryz.prog.eqGuardType Tryz.prog.depth 40 = false := by kernel_rfl
            have e1 := qE.out W
            simp only [execOp, t154, t155, Sem.run_bind, run_eqGuard_agg, eg, e1, Result.andThen_ok, Sem.run_pure]
            exact ⟨hC, Below.refl _ _, rfl⟩
    · cases A
      · intro v W ρ y hC kc kf ks ki ky ku kd
        have dg : v 6 = .bool false := by first | exact kd _ (mem0 rfl) rfl | exact kd _ (mem1 rfl) rfl | exact kd _ (mem2 rfl) rfl | exact kd _ (mem3 rfl) rfl | exact kd _ (mem4 rfl) rfl | exact kd _ (mem5 rfl) rfl
        have hy := ky 6 153 false (by decide) rfl dg
        rw [if_neg (by simp [Region.wanted, hy])]
        exact ⟨Below.refl _ _, rfl⟩
      · cases D
        · intro v W ρ y hC kc kf ks ki ky ku kd
          have dg : v 6 = .bool false := by first | exact kd _ (mem0 rfl) rfl | exact kd _ (mem1 rfl) rfl | exact kd _ (mem2 rfl) rfl | exact kd _ (mem3 rfl) rfl | exact kd _ (mem4 rfl) rfl | exact kd _ (mem5 rfl) rfl
          have hy := ky 6 153 false (by decide) rfl dg
          rw [if_neg (by simp [Region.wanted, hy])]
          exact ⟨Below.refl _ _, rfl⟩
        · cases S
          · intro v W ρ y hC kc kf ks ki ky ku kd
            have dg : v 6 = .bool true := by first | exact kd _ (mem0 rfl) rfl | exact kd _ (mem1 rfl) rfl | exact kd _ (mem2 rfl) rfl | exact kd _ (mem3 rfl) rfl | exact kd _ (mem4 rfl) rfl | exact kd _ (mem5 rfl) rfl
            have hy := ky 6 153 true (by decide) rfl dg
            rw [if_pos (by simp [Region.wanted, hy])]
            have t7 : ρ (.tmp 7) = .pointer (some ⟨ga, 0, none⟩) := ki 7 (by decide)
            have hg := blk_later hA18.out hC
            have c0 := blk_cell hg 0
            have c1 := blk_cell hg 1
            have c2 := blk_cell hg 2
            have c3 := blk_cell hg 3
            have c4 := blk_cell hg 4
            have c5 := blk_cell hg 5
            simp at c0 c1 c2 c3 c4 c5
            simp [execOp, go_sem, kc, t7, c0, c1, c2, c3, c4, c5]
            exact ⟨hC, Below.refl _ _, rfl⟩
          · intro v W ρ y hC kc kf ks ki ky ku kd
            have dg : v 6 = .bool true := by first | exact kd _ (mem0 rfl) rfl | exact kd _ (mem1 rfl) rfl | exact kd _ (mem2 rfl) rfl | exact kd _ (mem3 rfl) rfl | exact kd _ (mem4 rfl) rfl | exact kd _ (mem5 rfl) rfl
            have hy := ky 6 153 true (by decide) rfl dg
            rw [if_pos (by simp [Region.wanted, hy])]
            have t7 : ρ (.tmp 7) = .pointer (some ⟨ga, 0, none⟩) := ki 7 (by decide)
            have hg := blk_later hA18.out hC
            have c0 := blk_cell hg 0
            have c1 := blk_cell hg 1
            have c2 := blk_cell hg 2
            have c3 := blk_cell hg 3
            have c4 := blk_cell hg 4
            have c5 := blk_cell hg 5
            simp at c0 c1 c2 c3 c4 c5
            simp [execOp, go_sem, kc, t7, c0, c1, c2, c3, c4, c5]
            exact ⟨hC, Below.refl _ _, rfl⟩
    · cases A
      · intro v W ρ y hC kc kf ks ki ky ku kd
        have dg : v 6 = .bool false := by first | exact kd _ (mem0 rfl) rfl | exact kd _ (mem1 rfl) rfl | exact kd _ (mem2 rfl) rfl | exact kd _ (mem3 rfl) rfl | exact kd _ (mem4 rfl) rfl | exact kd _ (mem5 rfl) rfl
        have hy := ky 6 153 false (by decide) rfl dg
        rw [if_neg (by simp [Region.wanted, hy])]
        exact ⟨Below.refl _ _, rfl⟩
      · cases D
        · intro v W ρ y hC kc kf ks ki ky ku kd
          have dg : v 6 = .bool false := by first | exact kd _ (mem0 rfl) rfl | exact kd _ (mem1 rfl) rfl | exact kd _ (mem2 rfl) rfl | exact kd _ (mem3 rfl) rfl | exact kd _ (mem4 rfl) rfl | exact kd _ (mem5 rfl) rfl
          have hy := ky 6 153 false (by decide) rfl dg
          rw [if_neg (by simp [Region.wanted, hy])]
          exact ⟨Below.refl _ _, rfl⟩
        · cases S
          · intro v W ρ y hC kc kf ks ki ky ku kd
            have dg : v 6 = .bool true := by first | exact kd _ (mem0 rfl) rfl | exact kd _ (mem1 rfl) rfl | exact kd _ (mem2 rfl) rfl | exact kd _ (mem3 rfl) rfl | exact kd _ (mem4 rfl) rfl | exact kd _ (mem5 rfl) rfl
            have hy := ky 6 153 true (by decide) rfl dg
            rw [if_pos (by simp [Region.wanted, hy])]
            have d10 : v 10 = .agg #[.int .i64 ta.proto, .int .i64 ta.src, .int .i64 ta.sport, .int .i64 ta.dst, .int .i64 ta.dport, .int .i64 ta.kind] := by first | exact kd _ (mem0 rfl) rfl | exact kd _ (mem1 rfl) rfl | exact kd _ (mem2 rfl) rfl | exact kd _ (mem3 rfl) rfl | exact kd _ (mem4 rfl) rfl | exact kd _ (mem5 rfl) rfl
            have t157 : ρ (.tmp 157) = .agg #[.int .i64 ta.proto, .int .i64 ta.src, .int .i64 ta.sport, .int .i64 ta.dst, .int .i64 ta.dport, .int .i64 ta.kind] := (ks 10 157 (by decide) rfl).trans d10
            simp [execOp, go_sem, t157, kf]
            exact Calls.mono (HTa.out W (hL18.out.trans (hC.mono hL18.out.size))) (fun e x h => ⟨_, h.1, hC.trans (h.2.mono hC.size), h.2, rfl⟩)
          · intro v W ρ y hC kc kf ks ki ky ku kd
            have dg : v 6 = .bool true := by first | exact kd _ (mem0 rfl) rfl | exact kd _ (mem1 rfl) rfl | exact kd _ (mem2 rfl) rfl | exact kd _ (mem3 rfl) rfl | exact kd _ (mem4 rfl) rfl | exact kd _ (mem5 rfl) rfl
            have hy := ky 6 153 true (by decide) rfl dg
            rw [if_pos (by simp [Region.wanted, hy])]
            have d10 : v 10 = .agg #[.int .i64 ta.proto, .int .i64 ta.src, .int .i64 ta.sport, .int .i64 ta.dst, .int .i64 ta.dport, .int .i64 ta.kind] := by first | exact kd _ (mem0 rfl) rfl | exact kd _ (mem1 rfl) rfl | exact kd _ (mem2 rfl) rfl | exact kd _ (mem3 rfl) rfl | exact kd _ (mem4 rfl) rfl | exact kd _ (mem5 rfl) rfl
            have t157 : ρ (.tmp 157) = .agg #[.int .i64 ta.proto, .int .i64 ta.src, .int .i64 ta.sport, .int .i64 ta.dst, .int .i64 ta.dport, .int .i64 ta.kind] := (ks 10 157 (by decide) rfl).trans d10
            simp [execOp, go_sem, t157, kf]
            exact Calls.mono (HTa.out W (hL18.out.trans (hC.mono hL18.out.size))) (fun e x h => ⟨_, h.1, hC.trans (h.2.mono hC.size), h.2, rfl⟩)
    · cases A
      · intro v W ρ y hC kc kf ks ki ky ku kd
        have dg : v 6 = .bool false := by first | exact kd _ (mem0 rfl) rfl | exact kd _ (mem1 rfl) rfl | exact kd _ (mem2 rfl) rfl | exact kd _ (mem3 rfl) rfl | exact kd _ (mem4 rfl) rfl | exact kd _ (mem5 rfl) rfl
        have hy := ky 6 153 false (by decide) rfl dg
        rw [if_neg (by simp [Region.wanted, hy])]
        exact ⟨Below.refl _ _, rfl⟩
      · cases D
        · intro v W ρ y hC kc kf ks ki ky ku kd
          have dg : v 6 = .bool false := by first | exact kd _ (mem0 rfl) rfl | exact kd _ (mem1 rfl) rfl | exact kd _ (mem2 rfl) rfl | exact kd _ (mem3 rfl) rfl | exact kd _ (mem4 rfl) rfl | exact kd _ (mem5 rfl) rfl
          have hy := ky 6 153 false (by decide) rfl dg
          rw [if_neg (by simp [Region.wanted, hy])]
          exact ⟨Below.refl _ _, rfl⟩
        · cases S
          · intro v W ρ y hC kc kf ks ki ky ku kd
            have dg : v 6 = .bool true := by first | exact kd _ (mem0 rfl) rfl | exact kd _ (mem1 rfl) rfl | exact kd _ (mem2 rfl) rfl | exact kd _ (mem3 rfl) rfl | exact kd _ (mem4 rfl) rfl | exact kd _ (mem5 rfl) rfl
            have hy := ky 6 153 true (by decide) rfl dg
            rw [if_pos (by simp [Region.wanted, hy])]
            have t8 : ρ (.tmp 8) = .pointer (some ⟨gb, 0, none⟩) := ki 8 (by decide)
            have hg := blk_later hB18.out hC
            have c0 := blk_cell hg 0
            have c1 := blk_cell hg 1
            have c2 := blk_cell hg 2
            have c3 := blk_cell hg 3
            have c4 := blk_cell hg 4
            have c5 := blk_cell hg 5
            simp at c0 c1 c2 c3 c4 c5
            simp [execOp, go_sem, kc, t8, c0, c1, c2, c3, c4, c5]
            exact ⟨hC, Below.refl _ _, rfl⟩
          · intro v W ρ y hC kc kf ks ki ky ku kd
            have dg : v 6 = .bool true := by first | exact kd _ (mem0 rfl) rfl | exact kd _ (mem1 rfl) rfl | exact kd _ (mem2 rfl) rfl | exact kd _ (mem3 rfl) rfl | exact kd _ (mem4 rfl) rfl | exact kd _ (mem5 rfl) rfl
            have hy := ky 6 153 true (by decide) rfl dg
            rw [if_pos (by simp [Region.wanted, hy])]
            have t8 : ρ (.tmp 8) = .pointer (some ⟨gb, 0, none⟩) := ki 8 (by decide)
            have hg := blk_later hB18.out hC
            have c0 := blk_cell hg 0
            have c1 := blk_cell hg 1
            have c2 := blk_cell hg 2
            have c3 := blk_cell hg 3
            have c4 := blk_cell hg 4
            have c5 := blk_cell hg 5
            simp at c0 c1 c2 c3 c4 c5
            simp [execOp, go_sem, kc, t8, c0, c1, c2, c3, c4, c5]
            exact ⟨hC, Below.refl _ _, rfl⟩
    · cases A
      · intro v W ρ y hC kc kf ks ki ky ku kd
        have dg : v 6 = .bool false := by first | exact kd _ (mem0 rfl) rfl | exact kd _ (mem1 rfl) rfl | exact kd _ (mem2 rfl) rfl | exact kd _ (mem3 rfl) rfl | exact kd _ (mem4 rfl) rfl | exact kd _ (mem5 rfl) rfl
        have hy := ky 6 153 false (by decide) rfl dg
        rw [if_neg (by simp [Region.wanted, hy])]
        exact ⟨Below.refl _ _, rfl⟩
      · cases D
        · intro v W ρ y hC kc kf ks ki ky ku kd
          have dg : v 6 = .bool false := by first | exact kd _ (mem0 rfl) rfl | exact kd _ (mem1 rfl) rfl | exact kd _ (mem2 rfl) rfl | exact kd _ (mem3 rfl) rfl | exact kd _ (mem4 rfl) rfl | exact kd _ (mem5 rfl) rfl
          have hy := ky 6 153 false (by decide) rfl dg
          rw [if_neg (by simp [Region.wanted, hy])]
          exact ⟨Below.refl _ _, rfl⟩
        · cases S
          · intro v W ρ y hC kc kf ks ki ky ku kd
            have dg : v 6 = .bool true := by first | exact kd _ (mem0 rfl) rfl | exact kd _ (mem1 rfl) rfl | exact kd _ (mem2 rfl) rfl | exact kd _ (mem3 rfl) rfl | exact kd _ (mem4 rfl) rfl | exact kd _ (mem5 rfl) rfl
            have hy := ky 6 153 true (by decide) rfl dg
            rw [if_pos (by simp [Region.wanted, hy])]
            have d12 : v 12 = .agg #[.int .i64 tb.proto, .int .i64 tb.src, .int .i64 tb.sport, .int .i64 tb.dst, .int .i64 tb.dport, .int .i64 tb.kind] := by first | exact kd _ (mem0 rfl) rfl | exact kd _ (mem1 rfl) rfl | exact kd _ (mem2 rfl) rfl | exact kd _ (mem3 rfl) rfl | exact kd _ (mem4 rfl) rfl | exact kd _ (mem5 rfl) rfl
            have t159 : ρ (.tmp 159) = .agg #[.int .i64 tb.proto, .int .i64 tb.src, .int .i64 tb.sport, .int .i64 tb.dst, .int .i64 tb.dport, .int .i64 tb.kind] := (ks 12 159 (by decide) rfl).trans d12
            simp [execOp, go_sem, t159, kf]
            exact Calls.mono (HTb.out W (hL18.out.trans (hC.mono hL18.out.size))) (fun e x h => ⟨_, h.1, hC.trans (h.2.mono hC.size), h.2, rfl⟩)
          · intro v W ρ y hC kc kf ks ki ky ku kd
            have dg : v 6 = .bool true := by first | exact kd _ (mem0 rfl) rfl | exact kd _ (mem1 rfl) rfl | exact kd _ (mem2 rfl) rfl | exact kd _ (mem3 rfl) rfl | exact kd _ (mem4 rfl) rfl | exact kd _ (mem5 rfl) rfl
            have hy := ky 6 153 true (by decide) rfl dg
            rw [if_pos (by simp [Region.wanted, hy])]
            have d12 : v 12 = .agg #[.int .i64 tb.proto, .int .i64 tb.src, .int .i64 tb.sport, .int .i64 tb.dst, .int .i64 tb.dport, .int .i64 tb.kind] := by first | exact kd _ (mem0 rfl) rfl | exact kd _ (mem1 rfl) rfl | exact kd _ (mem2 rfl) rfl | exact kd _ (mem3 rfl) rfl | exact kd _ (mem4 rfl) rfl | exact kd _ (mem5 rfl) rfl
            have t159 : ρ (.tmp 159) = .agg #[.int .i64 tb.proto, .int .i64 tb.src, .int .i64 tb.sport, .int .i64 tb.dst, .int .i64 tb.dport, .int .i64 tb.kind] := (ks 12 159 (by decide) rfl).trans d12
            simp [execOp, go_sem, t159, kf]
            exact Calls.mono (HTb.out W (hL18.out.trans (hC.mono hL18.out.size))) (fun e x h => ⟨_, h.1, hC.trans (h.2.mono hC.size), h.2, rfl⟩)
    · cases A
      · intro v W ρ y hC kc kf ks ki ky ku kd
        have dg : v 6 = .bool false := by first | exact kd _ (mem0 rfl) rfl | exact kd _ (mem1 rfl) rfl | exact kd _ (mem2 rfl) rfl | exact kd _ (mem3 rfl) rfl | exact kd _ (mem4 rfl) rfl | exact kd _ (mem5 rfl) rfl
        have hy := ky 6 153 false (by decide) rfl dg
        rw [if_neg (by simp [Region.wanted, hy])]
        exact ⟨Below.refl _ _, rfl⟩
      · cases D
        · intro v W ρ y hC kc kf ks ki ky ku kd
          have dg : v 6 = .bool false := by first | exact kd _ (mem0 rfl) rfl | exact kd _ (mem1 rfl) rfl | exact kd _ (mem2 rfl) rfl | exact kd _ (mem3 rfl) rfl | exact kd _ (mem4 rfl) rfl | exact kd _ (mem5 rfl) rfl
          have hy := ky 6 153 false (by decide) rfl dg
          rw [if_neg (by simp [Region.wanted, hy])]
          exact ⟨Below.refl _ _, rfl⟩
        · cases S
          · intro v W ρ y hC kc kf ks ki ky ku kd
            have dg : v 6 = .bool true := by first | exact kd _ (mem0 rfl) rfl | exact kd _ (mem1 rfl) rfl | exact kd _ (mem2 rfl) rfl | exact kd _ (mem3 rfl) rfl | exact kd _ (mem4 rfl) rfl | exact kd _ (mem5 rfl) rfl
            have hy := ky 6 153 true (by decide) rfl dg
            rw [if_pos (by simp [Region.wanted, hy])]
            have d11 : v 11 = .string TA := by first | exact kd _ (mem0 rfl) rfl | exact kd _ (mem1 rfl) rfl | exact kd _ (mem2 rfl) rfl | exact kd _ (mem3 rfl) rfl | exact kd _ (mem4 rfl) rfl | exact kd _ (mem5 rfl) rfl
            have t158 : ρ (.tmp 158) = .string TA := (ks 11 158 (by decide) rfl).trans d11
            have d13 : v 13 = .string TB := by first | exact kd _ (mem0 rfl) rfl | exact kd _ (mem1 rfl) rfl | exact kd _ (mem2 rfl) rfl | exact kd _ (mem3 rfl) rfl | exact kd _ (mem4 rfl) rfl | exact kd _ (mem5 rfl) rfl
            have t160 : ρ (.tmp 160) = .string TB := (ks 13 160 (by decide) rfl).trans d13
            have e1 := HTN.out rfl rfl rfl
            simp [execOp, go_sem, kc, t158, t160, e1]
            exact ⟨hC, Below.refl _ _, rfl⟩
          · intro v W ρ y hC kc kf ks ki ky ku kd
            have dg : v 6 = .bool true := by first | exact kd _ (mem0 rfl) rfl | exact kd _ (mem1 rfl) rfl | exact kd _ (mem2 rfl) rfl | exact kd _ (mem3 rfl) rfl | exact kd _ (mem4 rfl) rfl | exact kd _ (mem5 rfl) rfl
            have hy := ky 6 153 true (by decide) rfl dg
            rw [if_pos (by simp [Region.wanted, hy])]
            have d11 : v 11 = .string TA := by first | exact kd _ (mem0 rfl) rfl | exact kd _ (mem1 rfl) rfl | exact kd _ (mem2 rfl) rfl | exact kd _ (mem3 rfl) rfl | exact kd _ (mem4 rfl) rfl | exact kd _ (mem5 rfl) rfl
            have t158 : ρ (.tmp 158) = .string TA := (ks 11 158 (by decide) rfl).trans d11
            have d13 : v 13 = .string TB := by first | exact kd _ (mem0 rfl) rfl | exact kd _ (mem1 rfl) rfl | exact kd _ (mem2 rfl) rfl | exact kd _ (mem3 rfl) rfl | exact kd _ (mem4 rfl) rfl | exact kd _ (mem5 rfl) rfl
            have t160 : ρ (.tmp 160) = .string TB := (ks 13 160 (by decide) rfl).trans d13
            have e1 := HTT.out rfl
            simp [execOp, go_sem, kc, t158, t160, e1]
            exact ⟨hC, Below.refl _ _, rfl⟩
    · cases A
      · intro v W ρ y hC kc kf ks ki ky ku kd
        have dg : v 6 = .bool false := by first | exact kd _ (mem0 rfl) rfl | exact kd _ (mem1 rfl) rfl | exact kd _ (mem2 rfl) rfl | exact kd _ (mem3 rfl) rfl | exact kd _ (mem4 rfl) rfl | exact kd _ (mem5 rfl) rfl
        have hy := ky 6 153 false (by decide) rfl dg
        rw [if_neg (by simp [Region.wanted, hy])]
        exact ⟨Below.refl _ _, rfl⟩
      · cases D
        · intro v W ρ y hC kc kf ks ki ky ku kd
          have dg : v 6 = .bool false := by first | exact kd _ (mem0 rfl) rfl | exact kd _ (mem1 rfl) rfl | exact kd _ (mem2 rfl) rfl | exact kd _ (mem3 rfl) rfl | exact kd _ (mem4 rfl) rfl | exact kd _ (mem5 rfl) rfl
          have hy := ky 6 153 false (by decide) rfl dg
          rw [if_neg (by simp [Region.wanted, hy])]
          exact ⟨Below.refl _ _, rfl⟩
        · cases S
          · intro v W ρ y hC kc kf ks ki ky ku kd
            have dg : v 6 = .bool true := by first | exact kd _ (mem0 rfl) rfl | exact kd _ (mem1 rfl) rfl | exact kd _ (mem2 rfl) rfl | exact kd _ (mem3 rfl) rfl | exact kd _ (mem4 rfl) rfl | exact kd _ (mem5 rfl) rfl
            have hy := ky 6 153 true (by decide) rfl dg
            rw [if_pos (by simp [Region.wanted, hy])]
            have d9 : v 9 = .bool false := by first | exact kd _ (mem0 rfl) rfl | exact kd _ (mem1 rfl) rfl | exact kd _ (mem2 rfl) rfl | exact kd _ (mem3 rfl) rfl | exact kd _ (mem4 rfl) rfl | exact kd _ (mem5 rfl) rfl
            have t156 : ρ (.tmp 156) = .bool false := (ks 9 156 (by decide) rfl).trans d9
            have d14 : v 14 = .bool false := by first | exact kd _ (mem0 rfl) rfl | exact kd _ (mem1 rfl) rfl | exact kd _ (mem2 rfl) rfl | exact kd _ (mem3 rfl) rfl | exact kd _ (mem4 rfl) rfl | exact kd _ (mem5 rfl) rfl
            have t161 : ρ (.tmp 161) = .bool false := (ks 14 161 (by decide) rfl).trans d14
            simp [execOp, go_sem, kc, t156, t161]
            exact ⟨hC, Below.refl _ _, rfl⟩
          · intro v W ρ y hC kc kf ks ki ky ku kd
            have dg : v 6 = .bool true := by first | exact kd _ (mem0 rfl) rfl | exact kd _ (mem1 rfl) rfl | exact kd _ (mem2 rfl) rfl | exact kd _ (mem3 rfl) rfl | exact kd _ (mem4 rfl) rfl | exact kd _ (mem5 rfl) rfl
            have hy := ky 6 153 true (by decide) rfl dg
            rw [if_pos (by simp [Region.wanted, hy])]
            have d9 : v 9 = .bool true := by first | exact kd _ (mem0 rfl) rfl | exact kd _ (mem1 rfl) rfl | exact kd _ (mem2 rfl) rfl | exact kd _ (mem3 rfl) rfl | exact kd _ (mem4 rfl) rfl | exact kd _ (mem5 rfl) rfl
            have t156 : ρ (.tmp 156) = .bool true := (ks 9 156 (by decide) rfl).trans d9
            have d14 : v 14 = .bool true := by first | exact kd _ (mem0 rfl) rfl | exact kd _ (mem1 rfl) rfl | exact kd _ (mem2 rfl) rfl | exact kd _ (mem3 rfl) rfl | exact kd _ (mem4 rfl) rfl | exact kd _ (mem5 rfl) rfl
            have t161 : ρ (.tmp 161) = .bool true := (ks 14 161 (by decide) rfl).trans d14
            simp [execOp, go_sem, kc, t156, t161]
            exact ⟨hC, Below.refl _ _, rfl⟩
    · cases A
      · refine stepW_of_u ⟨rfl, fun v W ρ hC kc kf ks ki kd => ?_⟩
        have d6 : v 6 = .bool false := by first | exact kd _ (mem0 rfl) rfl | exact kd _ (mem1 rfl) rfl | exact kd _ (mem2 rfl) rfl | exact kd _ (mem3 rfl) rfl | exact kd _ (mem4 rfl) rfl | exact kd _ (mem5 rfl) rfl
        have t153 : ρ (.tmp 153) = .bool false := (ks 6 153 (by decide) rfl).trans d6
        simp [execOp, go_sem, kc, t153]
        exact ⟨hC, Below.refl _ _, rfl⟩
      · cases D
        · refine stepW_of_u ⟨rfl, fun v W ρ hC kc kf ks ki kd => ?_⟩
          have d6 : v 6 = .bool false := by first | exact kd _ (mem0 rfl) rfl | exact kd _ (mem1 rfl) rfl | exact kd _ (mem2 rfl) rfl | exact kd _ (mem3 rfl) rfl | exact kd _ (mem4 rfl) rfl | exact kd _ (mem5 rfl) rfl
          have t153 : ρ (.tmp 153) = .bool false := (ks 6 153 (by decide) rfl).trans d6
          simp [execOp, go_sem, kc, t153]
          exact ⟨hC, Below.refl _ _, rfl⟩
        · cases S
          · refine stepW_of_u ⟨rfl, fun v W ρ hC kc kf ks ki kd => ?_⟩
            have d6 : v 6 = .bool true := by first | exact kd _ (mem0 rfl) rfl | exact kd _ (mem1 rfl) rfl | exact kd _ (mem2 rfl) rfl | exact kd _ (mem3 rfl) rfl | exact kd _ (mem4 rfl) rfl | exact kd _ (mem5 rfl) rfl
            have t153 : ρ (.tmp 153) = .bool true := (ks 6 153 (by decide) rfl).trans d6
            have d15 : v 15 = .bool false := by first | exact kd _ (mem0 rfl) rfl | exact kd _ (mem1 rfl) rfl | exact kd _ (mem2 rfl) rfl | exact kd _ (mem3 rfl) rfl | exact kd _ (mem4 rfl) rfl | exact kd _ (mem5 rfl) rfl
            have t162 : ρ (.tmp 162) = .bool false := (ks 15 162 (by decide) rfl).trans d15
            simp [execOp, go_sem, kc, t153, t162]
            exact ⟨hC, Below.refl _ _, rfl⟩
          · refine stepW_of_u ⟨rfl, fun v W ρ hC kc kf ks ki kd => ?_⟩
            have d6 : v 6 = .bool true := by first | exact kd _ (mem0 rfl) rfl | exact kd _ (mem1 rfl) rfl | exact kd _ (mem2 rfl) rfl | exact kd _ (mem3 rfl) rfl | exact kd _ (mem4 rfl) rfl | exact kd _ (mem5 rfl) rfl
            have t153 : ρ (.tmp 153) = .bool true := (ks 6 153 (by decide) rfl).trans d6
            have d15 : v 15 = .bool false := by first | exact kd _ (mem0 rfl) rfl | exact kd _ (mem1 rfl) rfl | exact kd _ (mem2 rfl) rfl | exact kd _ (mem3 rfl) rfl | exact kd _ (mem4 rfl) rfl | exact kd _ (mem5 rfl) rfl
            have t162 : ρ (.tmp 162) = .bool false := (ks 15 162 (by decide) rfl).trans d15
            simp [execOp, go_sem, kc, t153, t162]
            exact ⟨hC, Below.refl _ _, rfl⟩
  intro v15 W15 hb15 hall
  have hv15 : v15 16 = .bool false := hall 16 (by decide)
  simp [upto, Act.put]
  rw [hv15]
  clear hall hv15
  have hL19 := hidS (hL18.out.trans (hb15.mono hL18.out.size))
  have hP19 := hidS (blk_later hP18.out hb15)
  have hW19 := hidS (blk_later hW18.out hb15)
  have hX19 := hidS (blk_later hX18.out hb15)
  clear hb15 hL18 hP18 hW18 hX18
  clear hA18 hB18 HAs HBs HTa HTb qE HTT HTN
  by_cases hC0 : C = 0
  · obtain ⟨z1, z2, z3⟩ := HWo.out hC0
    rw [z1] at HXo
    rw [z2, z3] at HWb
    subst hC0
    have qW : ∀ W, (binOp .eql 40 (.agg #[.int .i64 tw.proto, .int .i64 tw.src, .int .i64 tw.sport, .int .i64 tw.dst, .int .i64 tw.dport, .int .i64 tw.kind]) (.agg #[.int .i64 tw.proto, .int .i64 tw.src, .int .i64 tw.sport, .int .i64 tw.dst, .int .i64 tw.dport, .int .i64 tw.kind])).run Tryz.prog W = .ok (.bool true) W := fun W => by rw [eql_tup, sameT_iff.2 rfl]
    clear z1 z2 z3 HWo
    go_wp2_with fail
    refine grow_guarded 21 [.is (.pointer (some ⟨gx, 10, none⟩)), .is (.int .i64 0), .is (.bool false), .is (.bool false), .is (.pointer (some ⟨gx, 0, none⟩)), .is (.agg #[.int .i64 X.src, .int .i64 X.dst, .int .i64 X.proto, .int .i64 X.a, .int .i64 X.b, .int .i64 X.kind, .int .i64 X.flags, .int .i64 X.seq, .int .i64 X.ack, .string X.body]), .is (.agg #[.int .i64 tw.proto, .int .i64 tw.src, .int .i64 tw.sport, .int .i64 tw.dst, .int .i64 tw.dport, .int .i64 tw.kind]), .is (.agg #[.int .i64 tw.proto, .int .i64 tw.src, .int .i64 tw.sport, .int .i64 tw.dst, .int .i64 tw.dport, .int .i64 tw.kind]), .is (.bool true), .is (.bool true), .is (.pointer (some ⟨gx, 0, none⟩)), .is (.agg #[.int .i64 X.src, .int .i64 X.dst, .int .i64 X.proto, .int .i64 X.a, .int .i64 X.b, .int .i64 X.kind, .int .i64 X.flags, .int .i64 X.seq, .int .i64 X.ack, .string X.body]), .is (.agg #[.int .i64 p.src, .int .i64 p.dst, .int .i64 p.proto, .int .i64 p.a, .int .i64 p.b, .int .i64 p.kind, .int .i64 p.flags, .int .i64 p.seq, .int .i64 p.ack, .string p.body]), .is (.agg #[.int .i64 OP.proto, .int .i64 OP.src, .int .i64 OP.sport, .int .i64 OP.dst, .int .i64 OP.dport, .int .i64 OP.kind]), .is (.agg #[.int .i64 p.src, .int .i64 p.dst, .int .i64 p.proto, .int .i64 p.a, .int .i64 p.b, .int .i64 p.kind, .int .i64 p.flags, .int .i64 p.seq, .int .i64 p.ack, .string p.body, .int .i64 0]), .is (.agg #[.int .i64 p.src, .int .i64 p.dst, .int .i64 p.proto, .int .i64 p.a, .int .i64 p.b, .int .i64 p.kind, .int .i64 p.flags, .int .i64 p.seq, .int .i64 p.ack, .string p.body]), .is (.agg #[.int .i64 p.src, .int .i64 p.dst, .int .i64 p.proto, .int .i64 p.a, .int .i64 p.b, .int .i64 p.kind, .int .i64 p.flags, .int .i64 p.seq, .int .i64 p.ack, .string p.body, .int .i64 0]), .is (.bool true), .is (.bool true), .is (.bool true), .is (.bool true)] rfl (by kernel_rfl) (by kernel_rfl) ?steps17y ?fin17y
    case steps17y =>
      refine ⟨?_, ?_, ?_, ?_, ?_, ?_, ?_, ?_, ?_, ?_, ?_, ?_, ?_, ?_, ?_, ?_, ?_, ?_, ?_, ?_, ?_, trivial⟩
      · refine stepW_of_u ⟨rfl, fun v W ρ hC kc kf ks ki kd => ?_⟩
        have t11 : ρ (.tmp 11) = .pointer (some ⟨gx, 0, none⟩) := ki 11 (by decide)
        simp [execOp, go_sem, kc, t11]
        exact ⟨hC, Below.refl _ _, rfl⟩
      · refine stepW_of_u ⟨rfl, fun v W ρ hC kc kf ks ki kd => ?_⟩
        have d0 : v 0 = .pointer (some ⟨gx, 10, none⟩) := by first | exact kd _ (mem0 rfl) rfl | exact kd _ (mem1 rfl) rfl | exact kd _ (mem2 rfl) rfl | exact kd _ (mem3 rfl) rfl | exact kd _ (mem4 rfl) rfl | exact kd _ (mem5 rfl) rfl
        have t164 : ρ (.tmp 164) = .pointer (some ⟨gx, 10, none⟩) := (ks 0 164 (by decide) rfl).trans d0
        have hg := blk_later hX19.out hC
        have c10 := blk_cell hg 10
        simp at c10
        simp [execOp, go_sem, kc, t164, c10]
        exact ⟨hC, Below.refl _ _, rfl⟩
      · refine stepW_of_u ⟨rfl, fun v W ρ hC kc kf ks ki kd => ?_⟩
        have d1 : v 1 = .int .i64 0 := by first | exact kd _ (mem0 rfl) rfl | exact kd _ (mem1 rfl) rfl | exact kd _ (mem2 rfl) rfl | exact kd _ (mem3 rfl) rfl | exact kd _ (mem4 rfl) rfl | exact kd _ (mem5 rfl) rfl
        have t165 : ρ (.tmp 165) = .int .i64 0 := (ks 1 165 (by decide) rfl).trans d1
        simp [execOp, go_sem, kc, t165]
        exact ⟨hC, Below.refl _ _, rfl⟩
      · refine stepW_of_u ⟨rfl, fun v W ρ hC kc kf ks ki kd => ?_⟩
        have d2 : v 2 = .bool false := by first | exact kd _ (mem0 rfl) rfl | exact kd _ (mem1 rfl) rfl | exact kd _ (mem2 rfl) rfl | exact kd _ (mem3 rfl) rfl | exact kd _ (mem4 rfl) rfl | exact kd _ (mem5 rfl) rfl
        have t166 : ρ (.tmp 166) = .bool false := (ks 2 166 (by decide) rfl).trans d2
        simp [execOp, go_sem, kc, t166]
        exact ⟨hC, Below.refl _ _, rfl⟩
      · intro v W ρ y hC kc kf ks ki ky ku kd
        have dg : v 3 = .bool false := by first | exact kd _ (mem0 rfl) rfl | exact kd _ (mem1 rfl) rfl | exact kd _ (mem2 rfl) rfl | exact kd _ (mem3 rfl) rfl | exact kd _ (mem4 rfl) rfl | exact kd _ (mem5 rfl) rfl
        have hy := ky 3 167 false (by decide) rfl dg
        rw [if_pos (by simp [Region.wanted, hy])]
        have t11 : ρ (.tmp 11) = .pointer (some ⟨gx, 0, none⟩) := ki 11 (by decide)
        simp [execOp, go_sem, kc, t11]
        exact ⟨hC, Below.refl _ _, rfl⟩
      · intro v W ρ y hC kc kf ks ki ky ku kd
        have dg : v 3 = .bool false := by first | exact kd _ (mem0 rfl) rfl | exact kd _ (mem1 rfl) rfl | exact kd _ (mem2 rfl) rfl | exact kd _ (mem3 rfl) rfl | exact kd _ (mem4 rfl) rfl | exact kd _ (mem5 rfl) rfl
        have hy := ky 3 167 false (by decide) rfl dg
        rw [if_pos (by simp [Region.wanted, hy])]
        have d4 : v 4 = .pointer (some ⟨gx, 0, none⟩) := by first | exact kd _ (mem0 rfl) rfl | exact kd _ (mem1 rfl) rfl | exact kd _ (mem2 rfl) rfl | exact kd _ (mem3 rfl) rfl | exact kd _ (mem4 rfl) rfl | exact kd _ (mem5 rfl) rfl
        have t168 : ρ (.tmp 168) = .pointer (some ⟨gx, 0, none⟩) := (ks 4 168 (by decide) rfl).trans d4
        have hg := blk_later hX19.out hC
        have c0 := blk_cell hg 0
        have c1 := blk_cell hg 1
        have c2 := blk_cell hg 2
        have c3 := blk_cell hg 3
        have c4 := blk_cell hg 4
        have c5 := blk_cell hg 5
        have c6 := blk_cell hg 6
        have c7 := blk_cell hg 7
        have c8 := blk_cell hg 8
        have c9 := blk_cell hg 9
        simp at c0 c1 c2 c3 c4 c5 c6 c7 c8 c9
        simp [execOp, go_sem, kc, t168, c0, c1, c2, c3, c4, c5, c6, c7, c8, c9]
        exact ⟨hC, Below.refl _ _, rfl⟩
      · intro v W ρ y hC kc kf ks ki ky ku kd
        have dg : v 3 = .bool false := by first | exact kd _ (mem0 rfl) rfl | exact kd _ (mem1 rfl) rfl | exact kd _ (mem2 rfl) rfl | exact kd _ (mem3 rfl) rfl | exact kd _ (mem4 rfl) rfl | exact kd _ (mem5 rfl) rfl
        have hy := ky 3 167 false (by decide) rfl dg
        rw [if_pos (by simp [Region.wanted, hy])]
        have d5 : v 5 = .agg #[.int .i64 X.src, .int .i64 X.dst, .int .i64 X.proto, .int .i64 X.a, .int .i64 X.b, .int .i64 X.kind, .int .i64 X.flags, .int .i64 X.seq, .int .i64 X.ack, .string X.body] := by first | exact kd _ (mem0 rfl) rfl | exact kd _ (mem1 rfl) rfl | exact kd _ (mem2 rfl) rfl | exact kd _ (mem3 rfl) rfl | exact kd _ (mem4 rfl) rfl | exact kd _ (mem5 rfl) rfl
        have t169 : ρ (.tmp 169) = .agg #[.int .i64 X.src, .int .i64 X.dst, .int .i64 X.proto, .int .i64 X.a, .int .i64 X.b, .int .i64 X.kind, .int .i64 X.flags, .int .i64 X.seq, .int .i64 X.ack, .string X.body] := (ks 5 169 (by decide) rfl).trans d5
        simp [execOp, go_sem, t169, kf]
        exact Calls.mono (HXo.out W) (fun e x h => ⟨_, h.1, hC.trans (h.2.mono hC.size), h.2, rfl⟩)
      · intro v W ρ y hC kc kf ks ki ky ku kd
        have dg : v 3 = .bool false := by first | exact kd _ (mem0 rfl) rfl | exact kd _ (mem1 rfl) rfl | exact kd _ (mem2 rfl) rfl | exact kd _ (mem3 rfl) rfl | exact kd _ (mem4 rfl) rfl | exact kd _ (mem5 rfl) rfl
        have hy := ky 3 167 false (by decide) rfl dg
        rw [if_pos (by simp [Region.wanted, hy])]
        have t10 : ρ (.tmp 10) = .pointer (some ⟨gw, 0, none⟩) := ki 10 (by decide)
        have hg := blk_later hW19.out hC
        have c0 := blk_cell hg 0
        have c1 := blk_cell hg 1
        have c2 := blk_cell hg 2
        have c3 := blk_cell hg 3
        have c4 := blk_cell hg 4
        have c5 := blk_cell hg 5
        simp at c0 c1 c2 c3 c4 c5
        simp [execOp, go_sem, kc, t10, c0, c1, c2, c3, c4, c5]
        exact ⟨hC, Below.refl _ _, rfl⟩
      · intro v W ρ y hC kc kf ks ki ky ku kd
        have dg : v 3 = .bool false := by first | exact kd _ (mem0 rfl) rfl | exact kd _ (mem1 rfl) rfl | exact kd _ (mem2 rfl) rfl | exact kd _ (mem3 rfl) rfl | exact kd _ (mem4 rfl) rfl | exact kd _ (mem5 rfl) rfl
        have hy := ky 3 167 false (by decide) rfl dg
        rw [if_pos (by simp [Region.wanted, hy])]
        have d6 : v 6 = .agg #[.int .i64 tw.proto, .int .i64 tw.src, .int .i64 tw.sport, .int .i64 tw.dst, .int .i64 tw.dport, .int .i64 tw.kind] := by first | exact kd _ (mem0 rfl) rfl | exact kd _ (mem1 rfl) rfl | exact kd _ (mem2 rfl) rfl | exact kd _ (mem3 rfl) rfl | exact kd _ (mem4 rfl) rfl | exact kd _ (mem5 rfl) rfl
        have t170 : ρ (.tmp 170) = .agg #[.int .i64 tw.proto, .int .i64 tw.src, .int .i64 tw.sport, .int .i64 tw.dst, .int .i64 tw.dport, .int .i64 tw.kind] := (ks 6 170 (by decide) rfl).trans d6
        have d7 : v 7 = .agg #[.int .i64 tw.proto, .int .i64 tw.src, .int .i64 tw.sport, .int .i64 tw.dst, .int .i64 tw.dport, .int .i64 tw.kind] := by first | exact kd _ (mem0 rfl) rfl | exact kd _ (mem1 rfl) rfl | exact kd _ (mem2 rfl) rfl | exact kd _ (mem3 rfl) rfl | exact kd _ (mem4 rfl) rfl | exact kd _ (mem5 rfl) rfl
        have t171 : ρ (.tmp 171) = .agg #[.int .i64 tw.proto, .int .i64 tw.src, .int .i64 tw.sport, .int .i64 tw.dst, .int .i64 tw.dport, .int .i64 tw.kind] := (ks 7 171 (by decide) rfl).trans d7
        simp [execOp, go_sem, kc, t170, t171, qW]
        exact ⟨hC, Below.refl _ _, rfl⟩
      · intro v W ρ y hC kc kf ks ki ky ku kd
        have dg : v 3 = .bool false := by first | exact kd _ (mem0 rfl) rfl | exact kd _ (mem1 rfl) rfl | exact kd _ (mem2 rfl) rfl | exact kd _ (mem3 rfl) rfl | exact kd _ (mem4 rfl) rfl | exact kd _ (mem5 rfl) rfl
        have hy := ky 3 167 false (by decide) rfl dg
        rw [if_pos (by simp [Region.wanted, hy])]
        have d8 : v 8 = .bool true := by first | exact kd _ (mem0 rfl) rfl | exact kd _ (mem1 rfl) rfl | exact kd _ (mem2 rfl) rfl | exact kd _ (mem3 rfl) rfl | exact kd _ (mem4 rfl) rfl | exact kd _ (mem5 rfl) rfl
        have t172 : ρ (.tmp 172) = .bool true := (ks 8 172 (by decide) rfl).trans d8
        simp [execOp, go_sem, kc, t172]
        exact ⟨hC, Below.refl _ _, rfl⟩
      · intro v W ρ y hC kc kf ks ki ky ku kd
        have dg : v 9 = .bool true := by first | exact kd _ (mem0 rfl) rfl | exact kd _ (mem1 rfl) rfl | exact kd _ (mem2 rfl) rfl | exact kd _ (mem3 rfl) rfl | exact kd _ (mem4 rfl) rfl | exact kd _ (mem5 rfl) rfl
        have hy := ky 9 173 true (by decide) rfl dg
        rw [if_pos (by simp [Region.wanted, hy])]
        have t11 : ρ (.tmp 11) = .pointer (some ⟨gx, 0, none⟩) := ki 11 (by decide)
        simp [execOp, go_sem, kc, t11]
        exact ⟨hC, Below.refl _ _, rfl⟩
      · intro v W ρ y hC kc kf ks ki ky ku kd
        have dg : v 9 = .bool true := by first | exact kd _ (mem0 rfl) rfl | exact kd _ (mem1 rfl) rfl | exact kd _ (mem2 rfl) rfl | exact kd _ (mem3 rfl) rfl | exact kd _ (mem4 rfl) rfl | exact kd _ (mem5 rfl) rfl
        have hy := ky 9 173 true (by decide) rfl dg
        rw [if_pos (by simp [Region.wanted, hy])]
        have d10 : v 10 = .pointer (some ⟨gx, 0, none⟩) := by first | exact kd _ (mem0 rfl) rfl | exact kd _ (mem1 rfl) rfl | exact kd _ (mem2 rfl) rfl | exact kd _ (mem3 rfl) rfl | exact kd _ (mem4 rfl) rfl | exact kd _ (mem5 rfl) rfl
        have t174 : ρ (.tmp 174) = .pointer (some ⟨gx, 0, none⟩) := (ks 10 174 (by decide) rfl).trans d10
        have hg := blk_later hX19.out hC
        have c0 := blk_cell hg 0
        have c1 := blk_cell hg 1
        have c2 := blk_cell hg 2
        have c3 := blk_cell hg 3
        have c4 := blk_cell hg 4
        have c5 := blk_cell hg 5
        have c6 := blk_cell hg 6
        have c7 := blk_cell hg 7
        have c8 := blk_cell hg 8
        have c9 := blk_cell hg 9
        simp at c0 c1 c2 c3 c4 c5 c6 c7 c8 c9
        simp [execOp, go_sem, kc, t174, c0, c1, c2, c3, c4, c5, c6, c7, c8, c9]
        exact ⟨hC, Below.refl _ _, rfl⟩
      · intro v W ρ y hC kc kf ks ki ky ku kd
        have dg : v 9 = .bool true := by first | exact kd _ (mem0 rfl) rfl | exact kd _ (mem1 rfl) rfl | exact kd _ (mem2 rfl) rfl | exact kd _ (mem3 rfl) rfl | exact kd _ (mem4 rfl) rfl | exact kd _ (mem5 rfl) rfl
        have hy := ky 9 173 true (by decide) rfl dg
        rw [if_pos (by simp [Region.wanted, hy])]
        have t9 : ρ (.tmp 9) = .pointer (some ⟨gp, 0, none⟩) := ki 9 (by decide)
        have hg := blk_later hP19.out hC
        have c0 := blk_cell hg 0
        have c1 := blk_cell hg 1
        have c2 := blk_cell hg 2
        have c3 := blk_cell hg 3
        have c4 := blk_cell hg 4
        have c5 := blk_cell hg 5
        have c6 := blk_cell hg 6
        have c7 := blk_cell hg 7
        have c8 := blk_cell hg 8
        have c9 := blk_cell hg 9
        simp at c0 c1 c2 c3 c4 c5 c6 c7 c8 c9
        simp [execOp, go_sem, kc, t9, c0, c1, c2, c3, c4, c5, c6, c7, c8, c9]
        exact ⟨hC, Below.refl _ _, rfl⟩
      · intro v W ρ y hC kc kf ks ki ky ku kd
        have dg : v 9 = .bool true := by first | exact kd _ (mem0 rfl) rfl | exact kd _ (mem1 rfl) rfl | exact kd _ (mem2 rfl) rfl | exact kd _ (mem3 rfl) rfl | exact kd _ (mem4 rfl) rfl | exact kd _ (mem5 rfl) rfl
        have hy := ky 9 173 true (by decide) rfl dg
        rw [if_pos (by simp [Region.wanted, hy])]
        have d12 : v 12 = .agg #[.int .i64 p.src, .int .i64 p.dst, .int .i64 p.proto, .int .i64 p.a, .int .i64 p.b, .int .i64 p.kind, .int .i64 p.flags, .int .i64 p.seq, .int .i64 p.ack, .string p.body] := by first | exact kd _ (mem0 rfl) rfl | exact kd _ (mem1 rfl) rfl | exact kd _ (mem2 rfl) rfl | exact kd _ (mem3 rfl) rfl | exact kd _ (mem4 rfl) rfl | exact kd _ (mem5 rfl) rfl
        have t176 : ρ (.tmp 176) = .agg #[.int .i64 p.src, .int .i64 p.dst, .int .i64 p.proto, .int .i64 p.a, .int .i64 p.b, .int .i64 p.kind, .int .i64 p.flags, .int .i64 p.seq, .int .i64 p.ack, .string p.body] := (ks 12 176 (by decide) rfl).trans d12
        simp [execOp, go_sem, t176, kf]
        exact Calls.mono (HPo.out W) (fun e x h => ⟨_, h.1, hC.trans (h.2.mono hC.size), h.2, rfl⟩)
      · intro v W ρ y hC kc kf ks ki ky ku kd
        have dg : v 9 = .bool true := by first | exact kd _ (mem0 rfl) rfl | exact kd _ (mem1 rfl) rfl | exact kd _ (mem2 rfl) rfl | exact kd _ (mem3 rfl) rfl | exact kd _ (mem4 rfl) rfl | exact kd _ (mem5 rfl) rfl
        have hy := ky 9 173 true (by decide) rfl dg
        rw [if_pos (by simp [Region.wanted, hy])]
        have d11 : v 11 = .agg #[.int .i64 X.src, .int .i64 X.dst, .int .i64 X.proto, .int .i64 X.a, .int .i64 X.b, .int .i64 X.kind, .int .i64 X.flags, .int .i64 X.seq, .int .i64 X.ack, .string X.body] := by first | exact kd _ (mem0 rfl) rfl | exact kd _ (mem1 rfl) rfl | exact kd _ (mem2 rfl) rfl | exact kd _ (mem3 rfl) rfl | exact kd _ (mem4 rfl) rfl | exact kd _ (mem5 rfl) rfl
        have t175 : ρ (.tmp 175) = .agg #[.int .i64 X.src, .int .i64 X.dst, .int .i64 X.proto, .int .i64 X.a, .int .i64 X.b, .int .i64 X.kind, .int .i64 X.flags, .int .i64 X.seq, .int .i64 X.ack, .string X.body] := (ks 11 175 (by decide) rfl).trans d11
        have d13 : v 13 = .agg #[.int .i64 OP.proto, .int .i64 OP.src, .int .i64 OP.sport, .int .i64 OP.dst, .int .i64 OP.dport, .int .i64 OP.kind] := by first | exact kd _ (mem0 rfl) rfl | exact kd _ (mem1 rfl) rfl | exact kd _ (mem2 rfl) rfl | exact kd _ (mem3 rfl) rfl | exact kd _ (mem4 rfl) rfl | exact kd _ (mem5 rfl) rfl
        have t177 : ρ (.tmp 177) = .agg #[.int .i64 OP.proto, .int .i64 OP.src, .int .i64 OP.sport, .int .i64 OP.dst, .int .i64 OP.dport, .int .i64 OP.kind] := (ks 13 177 (by decide) rfl).trans d13
        simp [execOp, go_sem, t175, t177, kf]
        exact Calls.mono (HWb.out W (hL19.out.trans (hC.mono hL19.out.size))) (fun e x h => ⟨_, h.1, hC.trans (h.2.mono hC.size), h.2, rfl⟩)
      · intro v W ρ y hC kc kf ks ki ky ku kd
        have dg : v 9 = .bool true := by first | exact kd _ (mem0 rfl) rfl | exact kd _ (mem1 rfl) rfl | exact kd _ (mem2 rfl) rfl | exact kd _ (mem3 rfl) rfl | exact kd _ (mem4 rfl) rfl | exact kd _ (mem5 rfl) rfl
        have hy := ky 9 173 true (by decide) rfl dg
        rw [if_pos (by simp [Region.wanted, hy])]
        have t9 : ρ (.tmp 9) = .pointer (some ⟨gp, 0, none⟩) := ki 9 (by decide)
        have hg := blk_later hP19.out hC
        have c0 := blk_cell hg 0
        have c1 := blk_cell hg 1
        have c2 := blk_cell hg 2
        have c3 := blk_cell hg 3
        have c4 := blk_cell hg 4
        have c5 := blk_cell hg 5
        have c6 := blk_cell hg 6
        have c7 := blk_cell hg 7
        have c8 := blk_cell hg 8
        have c9 := blk_cell hg 9
        simp at c0 c1 c2 c3 c4 c5 c6 c7 c8 c9
        simp [execOp, go_sem, kc, t9, c0, c1, c2, c3, c4, c5, c6, c7, c8, c9]
        exact ⟨hC, Below.refl _ _, rfl⟩
      · intro v W ρ y hC kc kf ks ki ky ku kd
        have dg : v 9 = .bool true := by first | exact kd _ (mem0 rfl) rfl | exact kd _ (mem1 rfl) rfl | exact kd _ (mem2 rfl) rfl | exact kd _ (mem3 rfl) rfl | exact kd _ (mem4 rfl) rfl | exact kd _ (mem5 rfl) rfl
        have hy := ky 9 173 true (by decide) rfl dg
        rw [if_pos (by simp [Region.wanted, hy])]
        have d15 : v 15 = .agg #[.int .i64 p.src, .int .i64 p.dst, .int .i64 p.proto, .int .i64 p.a, .int .i64 p.b, .int .i64 p.kind, .int .i64 p.flags, .int .i64 p.seq, .int .i64 p.ack, .string p.body] := by first | exact kd _ (mem0 rfl) rfl | exact kd _ (mem1 rfl) rfl | exact kd _ (mem2 rfl) rfl | exact kd _ (mem3 rfl) rfl | exact kd _ (mem4 rfl) rfl | exact kd _ (mem5 rfl) rfl
        have t179 : ρ (.tmp 179) = .agg #[.int .i64 p.src, .int .i64 p.dst, .int .i64 p.proto, .int .i64 p.a, .int .i64 p.b, .int .i64 p.kind, .int .i64 p.flags, .int .i64 p.seq, .int .i64 p.ack, .string p.body] := (ks 15 179 (by decide) rfl).trans d15
        simp [execOp, go_sem, kc, t179]
        exact ⟨hC, Below.refl _ _, rfl⟩
      · intro v W ρ y hC kc kf ks ki ky ku kd
        have dg : v 9 = .bool true := by first | exact kd _ (mem0 rfl) rfl | exact kd _ (mem1 rfl) rfl | exact kd _ (mem2 rfl) rfl | exact kd _ (mem3 rfl) rfl | exact kd _ (mem4 rfl) rfl | exact kd _ (mem5 rfl) rfl
        have hy := ky 9 173 true (by decide) rfl dg
        rw [if_pos (by simp [Region.wanted, hy])]
        have d14 : v 14 = .agg #[.int .i64 p.src, .int .i64 p.dst, .int .i64 p.proto, .int .i64 p.a, .int .i64 p.b, .int .i64 p.kind, .int .i64 p.flags, .int .i64 p.seq, .int .i64 p.ack, .string p.body, .int .i64 0] := by first | exact kd _ (mem0 rfl) rfl | exact kd _ (mem1 rfl) rfl | exact kd _ (mem2 rfl) rfl | exact kd _ (mem3 rfl) rfl | exact kd _ (mem4 rfl) rfl | exact kd _ (mem5 rfl) rfl
        have t178 : ρ (.tmp 178) = .agg #[.int .i64 p.src, .int .i64 p.dst, .int .i64 p.proto, .int .i64 p.a, .int .i64 p.b, .int .i64 p.kind, .int .i64 p.flags, .int .i64 p.seq, .int .i64 p.ack, .string p.body, .int .i64 0] := (ks 14 178 (by decide) rfl).trans d14
        have d16 : v 16 = .agg #[.int .i64 p.src, .int .i64 p.dst, .int .i64 p.proto, .int .i64 p.a, .int .i64 p.b, .int .i64 p.kind, .int .i64 p.flags, .int .i64 p.seq, .int .i64 p.ack, .string p.body, .int .i64 0] := by first | exact kd _ (mem0 rfl) rfl | exact kd _ (mem1 rfl) rfl | exact kd _ (mem2 rfl) rfl | exact kd _ (mem3 rfl) rfl | exact kd _ (mem4 rfl) rfl | exact kd _ (mem5 rfl) rfl
        have t180 : ρ (.tmp 180) = .agg #[.int .i64 p.src, .int .i64 p.dst, .int .i64 p.proto, .int .i64 p.a, .int .i64 p.b, .int .i64 p.kind, .int .i64 p.flags, .int .i64 p.seq, .int .i64 p.ack, .string p.body, .int .i64 0] := (ks 16 180 (by decide) rfl).trans d16
        simp [execOp, go_sem, kc, t178, t180, eql_pko p 0 W]
        exact ⟨hC, Below.refl _ _, rfl⟩
      · intro v W ρ y hC kc kf ks ki ky ku kd
        have dg : v 3 = .bool false := by first | exact kd _ (mem0 rfl) rfl | exact kd _ (mem1 rfl) rfl | exact kd _ (mem2 rfl) rfl | exact kd _ (mem3 rfl) rfl | exact kd _ (mem4 rfl) rfl | exact kd _ (mem5 rfl) rfl
        have hy := ky 3 167 false (by decide) rfl dg
        rw [if_pos (by simp [Region.wanted, hy])]
        have d9 : v 9 = .bool true := by first | exact kd _ (mem0 rfl) rfl | exact kd _ (mem1 rfl) rfl | exact kd _ (mem2 rfl) rfl | exact kd _ (mem3 rfl) rfl | exact kd _ (mem4 rfl) rfl | exact kd _ (mem5 rfl) rfl
        have t173 : ρ (.tmp 173) = .bool true := (ks 9 173 (by decide) rfl).trans d9
        have d17 : v 17 = .bool true := by first | exact kd _ (mem0 rfl) rfl | exact kd _ (mem1 rfl) rfl | exact kd _ (mem2 rfl) rfl | exact kd _ (mem3 rfl) rfl | exact kd _ (mem4 rfl) rfl | exact kd _ (mem5 rfl) rfl
        have t181 : ρ (.tmp 181) = .bool true := (ks 17 181 (by decide) rfl).trans d17
        simp [execOp, go_sem, kc, t173, t181]
        exact ⟨hC, Below.refl _ _, rfl⟩
      · refine stepW_of_u ⟨rfl, fun v W ρ hC kc kf ks ki kd => ?_⟩
        have d3 : v 3 = .bool false := by first | exact kd _ (mem0 rfl) rfl | exact kd _ (mem1 rfl) rfl | exact kd _ (mem2 rfl) rfl | exact kd _ (mem3 rfl) rfl | exact kd _ (mem4 rfl) rfl | exact kd _ (mem5 rfl) rfl
        have t167 : ρ (.tmp 167) = .bool false := (ks 3 167 (by decide) rfl).trans d3
        have d18 : v 18 = .bool true := by first | exact kd _ (mem0 rfl) rfl | exact kd _ (mem1 rfl) rfl | exact kd _ (mem2 rfl) rfl | exact kd _ (mem3 rfl) rfl | exact kd _ (mem4 rfl) rfl | exact kd _ (mem5 rfl) rfl
        have t182 : ρ (.tmp 182) = .bool true := (ks 18 182 (by decide) rfl).trans d18
        simp [execOp, go_sem, kc, t167, t182]
        exact ⟨hC, Below.refl _ _, rfl⟩
      · refine stepW_of_u ⟨rfl, fun v W ρ hC kc kf ks ki kd => ?_⟩
        have d19 : v 19 = .bool true := by first | exact kd _ (mem0 rfl) rfl | exact kd _ (mem1 rfl) rfl | exact kd _ (mem2 rfl) rfl | exact kd _ (mem3 rfl) rfl | exact kd _ (mem4 rfl) rfl | exact kd _ (mem5 rfl) rfl
        have t183 : ρ (.tmp 183) = .bool true := (ks 19 183 (by decide) rfl).trans d19
        simp [execOp, go_sem, kc, t183]
        exact ⟨hC, Below.refl _ _, rfl⟩
    intro v17y W17y hb17y hall
    have hv17y : v17y 20 = .bool true := hall 20 (by decide)
    simp [upto, Act.put]
    rw [hv17y]
    clear hall hv17y
    have hLz := hidS (hL19.out.trans (hb17y.mono hL19.out.size))
    clear hb17y hL19 hP19 hW19 hX19
    go_wp2_with fail
    go_ret
    exact ⟨rfl, hLz.out⟩
  · have eC : (C != 0) = true := bne_iff_ne.2 hC0
    clear HWo HWb HXo
    go_wp2_with fail
    refine grow_guarded 21 [.is (.pointer (some ⟨gx, 10, none⟩)), .is (.int .i64 C), .is (.bool true), .is (.bool true), .is (undef), .is (undef), .is (undef), .is (undef), .is (undef), .is (undef), .is (undef), .is (undef), .is (undef), .is (undef), .is (undef), .is (undef), .is (undef), .is (undef), .is (undef), .is (.bool true), .is (.bool true)] rfl (by kernel_rfl) (by kernel_rfl) ?steps17n ?fin17n
    case steps17n =>
      refine ⟨?_, ?_, ?_, ?_, ?_, ?_, ?_, ?_, ?_, ?_, ?_, ?_, ?_, ?_, ?_, ?_, ?_, ?_, ?_, ?_, ?_, trivial⟩
      · refine stepW_of_u ⟨rfl, fun v W ρ hC kc kf ks ki kd => ?_⟩
        have t11 : ρ (.tmp 11) = .pointer (some ⟨gx, 0, none⟩) := ki 11 (by decide)
        simp [execOp, go_sem, kc, t11]
        exact ⟨hC, Below.refl _ _, rfl⟩
      · refine stepW_of_u ⟨rfl, fun v W ρ hC kc kf ks ki kd => ?_⟩
        have d0 : v 0 = .pointer (some ⟨gx, 10, none⟩) := by first | exact kd _ (mem0 rfl) rfl | exact kd _ (mem1 rfl) rfl | exact kd _ (mem2 rfl) rfl | exact kd _ (mem3 rfl) rfl | exact kd _ (mem4 rfl) rfl | exact kd _ (mem5 rfl) rfl
        have t164 : ρ (.tmp 164) = .pointer (some ⟨gx, 10, none⟩) := (ks 0 164 (by decide) rfl).trans d0
        have hg := blk_later hX19.out hC
        have c10 := blk_cell hg 10
        simp at c10
        simp [execOp, go_sem, kc, t164, c10]
        exact ⟨hC, Below.refl _ _, rfl⟩
      · refine stepW_of_u ⟨rfl, fun v W ρ hC kc kf ks ki kd => ?_⟩
        have d1 : v 1 = .int .i64 C := by first | exact kd _ (mem0 rfl) rfl | exact kd _ (mem1 rfl) rfl | exact kd _ (mem2 rfl) rfl | exact kd _ (mem3 rfl) rfl | exact kd _ (mem4 rfl) rfl | exact kd _ (mem5 rfl) rfl
        have t165 : ρ (.tmp 165) = .int .i64 C := (ks 1 165 (by decide) rfl).trans d1
        simp [execOp, go_sem, kc, t165, eC]
        exact ⟨hC, Below.refl _ _, rfl⟩
      · refine stepW_of_u ⟨rfl, fun v W ρ hC kc kf ks ki kd => ?_⟩
        have d2 : v 2 = .bool true := by first | exact kd _ (mem0 rfl) rfl | exact kd _ (mem1 rfl) rfl | exact kd _ (mem2 rfl) rfl | exact kd _ (mem3 rfl) rfl | exact kd _ (mem4 rfl) rfl | exact kd _ (mem5 rfl) rfl
        have t166 : ρ (.tmp 166) = .bool true := (ks 2 166 (by decide) rfl).trans d2
        simp [execOp, go_sem, kc, t166]
        exact ⟨hC, Below.refl _ _, rfl⟩
      · intro v W ρ y hC kc kf ks ki ky ku kd
        have dg : v 3 = .bool true := by first | exact kd _ (mem0 rfl) rfl | exact kd _ (mem1 rfl) rfl | exact kd _ (mem2 rfl) rfl | exact kd _ (mem3 rfl) rfl | exact kd _ (mem4 rfl) rfl | exact kd _ (mem5 rfl) rfl
        have hy := ky 3 167 true (by decide) rfl dg
        rw [if_neg (by simp [Region.wanted, hy])]
        exact ⟨Below.refl _ _, rfl⟩
      · intro v W ρ y hC kc kf ks ki ky ku kd
        have dg : v 3 = .bool true := by first | exact kd _ (mem0 rfl) rfl | exact kd _ (mem1 rfl) rfl | exact kd _ (mem2 rfl) rfl | exact kd _ (mem3 rfl) rfl | exact kd _ (mem4 rfl) rfl | exact kd _ (mem5 rfl) rfl
        have hy := ky 3 167 true (by decide) rfl dg
        rw [if_neg (by simp [Region.wanted, hy])]
        exact ⟨Below.refl _ _, rfl⟩
      · intro v W ρ y hC kc kf ks ki ky ku kd
        have dg : v 3 = .bool true := by first | exact kd _ (mem0 rfl) rfl | exact kd _ (mem1 rfl) rfl | exact kd _ (mem2 rfl) rfl | exact kd _ (mem3 rfl) rfl | exact kd _ (mem4 rfl) rfl | exact kd _ (mem5 rfl) rfl
        have hy := ky 3 167 true (by decide) rfl dg
        rw [if_neg (by simp [Region.wanted, hy])]
        exact ⟨Below.refl _ _, rfl⟩
      · intro v W ρ y hC kc kf ks ki ky ku kd
        have dg : v 3 = .bool true := by first | exact kd _ (mem0 rfl) rfl | exact kd _ (mem1 rfl) rfl | exact kd _ (mem2 rfl) rfl | exact kd _ (mem3 rfl) rfl | exact kd _ (mem4 rfl) rfl | exact kd _ (mem5 rfl) rfl
        have hy := ky 3 167 true (by decide) rfl dg
        rw [if_neg (by simp [Region.wanted, hy])]
        exact ⟨Below.refl _ _, rfl⟩
      · intro v W ρ y hC kc kf ks ki ky ku kd
        have dg : v 3 = .bool true := by first | exact kd _ (mem0 rfl) rfl | exact kd _ (mem1 rfl) rfl | exact kd _ (mem2 rfl) rfl | exact kd _ (mem3 rfl) rfl | exact kd _ (mem4 rfl) rfl | exact kd _ (mem5 rfl) rfl
        have hy := ky 3 167 true (by decide) rfl dg
        rw [if_neg (by simp [Region.wanted, hy])]
        exact ⟨Below.refl _ _, rfl⟩
      · intro v W ρ y hC kc kf ks ki ky ku kd
        have dg : v 3 = .bool true := by first | exact kd _ (mem0 rfl) rfl | exact kd _ (mem1 rfl) rfl | exact kd _ (mem2 rfl) rfl | exact kd _ (mem3 rfl) rfl | exact kd _ (mem4 rfl) rfl | exact kd _ (mem5 rfl) rfl
        have hy := ky 3 167 true (by decide) rfl dg
        rw [if_neg (by simp [Region.wanted, hy])]
        exact ⟨Below.refl _ _, rfl⟩
      · intro v W ρ y hC kc kf ks ki ky ku kd
        have dg : v 9 = undef := by first | exact kd _ (mem0 rfl) rfl | exact kd _ (mem1 rfl) rfl | exact kd _ (mem2 rfl) rfl | exact kd _ (mem3 rfl) rfl | exact kd _ (mem4 rfl) rfl | exact kd _ (mem5 rfl) rfl
        have hy := ku 9 173 (by decide) rfl dg
        rw [if_neg (by simp [Region.wanted, hy])]
        exact ⟨Below.refl _ _, rfl⟩
      · intro v W ρ y hC kc kf ks ki ky ku kd
        have dg : v 9 = undef := by first | exact kd _ (mem0 rfl) rfl | exact kd _ (mem1 rfl) rfl | exact kd _ (mem2 rfl) rfl | exact kd _ (mem3 rfl) rfl | exact kd _ (mem4 rfl) rfl | exact kd _ (mem5 rfl) rfl
        have hy := ku 9 173 (by decide) rfl dg
        rw [if_neg (by simp [Region.wanted, hy])]
        exact ⟨Below.refl _ _, rfl⟩
      · intro v W ρ y hC kc kf ks ki ky ku kd
        have dg : v 9 = undef := by first | exact kd _ (mem0 rfl) rfl | exact kd _ (mem1 rfl) rfl | exact kd _ (mem2 rfl) rfl | exact kd _ (mem3 rfl) rfl | exact kd _ (mem4 rfl) rfl | exact kd _ (mem5 rfl) rfl
        have hy := ku 9 173 (by decide) rfl dg
        rw [if_neg (by simp [Region.wanted, hy])]
        exact ⟨Below.refl _ _, rfl⟩
      · intro v W ρ y hC kc kf ks ki ky ku kd
        have dg : v 9 = undef := by first | exact kd _ (mem0 rfl) rfl | exact kd _ (mem1 rfl) rfl | exact kd _ (mem2 rfl) rfl | exact kd _ (mem3 rfl) rfl | exact kd _ (mem4 rfl) rfl | exact kd _ (mem5 rfl) rfl
        have hy := ku 9 173 (by decide) rfl dg
        rw [if_neg (by simp [Region.wanted, hy])]
        exact ⟨Below.refl _ _, rfl⟩
      · intro v W ρ y hC kc kf ks ki ky ku kd
        have dg : v 9 = undef := by first | exact kd _ (mem0 rfl) rfl | exact kd _ (mem1 rfl) rfl | exact kd _ (mem2 rfl) rfl | exact kd _ (mem3 rfl) rfl | exact kd _ (mem4 rfl) rfl | exact kd _ (mem5 rfl) rfl
        have hy := ku 9 173 (by decide) rfl dg
        rw [if_neg (by simp [Region.wanted, hy])]
        exact ⟨Below.refl _ _, rfl⟩
      · intro v W ρ y hC kc kf ks ki ky ku kd
        have dg : v 9 = undef := by first | exact kd _ (mem0 rfl) rfl | exact kd _ (mem1 rfl) rfl | exact kd _ (mem2 rfl) rfl | exact kd _ (mem3 rfl) rfl | exact kd _ (mem4 rfl) rfl | exact kd _ (mem5 rfl) rfl
        have hy := ku 9 173 (by decide) rfl dg
        rw [if_neg (by simp [Region.wanted, hy])]
        exact ⟨Below.refl _ _, rfl⟩
      · intro v W ρ y hC kc kf ks ki ky ku kd
        have dg : v 9 = undef := by first | exact kd _ (mem0 rfl) rfl | exact kd _ (mem1 rfl) rfl | exact kd _ (mem2 rfl) rfl | exact kd _ (mem3 rfl) rfl | exact kd _ (mem4 rfl) rfl | exact kd _ (mem5 rfl) rfl
        have hy := ku 9 173 (by decide) rfl dg
        rw [if_neg (by simp [Region.wanted, hy])]
        exact ⟨Below.refl _ _, rfl⟩
      · intro v W ρ y hC kc kf ks ki ky ku kd
        have dg : v 9 = undef := by first | exact kd _ (mem0 rfl) rfl | exact kd _ (mem1 rfl) rfl | exact kd _ (mem2 rfl) rfl | exact kd _ (mem3 rfl) rfl | exact kd _ (mem4 rfl) rfl | exact kd _ (mem5 rfl) rfl
        have hy := ku 9 173 (by decide) rfl dg
        rw [if_neg (by simp [Region.wanted, hy])]
        exact ⟨Below.refl _ _, rfl⟩
      · intro v W ρ y hC kc kf ks ki ky ku kd
        have dg : v 3 = .bool true := by first | exact kd _ (mem0 rfl) rfl | exact kd _ (mem1 rfl) rfl | exact kd _ (mem2 rfl) rfl | exact kd _ (mem3 rfl) rfl | exact kd _ (mem4 rfl) rfl | exact kd _ (mem5 rfl) rfl
        have hy := ky 3 167 true (by decide) rfl dg
        rw [if_neg (by simp [Region.wanted, hy])]
        exact ⟨Below.refl _ _, rfl⟩
      · refine stepW_of_u ⟨rfl, fun v W ρ hC kc kf ks ki kd => ?_⟩
        have d3 : v 3 = .bool true := by first | exact kd _ (mem0 rfl) rfl | exact kd _ (mem1 rfl) rfl | exact kd _ (mem2 rfl) rfl | exact kd _ (mem3 rfl) rfl | exact kd _ (mem4 rfl) rfl | exact kd _ (mem5 rfl) rfl
        have t167 : ρ (.tmp 167) = .bool true := (ks 3 167 (by decide) rfl).trans d3
        simp [execOp, go_sem, kc, t167]
        exact ⟨hC, Below.refl _ _, rfl⟩
      · refine stepW_of_u ⟨rfl, fun v W ρ hC kc kf ks ki kd => ?_⟩
        have d19 : v 19 = .bool true := by first | exact kd _ (mem0 rfl) rfl | exact kd _ (mem1 rfl) rfl | exact kd _ (mem2 rfl) rfl | exact kd _ (mem3 rfl) rfl | exact kd _ (mem4 rfl) rfl | exact kd _ (mem5 rfl) rfl
        have t183 : ρ (.tmp 183) = .bool true := (ks 19 183 (by decide) rfl).trans d19
        simp [execOp, go_sem, kc, t183]
        exact ⟨hC, Below.refl _ _, rfl⟩
    intro v17n W17n hb17n hall
    have hv17n : v17n 20 = .bool true := hall 20 (by decide)
    simp [upto, Act.put]
    rw [hv17n]
    clear hall hv17n
    have hLz := hidS (hL19.out.trans (hb17n.mono hL19.out.size))
    clear hb17n hL19 hP19 hW19 hX19 hC0
    go_wp2_with fail
    go_ret
    exact ⟨rfl, hLz.out⟩
end Go.Proofs.YtedknnkdnccfmaaGreatDoor
