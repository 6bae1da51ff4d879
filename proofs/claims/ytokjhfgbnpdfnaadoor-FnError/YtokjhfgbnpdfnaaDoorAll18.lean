/- Proved here: spec.DrawInnerOf draws a packet of at most 102 bytes of body; all old memory stays (condition: the bytes that are drawn from can be read, at most 2^20). · Proved here: spec.l03Word and spec.l03Long answer the number of two, of four bytes at a place of a text; memory stays (condition: the bytes are there). · Proved here: impl.areWords answers whether all of a row are words, and leaves memory alone (condition: at most 1000 of them). -/
import Derived.Test.YtokjhfgbnpdfnaaDoorPkSome
import Derived.Test.YtokjhfgbnpdfnaaDoorAll17
import Derived.Test.YtokjhfgbnpdfnaaDoorAll16
import Derived.Test.YtokjhfgbnpdfnaaDoorAll1
import Derived.BigRegion
import Derived.BigQuiet
import Derived.Deep.QuietTactic
import Derived.Test.YtokjhfgbnpdfnaaDoorAll12
section
namespace Go.Proofs.YtokjhfgbnpdfnaaDoor
open Go.ChangeShapes Go.WideShapes Go.ChangeAt Go.RowKit
set_option linter.unusedVariables false
set_option linter.unusedSimpArgs false
set_option maxRecDepth 100000

/-- a packet in the making, in block g, behind a source of new memory -/
structure InSt (B : Nat) (a : Option Addr) (len cap : Nat) (w : World) (g : Nat) (p : Pk) (W : World) : Prop where
  src : Src B a len cap W
  below : Below w.heap.size w W
  res : W.heap[w.heap.size]? = some (.cells #[.int .i64 0, .int .i64 0, .int .i64 0, .int .i64 0, .int .i64 0, .int .i64 0, .int .i64 0, .int .i64 0, .int .i64 0, .string ⟨#[]⟩] 35)
  loc : W.heap[g]? = some (.cells #[.int .i64 p.src, .int .i64 p.dst, .int .i64 p.proto, .int .i64 p.a, .int .i64 p.b, .int .i64 p.kind, .int .i64 p.flags, .int .i64 p.seq, .int .i64 p.ack, .string p.body] 35)
  lt : w.heap.size < B
  gt : B < g
  body : p.body.size ≤ 102
theorem InSt.later {B : Nat} {a : Option Addr} {len cap : Nat} {w : World} {g : Nat} {p : Pk} {W W' : World} (h : InSt B a len cap w g p W) (hS : Src B a len cap W') (hg : W.grownBy W' (some B)) : InSt B a len cap w g p W' :=
  ⟨hS, h.below.grown hg h.below.size (fun k e => by cases e; exact Nat.le_of_lt h.lt), (hg.block _ (blk_lt h.res) (fun e => by injection e with e; have := h.lt; omega)).trans h.res, (hg.block _ (blk_lt h.loc) (fun e => by injection e with e; have := h.gt; omega)).trans h.loc, h.lt, h.gt, h.body⟩
theorem InSt.set_body {B : Nat} {a : Option Addr} {len cap : Nat} {w : World} {g : Nat} {p : Pk} {W : World} (h : InSt B a len cap w g p W) (s : ByteArray) (hs : s.size ≤ 102) : InSt B a len cap w g { p with body := s } (W.setCell ⟨g, 9, none⟩ (.string s)) :=
  ⟨h.src.kept fun k hk => Below.heap_setCell _ _ _ _ (by have := h.gt; show k ≠ g; omega), h.below.setCell (p := ⟨g, 9, none⟩) (by have := h.gt; have := h.lt; show w.heap.size ≤ g; omega) _, (Below.heap_setCell _ _ _ _ (by have := h.gt; have := h.lt; show w.heap.size ≠ g; omega)).trans h.res, blk_set h.loc 9 _, h.lt, h.gt, hs⟩

set_option maxHeartbeats 2000000 in
theorem drawInnerOf_any (a : Option Addr) (len cap : Nat) (w : World) (hR : RowAt w.heap.size a len w) (hl : len ≤ 1048576) :
    Calls Tryd.prog 15 #[.slice a len cap] w fun e w' => ∃ p : Pk, e = .returned (.agg #[.int .i64 p.src, .int .i64 p.dst, .int .i64 p.proto, .int .i64 p.a, .int .i64 p.b, .int .i64 p.kind, .int .i64 p.flags, .int .i64 p.seq, .int .i64 p.ack, .string p.body]) ∧ p.body.size ≤ 102 ∧ Below w.heap.size w w' := by
  have hL0 := hidS ((Below.refl w.heap.size w).alloc (Nat.le_refl _) (.cells #[.int .i64 0, .int .i64 0, .int .i64 0, .int .i64 0, .int .i64 0, .int .i64 0, .int .i64 0, .int .i64 0, .int .i64 0, .string ⟨#[]⟩] 35))
  have hR0 := hidS (hR.later hL0.out)
  have hG0 := hidS (heap_newG w (.cells #[.int .i64 0, .int .i64 0, .int .i64 0, .int .i64 0, .int .i64 0, .int .i64 0, .int .i64 0, .int .i64 0, .int .i64 0, .string ⟨#[]⟩] 35))
  clear hR
  go_enter Tryd.func15, Tryd.ntmps15
  go_wp2_with fail
  generalize w.alloc (.cells #[.int .i64 0, .int .i64 0, .int .i64 0, .int .i64 0, .int .i64 0, .int .i64 0, .int .i64 0, .int .i64 0, .int .i64 0, .string ⟨#[]⟩] 35) = w1 at hL0 hR0 hG0 ⊢
  refine (source_any a len cap w1 hR0.out hl).mono ?_
  rintro _ w2 ⟨rfl, hS2, hb2⟩
  have hRB : w.heap.size < w1.heap.size := blk_lt hG0.out
  have hL2 := hidS (hL0.out.trans (hb2.mono hL0.out.size))
  have hG2 := hidS (blk_later hG0.out hb2)
  have HS2 := hidS hS2
  clear hb2 hL0 hR0 hG0 hS2
  generalize w1.heap.size = B at *
  go_wp2_with fail
  refine (srcPacket_any B a len cap w2 HS2.out).mono ?_
  rintro _ w3 ⟨q, rfl, hq, hS3, hg3⟩
  have hBl := hS3.lt
  have hL3 := hidS (hL2.out.grown hg3 hL2.out.size (fun k e => by cases e; omega))
  have hG3 := hidS ((hg3.block _ (blk_lt hG2.out) (fun e => by injection e with e; omega)).trans hG2.out)
  have HS3 := hidS hS3
  clear hg3 hL2 hG2 HS2 hS3
  go_wp2_with fail
  refine (specError_any q 5 w3 (by unfold maxLen; omega)).mono ?_
  rintro _ w4 ⟨rfl, hb4⟩
  have hbe := errP_body q 5
  generalize errP q 5 = p at *
  generalize errC q 5 = C at *
  have hgB : B < w4.heap.size := Nat.lt_of_lt_of_le hBl hb4.size
  have HP : Hid (InSt B a len cap w w4.heap.size p (w4.alloc (.cells #[.int .i64 p.src, .int .i64 p.dst, .int .i64 p.proto, .int .i64 p.a, .int .i64 p.b, .int .i64 p.kind, .int .i64 p.flags, .int .i64 p.seq, .int .i64 p.ack, .string p.body] 35))) :=
    hidS ⟨src_alloc (src_below HS3.out hb4) _, (hL3.out.trans (hb4.mono hL3.out.size)).alloc (hL3.out.trans (hb4.mono hL3.out.size)).size _, blk_alloc (blk_later hG3.out hb4) _, heap_newG _ _, hRB, hgB, by omega⟩
  have hbe := hidS hbe
  clear hL3 hG3 HS3 hb4 hq hBl
  have hfd : ∀ W : World, (Instr.field 39 (.agg #[.int .i64 p.src, .int .i64 p.dst, .int .i64 p.proto, .int .i64 p.a, .int .i64 p.b, .int .i64 p.kind, .int .i64 p.flags, .int .i64 p.seq, .int .i64 p.ack, .string p.body, .int .i64 C]) 0).run Tryd.prog W = .ok (.agg #[.int .i64 p.src, .int .i64 p.dst, .int .i64 p.proto, .int .i64 p.a, .int .i64 p.b, .int .i64 p.kind, .int .i64 p.flags, .int .i64 p.seq, .int .i64 p.ack, .string p.body]) W := fun _ => by kernel_rfl
  go_upto_region 3 with fail
  clear hfd
  generalize w4.alloc (.cells #[.int .i64 p.src, .int .i64 p.dst, .int .i64 p.proto, .int .i64 p.a, .int .i64 p.b, .int .i64 p.kind, .int .i64 p.flags, .int .i64 p.seq, .int .i64 p.ack, .string p.body] 35) = w5 at HP ⊢
  generalize w4.heap.size = g at *
  go_wp2_with fail
  refine (srcN_any B a len cap 4 w5 HP.out.src (by omega)).mono ?_
  rintro _ w6 ⟨c, rfl, hc1, hc2, hS6, hO6⟩
  have HP6 := hidS (HP.out.later hS6 hO6.grown)
  clear HP hS6 hO6
  by_cases c0 : c = 0
  · subst c0
    clear hc1 hc2
    have hb6 : p.body.size ≤ 101 := hbe.out
    have hl9 := HP6.out.loc
    have x9 := blk_cell hl9 9
    simp at x9
    clear hl9
    go_wp2_with fail
    refine (srcSpoil_any B a len cap p.body w6 HP6.out.src (by have := HP6.out.body; omega)).mono ?_
    rintro _ w7 ⟨t, rfl, ht, hS7, hg7⟩
    have HP7 := hidS (HP6.out.later hS7 hg7)
    have hts : t.size ≤ 102 := by omega
    have HP8 := hidS (HP7.out.set_body t hts)
    have y9 := blk_cell HP7.out.loc 9
    have f9 := blk_free HP7.out.loc
    simp at y9
    clear HP6 HP7 hS7 hg7 x9
    go_upto_region 8 with fail
    generalize w7.setCell ⟨g, 9, none⟩ (.string t) = w8 at HP8 ⊢
    clear y9 f9
    generalize ({ p with body := t } : Pk) = p8 at HP8
    have hl9 := HP8.out.loc
    have x0 := blk_cell hl9 0
    have x1 := blk_cell hl9 1
    have x2 := blk_cell hl9 2
    have x3 := blk_cell hl9 3
    have x4 := blk_cell hl9 4
    have x5 := blk_cell hl9 5
    have x6 := blk_cell hl9 6
    have x7 := blk_cell hl9 7
    have x8 := blk_cell hl9 8
    have x9 := blk_cell hl9 9
    simp at x0 x1 x2 x3 x4 x5 x6 x7 x8 x9
    have kR := blk_cell HP8.out.res
    have fR := blk_free HP8.out.res
    have hB9 := hidS HP8.out.below
    have hbd := hidS HP8.out.body
    clear hl9 HP8
    go_wp2_with fail
    refine bodyPost_ret (v := .agg #[.int .i64 p8.src, .int .i64 p8.dst, .int .i64 p8.proto, .int .i64 p8.a, .int .i64 p8.b, .int .i64 p8.kind, .int .i64 p8.flags, .int .i64 p8.seq, .int .i64 p8.ack, .string p8.body]) (by simp [results, Tryd.results15, go_sem, *]) rfl ⟨p8, rfl, hbd.out, ?_⟩
    iterate 10 (refine below_at ?_ (Nat.le_refl _))
    exact hB9.out
  have c0' : (c == 0) = false := beq_eq_false_iff_ne.2 c0
  by_cases c1 : c = 1
  · subst c1
    clear hc1 hc2 c0 c0'
    go_wp2_with fail
    refine (srcSome_any B a len cap w6 HP6.out.src).mono ?_
    rintro _ w7 ⟨r, rfl, hr, hS7, hg7⟩
    have HP7 := hidS (HP6.out.later hS7 hg7)
    have kR := blk_cell HP7.out.res
    have fR := blk_free HP7.out.res
    have hB9 := hidS HP7.out.below
    have hbd := hidS (Nat.le_trans hr (by omega : 101 ≤ 102))
    clear HP7 HP6 hS7 hg7 hr
    go_wp2_with fail
    refine bodyPost_ret (v := .agg #[.int .i64 r.src, .int .i64 r.dst, .int .i64 r.proto, .int .i64 r.a, .int .i64 r.b, .int .i64 r.kind, .int .i64 r.flags, .int .i64 r.seq, .int .i64 r.ack, .string r.body]) (by simp [results, Tryd.results15, go_sem, *]) rfl ⟨r, rfl, hbd.out, ?_⟩
    iterate 10 (refine below_at ?_ (Nat.le_refl _))
    exact hB9.out
  have c1' : (c == 1) = false := beq_eq_false_iff_ne.2 c1
  clear c0 c1 hc1 hc2
  have hl9 := HP6.out.loc
  have x0 := blk_cell hl9 0
  have x1 := blk_cell hl9 1
  have x2 := blk_cell hl9 2
  have x3 := blk_cell hl9 3
  have x4 := blk_cell hl9 4
  have x5 := blk_cell hl9 5
  have x6 := blk_cell hl9 6
  have x7 := blk_cell hl9 7
  have x8 := blk_cell hl9 8
  have x9 := blk_cell hl9 9
  simp at x0 x1 x2 x3 x4 x5 x6 x7 x8 x9
  have kR := blk_cell HP6.out.res
  have fR := blk_free HP6.out.res
  have hB9 := hidS HP6.out.below
  have hbd := hidS HP6.out.body
  clear hl9 HP6
  go_wp2_with fail
  refine bodyPost_ret (v := .agg #[.int .i64 p.src, .int .i64 p.dst, .int .i64 p.proto, .int .i64 p.a, .int .i64 p.b, .int .i64 p.kind, .int .i64 p.flags, .int .i64 p.seq, .int .i64 p.ack, .string p.body]) (by simp [results, Tryd.results15, go_sem, *]) rfl ⟨p, rfl, hbd.out, ?_⟩
  iterate 10 (refine below_at ?_ (Nat.le_refl _))
  exact hB9.out
end Go.Proofs.YtokjhfgbnpdfnaaDoor
end

section
namespace Go.Proofs.YtokjhfgbnpdfnaaDoor
open Go.ChangeShapes Go.WideShapes Go.ChangeAt Go.RowKit
set_option linter.unusedVariables false

/-- the byte at a place -/
def byteN (s : ByteArray) (k : Nat) : Nat := (s.data.getD k 0).toNat
theorem byteN_lt (s : ByteArray) (k : Nat) : byteN s k < 256 := UInt8.toNat_lt _
theorem byteN_get {s : ByteArray} {k : Nat} (h : k < s.size) : s[k].toNat = byteN s k := by
  unfold byteN
  rw [Array.getD_eq_getD_getElem?, Array.getElem?_eq_getElem (by simpa using h)]
  rfl
/-- the number of two, of four bytes at a place -/
def word2 (s : ByteArray) (k : Nat) : Nat := 256 * byteN s k + byteN s (k + 1)
def word4 (s : ByteArray) (k : Nat) : Nat := 65536 * word2 s k + word2 s (k + 2)
theorem word2_lt (s : ByteArray) (k : Nat) : word2 s k < 65536 := by have := byteN_lt s k; have := byteN_lt s (k + 1); unfold word2; omega
theorem word4_lt (s : ByteArray) (k : Nat) : word4 s k < 4294967296 := by have := word2_lt s k; have := word2_lt s (k + 2); unfold word4; omega

theorem l03Word_any (s : ByteArray) (k : Nat) (w : World) (hk : k + 1 < s.size) (hs : s.size ≤ 8000) :
    Calls Tryd.prog 67 #[.string s, .int .i64 (k : Int)] w fun e w' => e = .returned (.int .i64 (word2 s k : Nat)) ∧ Below w.heap.size w w' := by
  have hk' : (k : Int) + 1 < (s.size : Int) := by omega
  have hs' : (s.size : Int) ≤ 8000 := by omega
  have b1 : s[k].toNat < 256 := s[k].toNat_lt
  have b2 : s[k + 1].toNat < 256 := s[k + 1].toNat_lt
  have e : Hid ((256 : Int) * (s[k].toNat : Int) + (s[k + 1].toNat : Int) = ((word2 s k : Nat) : Int)) := by
    rw [byteN_get (by omega), byteN_get hk]; unfold word2 Hid; omega
  have t1 : ((k : Int) + 1).toNat = k + 1 := by omega
  have t2 : k < s.size := by omega
  have t3 : (k : Int) < (s.size : Int) := by omega
  have t4 : (0 : Int) ≤ (k : Int) + 1 := by omega
  go_enter Tryd.func67, Tryd.ntmps67
  go_wp2
  go_region
  go_wp2
  go_ret
  exact ⟨by rw [← e.out]; rfl, (Below.refl _ _).drew⟩

theorem l03Long_any (s : ByteArray) (k : Nat) (w : World) (hk : k + 3 < s.size) (hs : s.size ≤ 8000) :
    Calls Tryd.prog 66 #[.string s, .int .i64 (k : Int)] w fun e w' => e = .returned (.int .i64 (word4 s k : Nat)) ∧ Below w.heap.size w w' := by
  have hk' : (k : Int) + 3 < (s.size : Int) := by omega
  have hs' : (s.size : Int) ≤ 8000 := by omega
  have l1 := word2_lt s k
  have l2 := word2_lt s (k + 2)
  have e : Hid ((65536 : Int) * (word2 s k : Int) + (word2 s (k + 2) : Int) = ((word4 s k : Nat) : Int)) := by unfold word4 Hid; omega
  go_enter Tryd.func66, Tryd.ntmps66
  go_wp2_with fail
  refine (l03Word_any s k _ (by omega) hs).mono ?_
  rintro _ w1 ⟨rfl, hb1⟩
  go_wp2_with fail
  refine (l03Word_any s (k + 2) _ (by omega) hs).mono ?_
  rintro _ w2 ⟨rfl, hb2⟩
  have hB := hidS (hb1.trans (hb2.mono hb1.size))
  clear hb1 hb2
  go_wp2
  go_ret
  exact ⟨by rw [← e.out]; rfl, hB.out⟩
end Go.Proofs.YtokjhfgbnpdfnaaDoor
end

section
namespace Go.Proofs.YtokjhfgbnpdfnaaDoor
open Go.ChangeShapes Go.WideShapes Go.ChangeAt Go.RowKit
open Go.ChangeMaps (open_string shut_string)
set_option linter.unusedVariables false

/-- all of them are words -/
def allW (zs : List Int) : Bool := zs.all wordB
theorem all_take_succ (zs : List Int) (k : Nat) (h : k < zs.length) : allW (zs.take (k + 1)) = (allW (zs.take k) && wordB zs[k]) := by
  unfold allW; rw [List.take_succ_eq_append_getElem h, List.all_append]; simp
theorem all_bad (zs : List Int) (k : Nat) (h : k < zs.length) (hb : wordB zs[k] = false) : allW zs = false := by
  cases e : allW zs
  · rfl
  · have := List.all_eq_true.1 e zs[k] (List.getElem_mem h); rw [hb] at this; cases this
set_option maxHeartbeats 400000 in
theorem areWords_any (g : Nat) (zs : List Int) (w : World) (hc : ∀ j, (h : j < zs.length) → w.cell? ⟨g, j, none⟩ = some (.int .i64 zs[j])) (hl : zs.length ≤ 1000) :
    Calls Tryd.prog 85 #[.slice (some ⟨g, 0, none⟩) zs.length zs.length] w fun e w' => e = .returned (.bool (allW zs)) ∧ w' = w := by
  have HC := hidS hc
  clear hc
  go_enter Tryd.func85, Tryd.ntmps85
  go_wp2
  go_loop [7] (fun i => ∃ k : Nat, k ≤ zs.length ∧ i = .int .i64 k ∧ Hid (allW (zs.take k) = true)) (fun i => zs.length - (intOf i).toNat)
  case atStart => exact ⟨0, by omega, rfl, rfl⟩
  case round =>
    obtain ⟨k, hk, rfl, hX⟩ := hrel
    by_cases h : k < zs.length
    · have h' : (k : Int) < (zs.length : Int) := by omega
      have hck := HC.out k h
      have hA := hidS (all_bad zs k h)
      have hB : Hid (wordB zs[k] = true → allW (zs.take (k + 1)) = true) := by intro q; rw [all_take_succ zs k h, hX.out, q]; rfl
      generalize zs[k] = z at *
      clear hX
      by_cases h1 : z < 0
      · have hE : Hid (allW zs = false) := hA.out (by simp [wordB]; omega)
        clear hA hB
        go_wp2
        go_ret
        exact ⟨by rw [hE.out]; rfl, rfl⟩
      · by_cases h2 : 65535 < z
        · have hE : Hid (allW zs = false) := hA.out (by simp [wordB]; omega)
          clear hA hB
          go_wp2
          go_ret
          exact ⟨by rw [hE.out]; rfl, rfl⟩
        · have hE := hidS (hB.out (by simp [wordB]; omega))
          clear hA hB
          go_wp2
          go_round
          case rel => exact ⟨k + 1, by omega, by go_num, hE⟩
          case measure => simp [intOf]; omega
    · have hE : Hid (allW zs = true) := by have := hX.out; rw [List.take_of_length_le (by omega)] at this; exact this
      clear hX
      go_wp2
      go_ret
      exact ⟨by rw [hE.out]; rfl, rfl⟩
theorem two_cells (W : World) (a b : Int) (t : TypeId) : ∀ j, (h : j < [a, b].length) → (W.alloc (.cells #[.int .i64 a, .int .i64 b] t)).cell? ⟨W.heap.size, j, none⟩ = some (.int .i64 [a, b][j]) := by
  intro j hj
  rcases (by simp at hj; omega : j = 0 ∨ j = 1) with rfl | rfl <;> simp
theorem three_cells (W : World) (a b c : Int) (t : TypeId) : ∀ j, (h : j < [a, b, c].length) → (W.alloc (.cells #[.int .i64 a, .int .i64 b, .int .i64 c] t)).cell? ⟨W.heap.size, j, none⟩ = some (.int .i64 [a, b, c][j]) := by
  intro j hj
  rcases (by simp at hj; omega : j = 0 ∨ j = 1 ∨ j = 2) with rfl | rfl | rfl <;> simp
theorem one_cell (W : World) (a : Int) (t : TypeId) : ∀ j, (h : j < [a].length) → (W.alloc (.cells #[.int .i64 a] t)).cell? ⟨W.heap.size, j, none⟩ = some (.int .i64 [a][j]) := by
  intro j hj
  obtain rfl : j = 0 := by simp at hj; omega
  simp
end Go.Proofs.YtokjhfgbnpdfnaaDoor
end
