/- Proved here: laws.FnSlab answers true, whatever is drawn; all old memory stays (condition: the bytes that are drawn from can be read, at most 2^20 each). -/
import Derived.Test.YtcopfejonbbmnaaSlabDraws
import Derived.Test.YtcopfejonbbmnaaSlabDrawN
import Derived.Test.YtcopfejonbbmnaaSlabLw
import Derived.Test.YtcopfejonbbmnaaSlabFacts2
import Derived.Test.YtcopfejonbbmnaaSlabAddI
import Derived.Test.YtcopfejonbbmnaaSlabCutI
import Derived.Test.YtcopfejonbbmnaaSlabGetI
import Derived.Test.YtcopfejonbbmnaaSlabPutI
import Derived.Test.YtcopfejonbbmnaaSlabNewI
import Derived.Test.YtcopfejonbbmnaaSlabChainI
import Derived.Test.YtcopfejonbbmnaaAll49
import Derived.Test.YtcopfejonbbmnaaKindsSl
import Derived.Test.YtcopfejonbbmnaaGrowCases
import Derived.Deep.Cut
namespace Go.Proofs.Ytcopfejonbbmnaa
open Go.ChangeShapes Go.WideShapes Go.ChangeAt Go.RowKit
set_option linter.unusedVariables false
set_option linter.unusedSimpArgs false
set_option maxRecDepth 100000

theorem rowAt_later {B : Nat} {a : Option Addr} {len : Nat} {w w' : World} (h : RowAt B a len w) (hb : Below B w w') : RowAt B a len w' := h.below fun k hk => hb.block k hk
theorem rowAt_up {B C : Nat} {a : Option Addr} {len : Nat} {w : World} (h : RowAt B a len w) (hb : B ≤ C) : RowAt C a len w := fun j hj => by
  obtain ⟨b, o, h1, h2, h3⟩ := h j hj
  exact ⟨b, o, h1, by omega, h3⟩
set_option maxHeartbeats 16000000 in
theorem fnSlab_in (a0 : Option Addr) (len0 cap0 : Nat) (a1 : Option Addr) (len1 cap1 : Nat) (w : World) (h0 : RowAt w.heap.size a0 len0 w) (h1 : RowAt w.heap.size a1 len1 w) (hl0 : len0 ≤ 1048576) (hl1 : len1 ≤ 1048576) :
    Calls Try.prog 3 #[.slice a0 len0 cap0, .slice a1 len1 cap1] w fun e w' => e = .returned (.bool true) ∧ Below w.heap.size w w' := by
  have g0 : ¬ ((1048576 : Int) < (len0 : Int)) := by omega
  have g1 : ¬ ((1048576 : Int) < (len1 : Int)) := by omega
  have H0 := hidS h0
  have H1 := hidS h1
  clear h0 h1
  have hL0 := hidS (Below.refl w.heap.size w)
  go_enter Try.func3, Try.ntmps3
  have w0e : True := trivial
  clear w0e
  go_wp2_with fail
  refine (drawSlabAdd_any a0 len0 cap0 _ (rowAt_up (rowAt_later H0.out hL0.out) hL0.out.size) hl0).mono ?_
  rintro _ w1 ⟨t1, xb1, xo1, xc1, yb1, yo1, yc1, key, rfl, hd1, hn1, _, _, P1, Q1, keylo, keyhi, hb⟩
  have D1 := hidS hd1
  have Z11 : Hid (SlabZ (some ⟨xb1, xo1, none⟩) (some ⟨yb1, yo1, none⟩) t1 w1) := hidS ⟨P1.read, Q1.read⟩
  clear hd1 hn1 P1 Q1
  have hL1 := hidS (hL0.out.trans (hb.mono hL0.out.size))
  clear hL0 hb
  have Z12 := hidS (Z11.out.later ((Below.refl w1.heap.size w1).alloc (Nat.le_refl _) (.cells #[.slice (some ⟨xb1, xo1, none⟩) t1.slots.length xc1, .slice (some ⟨yb1, yo1, none⟩) t1.heads.length yc1] 26)))
  have B12 := hidS (heap_newG w1 (.cells #[.slice (some ⟨xb1, xo1, none⟩) t1.slots.length xc1, .slice (some ⟨yb1, yo1, none⟩) t1.heads.length yc1] 26))
  have hL2 := hidS (hL1.out.alloc hL1.out.size (.cells #[.slice (some ⟨xb1, xo1, none⟩) t1.slots.length xc1, .slice (some ⟨yb1, yo1, none⟩) t1.heads.length yc1] 26))
  clear Z11 hL1
  go_upto_region 4 with fail
  generalize w1.alloc (.cells #[.slice (some ⟨xb1, xo1, none⟩) t1.slots.length xc1, .slice (some ⟨yb1, yo1, none⟩) t1.heads.length yc1] 26) = w2 at Z12 B12 hL2 ⊢
  generalize w1.heap.size = x1 at *
  have HI1 := hidS (fun (aS aH : Option Addr) (c e : Nat) (W : World) (h : SlabZ aS aH t1 W) => implSlabAdd_any aS aH c e t1 key W h D1.out.fit (by have := D1.out.n2; omega) (by have := D1.out.n4; omega))
  have HS1 := hidS (fun (aS aH : Option Addr) (c e : Nat) (W : World) (h : SlabZ aS aH t1 W) => specSlabAdd_any aS aH c e t1 key W h (by have := D1.out.n2; omega) (by have := D1.out.n4; omega))
  generalize hu1 : addS t1 key = u1 at HI1 HS1
  generalize ha1 : addA t1 key = pl1 at HI1 HS1
  generalize hk1 : addC t1 key = k1 at HI1 HS1
  have EU1 := hidS hu1
  have EA1 := hidS ha1
  have EK1 := hidS hk1
  clear hu1 ha1 hk1
  have v0 := blk_cell B12.out 0
  have v1 := blk_cell B12.out 1
  simp at v0 v1
  go_wp2_with fail
  refine (HI1.out _ _ _ _ _ Z12.out).mono ?_
  rintro _ w3 ⟨aS1, cS1, aH1, cH1, rfl, hO, hb⟩
  have O13 := hidS hO.read
  clear hO v0 v1
  have Z13 := hidS (Z12.out.later hb)
  have B13 := hidS (blk_later B12.out hb)
  have hL3 := hidS (hL2.out.trans (hb.mono hL2.out.size))
  clear Z12 B12 hL2 hb
  have Z14 := hidS (Z13.out.later ((Below.refl w3.heap.size w3).alloc (Nat.le_refl _) (.cells #[.slice aS1 u1.slots.length cS1, .slice aH1 u1.heads.length cH1, .int .i64 pl1, .int .i64 k1] 30)))
  have B14 := hidS (blk_alloc B13.out (.cells #[.slice aS1 u1.slots.length cS1, .slice aH1 u1.heads.length cH1, .int .i64 pl1, .int .i64 k1] 30))
  have O14 := hidS (O13.out.later ((Below.refl w3.heap.size w3).alloc (Nat.le_refl _) (.cells #[.slice aS1 u1.slots.length cS1, .slice aH1 u1.heads.length cH1, .int .i64 pl1, .int .i64 k1] 30)))
  have Y14 := hidS (heap_newG w3 (.cells #[.slice aS1 u1.slots.length cS1, .slice aH1 u1.heads.length cH1, .int .i64 pl1, .int .i64 k1] 30))
  have hL4 := hidS (hL3.out.alloc hL3.out.size (.cells #[.slice aS1 u1.slots.length cS1, .slice aH1 u1.heads.length cH1, .int .i64 pl1, .int .i64 k1] 30))
  clear Z13 B13 O13 hL3
  go_upto_region 5 with fail
  generalize w3.alloc (.cells #[.slice aS1 u1.slots.length cS1, .slice aH1 u1.heads.length cH1, .int .i64 pl1, .int .i64 k1] 30) = w4 at Z14 B14 O14 Y14 hL4 ⊢
  generalize w3.heap.size = y1 at *
  go_wp2_with fail
  refine (drawSlabCut_any a1 len1 cap1 _ (rowAt_up (rowAt_later H1.out hL4.out) hL4.out.size) hl1).mono ?_
  rintro _ w5 ⟨t2, xb2, xo2, xc2, yb2, yo2, yc2, gone, rfl, hd2, hn2, _, _, P2, Q2, gonelo, gonehi, hb⟩
  have D2 := hidS hd2
  have Z25 : Hid (SlabZ (some ⟨xb2, xo2, none⟩) (some ⟨yb2, yo2, none⟩) t2 w5) := hidS ⟨P2.read, Q2.read⟩
  clear hd2 hn2 P2 Q2
  have Z15 := hidS (Z14.out.later hb)
  have B15 := hidS (blk_later B14.out hb)
  have O15 := hidS (O14.out.later hb)
  have Y15 := hidS (blk_later Y14.out hb)
  have hL5 := hidS (hL4.out.trans (hb.mono hL4.out.size))
  clear Z14 B14 O14 Y14 hL4 hb
  have Z16 := hidS (Z15.out.later ((Below.refl w5.heap.size w5).alloc (Nat.le_refl _) (.cells #[.slice (some ⟨xb2, xo2, none⟩) t2.slots.length xc2, .slice (some ⟨yb2, yo2, none⟩) t2.heads.length yc2] 26)))
  have B16 := hidS (blk_alloc B15.out (.cells #[.slice (some ⟨xb2, xo2, none⟩) t2.slots.length xc2, .slice (some ⟨yb2, yo2, none⟩) t2.heads.length yc2] 26))
  have O16 := hidS (O15.out.later ((Below.refl w5.heap.size w5).alloc (Nat.le_refl _) (.cells #[.slice (some ⟨xb2, xo2, none⟩) t2.slots.length xc2, .slice (some ⟨yb2, yo2, none⟩) t2.heads.length yc2] 26)))
  have Y16 := hidS (blk_alloc Y15.out (.cells #[.slice (some ⟨xb2, xo2, none⟩) t2.slots.length xc2, .slice (some ⟨yb2, yo2, none⟩) t2.heads.length yc2] 26))
  have Z26 := hidS (Z25.out.later ((Below.refl w5.heap.size w5).alloc (Nat.le_refl _) (.cells #[.slice (some ⟨xb2, xo2, none⟩) t2.slots.length xc2, .slice (some ⟨yb2, yo2, none⟩) t2.heads.length yc2] 26)))
  have B26 := hidS (heap_newG w5 (.cells #[.slice (some ⟨xb2, xo2, none⟩) t2.slots.length xc2, .slice (some ⟨yb2, yo2, none⟩) t2.heads.length yc2] 26))
  have hL6 := hidS (hL5.out.alloc hL5.out.size (.cells #[.slice (some ⟨xb2, xo2, none⟩) t2.slots.length xc2, .slice (some ⟨yb2, yo2, none⟩) t2.heads.length yc2] 26))
  clear Z15 B15 O15 Y15 Z25 hL5
  go_upto_region 6 with fail
  generalize w5.alloc (.cells #[.slice (some ⟨xb2, xo2, none⟩) t2.slots.length xc2, .slice (some ⟨yb2, yo2, none⟩) t2.heads.length yc2] 26) = w6 at Z16 B16 O16 Y16 Z26 B26 hL6 ⊢
  generalize w5.heap.size = x2 at *
  have HI2 := hidS (fun (aS aH : Option Addr) (c e : Nat) (W : World) (h : SlabZ aS aH t2 W) => implSlabCut_any aS aH c e t2 gone W h D2.out.fit (by have := D2.out.n2; omega) (by have := D2.out.n4; omega))
  have HS2 := hidS (fun (aS aH : Option Addr) (c e : Nat) (W : World) (h : SlabZ aS aH t2 W) => specSlabCut_any aS aH c e t2 gone W h (by have := D2.out.n2; omega) (by have := D2.out.n4; omega))
  generalize hu2 : cutS t2 gone = u2 at HI2 HS2
  generalize ha2 : cutA t2 gone = pl2 at HI2 HS2
  generalize hk2 : cutC t2 gone = k2 at HI2 HS2
  have EU2 := hidS hu2
  have EA2 := hidS ha2
  have EK2 := hidS hk2
  clear hu2 ha2 hk2
  have v0 := blk_cell B26.out 0
  have v1 := blk_cell B26.out 1
  simp at v0 v1
  go_wp2_with fail
  refine (HI2.out _ _ _ _ _ Z26.out).mono ?_
  rintro _ w7 ⟨aS2, cS2, aH2, cH2, rfl, hO, hb⟩
  have O27 := hidS hO.read
  clear hO v0 v1
  have Z17 := hidS (Z16.out.later hb)
  have B17 := hidS (blk_later B16.out hb)
  have O17 := hidS (O16.out.later hb)
  have Y17 := hidS (blk_later Y16.out hb)
  have Z27 := hidS (Z26.out.later hb)
  have B27 := hidS (blk_later B26.out hb)
  have hL7 := hidS (hL6.out.trans (hb.mono hL6.out.size))
  clear Z16 B16 O16 Y16 Z26 B26 hL6 hb
  have Z18 := hidS (Z17.out.later ((Below.refl w7.heap.size w7).alloc (Nat.le_refl _) (.cells #[.slice aS2 u2.slots.length cS2, .slice aH2 u2.heads.length cH2, .int .i64 pl2, .int .i64 k2] 30)))
  have B18 := hidS (blk_alloc B17.out (.cells #[.slice aS2 u2.slots.length cS2, .slice aH2 u2.heads.length cH2, .int .i64 pl2, .int .i64 k2] 30))
  have O18 := hidS (O17.out.later ((Below.refl w7.heap.size w7).alloc (Nat.le_refl _) (.cells #[.slice aS2 u2.slots.length cS2, .slice aH2 u2.heads.length cH2, .int .i64 pl2, .int .i64 k2] 30)))
  have Y18 := hidS (blk_alloc Y17.out (.cells #[.slice aS2 u2.slots.length cS2, .slice aH2 u2.heads.length cH2, .int .i64 pl2, .int .i64 k2] 30))
  have Z28 := hidS (Z27.out.later ((Below.refl w7.heap.size w7).alloc (Nat.le_refl _) (.cells #[.slice aS2 u2.slots.length cS2, .slice aH2 u2.heads.length cH2, .int .i64 pl2, .int .i64 k2] 30)))
  have B28 := hidS (blk_alloc B27.out (.cells #[.slice aS2 u2.slots.length cS2, .slice aH2 u2.heads.length cH2, .int .i64 pl2, .int .i64 k2] 30))
  have O28 := hidS (O27.out.later ((Below.refl w7.heap.size w7).alloc (Nat.le_refl _) (.cells #[.slice aS2 u2.slots.length cS2, .slice aH2 u2.heads.length cH2, .int .i64 pl2, .int .i64 k2] 30)))
  have Y28 := hidS (heap_newG w7 (.cells #[.slice aS2 u2.slots.length cS2, .slice aH2 u2.heads.length cH2, .int .i64 pl2, .int .i64 k2] 30))
  have hL8 := hidS (hL7.out.alloc hL7.out.size (.cells #[.slice aS2 u2.slots.length cS2, .slice aH2 u2.heads.length cH2, .int .i64 pl2, .int .i64 k2] 30))
  clear Z17 B17 O17 Y17 Z27 B27 O27 hL7
  go_upto_region 7 with fail
  generalize w7.alloc (.cells #[.slice aS2 u2.slots.length cS2, .slice aH2 u2.heads.length cH2, .int .i64 pl2, .int .i64 k2] 30) = w8 at Z18 B18 O18 Y18 Z28 B28 O28 Y28 hL8 ⊢
  generalize w7.heap.size = y2 at *
  go_wp2_with fail
  refine (drawSlabGet_any a1 len1 cap1 _ (rowAt_up (rowAt_later H1.out hL8.out) hL8.out.size) hl1).mono ?_
  rintro _ w9 ⟨t3, xb3, xo3, xc3, yb3, yo3, yc3, at3, rfl, hd3, hn3, _, _, P3, Q3, at3lo, at3hi, hb⟩
  have D3 := hidS hd3
  have Z39 : Hid (SlabZ (some ⟨xb3, xo3, none⟩) (some ⟨yb3, yo3, none⟩) t3 w9) := hidS ⟨P3.read, Q3.read⟩
  clear hd3 hn3 P3 Q3
  have Z19 := hidS (Z18.out.later hb)
  have B19 := hidS (blk_later B18.out hb)
  have O19 := hidS (O18.out.later hb)
  have Y19 := hidS (blk_later Y18.out hb)
  have Z29 := hidS (Z28.out.later hb)
  have B29 := hidS (blk_later B28.out hb)
  have O29 := hidS (O28.out.later hb)
  have Y29 := hidS (blk_later Y28.out hb)
  have hL9 := hidS (hL8.out.trans (hb.mono hL8.out.size))
  clear Z18 B18 O18 Y18 Z28 B28 O28 Y28 hL8 hb
  have Z110 := hidS (Z19.out.later ((Below.refl w9.heap.size w9).alloc (Nat.le_refl _) (.cells #[.slice (some ⟨xb3, xo3, none⟩) t3.slots.length xc3, .slice (some ⟨yb3, yo3, none⟩) t3.heads.length yc3] 26)))
  have B110 := hidS (blk_alloc B19.out (.cells #[.slice (some ⟨xb3, xo3, none⟩) t3.slots.length xc3, .slice (some ⟨yb3, yo3, none⟩) t3.heads.length yc3] 26))
  have O110 := hidS (O19.out.later ((Below.refl w9.heap.size w9).alloc (Nat.le_refl _) (.cells #[.slice (some ⟨xb3, xo3, none⟩) t3.slots.length xc3, .slice (some ⟨yb3, yo3, none⟩) t3.heads.length yc3] 26)))
  have Y110 := hidS (blk_alloc Y19.out (.cells #[.slice (some ⟨xb3, xo3, none⟩) t3.slots.length xc3, .slice (some ⟨yb3, yo3, none⟩) t3.heads.length yc3] 26))
  have Z210 := hidS (Z29.out.later ((Below.refl w9.heap.size w9).alloc (Nat.le_refl _) (.cells #[.slice (some ⟨xb3, xo3, none⟩) t3.slots.length xc3, .slice (some ⟨yb3, yo3, none⟩) t3.heads.length yc3] 26)))
  have B210 := hidS (blk_alloc B29.out (.cells #[.slice (some ⟨xb3, xo3, none⟩) t3.slots.length xc3, .slice (some ⟨yb3, yo3, none⟩) t3.heads.length yc3] 26))
  have O210 := hidS (O29.out.later ((Below.refl w9.heap.size w9).alloc (Nat.le_refl _) (.cells #[.slice (some ⟨xb3, xo3, none⟩) t3.slots.length xc3, .slice (some ⟨yb3, yo3, none⟩) t3.heads.length yc3] 26)))
  have Y210 := hidS (blk_alloc Y29.out (.cells #[.slice (some ⟨xb3, xo3, none⟩) t3.slots.length xc3, .slice (some ⟨yb3, yo3, none⟩) t3.heads.length yc3] 26))
  have Z310 := hidS (Z39.out.later ((Below.refl w9.heap.size w9).alloc (Nat.le_refl _) (.cells #[.slice (some ⟨xb3, xo3, none⟩) t3.slots.length xc3, .slice (some ⟨yb3, yo3, none⟩) t3.heads.length yc3] 26)))
  have B310 := hidS (heap_newG w9 (.cells #[.slice (some ⟨xb3, xo3, none⟩) t3.slots.length xc3, .slice (some ⟨yb3, yo3, none⟩) t3.heads.length yc3] 26))
  have hL10 := hidS (hL9.out.alloc hL9.out.size (.cells #[.slice (some ⟨xb3, xo3, none⟩) t3.slots.length xc3, .slice (some ⟨yb3, yo3, none⟩) t3.heads.length yc3] 26))
  clear Z19 B19 O19 Y19 Z29 B29 O29 Y29 Z39 hL9
  go_upto_region 8 with fail
  generalize w9.alloc (.cells #[.slice (some ⟨xb3, xo3, none⟩) t3.slots.length xc3, .slice (some ⟨yb3, yo3, none⟩) t3.heads.length yc3] 26) = w10 at Z110 B110 O110 Y110 Z210 B210 O210 Y210 Z310 B310 hL10 ⊢
  generalize w9.heap.size = x3 at *
  have HI3 := hidS (fun (aS aH : Option Addr) (c e : Nat) (W : World) (h : SlabZ aS aH t3 W) => implSlabGet_any aS aH c e t3 at3 W h D3.out.fit (by have := D3.out.n2; omega) (by have := D3.out.n4; omega))
  have HS3 := hidS (fun (aS aH : Option Addr) (c e : Nat) (W : World) (h : SlabZ aS aH t3 W) => specSlabGet_any aS aH c e t3 at3 W h (by have := D3.out.n2; omega) (by have := D3.out.n4; omega))
  generalize hu3 : getS t3 at3 = u3 at HI3 HS3
  generalize ha3 : getA t3 at3 = pl3 at HI3 HS3
  generalize hk3 : getC t3 at3 = k3 at HI3 HS3
  have EU3 := hidS hu3
  have EA3 := hidS ha3
  have EK3 := hidS hk3
  clear hu3 ha3 hk3
  have v0 := blk_cell B310.out 0
  have v1 := blk_cell B310.out 1
  simp at v0 v1
  go_wp2_with fail
  refine (HI3.out _ _ _ _ _ Z310.out).mono ?_
  rintro _ w11 ⟨aS3, cS3, aH3, cH3, rfl, hO, hb⟩
  have O311 := hidS hO.read
  clear hO v0 v1
  have Z111 := hidS (Z110.out.later hb)
  have B111 := hidS (blk_later B110.out hb)
  have O111 := hidS (O110.out.later hb)
  have Y111 := hidS (blk_later Y110.out hb)
  have Z211 := hidS (Z210.out.later hb)
  have B211 := hidS (blk_later B210.out hb)
  have O211 := hidS (O210.out.later hb)
  have Y211 := hidS (blk_later Y210.out hb)
  have Z311 := hidS (Z310.out.later hb)
  have B311 := hidS (blk_later B310.out hb)
  have hL11 := hidS (hL10.out.trans (hb.mono hL10.out.size))
  clear Z110 B110 O110 Y110 Z210 B210 O210 Y210 Z310 B310 hL10 hb
  have Z112 := hidS (Z111.out.later ((Below.refl w11.heap.size w11).alloc (Nat.le_refl _) (.cells #[.slice aS3 u3.slots.length cS3, .slice aH3 u3.heads.length cH3, .int .i64 pl3, .int .i64 k3] 30)))
  have B112 := hidS (blk_alloc B111.out (.cells #[.slice aS3 u3.slots.length cS3, .slice aH3 u3.heads.length cH3, .int .i64 pl3, .int .i64 k3] 30))
  have O112 := hidS (O111.out.later ((Below.refl w11.heap.size w11).alloc (Nat.le_refl _) (.cells #[.slice aS3 u3.slots.length cS3, .slice aH3 u3.heads.length cH3, .int .i64 pl3, .int .i64 k3] 30)))
  have Y112 := hidS (blk_alloc Y111.out (.cells #[.slice aS3 u3.slots.length cS3, .slice aH3 u3.heads.length cH3, .int .i64 pl3, .int .i64 k3] 30))
  have Z212 := hidS (Z211.out.later ((Below.refl w11.heap.size w11).alloc (Nat.le_refl _) (.cells #[.slice aS3 u3.slots.length cS3, .slice aH3 u3.heads.length cH3, .int .i64 pl3, .int .i64 k3] 30)))
  have B212 := hidS (blk_alloc B211.out (.cells #[.slice aS3 u3.slots.length cS3, .slice aH3 u3.heads.length cH3, .int .i64 pl3, .int .i64 k3] 30))
  have O212 := hidS (O211.out.later ((Below.refl w11.heap.size w11).alloc (Nat.le_refl _) (.cells #[.slice aS3 u3.slots.length cS3, .slice aH3 u3.heads.length cH3, .int .i64 pl3, .int .i64 k3] 30)))
  have Y212 := hidS (blk_alloc Y211.out (.cells #[.slice aS3 u3.slots.length cS3, .slice aH3 u3.heads.length cH3, .int .i64 pl3, .int .i64 k3] 30))
  have Z312 := hidS (Z311.out.later ((Below.refl w11.heap.size w11).alloc (Nat.le_refl _) (.cells #[.slice aS3 u3.slots.length cS3, .slice aH3 u3.heads.length cH3, .int .i64 pl3, .int .i64 k3] 30)))
  have B312 := hidS (blk_alloc B311.out (.cells #[.slice aS3 u3.slots.length cS3, .slice aH3 u3.heads.length cH3, .int .i64 pl3, .int .i64 k3] 30))
  have O312 := hidS (O311.out.later ((Below.refl w11.heap.size w11).alloc (Nat.le_refl _) (.cells #[.slice aS3 u3.slots.length cS3, .slice aH3 u3.heads.length cH3, .int .i64 pl3, .int .i64 k3] 30)))
  have Y312 := hidS (heap_newG w11 (.cells #[.slice aS3 u3.slots.length cS3, .slice aH3 u3.heads.length cH3, .int .i64 pl3, .int .i64 k3] 30))
  have hL12 := hidS (hL11.out.alloc hL11.out.size (.cells #[.slice aS3 u3.slots.length cS3, .slice aH3 u3.heads.length cH3, .int .i64 pl3, .int .i64 k3] 30))
  clear Z111 B111 O111 Y111 Z211 B211 O211 Y211 Z311 B311 O311 hL11
  go_upto_region 9 with fail
  generalize w11.alloc (.cells #[.slice aS3 u3.slots.length cS3, .slice aH3 u3.heads.length cH3, .int .i64 pl3, .int .i64 k3] 30) = w12 at Z112 B112 O112 Y112 Z212 B212 O212 Y212 Z312 B312 O312 Y312 hL12 ⊢
  generalize w11.heap.size = y3 at *
  go_wp2_with fail
  refine (drawSlabPut_any a0 len0 cap0 _ (rowAt_up (rowAt_later H0.out hL12.out) hL12.out.size) hl0).mono ?_
  rintro _ w13 ⟨t4, xb4, xo4, xc4, yb4, yo4, yc4, put, rfl, hd4, hn4, _, _, P4, Q4, putlo, puthi, hb⟩
  have D4 := hidS hd4
  have Z413 : Hid (SlabZ (some ⟨xb4, xo4, none⟩) (some ⟨yb4, yo4, none⟩) t4 w13) := hidS ⟨P4.read, Q4.read⟩
  clear hd4 hn4 P4 Q4
  have Z113 := hidS (Z112.out.later hb)
  have B113 := hidS (blk_later B112.out hb)
  have O113 := hidS (O112.out.later hb)
  have Y113 := hidS (blk_later Y112.out hb)
  have Z213 := hidS (Z212.out.later hb)
  have B213 := hidS (blk_later B212.out hb)
  have O213 := hidS (O212.out.later hb)
  have Y213 := hidS (blk_later Y212.out hb)
  have Z313 := hidS (Z312.out.later hb)
  have B313 := hidS (blk_later B312.out hb)
  have O313 := hidS (O312.out.later hb)
  have Y313 := hidS (blk_later Y312.out hb)
  have hL13 := hidS (hL12.out.trans (hb.mono hL12.out.size))
  clear Z112 B112 O112 Y112 Z212 B212 O212 Y212 Z312 B312 O312 Y312 hL12 hb
  have Z114 := hidS (Z113.out.later ((Below.refl w13.heap.size w13).alloc (Nat.le_refl _) (.cells #[.slice (some ⟨xb4, xo4, none⟩) t4.slots.length xc4, .slice (some ⟨yb4, yo4, none⟩) t4.heads.length yc4] 26)))
  have B114 := hidS (blk_alloc B113.out (.cells #[.slice (some ⟨xb4, xo4, none⟩) t4.slots.length xc4, .slice (some ⟨yb4, yo4, none⟩) t4.heads.length yc4] 26))
  have O114 := hidS (O113.out.later ((Below.refl w13.heap.size w13).alloc (Nat.le_refl _) (.cells #[.slice (some ⟨xb4, xo4, none⟩) t4.slots.length xc4, .slice (some ⟨yb4, yo4, none⟩) t4.heads.length yc4] 26)))
  have Y114 := hidS (blk_alloc Y113.out (.cells #[.slice (some ⟨xb4, xo4, none⟩) t4.slots.length xc4, .slice (some ⟨yb4, yo4, none⟩) t4.heads.length yc4] 26))
  have Z214 := hidS (Z213.out.later ((Below.refl w13.heap.size w13).alloc (Nat.le_refl _) (.cells #[.slice (some ⟨xb4, xo4, none⟩) t4.slots.length xc4, .slice (some ⟨yb4, yo4, none⟩) t4.heads.length yc4] 26)))
  have B214 := hidS (blk_alloc B213.out (.cells #[.slice (some ⟨xb4, xo4, none⟩) t4.slots.length xc4, .slice (some ⟨yb4, yo4, none⟩) t4.heads.length yc4] 26))
  have O214 := hidS (O213.out.later ((Below.refl w13.heap.size w13).alloc (Nat.le_refl _) (.cells #[.slice (some ⟨xb4, xo4, none⟩) t4.slots.length xc4, .slice (some ⟨yb4, yo4, none⟩) t4.heads.length yc4] 26)))
  have Y214 := hidS (blk_alloc Y213.out (.cells #[.slice (some ⟨xb4, xo4, none⟩) t4.slots.length xc4, .slice (some ⟨yb4, yo4, none⟩) t4.heads.length yc4] 26))
  have Z314 := hidS (Z313.out.later ((Below.refl w13.heap.size w13).alloc (Nat.le_refl _) (.cells #[.slice (some ⟨xb4, xo4, none⟩) t4.slots.length xc4, .slice (some ⟨yb4, yo4, none⟩) t4.heads.length yc4] 26)))
  have B314 := hidS (blk_alloc B313.out (.cells #[.slice (some ⟨xb4, xo4, none⟩) t4.slots.length xc4, .slice (some ⟨yb4, yo4, none⟩) t4.heads.length yc4] 26))
  have O314 := hidS (O313.out.later ((Below.refl w13.heap.size w13).alloc (Nat.le_refl _) (.cells #[.slice (some ⟨xb4, xo4, none⟩) t4.slots.length xc4, .slice (some ⟨yb4, yo4, none⟩) t4.heads.length yc4] 26)))
  have Y314 := hidS (blk_alloc Y313.out (.cells #[.slice (some ⟨xb4, xo4, none⟩) t4.slots.length xc4, .slice (some ⟨yb4, yo4, none⟩) t4.heads.length yc4] 26))
  have Z414 := hidS (Z413.out.later ((Below.refl w13.heap.size w13).alloc (Nat.le_refl _) (.cells #[.slice (some ⟨xb4, xo4, none⟩) t4.slots.length xc4, .slice (some ⟨yb4, yo4, none⟩) t4.heads.length yc4] 26)))
  have B414 := hidS (heap_newG w13 (.cells #[.slice (some ⟨xb4, xo4, none⟩) t4.slots.length xc4, .slice (some ⟨yb4, yo4, none⟩) t4.heads.length yc4] 26))
  have hL14 := hidS (hL13.out.alloc hL13.out.size (.cells #[.slice (some ⟨xb4, xo4, none⟩) t4.slots.length xc4, .slice (some ⟨yb4, yo4, none⟩) t4.heads.length yc4] 26))
  clear Z113 B113 O113 Y113 Z213 B213 O213 Y213 Z313 B313 O313 Y313 Z413 hL13
  go_upto_region 10 with fail
  generalize w13.alloc (.cells #[.slice (some ⟨xb4, xo4, none⟩) t4.slots.length xc4, .slice (some ⟨yb4, yo4, none⟩) t4.heads.length yc4] 26) = w14 at Z114 B114 O114 Y114 Z214 B214 O214 Y214 Z314 B314 O314 Y314 Z414 B414 hL14 ⊢
  generalize w13.heap.size = x4 at *
  go_wp2_with fail
  refine (drawChainOf_any a1 len1 cap1 _ (rowAt_up (rowAt_later H1.out hL14.out) hL14.out.size) hl1).mono ?_
  rintro _ w15 ⟨t5, xb5, xo5, xc5, yb5, yo5, yc5, chn, rfl, hd5, hn5, _, _, P5, Q5, chnlo, chnhi, hb⟩
  have D5 := hidS hd5
  have Z515 : Hid (SlabZ (some ⟨xb5, xo5, none⟩) (some ⟨yb5, yo5, none⟩) t5 w15) := hidS ⟨P5.read, Q5.read⟩
  clear hd5 hn5 P5 Q5
  have Z115 := hidS (Z114.out.later hb)
  have B115 := hidS (blk_later B114.out hb)
  have O115 := hidS (O114.out.later hb)
  have Y115 := hidS (blk_later Y114.out hb)
  have Z215 := hidS (Z214.out.later hb)
  have B215 := hidS (blk_later B214.out hb)
  have O215 := hidS (O214.out.later hb)
  have Y215 := hidS (blk_later Y214.out hb)
  have Z315 := hidS (Z314.out.later hb)
  have B315 := hidS (blk_later B314.out hb)
  have O315 := hidS (O314.out.later hb)
  have Y315 := hidS (blk_later Y314.out hb)
  have Z415 := hidS (Z414.out.later hb)
  have B415 := hidS (blk_later B414.out hb)
  have hL15 := hidS (hL14.out.trans (hb.mono hL14.out.size))
  clear Z114 B114 O114 Y114 Z214 B214 O214 Y214 Z314 B314 O314 Y314 Z414 B414 hL14 hb
  have Z116 := hidS (Z115.out.later ((Below.refl w15.heap.size w15).alloc (Nat.le_refl _) (.cells #[.slice (some ⟨xb5, xo5, none⟩) t5.slots.length xc5, .slice (some ⟨yb5, yo5, none⟩) t5.heads.length yc5] 26)))
  have B116 := hidS (blk_alloc B115.out (.cells #[.slice (some ⟨xb5, xo5, none⟩) t5.slots.length xc5, .slice (some ⟨yb5, yo5, none⟩) t5.heads.length yc5] 26))
  have O116 := hidS (O115.out.later ((Below.refl w15.heap.size w15).alloc (Nat.le_refl _) (.cells #[.slice (some ⟨xb5, xo5, none⟩) t5.slots.length xc5, .slice (some ⟨yb5, yo5, none⟩) t5.heads.length yc5] 26)))
  have Y116 := hidS (blk_alloc Y115.out (.cells #[.slice (some ⟨xb5, xo5, none⟩) t5.slots.length xc5, .slice (some ⟨yb5, yo5, none⟩) t5.heads.length yc5] 26))
  have Z216 := hidS (Z215.out.later ((Below.refl w15.heap.size w15).alloc (Nat.le_refl _) (.cells #[.slice (some ⟨xb5, xo5, none⟩) t5.slots.length xc5, .slice (some ⟨yb5, yo5, none⟩) t5.heads.length yc5] 26)))
  have B216 := hidS (blk_alloc B215.out (.cells #[.slice (some ⟨xb5, xo5, none⟩) t5.slots.length xc5, .slice (some ⟨yb5, yo5, none⟩) t5.heads.length yc5] 26))
  have O216 := hidS (O215.out.later ((Below.refl w15.heap.size w15).alloc (Nat.le_refl _) (.cells #[.slice (some ⟨xb5, xo5, none⟩) t5.slots.length xc5, .slice (some ⟨yb5, yo5, none⟩) t5.heads.length yc5] 26)))
  have Y216 := hidS (blk_alloc Y215.out (.cells #[.slice (some ⟨xb5, xo5, none⟩) t5.slots.length xc5, .slice (some ⟨yb5, yo5, none⟩) t5.heads.length yc5] 26))
  have Z316 := hidS (Z315.out.later ((Below.refl w15.heap.size w15).alloc (Nat.le_refl _) (.cells #[.slice (some ⟨xb5, xo5, none⟩) t5.slots.length xc5, .slice (some ⟨yb5, yo5, none⟩) t5.heads.length yc5] 26)))
  have B316 := hidS (blk_alloc B315.out (.cells #[.slice (some ⟨xb5, xo5, none⟩) t5.slots.length xc5, .slice (some ⟨yb5, yo5, none⟩) t5.heads.length yc5] 26))
  have O316 := hidS (O315.out.later ((Below.refl w15.heap.size w15).alloc (Nat.le_refl _) (.cells #[.slice (some ⟨xb5, xo5, none⟩) t5.slots.length xc5, .slice (some ⟨yb5, yo5, none⟩) t5.heads.length yc5] 26)))
  have Y316 := hidS (blk_alloc Y315.out (.cells #[.slice (some ⟨xb5, xo5, none⟩) t5.slots.length xc5, .slice (some ⟨yb5, yo5, none⟩) t5.heads.length yc5] 26))
  have Z416 := hidS (Z415.out.later ((Below.refl w15.heap.size w15).alloc (Nat.le_refl _) (.cells #[.slice (some ⟨xb5, xo5, none⟩) t5.slots.length xc5, .slice (some ⟨yb5, yo5, none⟩) t5.heads.length yc5] 26)))
  have B416 := hidS (blk_alloc B415.out (.cells #[.slice (some ⟨xb5, xo5, none⟩) t5.slots.length xc5, .slice (some ⟨yb5, yo5, none⟩) t5.heads.length yc5] 26))
  have Z516 := hidS (Z515.out.later ((Below.refl w15.heap.size w15).alloc (Nat.le_refl _) (.cells #[.slice (some ⟨xb5, xo5, none⟩) t5.slots.length xc5, .slice (some ⟨yb5, yo5, none⟩) t5.heads.length yc5] 26)))
  have B516 := hidS (heap_newG w15 (.cells #[.slice (some ⟨xb5, xo5, none⟩) t5.slots.length xc5, .slice (some ⟨yb5, yo5, none⟩) t5.heads.length yc5] 26))
  have hL16 := hidS (hL15.out.alloc hL15.out.size (.cells #[.slice (some ⟨xb5, xo5, none⟩) t5.slots.length xc5, .slice (some ⟨yb5, yo5, none⟩) t5.heads.length yc5] 26))
  clear Z115 B115 O115 Y115 Z215 B215 O215 Y215 Z315 B315 O315 Y315 Z415 B415 Z515 hL15
  go_upto_region 11 with fail
  generalize w15.alloc (.cells #[.slice (some ⟨xb5, xo5, none⟩) t5.slots.length xc5, .slice (some ⟨yb5, yo5, none⟩) t5.heads.length yc5] 26) = w16 at Z116 B116 O116 Y116 Z216 B216 O216 Y216 Z316 B316 O316 Y316 Z416 B416 Z516 B516 hL16 ⊢
  generalize w15.heap.size = x5 at *
  go_wp2_with fail
  refine (drawSlabFind_any a0 len0 cap0 _ (rowAt_up (rowAt_later H0.out hL16.out) hL16.out.size) hl0).mono ?_
  rintro _ w17 ⟨t6, xb6, xo6, xc6, yb6, yo6, yc6, som, rfl, hd6, hn6, _, _, P6, Q6, somlo, somhi, hb⟩
  have D6 := hidS hd6
  have Z617 : Hid (SlabZ (some ⟨xb6, xo6, none⟩) (some ⟨yb6, yo6, none⟩) t6 w17) := hidS ⟨P6.read, Q6.read⟩
  clear hd6 hn6 P6 Q6
  have Z117 := hidS (Z116.out.later hb)
  have B117 := hidS (blk_later B116.out hb)
  have O117 := hidS (O116.out.later hb)
  have Y117 := hidS (blk_later Y116.out hb)
  have Z217 := hidS (Z216.out.later hb)
  have B217 := hidS (blk_later B216.out hb)
  have O217 := hidS (O216.out.later hb)
  have Y217 := hidS (blk_later Y216.out hb)
  have Z317 := hidS (Z316.out.later hb)
  have B317 := hidS (blk_later B316.out hb)
  have O317 := hidS (O316.out.later hb)
  have Y317 := hidS (blk_later Y316.out hb)
  have Z417 := hidS (Z416.out.later hb)
  have B417 := hidS (blk_later B416.out hb)
  have Z517 := hidS (Z516.out.later hb)
  have B517 := hidS (blk_later B516.out hb)
  have hL17 := hidS (hL16.out.trans (hb.mono hL16.out.size))
  clear Z116 B116 O116 Y116 Z216 B216 O216 Y216 Z316 B316 O316 Y316 Z416 B416 Z516 B516 hL16 hb
  have Z118 := hidS (Z117.out.later ((Below.refl w17.heap.size w17).alloc (Nat.le_refl _) (.cells #[.slice (some ⟨xb6, xo6, none⟩) t6.slots.length xc6, .slice (some ⟨yb6, yo6, none⟩) t6.heads.length yc6] 26)))
  have B118 := hidS (blk_alloc B117.out (.cells #[.slice (some ⟨xb6, xo6, none⟩) t6.slots.length xc6, .slice (some ⟨yb6, yo6, none⟩) t6.heads.length yc6] 26))
  have O118 := hidS (O117.out.later ((Below.refl w17.heap.size w17).alloc (Nat.le_refl _) (.cells #[.slice (some ⟨xb6, xo6, none⟩) t6.slots.length xc6, .slice (some ⟨yb6, yo6, none⟩) t6.heads.length yc6] 26)))
  have Y118 := hidS (blk_alloc Y117.out (.cells #[.slice (some ⟨xb6, xo6, none⟩) t6.slots.length xc6, .slice (some ⟨yb6, yo6, none⟩) t6.heads.length yc6] 26))
  have Z218 := hidS (Z217.out.later ((Below.refl w17.heap.size w17).alloc (Nat.le_refl _) (.cells #[.slice (some ⟨xb6, xo6, none⟩) t6.slots.length xc6, .slice (some ⟨yb6, yo6, none⟩) t6.heads.length yc6] 26)))
  have B218 := hidS (blk_alloc B217.out (.cells #[.slice (some ⟨xb6, xo6, none⟩) t6.slots.length xc6, .slice (some ⟨yb6, yo6, none⟩) t6.heads.length yc6] 26))
  have O218 := hidS (O217.out.later ((Below.refl w17.heap.size w17).alloc (Nat.le_refl _) (.cells #[.slice (some ⟨xb6, xo6, none⟩) t6.slots.length xc6, .slice (some ⟨yb6, yo6, none⟩) t6.heads.length yc6] 26)))
  have Y218 := hidS (blk_alloc Y217.out (.cells #[.slice (some ⟨xb6, xo6, none⟩) t6.slots.length xc6, .slice (some ⟨yb6, yo6, none⟩) t6.heads.length yc6] 26))
  have Z318 := hidS (Z317.out.later ((Below.refl w17.heap.size w17).alloc (Nat.le_refl _) (.cells #[.slice (some ⟨xb6, xo6, none⟩) t6.slots.length xc6, .slice (some ⟨yb6, yo6, none⟩) t6.heads.length yc6] 26)))
  have B318 := hidS (blk_alloc B317.out (.cells #[.slice (some ⟨xb6, xo6, none⟩) t6.slots.length xc6, .slice (some ⟨yb6, yo6, none⟩) t6.heads.length yc6] 26))
  have O318 := hidS (O317.out.later ((Below.refl w17.heap.size w17).alloc (Nat.le_refl _) (.cells #[.slice (some ⟨xb6, xo6, none⟩) t6.slots.length xc6, .slice (some ⟨yb6, yo6, none⟩) t6.heads.length yc6] 26)))
  have Y318 := hidS (blk_alloc Y317.out (.cells #[.slice (some ⟨xb6, xo6, none⟩) t6.slots.length xc6, .slice (some ⟨yb6, yo6, none⟩) t6.heads.length yc6] 26))
  have Z418 := hidS (Z417.out.later ((Below.refl w17.heap.size w17).alloc (Nat.le_refl _) (.cells #[.slice (some ⟨xb6, xo6, none⟩) t6.slots.length xc6, .slice (some ⟨yb6, yo6, none⟩) t6.heads.length yc6] 26)))
  have B418 := hidS (blk_alloc B417.out (.cells #[.slice (some ⟨xb6, xo6, none⟩) t6.slots.length xc6, .slice (some ⟨yb6, yo6, none⟩) t6.heads.length yc6] 26))
  have Z518 := hidS (Z517.out.later ((Below.refl w17.heap.size w17).alloc (Nat.le_refl _) (.cells #[.slice (some ⟨xb6, xo6, none⟩) t6.slots.length xc6, .slice (some ⟨yb6, yo6, none⟩) t6.heads.length yc6] 26)))
  have B518 := hidS (blk_alloc B517.out (.cells #[.slice (some ⟨xb6, xo6, none⟩) t6.slots.length xc6, .slice (some ⟨yb6, yo6, none⟩) t6.heads.length yc6] 26))
  have Z618 := hidS (Z617.out.later ((Below.refl w17.heap.size w17).alloc (Nat.le_refl _) (.cells #[.slice (some ⟨xb6, xo6, none⟩) t6.slots.length xc6, .slice (some ⟨yb6, yo6, none⟩) t6.heads.length yc6] 26)))
  have B618 := hidS (heap_newG w17 (.cells #[.slice (some ⟨xb6, xo6, none⟩) t6.slots.length xc6, .slice (some ⟨yb6, yo6, none⟩) t6.heads.length yc6] 26))
  have hL18 := hidS (hL17.out.alloc hL17.out.size (.cells #[.slice (some ⟨xb6, xo6, none⟩) t6.slots.length xc6, .slice (some ⟨yb6, yo6, none⟩) t6.heads.length yc6] 26))
  clear Z117 B117 O117 Y117 Z217 B217 O217 Y217 Z317 B317 O317 Y317 Z417 B417 Z517 B517 Z617 hL17
  go_upto_region 12 with fail
  generalize w17.alloc (.cells #[.slice (some ⟨xb6, xo6, none⟩) t6.slots.length xc6, .slice (some ⟨yb6, yo6, none⟩) t6.heads.length yc6] 26) = w18 at Z118 B118 O118 Y118 Z218 B218 O218 Y218 Z318 B318 O318 Y318 Z418 B418 Z518 B518 Z618 B618 hL18 ⊢
  generalize w17.heap.size = x6 at *
  go_wp2_with fail
  refine (drawSlabNew_any a1 len1 cap1 _ (rowAt_up (rowAt_later H1.out hL18.out) hL18.out.size) hl1).mono ?_
  rintro _ w19 ⟨nn, mm, rfl, hb⟩
  have Z119 := hidS (Z118.out.later hb)
  have B119 := hidS (blk_later B118.out hb)
  have O119 := hidS (O118.out.later hb)
  have Y119 := hidS (blk_later Y118.out hb)
  have Z219 := hidS (Z218.out.later hb)
  have B219 := hidS (blk_later B218.out hb)
  have O219 := hidS (O218.out.later hb)
  have Y219 := hidS (blk_later Y218.out hb)
  have Z319 := hidS (Z318.out.later hb)
  have B319 := hidS (blk_later B318.out hb)
  have O319 := hidS (O318.out.later hb)
  have Y319 := hidS (blk_later Y318.out hb)
  have Z419 := hidS (Z418.out.later hb)
  have B419 := hidS (blk_later B418.out hb)
  have Z519 := hidS (Z518.out.later hb)
  have B519 := hidS (blk_later B518.out hb)
  have Z619 := hidS (Z618.out.later hb)
  have B619 := hidS (blk_later B618.out hb)
  have hL19 := hidS (hL18.out.trans (hb.mono hL18.out.size))
  clear Z118 B118 O118 Y118 Z218 B218 O218 Y218 Z318 B318 O318 Y318 Z418 B418 Z518 B518 Z618 B618 hL18 hb
  have LU1 : Hid (u1.slots.length ≤ 1048576 ∧ u1.heads.length ≤ 1048576) := by
    show _ ∧ _
    rw [← EU1.out]
    have := D1.out.n2
    have := D1.out.n4
    unfold addS
    split
    · simp [addIn]; omega
    · simp
  have LU2 : Hid (u2.slots.length ≤ 1048576 ∧ u2.heads.length ≤ 1048576) := by
    show _ ∧ _
    rw [← EU2.out]
    have := D2.out.n2
    have := D2.out.n4
    unfold cutS
    split
    · rw [cutIn_len.1, cutIn_len.2]; omega
    · simp
  have LU3 : Hid (u3.slots.length ≤ 1048576 ∧ u3.heads.length ≤ 1048576) := by
    show _ ∧ _
    rw [← EU3.out]
    have := D3.out.n2
    have := D3.out.n4
    unfold getS
    split
    · simp [refS]; omega
    · simp
  have RU1 : Hid (k1 = 0 → rightSl u1 = true) := by
    intro h0
    rw [← EK1.out] at h0
    rw [← EU1.out]
    unfold addS
    rw [if_pos h0]
    exact (add_facts h0).1
  have RU2 : Hid (k2 = 0 → rightSl u2 = true) := by
    intro h0
    rw [← EK2.out] at h0
    rw [← EU2.out]
    unfold cutS
    rw [if_pos h0]
    exact (cut_facts h0).1
  have RU3 : Hid (k3 = 0 → rightSl u3 = true) := by
    intro h0
    rw [← EK3.out] at h0
    rw [← EU3.out]
    exact get_right h0
  have HI4 := hidS (fun (aS aH : Option Addr) (c e : Nat) (W : World) (h : SlabZ aS aH t4 W) => implSlabPut_any aS aH c e t4 put W h D4.out.fit (by have := D4.out.n2; omega) (by have := D4.out.n4; omega))
  have HS4 := hidS (fun (aS aH : Option Addr) (c e : Nat) (W : World) (h : SlabZ aS aH t4 W) => specSlabPut_any aS aH c e t4 put W h (by have := D4.out.n2; omega) (by have := D4.out.n4; omega))
  have LU4 : Hid ((putS t4 put).slots.length ≤ 1048576 ∧ (putS t4 put).heads.length ≤ 1048576) := by
    show _ ∧ _
    have := D4.out.n2
    have := D4.out.n4
    unfold putS
    split
    · simp [refS]; omega
    · simp
  have RU4 : Hid (putC t4 put = 0 → rightSl (putS t4 put) = true) := hidS (fun h0 => put_right h0)
  generalize putS t4 put = u4 at HI4 HS4 LU4 RU4
  generalize putA t4 put = pl4 at HI4 HS4
  generalize putC t4 put = k4 at HI4 HS4 RU4
  have HIC := hidS (fun (aS aH : Option Addr) (c e : Nat) (W : World) (h : SlabZ aS aH t5 W) => implChainOf_any aS aH c e t5 chn W h D5.out.fit (by have := D5.out.n2; omega) (by have := D5.out.n4; omega))
  have HSC := hidS (fun (aS aH : Option Addr) (c e : Nat) (W : World) (h : SlabZ aS aH t5 W) => specChainOf_any aS aH c e t5 chn W h (by have := D5.out.n2; omega) (by have := D5.out.n4; omega))
  have LZ := hidS (chainAns_len (s := t5) (c := chn))
  generalize chainAns t5 chn = zz at HIC HSC LZ
  have LZ2 : Hid (zz.length ≤ 1048576) := by show _ ≤ _; have := LZ.out; omega
  have HIR := hidS (fun (aS aH : Option Addr) (c e : Nat) (W : World) (h : SlabZ aS aH t5 W) => implSlabRight_any aS aH c e t5 W h D5.out.fit (by have := D5.out.n2; omega) (by have := D5.out.n4; omega))
  have HSR := hidS (fun (aS aH : Option Addr) (c e : Nat) (W : World) (h : SlabZ aS aH t5 W) => specSlabRight_any aS aH c e t5 W h (by have := D5.out.n2; omega) (by have := D5.out.n4; omega))
  generalize rightSl t5 = rr at HIR HSR
  have HIF := hidS (fun (aS aH : Option Addr) (c e : Nat) (W : World) (h : SlabZ aS aH t6 W) => implSlabFind_any aS aH c e t6 som W h D6.out.fit (by have := D6.out.n2; omega) (by have := D6.out.n4; omega))
  have HSF := hidS (fun (aS aH : Option Addr) (c e : Nat) (W : World) (h : SlabZ aS aH t6 W) => specSlabFind_any aS aH c e t6 som W h (by have := D6.out.n2; omega) (by have := D6.out.n4; omega))
  generalize findAns t6 som = fa at HIF HSF
  have HIN := hidS (fun W => implSlabNew_any nn mm W)
  have HSN := hidS (fun W => specSlabNew_any nn mm W)
  have LN := hidS (new_len (n := nn) (m := mm))
  generalize newSl nn mm = nw at HIN HSN LN
  have LN2 : Hid (nw.slots.length ≤ 1048576 ∧ nw.heads.length ≤ 1048576) := by show _ ∧ _; have := LN.out; omega
  go_wp2_with fail
  refine grow_gk 68 [isP (.agg #[.slice aS1 u1.slots.length cS1, .slice aH1 u1.heads.length cH1, .int .i64 pl1, .int .i64 k1]), isP (.agg #[.slice (some ⟨xb1, xo1, none⟩) t1.slots.length xc1, .slice (some ⟨yb1, yo1, none⟩) t1.heads.length yc1]), isP (.int .i64 key), outK u1 pl1 k1, isP (.bool true), isP (.bool false), isP (.bool false), isP (.agg #[.slice aS2 u2.slots.length cS2, .slice aH2 u2.heads.length cH2, .int .i64 pl2, .int .i64 k2]), isP (.agg #[.slice (some ⟨xb2, xo2, none⟩) t2.slots.length xc2, .slice (some ⟨yb2, yo2, none⟩) t2.heads.length yc2]), isP (.int .i64 gone), outK u2 pl2 k2, isP (.bool true), isP (.bool false), isP (.bool false), isP (.bool false), isP (.agg #[.slice aS3 u3.slots.length cS3, .slice aH3 u3.heads.length cH3, .int .i64 pl3, .int .i64 k3]), isP (.agg #[.slice (some ⟨xb3, xo3, none⟩) t3.slots.length xc3, .slice (some ⟨yb3, yo3, none⟩) t3.heads.length yc3]), isP (.int .i64 at3), outK u3 pl3 k3, isP (.bool true), isP (.bool false), isP (.bool false), isP (.bool false), isP (.agg #[.slice (some ⟨xb4, xo4, none⟩) t4.slots.length xc4, .slice (some ⟨yb4, yo4, none⟩) t4.heads.length yc4]), isP (.int .i64 put), outK u4 pl4 k4, isP (.agg #[.slice (some ⟨xb4, xo4, none⟩) t4.slots.length xc4, .slice (some ⟨yb4, yo4, none⟩) t4.heads.length yc4]), isP (.int .i64 put), outK u4 pl4 k4, isP (.bool true), isP (.bool false), isP (.bool false), isP (.bool false), isP (.agg #[.slice (some ⟨xb5, xo5, none⟩) t5.slots.length xc5, .slice (some ⟨yb5, yo5, none⟩) t5.heads.length yc5]), isP (.int .i64 chn), numsK (zz), isP (.agg #[.slice (some ⟨xb5, xo5, none⟩) t5.slots.length xc5, .slice (some ⟨yb5, yo5, none⟩) t5.heads.length yc5]), isP (.int .i64 chn), numsK (zz), isP (.bool true), isP (.bool false), isP (.bool false), isP (.bool false), isP (.agg #[.slice (some ⟨xb6, xo6, none⟩) t6.slots.length xc6, .slice (some ⟨yb6, yo6, none⟩) t6.heads.length yc6]), isP (.int .i64 som), isP (.int .i64 fa), isP (.agg #[.slice (some ⟨xb6, xo6, none⟩) t6.slots.length xc6, .slice (some ⟨yb6, yo6, none⟩) t6.heads.length yc6]), isP (.int .i64 som), isP (.int .i64 fa), isP (.bool false), isP (.bool false), isP (.bool false), isP (.int .i64 nn), isP (.int .i64 mm), slK nw, isP (.int .i64 nn), isP (.int .i64 mm), slK nw, isP (.bool true), isP (.bool false), isP (.bool false), isP (.bool false), isP (.agg #[.slice (some ⟨xb5, xo5, none⟩) t5.slots.length xc5, .slice (some ⟨yb5, yo5, none⟩) t5.heads.length yc5]), isP (.bool rr), isP (.agg #[.slice (some ⟨xb5, xo5, none⟩) t5.slots.length xc5, .slice (some ⟨yb5, yo5, none⟩) t5.heads.length yc5]), isP (.bool rr), isP (.bool false), isP (.bool false)] rfl (by kernel_rfl) (by kernel_rfl) ⟨(fun v W W' h _ => h), (fun v W W' h _ => h), (fun v W W' h _ => h), (outK_last _ _ _), (fun v W W' h _ => h), (fun v W W' h _ => h), (fun v W W' h _ => h), (fun v W W' h _ => h), (fun v W W' h _ => h), (fun v W W' h _ => h), (outK_last _ _ _), (fun v W W' h _ => h), (fun v W W' h _ => h), (fun v W W' h _ => h), (fun v W W' h _ => h), (fun v W W' h _ => h), (fun v W W' h _ => h), (fun v W W' h _ => h), (outK_last _ _ _), (fun v W W' h _ => h), (fun v W W' h _ => h), (fun v W W' h _ => h), (fun v W W' h _ => h), (fun v W W' h _ => h), (fun v W W' h _ => h), (outK_last _ _ _), (fun v W W' h _ => h), (fun v W W' h _ => h), (outK_last _ _ _), (fun v W W' h _ => h), (fun v W W' h _ => h), (fun v W W' h _ => h), (fun v W W' h _ => h), (fun v W W' h _ => h), (fun v W W' h _ => h), (numsK_last _), (fun v W W' h _ => h), (fun v W W' h _ => h), (numsK_last _), (fun v W W' h _ => h), (fun v W W' h _ => h), (fun v W W' h _ => h), (fun v W W' h _ => h), (fun v W W' h _ => h), (fun v W W' h _ => h), (fun v W W' h _ => h), (fun v W W' h _ => h), (fun v W W' h _ => h), (fun v W W' h _ => h), (fun v W W' h _ => h), (fun v W W' h _ => h), (fun v W W' h _ => h), (fun v W W' h _ => h), (fun v W W' h _ => h), (slK_last _), (fun v W W' h _ => h), (fun v W W' h _ => h), (slK_last _), (fun v W W' h _ => h), (fun v W W' h _ => h), (fun v W W' h _ => h), (fun v W W' h _ => h), (fun v W W' h _ => h), (fun v W W' h _ => h), (fun v W W' h _ => h), (fun v W W' h _ => h), (fun v W W' h _ => h), (fun v W W' h _ => h), trivial⟩ ?stepsT13 ?finT13
  case stepsT13 =>
    refine ⟨?_, ?_, ?_, ?_, ?_, ?_, ?_, ?_, ?_, ?_, ?_, ?_, ?_, ?_, ?_, ?_, ?_, ?_, ?_, ?_, ?_, ?_, ?_, ?_, ?_, ?_, ?_, ?_, ?_, ?_, ?_, ?_, ?_, ?_, ?_, ?_, ?_, ?_, ?_, ?_, ?_, ?_, ?_, ?_, ?_, ?_, ?_, ?_, ?_, ?_, ?_, ?_, ?_, ?_, ?_, ?_, ?_, ?_, ?_, ?_, ?_, ?_, ?_, ?_, ?_, ?_, ?_, ?_, trivial⟩
    · refine stepW_of_u ⟨rfl, fun v W ρ hC kc kf ks ki kd => ?_⟩
      have t7 : ρ (.tmp 7) = .pointer (some ⟨y1, 0, none⟩) := ki 7 (by decide)
      have hg := blk_later Y119.out hC
      have c0 := blk_cell hg 0
      have c1 := blk_cell hg 1
      have c2 := blk_cell hg 2
      have c3 := blk_cell hg 3
      simp at c0 c1 c2 c3
      simp [execOp, go_sem, kc, t7, c0, c1, c2, c3]
      exact ⟨hC, Below.refl _ _, rfl⟩
    · refine stepW_of_u ⟨rfl, fun v W ρ hC kc kf ks ki kd => ?_⟩
      have t5 : ρ (.tmp 5) = .pointer (some ⟨x1, 0, none⟩) := ki 5 (by decide)
      have hg := blk_later B119.out hC
      have c0 := blk_cell hg 0
      have c1 := blk_cell hg 1
      simp at c0 c1
      simp [execOp, go_sem, kc, t5, c0, c1]
      exact ⟨hC, Below.refl _ _, rfl⟩
    · refine stepW_of_u ⟨rfl, fun v W ρ hC kc kf ks ki kd => ?_⟩
      have t6 : ρ (.tmp 6) = .int .i64 key := ki 6 (by decide)
      simp [execOp, go_sem, kc, t6]
      exact ⟨hC, Below.refl _ _, rfl⟩
    · refine stepW_of_u ⟨rfl, fun v W ρ hC kc kf ks ki kd => ?_⟩
      have d1 : v 1 = .agg #[.slice (some ⟨xb1, xo1, none⟩) t1.slots.length xc1, .slice (some ⟨yb1, yo1, none⟩) t1.heads.length yc1] := by first | exact kd _ (mem0 rfl) rfl | exact kd _ (mem1 rfl) rfl | exact kd _ (mem2 rfl) rfl | exact kd _ (mem3 rfl) rfl | exact kd _ (mem4 rfl) rfl | exact kd _ (mem5 rfl) rfl
      have t77 : ρ (.tmp 77) = .agg #[.slice (some ⟨xb1, xo1, none⟩) t1.slots.length xc1, .slice (some ⟨yb1, yo1, none⟩) t1.heads.length yc1] := (ks 1 77 (by decide) rfl).trans d1
      have d2 : v 2 = .int .i64 key := by first | exact kd _ (mem0 rfl) rfl | exact kd _ (mem1 rfl) rfl | exact kd _ (mem2 rfl) rfl | exact kd _ (mem3 rfl) rfl | exact kd _ (mem4 rfl) rfl | exact kd _ (mem5 rfl) rfl
      have t78 : ρ (.tmp 78) = .int .i64 key := (ks 2 78 (by decide) rfl).trans d2
      simp [execOp, go_sem, kc, kf, t77, t78]
      refine Calls.mono (HS1.out _ _ _ _ W (Z119.out.later hC)) (fun e x h => ?_)
      obtain ⟨sS, sc, sH, se, rfl, hO, hb⟩ := h
      exact ⟨_, rfl, hC.trans (hb.mono hC.size), hb, sS, sc, sH, se, rfl, hO.read⟩
    · refine stepW_of_u ⟨rfl, fun v W ρ hC kc kf ks ki kd => ?_⟩
      have d0 : v 0 = .agg #[.slice aS1 u1.slots.length cS1, .slice aH1 u1.heads.length cH1, .int .i64 pl1, .int .i64 k1] := by first | exact kd _ (mem0 rfl) rfl | exact kd _ (mem1 rfl) rfl | exact kd _ (mem2 rfl) rfl | exact kd _ (mem3 rfl) rfl | exact kd _ (mem4 rfl) rfl | exact kd _ (mem5 rfl) rfl
      have t76 : ρ (.tmp 76) = .agg #[.slice aS1 u1.slots.length cS1, .slice aH1 u1.heads.length cH1, .int .i64 pl1, .int .i64 k1] := (ks 0 76 (by decide) rfl).trans d0
      obtain ⟨sS79, sc79, sH79, se79, e79, hz79⟩ : (outK u1 pl1 k1) (v 3) W := by first | exact kd _ (mem0 rfl) rfl | exact kd _ (mem1 rfl) rfl | exact kd _ (mem2 rfl) rfl | exact kd _ (mem3 rfl) rfl | exact kd _ (mem4 rfl) rfl | exact kd _ (mem5 rfl) rfl
      have t79 : ρ (.tmp 79) = .agg #[.slice sS79 u1.slots.length sc79, .slice sH79 u1.heads.length se79, .int .i64 pl1, .int .i64 k1] := (ks 3 79 (by decide) rfl).trans e79
      simp [execOp, go_sem, t79, t76, kf]
      exact Calls.mono (lwSlabs_any aS1 sS79 aH1 sH79 cS1 cH1 sc79 se79 u1 pl1 k1 W (O119.out.later hC) hz79 LU1.out.1 LU1.out.2 RU1.out) (fun e x h => ⟨_, h.1, hC.trans (h.2.mono hC.size), h.2, rfl⟩)
    · refine stepW_of_u ⟨rfl, fun v W ρ hC kc kf ks ki kd => ?_⟩
      have d4 : v 4 = .bool true := by first | exact kd _ (mem0 rfl) rfl | exact kd _ (mem1 rfl) rfl | exact kd _ (mem2 rfl) rfl | exact kd _ (mem3 rfl) rfl | exact kd _ (mem4 rfl) rfl | exact kd _ (mem5 rfl) rfl
      have t80 : ρ (.tmp 80) = .bool true := (ks 4 80 (by decide) rfl).trans d4
      simp [execOp, go_sem, kc, t80]
      exact ⟨hC, Below.refl _ _, rfl⟩
    · refine stepW_of_u ⟨rfl, fun v W ρ hC kc kf ks ki kd => ?_⟩
      have d5 : v 5 = .bool false := by first | exact kd _ (mem0 rfl) rfl | exact kd _ (mem1 rfl) rfl | exact kd _ (mem2 rfl) rfl | exact kd _ (mem3 rfl) rfl | exact kd _ (mem4 rfl) rfl | exact kd _ (mem5 rfl) rfl
      have t81 : ρ (.tmp 81) = .bool false := (ks 5 81 (by decide) rfl).trans d5
      simp [execOp, go_sem, kc, t81]
      exact ⟨hC, Below.refl _ _, rfl⟩
    · intro v W ρ y hC kc kf ks ki ky ku kd
      have dg : v 6 = .bool false := by first | exact kd _ (mem0 rfl) rfl | exact kd _ (mem1 rfl) rfl | exact kd _ (mem2 rfl) rfl | exact kd _ (mem3 rfl) rfl | exact kd _ (mem4 rfl) rfl | exact kd _ (mem5 rfl) rfl
      have hy := ky 6 82 false (by decide) rfl dg
      rw [if_pos (by simp [Region.wanted, hy])]
      have t10 : ρ (.tmp 10) = .pointer (some ⟨y2, 0, none⟩) := ki 10 (by decide)
      have hg := blk_later Y219.out hC
      have c0 := blk_cell hg 0
      have c1 := blk_cell hg 1
      have c2 := blk_cell hg 2
      have c3 := blk_cell hg 3
      simp at c0 c1 c2 c3
      simp [execOp, go_sem, kc, t10, c0, c1, c2, c3]
      exact ⟨hC, Below.refl _ _, rfl⟩
    · intro v W ρ y hC kc kf ks ki ky ku kd
      have dg : v 6 = .bool false := by first | exact kd _ (mem0 rfl) rfl | exact kd _ (mem1 rfl) rfl | exact kd _ (mem2 rfl) rfl | exact kd _ (mem3 rfl) rfl | exact kd _ (mem4 rfl) rfl | exact kd _ (mem5 rfl) rfl
      have hy := ky 6 82 false (by decide) rfl dg
      rw [if_pos (by simp [Region.wanted, hy])]
      have t8 : ρ (.tmp 8) = .pointer (some ⟨x2, 0, none⟩) := ki 8 (by decide)
      have hg := blk_later B219.out hC
      have c0 := blk_cell hg 0
      have c1 := blk_cell hg 1
      simp at c0 c1
      simp [execOp, go_sem, kc, t8, c0, c1]
      exact ⟨hC, Below.refl _ _, rfl⟩
    · intro v W ρ y hC kc kf ks ki ky ku kd
      have dg : v 6 = .bool false := by first | exact kd _ (mem0 rfl) rfl | exact kd _ (mem1 rfl) rfl | exact kd _ (mem2 rfl) rfl | exact kd _ (mem3 rfl) rfl | exact kd _ (mem4 rfl) rfl | exact kd _ (mem5 rfl) rfl
      have hy := ky 6 82 false (by decide) rfl dg
      rw [if_pos (by simp [Region.wanted, hy])]
      have t9 : ρ (.tmp 9) = .int .i64 gone := ki 9 (by decide)
      simp [execOp, go_sem, kc, t9]
      exact ⟨hC, Below.refl _ _, rfl⟩
    · intro v W ρ y hC kc kf ks ki ky ku kd
      have dg : v 6 = .bool false := by first | exact kd _ (mem0 rfl) rfl | exact kd _ (mem1 rfl) rfl | exact kd _ (mem2 rfl) rfl | exact kd _ (mem3 rfl) rfl | exact kd _ (mem4 rfl) rfl | exact kd _ (mem5 rfl) rfl
      have hy := ky 6 82 false (by decide) rfl dg
      rw [if_pos (by simp [Region.wanted, hy])]
      have d8 : v 8 = .agg #[.slice (some ⟨xb2, xo2, none⟩) t2.slots.length xc2, .slice (some ⟨yb2, yo2, none⟩) t2.heads.length yc2] := by first | exact kd _ (mem0 rfl) rfl | exact kd _ (mem1 rfl) rfl | exact kd _ (mem2 rfl) rfl | exact kd _ (mem3 rfl) rfl | exact kd _ (mem4 rfl) rfl | exact kd _ (mem5 rfl) rfl
      have t84 : ρ (.tmp 84) = .agg #[.slice (some ⟨xb2, xo2, none⟩) t2.slots.length xc2, .slice (some ⟨yb2, yo2, none⟩) t2.heads.length yc2] := (ks 8 84 (by decide) rfl).trans d8
      have d9 : v 9 = .int .i64 gone := by first | exact kd _ (mem0 rfl) rfl | exact kd _ (mem1 rfl) rfl | exact kd _ (mem2 rfl) rfl | exact kd _ (mem3 rfl) rfl | exact kd _ (mem4 rfl) rfl | exact kd _ (mem5 rfl) rfl
      have t85 : ρ (.tmp 85) = .int .i64 gone := (ks 9 85 (by decide) rfl).trans d9
      simp [execOp, go_sem, kc, kf, t84, t85]
      refine Calls.mono (HS2.out _ _ _ _ W (Z219.out.later hC)) (fun e x h => ?_)
      obtain ⟨sS, sc, sH, se, rfl, hO, hb⟩ := h
      exact ⟨_, rfl, hC.trans (hb.mono hC.size), hb, sS, sc, sH, se, rfl, hO.read⟩
    · intro v W ρ y hC kc kf ks ki ky ku kd
      have dg : v 6 = .bool false := by first | exact kd _ (mem0 rfl) rfl | exact kd _ (mem1 rfl) rfl | exact kd _ (mem2 rfl) rfl | exact kd _ (mem3 rfl) rfl | exact kd _ (mem4 rfl) rfl | exact kd _ (mem5 rfl) rfl
      have hy := ky 6 82 false (by decide) rfl dg
      rw [if_pos (by simp [Region.wanted, hy])]
      have d7 : v 7 = .agg #[.slice aS2 u2.slots.length cS2, .slice aH2 u2.heads.length cH2, .int .i64 pl2, .int .i64 k2] := by first | exact kd _ (mem0 rfl) rfl | exact kd _ (mem1 rfl) rfl | exact kd _ (mem2 rfl) rfl | exact kd _ (mem3 rfl) rfl | exact kd _ (mem4 rfl) rfl | exact kd _ (mem5 rfl) rfl
      have t83 : ρ (.tmp 83) = .agg #[.slice aS2 u2.slots.length cS2, .slice aH2 u2.heads.length cH2, .int .i64 pl2, .int .i64 k2] := (ks 7 83 (by decide) rfl).trans d7
      obtain ⟨sS86, sc86, sH86, se86, e86, hz86⟩ : (outK u2 pl2 k2) (v 10) W := by first | exact kd _ (mem0 rfl) rfl | exact kd _ (mem1 rfl) rfl | exact kd _ (mem2 rfl) rfl | exact kd _ (mem3 rfl) rfl | exact kd _ (mem4 rfl) rfl | exact kd _ (mem5 rfl) rfl
      have t86 : ρ (.tmp 86) = .agg #[.slice sS86 u2.slots.length sc86, .slice sH86 u2.heads.length se86, .int .i64 pl2, .int .i64 k2] := (ks 10 86 (by decide) rfl).trans e86
      simp [execOp, go_sem, t86, t83, kf]
      exact Calls.mono (lwSlabs_any aS2 sS86 aH2 sH86 cS2 cH2 sc86 se86 u2 pl2 k2 W (O219.out.later hC) hz86 LU2.out.1 LU2.out.2 RU2.out) (fun e x h => ⟨_, h.1, hC.trans (h.2.mono hC.size), h.2, rfl⟩)
    · intro v W ρ y hC kc kf ks ki ky ku kd
      have dg : v 6 = .bool false := by first | exact kd _ (mem0 rfl) rfl | exact kd _ (mem1 rfl) rfl | exact kd _ (mem2 rfl) rfl | exact kd _ (mem3 rfl) rfl | exact kd _ (mem4 rfl) rfl | exact kd _ (mem5 rfl) rfl
      have hy := ky 6 82 false (by decide) rfl dg
      rw [if_pos (by simp [Region.wanted, hy])]
      have d11 : v 11 = .bool true := by first | exact kd _ (mem0 rfl) rfl | exact kd _ (mem1 rfl) rfl | exact kd _ (mem2 rfl) rfl | exact kd _ (mem3 rfl) rfl | exact kd _ (mem4 rfl) rfl | exact kd _ (mem5 rfl) rfl
      have t87 : ρ (.tmp 87) = .bool true := (ks 11 87 (by decide) rfl).trans d11
      simp [execOp, go_sem, kc, t87]
      exact ⟨hC, Below.refl _ _, rfl⟩
    · refine stepW_of_u ⟨rfl, fun v W ρ hC kc kf ks ki kd => ?_⟩
      have d6 : v 6 = .bool false := by first | exact kd _ (mem0 rfl) rfl | exact kd _ (mem1 rfl) rfl | exact kd _ (mem2 rfl) rfl | exact kd _ (mem3 rfl) rfl | exact kd _ (mem4 rfl) rfl | exact kd _ (mem5 rfl) rfl
      have t82 : ρ (.tmp 82) = .bool false := (ks 6 82 (by decide) rfl).trans d6
      have d12 : v 12 = .bool false := by first | exact kd _ (mem0 rfl) rfl | exact kd _ (mem1 rfl) rfl | exact kd _ (mem2 rfl) rfl | exact kd _ (mem3 rfl) rfl | exact kd _ (mem4 rfl) rfl | exact kd _ (mem5 rfl) rfl
      have t88 : ρ (.tmp 88) = .bool false := (ks 12 88 (by decide) rfl).trans d12
      simp [execOp, go_sem, kc, t82, t88]
      exact ⟨hC, Below.refl _ _, rfl⟩
    · refine stepW_of_u ⟨rfl, fun v W ρ hC kc kf ks ki kd => ?_⟩
      have d13 : v 13 = .bool false := by first | exact kd _ (mem0 rfl) rfl | exact kd _ (mem1 rfl) rfl | exact kd _ (mem2 rfl) rfl | exact kd _ (mem3 rfl) rfl | exact kd _ (mem4 rfl) rfl | exact kd _ (mem5 rfl) rfl
      have t89 : ρ (.tmp 89) = .bool false := (ks 13 89 (by decide) rfl).trans d13
      simp [execOp, go_sem, kc, t89]
      exact ⟨hC, Below.refl _ _, rfl⟩
    · intro v W ρ y hC kc kf ks ki ky ku kd
      have dg : v 14 = .bool false := by first | exact kd _ (mem0 rfl) rfl | exact kd _ (mem1 rfl) rfl | exact kd _ (mem2 rfl) rfl | exact kd _ (mem3 rfl) rfl | exact kd _ (mem4 rfl) rfl | exact kd _ (mem5 rfl) rfl
      have hy := ky 14 90 false (by decide) rfl dg
      rw [if_pos (by simp [Region.wanted, hy])]
      have t13 : ρ (.tmp 13) = .pointer (some ⟨y3, 0, none⟩) := ki 13 (by decide)
      have hg := blk_later Y319.out hC
      have c0 := blk_cell hg 0
      have c1 := blk_cell hg 1
      have c2 := blk_cell hg 2
      have c3 := blk_cell hg 3
      simp at c0 c1 c2 c3
      simp [execOp, go_sem, kc, t13, c0, c1, c2, c3]
      exact ⟨hC, Below.refl _ _, rfl⟩
    · intro v W ρ y hC kc kf ks ki ky ku kd
      have dg : v 14 = .bool false := by first | exact kd _ (mem0 rfl) rfl | exact kd _ (mem1 rfl) rfl | exact kd _ (mem2 rfl) rfl | exact kd _ (mem3 rfl) rfl | exact kd _ (mem4 rfl) rfl | exact kd _ (mem5 rfl) rfl
      have hy := ky 14 90 false (by decide) rfl dg
      rw [if_pos (by simp [Region.wanted, hy])]
      have t11 : ρ (.tmp 11) = .pointer (some ⟨x3, 0, none⟩) := ki 11 (by decide)
      have hg := blk_later B319.out hC
      have c0 := blk_cell hg 0
      have c1 := blk_cell hg 1
      simp at c0 c1
      simp [execOp, go_sem, kc, t11, c0, c1]
      exact ⟨hC, Below.refl _ _, rfl⟩
    · intro v W ρ y hC kc kf ks ki ky ku kd
      have dg : v 14 = .bool false := by first | exact kd _ (mem0 rfl) rfl | exact kd _ (mem1 rfl) rfl | exact kd _ (mem2 rfl) rfl | exact kd _ (mem3 rfl) rfl | exact kd _ (mem4 rfl) rfl | exact kd _ (mem5 rfl) rfl
      have hy := ky 14 90 false (by decide) rfl dg
      rw [if_pos (by simp [Region.wanted, hy])]
      have t12 : ρ (.tmp 12) = .int .i64 at3 := ki 12 (by decide)
      simp [execOp, go_sem, kc, t12]
      exact ⟨hC, Below.refl _ _, rfl⟩
    · intro v W ρ y hC kc kf ks ki ky ku kd
      have dg : v 14 = .bool false := by first | exact kd _ (mem0 rfl) rfl | exact kd _ (mem1 rfl) rfl | exact kd _ (mem2 rfl) rfl | exact kd _ (mem3 rfl) rfl | exact kd _ (mem4 rfl) rfl | exact kd _ (mem5 rfl) rfl
      have hy := ky 14 90 false (by decide) rfl dg
      rw [if_pos (by simp [Region.wanted, hy])]
      have d16 : v 16 = .agg #[.slice (some ⟨xb3, xo3, none⟩) t3.slots.length xc3, .slice (some ⟨yb3, yo3, none⟩) t3.heads.length yc3] := by first | exact kd _ (mem0 rfl) rfl | exact kd _ (mem1 rfl) rfl | exact kd _ (mem2 rfl) rfl | exact kd _ (mem3 rfl) rfl | exact kd _ (mem4 rfl) rfl | exact kd _ (mem5 rfl) rfl
      have t92 : ρ (.tmp 92) = .agg #[.slice (some ⟨xb3, xo3, none⟩) t3.slots.length xc3, .slice (some ⟨yb3, yo3, none⟩) t3.heads.length yc3] := (ks 16 92 (by decide) rfl).trans d16
      have d17 : v 17 = .int .i64 at3 := by first | exact kd _ (mem0 rfl) rfl | exact kd _ (mem1 rfl) rfl | exact kd _ (mem2 rfl) rfl | exact kd _ (mem3 rfl) rfl | exact kd _ (mem4 rfl) rfl | exact kd _ (mem5 rfl) rfl
      have t93 : ρ (.tmp 93) = .int .i64 at3 := (ks 17 93 (by decide) rfl).trans d17
      simp [execOp, go_sem, kc, kf, t92, t93]
      refine Calls.mono (HS3.out _ _ _ _ W (Z319.out.later hC)) (fun e x h => ?_)
      obtain ⟨sS, sc, sH, se, rfl, hO, hb⟩ := h
      exact ⟨_, rfl, hC.trans (hb.mono hC.size), hb, sS, sc, sH, se, rfl, hO.read⟩
    · intro v W ρ y hC kc kf ks ki ky ku kd
      have dg : v 14 = .bool false := by first | exact kd _ (mem0 rfl) rfl | exact kd _ (mem1 rfl) rfl | exact kd _ (mem2 rfl) rfl | exact kd _ (mem3 rfl) rfl | exact kd _ (mem4 rfl) rfl | exact kd _ (mem5 rfl) rfl
      have hy := ky 14 90 false (by decide) rfl dg
      rw [if_pos (by simp [Region.wanted, hy])]
      have d15 : v 15 = .agg #[.slice aS3 u3.slots.length cS3, .slice aH3 u3.heads.length cH3, .int .i64 pl3, .int .i64 k3] := by first | exact kd _ (mem0 rfl) rfl | exact kd _ (mem1 rfl) rfl | exact kd _ (mem2 rfl) rfl | exact kd _ (mem3 rfl) rfl | exact kd _ (mem4 rfl) rfl | exact kd _ (mem5 rfl) rfl
      have t91 : ρ (.tmp 91) = .agg #[.slice aS3 u3.slots.length cS3, .slice aH3 u3.heads.length cH3, .int .i64 pl3, .int .i64 k3] := (ks 15 91 (by decide) rfl).trans d15
      obtain ⟨sS94, sc94, sH94, se94, e94, hz94⟩ : (outK u3 pl3 k3) (v 18) W := by first | exact kd _ (mem0 rfl) rfl | exact kd _ (mem1 rfl) rfl | exact kd _ (mem2 rfl) rfl | exact kd _ (mem3 rfl) rfl | exact kd _ (mem4 rfl) rfl | exact kd _ (mem5 rfl) rfl
      have t94 : ρ (.tmp 94) = .agg #[.slice sS94 u3.slots.length sc94, .slice sH94 u3.heads.length se94, .int .i64 pl3, .int .i64 k3] := (ks 18 94 (by decide) rfl).trans e94
      simp [execOp, go_sem, t94, t91, kf]
      exact Calls.mono (lwSlabs_any aS3 sS94 aH3 sH94 cS3 cH3 sc94 se94 u3 pl3 k3 W (O319.out.later hC) hz94 LU3.out.1 LU3.out.2 RU3.out) (fun e x h => ⟨_, h.1, hC.trans (h.2.mono hC.size), h.2, rfl⟩)
    · intro v W ρ y hC kc kf ks ki ky ku kd
      have dg : v 14 = .bool false := by first | exact kd _ (mem0 rfl) rfl | exact kd _ (mem1 rfl) rfl | exact kd _ (mem2 rfl) rfl | exact kd _ (mem3 rfl) rfl | exact kd _ (mem4 rfl) rfl | exact kd _ (mem5 rfl) rfl
      have hy := ky 14 90 false (by decide) rfl dg
      rw [if_pos (by simp [Region.wanted, hy])]
      have d19 : v 19 = .bool true := by first | exact kd _ (mem0 rfl) rfl | exact kd _ (mem1 rfl) rfl | exact kd _ (mem2 rfl) rfl | exact kd _ (mem3 rfl) rfl | exact kd _ (mem4 rfl) rfl | exact kd _ (mem5 rfl) rfl
      have t95 : ρ (.tmp 95) = .bool true := (ks 19 95 (by decide) rfl).trans d19
      simp [execOp, go_sem, kc, t95]
      exact ⟨hC, Below.refl _ _, rfl⟩
    · refine stepW_of_u ⟨rfl, fun v W ρ hC kc kf ks ki kd => ?_⟩
      have d14 : v 14 = .bool false := by first | exact kd _ (mem0 rfl) rfl | exact kd _ (mem1 rfl) rfl | exact kd _ (mem2 rfl) rfl | exact kd _ (mem3 rfl) rfl | exact kd _ (mem4 rfl) rfl | exact kd _ (mem5 rfl) rfl
      have t90 : ρ (.tmp 90) = .bool false := (ks 14 90 (by decide) rfl).trans d14
      have d20 : v 20 = .bool false := by first | exact kd _ (mem0 rfl) rfl | exact kd _ (mem1 rfl) rfl | exact kd _ (mem2 rfl) rfl | exact kd _ (mem3 rfl) rfl | exact kd _ (mem4 rfl) rfl | exact kd _ (mem5 rfl) rfl
      have t96 : ρ (.tmp 96) = .bool false := (ks 20 96 (by decide) rfl).trans d20
      simp [execOp, go_sem, kc, t90, t96]
      exact ⟨hC, Below.refl _ _, rfl⟩
    · refine stepW_of_u ⟨rfl, fun v W ρ hC kc kf ks ki kd => ?_⟩
      have d21 : v 21 = .bool false := by first | exact kd _ (mem0 rfl) rfl | exact kd _ (mem1 rfl) rfl | exact kd _ (mem2 rfl) rfl | exact kd _ (mem3 rfl) rfl | exact kd _ (mem4 rfl) rfl | exact kd _ (mem5 rfl) rfl
      have t97 : ρ (.tmp 97) = .bool false := (ks 21 97 (by decide) rfl).trans d21
      simp [execOp, go_sem, kc, t97]
      exact ⟨hC, Below.refl _ _, rfl⟩
    · intro v W ρ y hC kc kf ks ki ky ku kd
      have dg : v 22 = .bool false := by first | exact kd _ (mem0 rfl) rfl | exact kd _ (mem1 rfl) rfl | exact kd _ (mem2 rfl) rfl | exact kd _ (mem3 rfl) rfl | exact kd _ (mem4 rfl) rfl | exact kd _ (mem5 rfl) rfl
      have hy := ky 22 98 false (by decide) rfl dg
      rw [if_pos (by simp [Region.wanted, hy])]
      have t14 : ρ (.tmp 14) = .pointer (some ⟨x4, 0, none⟩) := ki 14 (by decide)
      have hg := blk_later B419.out hC
      have c0 := blk_cell hg 0
      have c1 := blk_cell hg 1
      simp at c0 c1
      simp [execOp, go_sem, kc, t14, c0, c1]
      exact ⟨hC, Below.refl _ _, rfl⟩
    · intro v W ρ y hC kc kf ks ki ky ku kd
      have dg : v 22 = .bool false := by first | exact kd _ (mem0 rfl) rfl | exact kd _ (mem1 rfl) rfl | exact kd _ (mem2 rfl) rfl | exact kd _ (mem3 rfl) rfl | exact kd _ (mem4 rfl) rfl | exact kd _ (mem5 rfl) rfl
      have hy := ky 22 98 false (by decide) rfl dg
      rw [if_pos (by simp [Region.wanted, hy])]
      have t15 : ρ (.tmp 15) = .int .i64 put := ki 15 (by decide)
      simp [execOp, go_sem, kc, t15]
      exact ⟨hC, Below.refl _ _, rfl⟩
    · intro v W ρ y hC kc kf ks ki ky ku kd
      have dg : v 22 = .bool false := by first | exact kd _ (mem0 rfl) rfl | exact kd _ (mem1 rfl) rfl | exact kd _ (mem2 rfl) rfl | exact kd _ (mem3 rfl) rfl | exact kd _ (mem4 rfl) rfl | exact kd _ (mem5 rfl) rfl
      have hy := ky 22 98 false (by decide) rfl dg
      rw [if_pos (by simp [Region.wanted, hy])]
      have d23 : v 23 = .agg #[.slice (some ⟨xb4, xo4, none⟩) t4.slots.length xc4, .slice (some ⟨yb4, yo4, none⟩) t4.heads.length yc4] := by first | exact kd _ (mem0 rfl) rfl | exact kd _ (mem1 rfl) rfl | exact kd _ (mem2 rfl) rfl | exact kd _ (mem3 rfl) rfl | exact kd _ (mem4 rfl) rfl | exact kd _ (mem5 rfl) rfl
      have t99 : ρ (.tmp 99) = .agg #[.slice (some ⟨xb4, xo4, none⟩) t4.slots.length xc4, .slice (some ⟨yb4, yo4, none⟩) t4.heads.length yc4] := (ks 23 99 (by decide) rfl).trans d23
      have d24 : v 24 = .int .i64 put := by first | exact kd _ (mem0 rfl) rfl | exact kd _ (mem1 rfl) rfl | exact kd _ (mem2 rfl) rfl | exact kd _ (mem3 rfl) rfl | exact kd _ (mem4 rfl) rfl | exact kd _ (mem5 rfl) rfl
      have t100 : ρ (.tmp 100) = .int .i64 put := (ks 24 100 (by decide) rfl).trans d24
      simp [execOp, go_sem, kc, kf, t99, t100]
      refine Calls.mono (HI4.out _ _ _ _ W (Z419.out.later hC)) (fun e x h => ?_)
      obtain ⟨sS, sc, sH, se, rfl, hO, hb⟩ := h
      exact ⟨_, rfl, hC.trans (hb.mono hC.size), hb, sS, sc, sH, se, rfl, hO.read⟩
    · intro v W ρ y hC kc kf ks ki ky ku kd
      have dg : v 22 = .bool false := by first | exact kd _ (mem0 rfl) rfl | exact kd _ (mem1 rfl) rfl | exact kd _ (mem2 rfl) rfl | exact kd _ (mem3 rfl) rfl | exact kd _ (mem4 rfl) rfl | exact kd _ (mem5 rfl) rfl
      have hy := ky 22 98 false (by decide) rfl dg
      rw [if_pos (by simp [Region.wanted, hy])]
      have t14 : ρ (.tmp 14) = .pointer (some ⟨x4, 0, none⟩) := ki 14 (by decide)
      have hg := blk_later B419.out hC
      have c0 := blk_cell hg 0
      have c1 := blk_cell hg 1
      simp at c0 c1
      simp [execOp, go_sem, kc, t14, c0, c1]
      exact ⟨hC, Below.refl _ _, rfl⟩
    · intro v W ρ y hC kc kf ks ki ky ku kd
      have dg : v 22 = .bool false := by first | exact kd _ (mem0 rfl) rfl | exact kd _ (mem1 rfl) rfl | exact kd _ (mem2 rfl) rfl | exact kd _ (mem3 rfl) rfl | exact kd _ (mem4 rfl) rfl | exact kd _ (mem5 rfl) rfl
      have hy := ky 22 98 false (by decide) rfl dg
      rw [if_pos (by simp [Region.wanted, hy])]
      have t15 : ρ (.tmp 15) = .int .i64 put := ki 15 (by decide)
      simp [execOp, go_sem, kc, t15]
      exact ⟨hC, Below.refl _ _, rfl⟩
    · intro v W ρ y hC kc kf ks ki ky ku kd
      have dg : v 22 = .bool false := by first | exact kd _ (mem0 rfl) rfl | exact kd _ (mem1 rfl) rfl | exact kd _ (mem2 rfl) rfl | exact kd _ (mem3 rfl) rfl | exact kd _ (mem4 rfl) rfl | exact kd _ (mem5 rfl) rfl
      have hy := ky 22 98 false (by decide) rfl dg
      rw [if_pos (by simp [Region.wanted, hy])]
      have d26 : v 26 = .agg #[.slice (some ⟨xb4, xo4, none⟩) t4.slots.length xc4, .slice (some ⟨yb4, yo4, none⟩) t4.heads.length yc4] := by first | exact kd _ (mem0 rfl) rfl | exact kd _ (mem1 rfl) rfl | exact kd _ (mem2 rfl) rfl | exact kd _ (mem3 rfl) rfl | exact kd _ (mem4 rfl) rfl | exact kd _ (mem5 rfl) rfl
      have t102 : ρ (.tmp 102) = .agg #[.slice (some ⟨xb4, xo4, none⟩) t4.slots.length xc4, .slice (some ⟨yb4, yo4, none⟩) t4.heads.length yc4] := (ks 26 102 (by decide) rfl).trans d26
      have d27 : v 27 = .int .i64 put := by first | exact kd _ (mem0 rfl) rfl | exact kd _ (mem1 rfl) rfl | exact kd _ (mem2 rfl) rfl | exact kd _ (mem3 rfl) rfl | exact kd _ (mem4 rfl) rfl | exact kd _ (mem5 rfl) rfl
      have t103 : ρ (.tmp 103) = .int .i64 put := (ks 27 103 (by decide) rfl).trans d27
      simp [execOp, go_sem, kc, kf, t102, t103]
      refine Calls.mono (HS4.out _ _ _ _ W (Z419.out.later hC)) (fun e x h => ?_)
      obtain ⟨sS, sc, sH, se, rfl, hO, hb⟩ := h
      exact ⟨_, rfl, hC.trans (hb.mono hC.size), hb, sS, sc, sH, se, rfl, hO.read⟩
    · intro v W ρ y hC kc kf ks ki ky ku kd
      have dg : v 22 = .bool false := by first | exact kd _ (mem0 rfl) rfl | exact kd _ (mem1 rfl) rfl | exact kd _ (mem2 rfl) rfl | exact kd _ (mem3 rfl) rfl | exact kd _ (mem4 rfl) rfl | exact kd _ (mem5 rfl) rfl
      have hy := ky 22 98 false (by decide) rfl dg
      rw [if_pos (by simp [Region.wanted, hy])]
      obtain ⟨sS101, sc101, sH101, se101, e101, hz101⟩ : (outK u4 pl4 k4) (v 25) W := by first | exact kd _ (mem0 rfl) rfl | exact kd _ (mem1 rfl) rfl | exact kd _ (mem2 rfl) rfl | exact kd _ (mem3 rfl) rfl | exact kd _ (mem4 rfl) rfl | exact kd _ (mem5 rfl) rfl
      have t101 : ρ (.tmp 101) = .agg #[.slice sS101 u4.slots.length sc101, .slice sH101 u4.heads.length se101, .int .i64 pl4, .int .i64 k4] := (ks 25 101 (by decide) rfl).trans e101
      obtain ⟨sS104, sc104, sH104, se104, e104, hz104⟩ : (outK u4 pl4 k4) (v 28) W := by first | exact kd _ (mem0 rfl) rfl | exact kd _ (mem1 rfl) rfl | exact kd _ (mem2 rfl) rfl | exact kd _ (mem3 rfl) rfl | exact kd _ (mem4 rfl) rfl | exact kd _ (mem5 rfl) rfl
      have t104 : ρ (.tmp 104) = .agg #[.slice sS104 u4.slots.length sc104, .slice sH104 u4.heads.length se104, .int .i64 pl4, .int .i64 k4] := (ks 28 104 (by decide) rfl).trans e104
      simp [execOp, go_sem, t101, t104, kf]
      exact Calls.mono (lwSlabs_any sS101 sS104 sH101 sH104 sc101 se101 sc104 se104 u4 pl4 k4 W hz101 hz104 LU4.out.1 LU4.out.2 RU4.out) (fun e x h => ⟨_, h.1, hC.trans (h.2.mono hC.size), h.2, rfl⟩)
    · intro v W ρ y hC kc kf ks ki ky ku kd
      have dg : v 22 = .bool false := by first | exact kd _ (mem0 rfl) rfl | exact kd _ (mem1 rfl) rfl | exact kd _ (mem2 rfl) rfl | exact kd _ (mem3 rfl) rfl | exact kd _ (mem4 rfl) rfl | exact kd _ (mem5 rfl) rfl
      have hy := ky 22 98 false (by decide) rfl dg
      rw [if_pos (by simp [Region.wanted, hy])]
      have d29 : v 29 = .bool true := by first | exact kd _ (mem0 rfl) rfl | exact kd _ (mem1 rfl) rfl | exact kd _ (mem2 rfl) rfl | exact kd _ (mem3 rfl) rfl | exact kd _ (mem4 rfl) rfl | exact kd _ (mem5 rfl) rfl
      have t105 : ρ (.tmp 105) = .bool true := (ks 29 105 (by decide) rfl).trans d29
      simp [execOp, go_sem, kc, t105]
      exact ⟨hC, Below.refl _ _, rfl⟩
    · refine stepW_of_u ⟨rfl, fun v W ρ hC kc kf ks ki kd => ?_⟩
      have d22 : v 22 = .bool false := by first | exact kd _ (mem0 rfl) rfl | exact kd _ (mem1 rfl) rfl | exact kd _ (mem2 rfl) rfl | exact kd _ (mem3 rfl) rfl | exact kd _ (mem4 rfl) rfl | exact kd _ (mem5 rfl) rfl
      have t98 : ρ (.tmp 98) = .bool false := (ks 22 98 (by decide) rfl).trans d22
      have d30 : v 30 = .bool false := by first | exact kd _ (mem0 rfl) rfl | exact kd _ (mem1 rfl) rfl | exact kd _ (mem2 rfl) rfl | exact kd _ (mem3 rfl) rfl | exact kd _ (mem4 rfl) rfl | exact kd _ (mem5 rfl) rfl
      have t106 : ρ (.tmp 106) = .bool false := (ks 30 106 (by decide) rfl).trans d30
      simp [execOp, go_sem, kc, t98, t106]
      exact ⟨hC, Below.refl _ _, rfl⟩
    · refine stepW_of_u ⟨rfl, fun v W ρ hC kc kf ks ki kd => ?_⟩
      have d31 : v 31 = .bool false := by first | exact kd _ (mem0 rfl) rfl | exact kd _ (mem1 rfl) rfl | exact kd _ (mem2 rfl) rfl | exact kd _ (mem3 rfl) rfl | exact kd _ (mem4 rfl) rfl | exact kd _ (mem5 rfl) rfl
      have t107 : ρ (.tmp 107) = .bool false := (ks 31 107 (by decide) rfl).trans d31
      simp [execOp, go_sem, kc, t107]
      exact ⟨hC, Below.refl _ _, rfl⟩
    · intro v W ρ y hC kc kf ks ki ky ku kd
      have dg : v 32 = .bool false := by first | exact kd _ (mem0 rfl) rfl | exact kd _ (mem1 rfl) rfl | exact kd _ (mem2 rfl) rfl | exact kd _ (mem3 rfl) rfl | exact kd _ (mem4 rfl) rfl | exact kd _ (mem5 rfl) rfl
      have hy := ky 32 108 false (by decide) rfl dg
      rw [if_pos (by simp [Region.wanted, hy])]
      have t16 : ρ (.tmp 16) = .pointer (some ⟨x5, 0, none⟩) := ki 16 (by decide)
      have hg := blk_later B519.out hC
      have c0 := blk_cell hg 0
      have c1 := blk_cell hg 1
      simp at c0 c1
      simp [execOp, go_sem, kc, t16, c0, c1]
      exact ⟨hC, Below.refl _ _, rfl⟩
    · intro v W ρ y hC kc kf ks ki ky ku kd
      have dg : v 32 = .bool false := by first | exact kd _ (mem0 rfl) rfl | exact kd _ (mem1 rfl) rfl | exact kd _ (mem2 rfl) rfl | exact kd _ (mem3 rfl) rfl | exact kd _ (mem4 rfl) rfl | exact kd _ (mem5 rfl) rfl
      have hy := ky 32 108 false (by decide) rfl dg
      rw [if_pos (by simp [Region.wanted, hy])]
      have t17 : ρ (.tmp 17) = .int .i64 chn := ki 17 (by decide)
      simp [execOp, go_sem, kc, t17]
      exact ⟨hC, Below.refl _ _, rfl⟩
    · intro v W ρ y hC kc kf ks ki ky ku kd
      have dg : v 32 = .bool false := by first | exact kd _ (mem0 rfl) rfl | exact kd _ (mem1 rfl) rfl | exact kd _ (mem2 rfl) rfl | exact kd _ (mem3 rfl) rfl | exact kd _ (mem4 rfl) rfl | exact kd _ (mem5 rfl) rfl
      have hy := ky 32 108 false (by decide) rfl dg
      rw [if_pos (by simp [Region.wanted, hy])]
      have d33 : v 33 = .agg #[.slice (some ⟨xb5, xo5, none⟩) t5.slots.length xc5, .slice (some ⟨yb5, yo5, none⟩) t5.heads.length yc5] := by first | exact kd _ (mem0 rfl) rfl | exact kd _ (mem1 rfl) rfl | exact kd _ (mem2 rfl) rfl | exact kd _ (mem3 rfl) rfl | exact kd _ (mem4 rfl) rfl | exact kd _ (mem5 rfl) rfl
      have t109 : ρ (.tmp 109) = .agg #[.slice (some ⟨xb5, xo5, none⟩) t5.slots.length xc5, .slice (some ⟨yb5, yo5, none⟩) t5.heads.length yc5] := (ks 33 109 (by decide) rfl).trans d33
      have d34 : v 34 = .int .i64 chn := by first | exact kd _ (mem0 rfl) rfl | exact kd _ (mem1 rfl) rfl | exact kd _ (mem2 rfl) rfl | exact kd _ (mem3 rfl) rfl | exact kd _ (mem4 rfl) rfl | exact kd _ (mem5 rfl) rfl
      have t110 : ρ (.tmp 110) = .int .i64 chn := (ks 34 110 (by decide) rfl).trans d34
      simp [execOp, go_sem, kc, kf, t109, t110]
      refine Calls.mono (HIC.out _ _ _ _ W (Z519.out.later hC)) (fun e x h => ?_)
      obtain ⟨sa, sc, rfl, hO, hb⟩ := h
      exact ⟨_, rfl, hC.trans (hb.mono hC.size), hb, sa, sc, rfl, hO.read⟩
    · intro v W ρ y hC kc kf ks ki ky ku kd
      have dg : v 32 = .bool false := by first | exact kd _ (mem0 rfl) rfl | exact kd _ (mem1 rfl) rfl | exact kd _ (mem2 rfl) rfl | exact kd _ (mem3 rfl) rfl | exact kd _ (mem4 rfl) rfl | exact kd _ (mem5 rfl) rfl
      have hy := ky 32 108 false (by decide) rfl dg
      rw [if_pos (by simp [Region.wanted, hy])]
      have t16 : ρ (.tmp 16) = .pointer (some ⟨x5, 0, none⟩) := ki 16 (by decide)
      have hg := blk_later B519.out hC
      have c0 := blk_cell hg 0
      have c1 := blk_cell hg 1
      simp at c0 c1
      simp [execOp, go_sem, kc, t16, c0, c1]
      exact ⟨hC, Below.refl _ _, rfl⟩
    · intro v W ρ y hC kc kf ks ki ky ku kd
      have dg : v 32 = .bool false := by first | exact kd _ (mem0 rfl) rfl | exact kd _ (mem1 rfl) rfl | exact kd _ (mem2 rfl) rfl | exact kd _ (mem3 rfl) rfl | exact kd _ (mem4 rfl) rfl | exact kd _ (mem5 rfl) rfl
      have hy := ky 32 108 false (by decide) rfl dg
      rw [if_pos (by simp [Region.wanted, hy])]
      have t17 : ρ (.tmp 17) = .int .i64 chn := ki 17 (by decide)
      simp [execOp, go_sem, kc, t17]
      exact ⟨hC, Below.refl _ _, rfl⟩
    · intro v W ρ y hC kc kf ks ki ky ku kd
      have dg : v 32 = .bool false := by first | exact kd _ (mem0 rfl) rfl | exact kd _ (mem1 rfl) rfl | exact kd _ (mem2 rfl) rfl | exact kd _ (mem3 rfl) rfl | exact kd _ (mem4 rfl) rfl | exact kd _ (mem5 rfl) rfl
      have hy := ky 32 108 false (by decide) rfl dg
      rw [if_pos (by simp [Region.wanted, hy])]
      have d36 : v 36 = .agg #[.slice (some ⟨xb5, xo5, none⟩) t5.slots.length xc5, .slice (some ⟨yb5, yo5, none⟩) t5.heads.length yc5] := by first | exact kd _ (mem0 rfl) rfl | exact kd _ (mem1 rfl) rfl | exact kd _ (mem2 rfl) rfl | exact kd _ (mem3 rfl) rfl | exact kd _ (mem4 rfl) rfl | exact kd _ (mem5 rfl) rfl
      have t112 : ρ (.tmp 112) = .agg #[.slice (some ⟨xb5, xo5, none⟩) t5.slots.length xc5, .slice (some ⟨yb5, yo5, none⟩) t5.heads.length yc5] := (ks 36 112 (by decide) rfl).trans d36
      have d37 : v 37 = .int .i64 chn := by first | exact kd _ (mem0 rfl) rfl | exact kd _ (mem1 rfl) rfl | exact kd _ (mem2 rfl) rfl | exact kd _ (mem3 rfl) rfl | exact kd _ (mem4 rfl) rfl | exact kd _ (mem5 rfl) rfl
      have t113 : ρ (.tmp 113) = .int .i64 chn := (ks 37 113 (by decide) rfl).trans d37
      simp [execOp, go_sem, kc, kf, t112, t113]
      refine Calls.mono (HSC.out _ _ _ _ W (Z519.out.later hC)) (fun e x h => ?_)
      obtain ⟨sa, sc, rfl, hO, hb⟩ := h
      exact ⟨_, rfl, hC.trans (hb.mono hC.size), hb, sa, sc, rfl, hO.read⟩
    · intro v W ρ y hC kc kf ks ki ky ku kd
      have dg : v 32 = .bool false := by first | exact kd _ (mem0 rfl) rfl | exact kd _ (mem1 rfl) rfl | exact kd _ (mem2 rfl) rfl | exact kd _ (mem3 rfl) rfl | exact kd _ (mem4 rfl) rfl | exact kd _ (mem5 rfl) rfl
      have hy := ky 32 108 false (by decide) rfl dg
      rw [if_pos (by simp [Region.wanted, hy])]
      obtain ⟨sa111, sc111, e111, hz111⟩ : (numsK (zz)) (v 35) W := by first | exact kd _ (mem0 rfl) rfl | exact kd _ (mem1 rfl) rfl | exact kd _ (mem2 rfl) rfl | exact kd _ (mem3 rfl) rfl | exact kd _ (mem4 rfl) rfl | exact kd _ (mem5 rfl) rfl
      have t111 : ρ (.tmp 111) = .slice sa111 (zz).length sc111 := (ks 35 111 (by decide) rfl).trans e111
      obtain ⟨sa114, sc114, e114, hz114⟩ : (numsK (zz)) (v 38) W := by first | exact kd _ (mem0 rfl) rfl | exact kd _ (mem1 rfl) rfl | exact kd _ (mem2 rfl) rfl | exact kd _ (mem3 rfl) rfl | exact kd _ (mem4 rfl) rfl | exact kd _ (mem5 rfl) rfl
      have t114 : ρ (.tmp 114) = .slice sa114 (zz).length sc114 := (ks 38 114 (by decide) rfl).trans e114
      simp [execOp, go_sem, t111, t114, kf]
      exact Calls.mono (lwNums_any sa111 sa114 sc111 sc114 zz W hz111 hz114 LZ2.out) (fun e x h => ⟨_, h.1, hC.trans (h.2.mono hC.size), h.2, rfl⟩)
    · intro v W ρ y hC kc kf ks ki ky ku kd
      have dg : v 32 = .bool false := by first | exact kd _ (mem0 rfl) rfl | exact kd _ (mem1 rfl) rfl | exact kd _ (mem2 rfl) rfl | exact kd _ (mem3 rfl) rfl | exact kd _ (mem4 rfl) rfl | exact kd _ (mem5 rfl) rfl
      have hy := ky 32 108 false (by decide) rfl dg
      rw [if_pos (by simp [Region.wanted, hy])]
      have d39 : v 39 = .bool true := by first | exact kd _ (mem0 rfl) rfl | exact kd _ (mem1 rfl) rfl | exact kd _ (mem2 rfl) rfl | exact kd _ (mem3 rfl) rfl | exact kd _ (mem4 rfl) rfl | exact kd _ (mem5 rfl) rfl
      have t115 : ρ (.tmp 115) = .bool true := (ks 39 115 (by decide) rfl).trans d39
      simp [execOp, go_sem, kc, t115]
      exact ⟨hC, Below.refl _ _, rfl⟩
    · refine stepW_of_u ⟨rfl, fun v W ρ hC kc kf ks ki kd => ?_⟩
      have d32 : v 32 = .bool false := by first | exact kd _ (mem0 rfl) rfl | exact kd _ (mem1 rfl) rfl | exact kd _ (mem2 rfl) rfl | exact kd _ (mem3 rfl) rfl | exact kd _ (mem4 rfl) rfl | exact kd _ (mem5 rfl) rfl
      have t108 : ρ (.tmp 108) = .bool false := (ks 32 108 (by decide) rfl).trans d32
      have d40 : v 40 = .bool false := by first | exact kd _ (mem0 rfl) rfl | exact kd _ (mem1 rfl) rfl | exact kd _ (mem2 rfl) rfl | exact kd _ (mem3 rfl) rfl | exact kd _ (mem4 rfl) rfl | exact kd _ (mem5 rfl) rfl
      have t116 : ρ (.tmp 116) = .bool false := (ks 40 116 (by decide) rfl).trans d40
      simp [execOp, go_sem, kc, t108, t116]
      exact ⟨hC, Below.refl _ _, rfl⟩
    · refine stepW_of_u ⟨rfl, fun v W ρ hC kc kf ks ki kd => ?_⟩
      have d41 : v 41 = .bool false := by first | exact kd _ (mem0 rfl) rfl | exact kd _ (mem1 rfl) rfl | exact kd _ (mem2 rfl) rfl | exact kd _ (mem3 rfl) rfl | exact kd _ (mem4 rfl) rfl | exact kd _ (mem5 rfl) rfl
      have t117 : ρ (.tmp 117) = .bool false := (ks 41 117 (by decide) rfl).trans d41
      simp [execOp, go_sem, kc, t117]
      exact ⟨hC, Below.refl _ _, rfl⟩
    · intro v W ρ y hC kc kf ks ki ky ku kd
      have dg : v 42 = .bool false := by first | exact kd _ (mem0 rfl) rfl | exact kd _ (mem1 rfl) rfl | exact kd _ (mem2 rfl) rfl | exact kd _ (mem3 rfl) rfl | exact kd _ (mem4 rfl) rfl | exact kd _ (mem5 rfl) rfl
      have hy := ky 42 118 false (by decide) rfl dg
      rw [if_pos (by simp [Region.wanted, hy])]
      have t18 : ρ (.tmp 18) = .pointer (some ⟨x6, 0, none⟩) := ki 18 (by decide)
      have hg := blk_later B619.out hC
      have c0 := blk_cell hg 0
      have c1 := blk_cell hg 1
      simp at c0 c1
      simp [execOp, go_sem, kc, t18, c0, c1]
      exact ⟨hC, Below.refl _ _, rfl⟩
    · intro v W ρ y hC kc kf ks ki ky ku kd
      have dg : v 42 = .bool false := by first | exact kd _ (mem0 rfl) rfl | exact kd _ (mem1 rfl) rfl | exact kd _ (mem2 rfl) rfl | exact kd _ (mem3 rfl) rfl | exact kd _ (mem4 rfl) rfl | exact kd _ (mem5 rfl) rfl
      have hy := ky 42 118 false (by decide) rfl dg
      rw [if_pos (by simp [Region.wanted, hy])]
      have t19 : ρ (.tmp 19) = .int .i64 som := ki 19 (by decide)
      simp [execOp, go_sem, kc, t19]
      exact ⟨hC, Below.refl _ _, rfl⟩
    · intro v W ρ y hC kc kf ks ki ky ku kd
      have dg : v 42 = .bool false := by first | exact kd _ (mem0 rfl) rfl | exact kd _ (mem1 rfl) rfl | exact kd _ (mem2 rfl) rfl | exact kd _ (mem3 rfl) rfl | exact kd _ (mem4 rfl) rfl | exact kd _ (mem5 rfl) rfl
      have hy := ky 42 118 false (by decide) rfl dg
      rw [if_pos (by simp [Region.wanted, hy])]
      have d43 : v 43 = .agg #[.slice (some ⟨xb6, xo6, none⟩) t6.slots.length xc6, .slice (some ⟨yb6, yo6, none⟩) t6.heads.length yc6] := by first | exact kd _ (mem0 rfl) rfl | exact kd _ (mem1 rfl) rfl | exact kd _ (mem2 rfl) rfl | exact kd _ (mem3 rfl) rfl | exact kd _ (mem4 rfl) rfl | exact kd _ (mem5 rfl) rfl
      have t119 : ρ (.tmp 119) = .agg #[.slice (some ⟨xb6, xo6, none⟩) t6.slots.length xc6, .slice (some ⟨yb6, yo6, none⟩) t6.heads.length yc6] := (ks 43 119 (by decide) rfl).trans d43
      have d44 : v 44 = .int .i64 som := by first | exact kd _ (mem0 rfl) rfl | exact kd _ (mem1 rfl) rfl | exact kd _ (mem2 rfl) rfl | exact kd _ (mem3 rfl) rfl | exact kd _ (mem4 rfl) rfl | exact kd _ (mem5 rfl) rfl
      have t120 : ρ (.tmp 120) = .int .i64 som := (ks 44 120 (by decide) rfl).trans d44
      simp [execOp, go_sem, t119, t120, kf]
      exact Calls.mono (HIF.out _ _ _ _ W (Z619.out.later hC)) (fun e x h => ⟨_, h.1, hC.trans (h.2.mono hC.size), h.2, rfl⟩)
    · intro v W ρ y hC kc kf ks ki ky ku kd
      have dg : v 42 = .bool false := by first | exact kd _ (mem0 rfl) rfl | exact kd _ (mem1 rfl) rfl | exact kd _ (mem2 rfl) rfl | exact kd _ (mem3 rfl) rfl | exact kd _ (mem4 rfl) rfl | exact kd _ (mem5 rfl) rfl
      have hy := ky 42 118 false (by decide) rfl dg
      rw [if_pos (by simp [Region.wanted, hy])]
      have t18 : ρ (.tmp 18) = .pointer (some ⟨x6, 0, none⟩) := ki 18 (by decide)
      have hg := blk_later B619.out hC
      have c0 := blk_cell hg 0
      have c1 := blk_cell hg 1
      simp at c0 c1
      simp [execOp, go_sem, kc, t18, c0, c1]
      exact ⟨hC, Below.refl _ _, rfl⟩
    · intro v W ρ y hC kc kf ks ki ky ku kd
      have dg : v 42 = .bool false := by first | exact kd _ (mem0 rfl) rfl | exact kd _ (mem1 rfl) rfl | exact kd _ (mem2 rfl) rfl | exact kd _ (mem3 rfl) rfl | exact kd _ (mem4 rfl) rfl | exact kd _ (mem5 rfl) rfl
      have hy := ky 42 118 false (by decide) rfl dg
      rw [if_pos (by simp [Region.wanted, hy])]
      have t19 : ρ (.tmp 19) = .int .i64 som := ki 19 (by decide)
      simp [execOp, go_sem, kc, t19]
      exact ⟨hC, Below.refl _ _, rfl⟩
    · intro v W ρ y hC kc kf ks ki ky ku kd
      have dg : v 42 = .bool false := by first | exact kd _ (mem0 rfl) rfl | exact kd _ (mem1 rfl) rfl | exact kd _ (mem2 rfl) rfl | exact kd _ (mem3 rfl) rfl | exact kd _ (mem4 rfl) rfl | exact kd _ (mem5 rfl) rfl
      have hy := ky 42 118 false (by decide) rfl dg
      rw [if_pos (by simp [Region.wanted, hy])]
      have d46 : v 46 = .agg #[.slice (some ⟨xb6, xo6, none⟩) t6.slots.length xc6, .slice (some ⟨yb6, yo6, none⟩) t6.heads.length yc6] := by first | exact kd _ (mem0 rfl) rfl | exact kd _ (mem1 rfl) rfl | exact kd _ (mem2 rfl) rfl | exact kd _ (mem3 rfl) rfl | exact kd _ (mem4 rfl) rfl | exact kd _ (mem5 rfl) rfl
      have t122 : ρ (.tmp 122) = .agg #[.slice (some ⟨xb6, xo6, none⟩) t6.slots.length xc6, .slice (some ⟨yb6, yo6, none⟩) t6.heads.length yc6] := (ks 46 122 (by decide) rfl).trans d46
      have d47 : v 47 = .int .i64 som := by first | exact kd _ (mem0 rfl) rfl | exact kd _ (mem1 rfl) rfl | exact kd _ (mem2 rfl) rfl | exact kd _ (mem3 rfl) rfl | exact kd _ (mem4 rfl) rfl | exact kd _ (mem5 rfl) rfl
      have t123 : ρ (.tmp 123) = .int .i64 som := (ks 47 123 (by decide) rfl).trans d47
      simp [execOp, go_sem, t122, t123, kf]
      exact Calls.mono (HSF.out _ _ _ _ W (Z619.out.later hC)) (fun e x h => ⟨_, h.1, hC.trans (h.2.mono hC.size), h.2, rfl⟩)
    · intro v W ρ y hC kc kf ks ki ky ku kd
      have dg : v 42 = .bool false := by first | exact kd _ (mem0 rfl) rfl | exact kd _ (mem1 rfl) rfl | exact kd _ (mem2 rfl) rfl | exact kd _ (mem3 rfl) rfl | exact kd _ (mem4 rfl) rfl | exact kd _ (mem5 rfl) rfl
      have hy := ky 42 118 false (by decide) rfl dg
      rw [if_pos (by simp [Region.wanted, hy])]
      have d45 : v 45 = .int .i64 fa := by first | exact kd _ (mem0 rfl) rfl | exact kd _ (mem1 rfl) rfl | exact kd _ (mem2 rfl) rfl | exact kd _ (mem3 rfl) rfl | exact kd _ (mem4 rfl) rfl | exact kd _ (mem5 rfl) rfl
      have t121 : ρ (.tmp 121) = .int .i64 fa := (ks 45 121 (by decide) rfl).trans d45
      have d48 : v 48 = .int .i64 fa := by first | exact kd _ (mem0 rfl) rfl | exact kd _ (mem1 rfl) rfl | exact kd _ (mem2 rfl) rfl | exact kd _ (mem3 rfl) rfl | exact kd _ (mem4 rfl) rfl | exact kd _ (mem5 rfl) rfl
      have t124 : ρ (.tmp 124) = .int .i64 fa := (ks 48 124 (by decide) rfl).trans d48
      simp [execOp, go_sem, kc, t121, t124]
      exact ⟨hC, Below.refl _ _, rfl⟩
    · refine stepW_of_u ⟨rfl, fun v W ρ hC kc kf ks ki kd => ?_⟩
      have d42 : v 42 = .bool false := by first | exact kd _ (mem0 rfl) rfl | exact kd _ (mem1 rfl) rfl | exact kd _ (mem2 rfl) rfl | exact kd _ (mem3 rfl) rfl | exact kd _ (mem4 rfl) rfl | exact kd _ (mem5 rfl) rfl
      have t118 : ρ (.tmp 118) = .bool false := (ks 42 118 (by decide) rfl).trans d42
      have d49 : v 49 = .bool false := by first | exact kd _ (mem0 rfl) rfl | exact kd _ (mem1 rfl) rfl | exact kd _ (mem2 rfl) rfl | exact kd _ (mem3 rfl) rfl | exact kd _ (mem4 rfl) rfl | exact kd _ (mem5 rfl) rfl
      have t125 : ρ (.tmp 125) = .bool false := (ks 49 125 (by decide) rfl).trans d49
      simp [execOp, go_sem, kc, t118, t125]
      exact ⟨hC, Below.refl _ _, rfl⟩
    · refine stepW_of_u ⟨rfl, fun v W ρ hC kc kf ks ki kd => ?_⟩
      have d50 : v 50 = .bool false := by first | exact kd _ (mem0 rfl) rfl | exact kd _ (mem1 rfl) rfl | exact kd _ (mem2 rfl) rfl | exact kd _ (mem3 rfl) rfl | exact kd _ (mem4 rfl) rfl | exact kd _ (mem5 rfl) rfl
      have t126 : ρ (.tmp 126) = .bool false := (ks 50 126 (by decide) rfl).trans d50
      simp [execOp, go_sem, kc, t126]
      exact ⟨hC, Below.refl _ _, rfl⟩
    · intro v W ρ y hC kc kf ks ki ky ku kd
      have dg : v 51 = .bool false := by first | exact kd _ (mem0 rfl) rfl | exact kd _ (mem1 rfl) rfl | exact kd _ (mem2 rfl) rfl | exact kd _ (mem3 rfl) rfl | exact kd _ (mem4 rfl) rfl | exact kd _ (mem5 rfl) rfl
      have hy := ky 51 127 false (by decide) rfl dg
      rw [if_pos (by simp [Region.wanted, hy])]
      have t20 : ρ (.tmp 20) = .int .i64 nn := ki 20 (by decide)
      simp [execOp, go_sem, kc, t20]
      exact ⟨hC, Below.refl _ _, rfl⟩
    · intro v W ρ y hC kc kf ks ki ky ku kd
      have dg : v 51 = .bool false := by first | exact kd _ (mem0 rfl) rfl | exact kd _ (mem1 rfl) rfl | exact kd _ (mem2 rfl) rfl | exact kd _ (mem3 rfl) rfl | exact kd _ (mem4 rfl) rfl | exact kd _ (mem5 rfl) rfl
      have hy := ky 51 127 false (by decide) rfl dg
      rw [if_pos (by simp [Region.wanted, hy])]
      have t21 : ρ (.tmp 21) = .int .i64 mm := ki 21 (by decide)
      simp [execOp, go_sem, kc, t21]
      exact ⟨hC, Below.refl _ _, rfl⟩
    · intro v W ρ y hC kc kf ks ki ky ku kd
      have dg : v 51 = .bool false := by first | exact kd _ (mem0 rfl) rfl | exact kd _ (mem1 rfl) rfl | exact kd _ (mem2 rfl) rfl | exact kd _ (mem3 rfl) rfl | exact kd _ (mem4 rfl) rfl | exact kd _ (mem5 rfl) rfl
      have hy := ky 51 127 false (by decide) rfl dg
      rw [if_pos (by simp [Region.wanted, hy])]
      have d52 : v 52 = .int .i64 nn := by first | exact kd _ (mem0 rfl) rfl | exact kd _ (mem1 rfl) rfl | exact kd _ (mem2 rfl) rfl | exact kd _ (mem3 rfl) rfl | exact kd _ (mem4 rfl) rfl | exact kd _ (mem5 rfl) rfl
      have t128 : ρ (.tmp 128) = .int .i64 nn := (ks 52 128 (by decide) rfl).trans d52
      have d53 : v 53 = .int .i64 mm := by first | exact kd _ (mem0 rfl) rfl | exact kd _ (mem1 rfl) rfl | exact kd _ (mem2 rfl) rfl | exact kd _ (mem3 rfl) rfl | exact kd _ (mem4 rfl) rfl | exact kd _ (mem5 rfl) rfl
      have t129 : ρ (.tmp 129) = .int .i64 mm := (ks 53 129 (by decide) rfl).trans d53
      simp [execOp, go_sem, kc, kf, t128, t129]
      refine Calls.mono (HIN.out W) (fun e x h => ?_)
      obtain ⟨sS, sc, sH, se, rfl, hO, hb⟩ := h
      exact ⟨_, rfl, hC.trans (hb.mono hC.size), hb, sS, sc, sH, se, rfl, hO.read⟩
    · intro v W ρ y hC kc kf ks ki ky ku kd
      have dg : v 51 = .bool false := by first | exact kd _ (mem0 rfl) rfl | exact kd _ (mem1 rfl) rfl | exact kd _ (mem2 rfl) rfl | exact kd _ (mem3 rfl) rfl | exact kd _ (mem4 rfl) rfl | exact kd _ (mem5 rfl) rfl
      have hy := ky 51 127 false (by decide) rfl dg
      rw [if_pos (by simp [Region.wanted, hy])]
      have t20 : ρ (.tmp 20) = .int .i64 nn := ki 20 (by decide)
      simp [execOp, go_sem, kc, t20]
      exact ⟨hC, Below.refl _ _, rfl⟩
    · intro v W ρ y hC kc kf ks ki ky ku kd
      have dg : v 51 = .bool false := by first | exact kd _ (mem0 rfl) rfl | exact kd _ (mem1 rfl) rfl | exact kd _ (mem2 rfl) rfl | exact kd _ (mem3 rfl) rfl | exact kd _ (mem4 rfl) rfl | exact kd _ (mem5 rfl) rfl
      have hy := ky 51 127 false (by decide) rfl dg
      rw [if_pos (by simp [Region.wanted, hy])]
      have t21 : ρ (.tmp 21) = .int .i64 mm := ki 21 (by decide)
      simp [execOp, go_sem, kc, t21]
      exact ⟨hC, Below.refl _ _, rfl⟩
    · intro v W ρ y hC kc kf ks ki ky ku kd
      have dg : v 51 = .bool false := by first | exact kd _ (mem0 rfl) rfl | exact kd _ (mem1 rfl) rfl | exact kd _ (mem2 rfl) rfl | exact kd _ (mem3 rfl) rfl | exact kd _ (mem4 rfl) rfl | exact kd _ (mem5 rfl) rfl
      have hy := ky 51 127 false (by decide) rfl dg
      rw [if_pos (by simp [Region.wanted, hy])]
      have d55 : v 55 = .int .i64 nn := by first | exact kd _ (mem0 rfl) rfl | exact kd _ (mem1 rfl) rfl | exact kd _ (mem2 rfl) rfl | exact kd _ (mem3 rfl) rfl | exact kd _ (mem4 rfl) rfl | exact kd _ (mem5 rfl) rfl
      have t131 : ρ (.tmp 131) = .int .i64 nn := (ks 55 131 (by decide) rfl).trans d55
      have d56 : v 56 = .int .i64 mm := by first | exact kd _ (mem0 rfl) rfl | exact kd _ (mem1 rfl) rfl | exact kd _ (mem2 rfl) rfl | exact kd _ (mem3 rfl) rfl | exact kd _ (mem4 rfl) rfl | exact kd _ (mem5 rfl) rfl
      have t132 : ρ (.tmp 132) = .int .i64 mm := (ks 56 132 (by decide) rfl).trans d56
      simp [execOp, go_sem, kc, kf, t131, t132]
      refine Calls.mono (HSN.out W) (fun e x h => ?_)
      obtain ⟨sS, sc, sH, se, rfl, hO, hb⟩ := h
      exact ⟨_, rfl, hC.trans (hb.mono hC.size), hb, sS, sc, sH, se, rfl, hO.read⟩
    · intro v W ρ y hC kc kf ks ki ky ku kd
      have dg : v 51 = .bool false := by first | exact kd _ (mem0 rfl) rfl | exact kd _ (mem1 rfl) rfl | exact kd _ (mem2 rfl) rfl | exact kd _ (mem3 rfl) rfl | exact kd _ (mem4 rfl) rfl | exact kd _ (mem5 rfl) rfl
      have hy := ky 51 127 false (by decide) rfl dg
      rw [if_pos (by simp [Region.wanted, hy])]
      obtain ⟨sS130, sc130, sH130, se130, e130, hz130⟩ : (slK nw) (v 54) W := by first | exact kd _ (mem0 rfl) rfl | exact kd _ (mem1 rfl) rfl | exact kd _ (mem2 rfl) rfl | exact kd _ (mem3 rfl) rfl | exact kd _ (mem4 rfl) rfl | exact kd _ (mem5 rfl) rfl
      have t130 : ρ (.tmp 130) = .agg #[.slice sS130 nw.slots.length sc130, .slice sH130 nw.heads.length se130] := (ks 54 130 (by decide) rfl).trans e130
      obtain ⟨sS133, sc133, sH133, se133, e133, hz133⟩ : (slK nw) (v 57) W := by first | exact kd _ (mem0 rfl) rfl | exact kd _ (mem1 rfl) rfl | exact kd _ (mem2 rfl) rfl | exact kd _ (mem3 rfl) rfl | exact kd _ (mem4 rfl) rfl | exact kd _ (mem5 rfl) rfl
      have t133 : ρ (.tmp 133) = .agg #[.slice sS133 nw.slots.length sc133, .slice sH133 nw.heads.length se133] := (ks 57 133 (by decide) rfl).trans e133
      simp [execOp, go_sem, t130, t133, kf]
      exact Calls.mono (lwSlab_any sS130 sS133 sH130 sH133 sc130 se130 sc133 se133 nw W hz130 hz133 LN2.out.1 LN2.out.2) (fun e x h => ⟨_, h.1, hC.trans (h.2.mono hC.size), h.2, rfl⟩)
    · intro v W ρ y hC kc kf ks ki ky ku kd
      have dg : v 51 = .bool false := by first | exact kd _ (mem0 rfl) rfl | exact kd _ (mem1 rfl) rfl | exact kd _ (mem2 rfl) rfl | exact kd _ (mem3 rfl) rfl | exact kd _ (mem4 rfl) rfl | exact kd _ (mem5 rfl) rfl
      have hy := ky 51 127 false (by decide) rfl dg
      rw [if_pos (by simp [Region.wanted, hy])]
      have d58 : v 58 = .bool true := by first | exact kd _ (mem0 rfl) rfl | exact kd _ (mem1 rfl) rfl | exact kd _ (mem2 rfl) rfl | exact kd _ (mem3 rfl) rfl | exact kd _ (mem4 rfl) rfl | exact kd _ (mem5 rfl) rfl
      have t134 : ρ (.tmp 134) = .bool true := (ks 58 134 (by decide) rfl).trans d58
      simp [execOp, go_sem, kc, t134]
      exact ⟨hC, Below.refl _ _, rfl⟩
    · refine stepW_of_u ⟨rfl, fun v W ρ hC kc kf ks ki kd => ?_⟩
      have d51 : v 51 = .bool false := by first | exact kd _ (mem0 rfl) rfl | exact kd _ (mem1 rfl) rfl | exact kd _ (mem2 rfl) rfl | exact kd _ (mem3 rfl) rfl | exact kd _ (mem4 rfl) rfl | exact kd _ (mem5 rfl) rfl
      have t127 : ρ (.tmp 127) = .bool false := (ks 51 127 (by decide) rfl).trans d51
      have d59 : v 59 = .bool false := by first | exact kd _ (mem0 rfl) rfl | exact kd _ (mem1 rfl) rfl | exact kd _ (mem2 rfl) rfl | exact kd _ (mem3 rfl) rfl | exact kd _ (mem4 rfl) rfl | exact kd _ (mem5 rfl) rfl
      have t135 : ρ (.tmp 135) = .bool false := (ks 59 135 (by decide) rfl).trans d59
      simp [execOp, go_sem, kc, t127, t135]
      exact ⟨hC, Below.refl _ _, rfl⟩
    · refine stepW_of_u ⟨rfl, fun v W ρ hC kc kf ks ki kd => ?_⟩
      have d60 : v 60 = .bool false := by first | exact kd _ (mem0 rfl) rfl | exact kd _ (mem1 rfl) rfl | exact kd _ (mem2 rfl) rfl | exact kd _ (mem3 rfl) rfl | exact kd _ (mem4 rfl) rfl | exact kd _ (mem5 rfl) rfl
      have t136 : ρ (.tmp 136) = .bool false := (ks 60 136 (by decide) rfl).trans d60
      simp [execOp, go_sem, kc, t136]
      exact ⟨hC, Below.refl _ _, rfl⟩
    · intro v W ρ y hC kc kf ks ki ky ku kd
      have dg : v 61 = .bool false := by first | exact kd _ (mem0 rfl) rfl | exact kd _ (mem1 rfl) rfl | exact kd _ (mem2 rfl) rfl | exact kd _ (mem3 rfl) rfl | exact kd _ (mem4 rfl) rfl | exact kd _ (mem5 rfl) rfl
      have hy := ky 61 137 false (by decide) rfl dg
      rw [if_pos (by simp [Region.wanted, hy])]
      have t16 : ρ (.tmp 16) = .pointer (some ⟨x5, 0, none⟩) := ki 16 (by decide)
      have hg := blk_later B519.out hC
      have c0 := blk_cell hg 0
      have c1 := blk_cell hg 1
      simp at c0 c1
      simp [execOp, go_sem, kc, t16, c0, c1]
      exact ⟨hC, Below.refl _ _, rfl⟩
    · intro v W ρ y hC kc kf ks ki ky ku kd
      have dg : v 61 = .bool false := by first | exact kd _ (mem0 rfl) rfl | exact kd _ (mem1 rfl) rfl | exact kd _ (mem2 rfl) rfl | exact kd _ (mem3 rfl) rfl | exact kd _ (mem4 rfl) rfl | exact kd _ (mem5 rfl) rfl
      have hy := ky 61 137 false (by decide) rfl dg
      rw [if_pos (by simp [Region.wanted, hy])]
      have d62 : v 62 = .agg #[.slice (some ⟨xb5, xo5, none⟩) t5.slots.length xc5, .slice (some ⟨yb5, yo5, none⟩) t5.heads.length yc5] := by first | exact kd _ (mem0 rfl) rfl | exact kd _ (mem1 rfl) rfl | exact kd _ (mem2 rfl) rfl | exact kd _ (mem3 rfl) rfl | exact kd _ (mem4 rfl) rfl | exact kd _ (mem5 rfl) rfl
      have t138 : ρ (.tmp 138) = .agg #[.slice (some ⟨xb5, xo5, none⟩) t5.slots.length xc5, .slice (some ⟨yb5, yo5, none⟩) t5.heads.length yc5] := (ks 62 138 (by decide) rfl).trans d62
      simp [execOp, go_sem, t138, kf]
      exact Calls.mono (HIR.out _ _ _ _ W (Z519.out.later hC)) (fun e x h => ⟨_, h.1, hC.trans (h.2.mono hC.size), h.2, rfl⟩)
    · intro v W ρ y hC kc kf ks ki ky ku kd
      have dg : v 61 = .bool false := by first | exact kd _ (mem0 rfl) rfl | exact kd _ (mem1 rfl) rfl | exact kd _ (mem2 rfl) rfl | exact kd _ (mem3 rfl) rfl | exact kd _ (mem4 rfl) rfl | exact kd _ (mem5 rfl) rfl
      have hy := ky 61 137 false (by decide) rfl dg
      rw [if_pos (by simp [Region.wanted, hy])]
      have t16 : ρ (.tmp 16) = .pointer (some ⟨x5, 0, none⟩) := ki 16 (by decide)
      have hg := blk_later B519.out hC
      have c0 := blk_cell hg 0
      have c1 := blk_cell hg 1
      simp at c0 c1
      simp [execOp, go_sem, kc, t16, c0, c1]
      exact ⟨hC, Below.refl _ _, rfl⟩
    · intro v W ρ y hC kc kf ks ki ky ku kd
      have dg : v 61 = .bool false := by first | exact kd _ (mem0 rfl) rfl | exact kd _ (mem1 rfl) rfl | exact kd _ (mem2 rfl) rfl | exact kd _ (mem3 rfl) rfl | exact kd _ (mem4 rfl) rfl | exact kd _ (mem5 rfl) rfl
      have hy := ky 61 137 false (by decide) rfl dg
      rw [if_pos (by simp [Region.wanted, hy])]
      have d64 : v 64 = .agg #[.slice (some ⟨xb5, xo5, none⟩) t5.slots.length xc5, .slice (some ⟨yb5, yo5, none⟩) t5.heads.length yc5] := by first | exact kd _ (mem0 rfl) rfl | exact kd _ (mem1 rfl) rfl | exact kd _ (mem2 rfl) rfl | exact kd _ (mem3 rfl) rfl | exact kd _ (mem4 rfl) rfl | exact kd _ (mem5 rfl) rfl
      have t140 : ρ (.tmp 140) = .agg #[.slice (some ⟨xb5, xo5, none⟩) t5.slots.length xc5, .slice (some ⟨yb5, yo5, none⟩) t5.heads.length yc5] := (ks 64 140 (by decide) rfl).trans d64
      simp [execOp, go_sem, t140, kf]
      exact Calls.mono (HSR.out _ _ _ _ W (Z519.out.later hC)) (fun e x h => ⟨_, h.1, hC.trans (h.2.mono hC.size), h.2, rfl⟩)
    · intro v W ρ y hC kc kf ks ki ky ku kd
      have dg : v 61 = .bool false := by first | exact kd _ (mem0 rfl) rfl | exact kd _ (mem1 rfl) rfl | exact kd _ (mem2 rfl) rfl | exact kd _ (mem3 rfl) rfl | exact kd _ (mem4 rfl) rfl | exact kd _ (mem5 rfl) rfl
      have hy := ky 61 137 false (by decide) rfl dg
      rw [if_pos (by simp [Region.wanted, hy])]
      have d63 : v 63 = .bool rr := by first | exact kd _ (mem0 rfl) rfl | exact kd _ (mem1 rfl) rfl | exact kd _ (mem2 rfl) rfl | exact kd _ (mem3 rfl) rfl | exact kd _ (mem4 rfl) rfl | exact kd _ (mem5 rfl) rfl
      have t139 : ρ (.tmp 139) = .bool rr := (ks 63 139 (by decide) rfl).trans d63
      have d65 : v 65 = .bool rr := by first | exact kd _ (mem0 rfl) rfl | exact kd _ (mem1 rfl) rfl | exact kd _ (mem2 rfl) rfl | exact kd _ (mem3 rfl) rfl | exact kd _ (mem4 rfl) rfl | exact kd _ (mem5 rfl) rfl
      have t141 : ρ (.tmp 141) = .bool rr := (ks 65 141 (by decide) rfl).trans d65
      simp [execOp, go_sem, kc, t139, t141]
      exact ⟨hC, Below.refl _ _, rfl⟩
    · refine stepW_of_u ⟨rfl, fun v W ρ hC kc kf ks ki kd => ?_⟩
      have d61 : v 61 = .bool false := by first | exact kd _ (mem0 rfl) rfl | exact kd _ (mem1 rfl) rfl | exact kd _ (mem2 rfl) rfl | exact kd _ (mem3 rfl) rfl | exact kd _ (mem4 rfl) rfl | exact kd _ (mem5 rfl) rfl
      have t137 : ρ (.tmp 137) = .bool false := (ks 61 137 (by decide) rfl).trans d61
      have d66 : v 66 = .bool false := by first | exact kd _ (mem0 rfl) rfl | exact kd _ (mem1 rfl) rfl | exact kd _ (mem2 rfl) rfl | exact kd _ (mem3 rfl) rfl | exact kd _ (mem4 rfl) rfl | exact kd _ (mem5 rfl) rfl
      have t142 : ρ (.tmp 142) = .bool false := (ks 66 142 (by decide) rfl).trans d66
      simp [execOp, go_sem, kc, t137, t142]
      exact ⟨hC, Below.refl _ _, rfl⟩
  intro vT13 w20 hb hall
  have hvT13 : vT13 67 = .bool false := hall 67 (by decide)
  simp [upto, Act.put]
  rw [hvT13]
  clear hall hvT13
  clear HI4 HS4 LU4 RU4 HIC HSC LZ LZ2 HIR HSR HIF HSF HIN HSN LN LN2 HS1 HS2 HS3 HI1 HI2 HI3
  have Z120 := hidS (Z119.out.later hb)
  have B120 := hidS (blk_later B119.out hb)
  have O120 := hidS (O119.out.later hb)
  have Y120 := hidS (blk_later Y119.out hb)
  have Z220 := hidS (Z219.out.later hb)
  have B220 := hidS (blk_later B219.out hb)
  have O220 := hidS (O219.out.later hb)
  have Y220 := hidS (blk_later Y219.out hb)
  have Z320 := hidS (Z319.out.later hb)
  have B320 := hidS (blk_later B319.out hb)
  have O320 := hidS (O319.out.later hb)
  have Y320 := hidS (blk_later Y319.out hb)
  have hL20 := hidS (hL19.out.trans (hb.mono hL19.out.size))
  clear Z119 B119 O119 Y119 Z219 B219 O219 Y219 Z319 B319 O319 Y319 hL19 hb
  go_wp2_with fail
  refine grow_cases 37 (.bool false) ?rest15 ?now15
  case now15 =>
    intro fin
    have FIN := hidS fin
    clear fin
    by_cases hq : k1 = 0
    · obtain ⟨f1, f2, ⟨l, f3⟩, f4, f5, f6, f7⟩ := add_facts (EK1.out.trans hq)
      have EI : addIn t1 key = u1 := by rw [← EU1.out]; unfold addS; rw [if_pos (EK1.out.trans hq)]
      have EP : (freeK t1.slots : Int) = pl1 := by rw [← EA1.out]; unfold addA; rw [if_pos (EK1.out.trans hq)]
      have EHL : u1.heads.length = t1.heads.length := by rw [← EI]; simp [addIn]
      rw [EI] at f1 f2 f3
      generalize freeK t1.slots = N at f2 f3 f4 f5 EP
      subst EP
      subst hq
      obtain ⟨k0, k9⟩ := key_iff.1 f7
      have hl3 := D1.out.n3
      have FA : Hid (findAns u1 key = (N : Int)) := by show _ = _; unfold findAns; rw [f1, f7, if_pos (by rfl)]; exact f2
      obtain ⟨c, hmod⟩ : ∃ c : Nat, key.tmod t1.heads.length = (c : Int) := ⟨(key.tmod t1.heads.length).toNat, by have := Int.tmod_nonneg (t1.heads.length : Int) k0; omega⟩
      have hcl : c < t1.heads.length := by have := Int.tmod_lt_of_pos key (show (0 : Int) < t1.heads.length by omega); omega
      have CA : Hid (chainAns u1 (c : Int) = (N : Int) :: l) := by
        show _ = _
        unfold chainAns chainB
        rw [f1, if_pos (by rw [EHL]; simp; omega)]
        have e : chN t1 key = c := by unfold chN; rw [hmod]; rfl
        rw [e] at f3
        exact f3
      have HF := hidS (fun (aS aH : Option Addr) (c e : Nat) (W : World) (h : SlabZ aS aH u1 W) => implSlabFind_any aS aH c e u1 key W h (right_fit f1) LU1.out.1 LU1.out.2)
      have HCH := hidS (fun (aS aH : Option Addr) (q e : Nat) (W : World) (h : SlabZ aS aH u1 W) => implChainOf_any aS aH q e u1 (c : Int) W h (right_fit f1) LU1.out.1 LU1.out.2)
      rw [FA.out] at HF
      rw [CA.out] at HCH
      have hne : t1.heads ≠ [] := fun e => by rw [e] at hl3; simp at hl3
      have hNN : (0 : Int) ≤ (N : Int) ∧ (N : Int) < (t1.slots.length : Int) := by omega
      have F4 := hidS f4
      have F5 := hidS f5
      clear f1 f2 f3 f4 f5 f6 f7 FA CA EI EHL hl3 hcl k0 k9
      refine grow_gk 37 [isP (.pointer (some ⟨y1, 3, none⟩)), isP (.int .i64 0), isP (.bool true), isP (.bool true), isP (.pointer (some ⟨y1, 0, none⟩)), isP (.agg #[.slice aS1 u1.slots.length cS1, .slice aH1 u1.heads.length cH1]), isP (.int .i64 key), isP (.int .i64 (N : Int)), isP (.pointer (some ⟨y1, 2, none⟩)), isP (.int .i64 (N : Int)), isP (.bool false), isP (.bool false), isP (.pointer (some ⟨x1, 0, none⟩)), isP (.slice (some ⟨xb1, xo1, none⟩) t1.slots.length xc1), isP (.pointer (some ⟨y1, 2, none⟩)), isP (.int .i64 (N : Int)), isP (.pointer (some ⟨xb1, xo1 + N * 4, none⟩)), isP (.pointer (some ⟨xb1, xo1 + N * 4 + 2, none⟩)), isP (.int .i64 0), isP (.bool false), isP (.bool false), isP (.bool false), isP (.pointer (some ⟨y1, 0, none⟩)), isP (.agg #[.slice aS1 u1.slots.length cS1, .slice aH1 u1.heads.length cH1]), isP (.int .i64 key), isP (.pointer (some ⟨x1, 1, none⟩)), isP (.slice (some ⟨yb1, yo1, none⟩) t1.heads.length yc1), isP (.int .i64 (t1.heads.length : Int)), isP (.int .i64 (c : Int)), numsK ((N : Int) :: l), ptrK (N : Int), isP (.int .i64 (N : Int)), isP (.pointer (some ⟨y1, 2, none⟩)), isP (.int .i64 (N : Int)), isP (.bool false), isP (.bool false), isP (.bool false)] rfl (by kernel_rfl) (by kernel_rfl) ⟨(fun v W W' h _ => h), (fun v W W' h _ => h), (fun v W W' h _ => h), (fun v W W' h _ => h), (fun v W W' h _ => h), (fun v W W' h _ => h), (fun v W W' h _ => h), (fun v W W' h _ => h), (fun v W W' h _ => h), (fun v W W' h _ => h), (fun v W W' h _ => h), (fun v W W' h _ => h), (fun v W W' h _ => h), (fun v W W' h _ => h), (fun v W W' h _ => h), (fun v W W' h _ => h), (fun v W W' h _ => h), (fun v W W' h _ => h), (fun v W W' h _ => h), (fun v W W' h _ => h), (fun v W W' h _ => h), (fun v W W' h _ => h), (fun v W W' h _ => h), (fun v W W' h _ => h), (fun v W W' h _ => h), (fun v W W' h _ => h), (fun v W W' h _ => h), (fun v W W' h _ => h), (fun v W W' h _ => h), (numsK_last _), (ptrK_last _), (fun v W W' h _ => h), (fun v W W' h _ => h), (fun v W W' h _ => h), (fun v W W' h _ => h), (fun v W W' h _ => h), (fun v W W' h _ => h), trivial⟩ ?stepsA15 (fun v w hb hall => FIN.out v w hb (hall 36 (by decide)))
      case stepsA15 =>
        refine ⟨?_, ?_, ?_, ?_, ?_, ?_, ?_, ?_, ?_, ?_, ?_, ?_, ?_, ?_, ?_, ?_, ?_, ?_, ?_, ?_, ?_, ?_, ?_, ?_, ?_, ?_, ?_, ?_, ?_, ?_, ?_, ?_, ?_, ?_, ?_, ?_, ?_, trivial⟩
        · refine stepW_of_u ⟨rfl, fun v W ρ hC kc kf ks ki kd => ?_⟩
          have t7 : ρ (.tmp 7) = .pointer (some ⟨y1, 0, none⟩) := ki 7 (by decide)
          simp [execOp, go_sem, kc, t7]
          exact ⟨hC, Below.refl _ _, rfl⟩
        · refine stepW_of_u ⟨rfl, fun v W ρ hC kc kf ks ki kd => ?_⟩
          have d0 : v 0 = .pointer (some ⟨y1, 3, none⟩) := by first | exact kd _ (mem0 rfl) rfl | exact kd _ (mem1 rfl) rfl | exact kd _ (mem2 rfl) rfl | exact kd _ (mem3 rfl) rfl | exact kd _ (mem4 rfl) rfl | exact kd _ (mem5 rfl) rfl
          have t144 : ρ (.tmp 144) = .pointer (some ⟨y1, 3, none⟩) := (ks 0 144 (by decide) rfl).trans d0
          have hg := blk_later Y120.out hC
          have c3 := blk_cell hg 3
          simp at c3
          simp [execOp, go_sem, kc, t144, c3]
          exact ⟨hC, Below.refl _ _, rfl⟩
        · refine stepW_of_u ⟨rfl, fun v W ρ hC kc kf ks ki kd => ?_⟩
          have d1 : v 1 = .int .i64 0 := by first | exact kd _ (mem0 rfl) rfl | exact kd _ (mem1 rfl) rfl | exact kd _ (mem2 rfl) rfl | exact kd _ (mem3 rfl) rfl | exact kd _ (mem4 rfl) rfl | exact kd _ (mem5 rfl) rfl
          have t145 : ρ (.tmp 145) = .int .i64 0 := (ks 1 145 (by decide) rfl).trans d1
          simp [execOp, go_sem, kc, t145]
          exact ⟨hC, Below.refl _ _, rfl⟩
        · refine stepW_of_u ⟨rfl, fun v W ρ hC kc kf ks ki kd => ?_⟩
          have d2 : v 2 = .bool true := by first | exact kd _ (mem0 rfl) rfl | exact kd _ (mem1 rfl) rfl | exact kd _ (mem2 rfl) rfl | exact kd _ (mem3 rfl) rfl | exact kd _ (mem4 rfl) rfl | exact kd _ (mem5 rfl) rfl
          have t146 : ρ (.tmp 146) = .bool true := (ks 2 146 (by decide) rfl).trans d2
          simp [execOp, go_sem, kc, t146]
          exact ⟨hC, Below.refl _ _, rfl⟩
        · intro v W ρ y hC kc kf ks ki ky ku kd
          have dg : v 3 = .bool true := by first | exact kd _ (mem0 rfl) rfl | exact kd _ (mem1 rfl) rfl | exact kd _ (mem2 rfl) rfl | exact kd _ (mem3 rfl) rfl | exact kd _ (mem4 rfl) rfl | exact kd _ (mem5 rfl) rfl
          have hy := ky 3 147 true (by decide) rfl dg
          rw [if_pos (by simp [Region.wanted, hy])]
          have t7 : ρ (.tmp 7) = .pointer (some ⟨y1, 0, none⟩) := ki 7 (by decide)
          simp [execOp, go_sem, kc, t7]
          exact ⟨hC, Below.refl _ _, rfl⟩
        · intro v W ρ y hC kc kf ks ki ky ku kd
          have dg : v 3 = .bool true := by first | exact kd _ (mem0 rfl) rfl | exact kd _ (mem1 rfl) rfl | exact kd _ (mem2 rfl) rfl | exact kd _ (mem3 rfl) rfl | exact kd _ (mem4 rfl) rfl | exact kd _ (mem5 rfl) rfl
          have hy := ky 3 147 true (by decide) rfl dg
          rw [if_pos (by simp [Region.wanted, hy])]
          have d4 : v 4 = .pointer (some ⟨y1, 0, none⟩) := by first | exact kd _ (mem0 rfl) rfl | exact kd _ (mem1 rfl) rfl | exact kd _ (mem2 rfl) rfl | exact kd _ (mem3 rfl) rfl | exact kd _ (mem4 rfl) rfl | exact kd _ (mem5 rfl) rfl
          have t148 : ρ (.tmp 148) = .pointer (some ⟨y1, 0, none⟩) := (ks 4 148 (by decide) rfl).trans d4
          have hg := blk_later Y120.out hC
          have c0 := blk_cell hg 0
          have c1 := blk_cell hg 1
          simp at c0 c1
          simp [execOp, go_sem, kc, t148, c0, c1]
          exact ⟨hC, Below.refl _ _, rfl⟩
        · intro v W ρ y hC kc kf ks ki ky ku kd
          have dg : v 3 = .bool true := by first | exact kd _ (mem0 rfl) rfl | exact kd _ (mem1 rfl) rfl | exact kd _ (mem2 rfl) rfl | exact kd _ (mem3 rfl) rfl | exact kd _ (mem4 rfl) rfl | exact kd _ (mem5 rfl) rfl
          have hy := ky 3 147 true (by decide) rfl dg
          rw [if_pos (by simp [Region.wanted, hy])]
          have t6 : ρ (.tmp 6) = .int .i64 key := ki 6 (by decide)
          simp [execOp, go_sem, kc, t6]
          exact ⟨hC, Below.refl _ _, rfl⟩
        · intro v W ρ y hC kc kf ks ki ky ku kd
          have dg : v 3 = .bool true := by first | exact kd _ (mem0 rfl) rfl | exact kd _ (mem1 rfl) rfl | exact kd _ (mem2 rfl) rfl | exact kd _ (mem3 rfl) rfl | exact kd _ (mem4 rfl) rfl | exact kd _ (mem5 rfl) rfl
          have hy := ky 3 147 true (by decide) rfl dg
          rw [if_pos (by simp [Region.wanted, hy])]
          have d5 : v 5 = .agg #[.slice aS1 u1.slots.length cS1, .slice aH1 u1.heads.length cH1] := by first | exact kd _ (mem0 rfl) rfl | exact kd _ (mem1 rfl) rfl | exact kd _ (mem2 rfl) rfl | exact kd _ (mem3 rfl) rfl | exact kd _ (mem4 rfl) rfl | exact kd _ (mem5 rfl) rfl
          have t149 : ρ (.tmp 149) = .agg #[.slice aS1 u1.slots.length cS1, .slice aH1 u1.heads.length cH1] := (ks 5 149 (by decide) rfl).trans d5
          have d6 : v 6 = .int .i64 key := by first | exact kd _ (mem0 rfl) rfl | exact kd _ (mem1 rfl) rfl | exact kd _ (mem2 rfl) rfl | exact kd _ (mem3 rfl) rfl | exact kd _ (mem4 rfl) rfl | exact kd _ (mem5 rfl) rfl
          have t150 : ρ (.tmp 150) = .int .i64 key := (ks 6 150 (by decide) rfl).trans d6
          simp [execOp, go_sem, t149, t150, kf]
          exact Calls.mono (HF.out _ _ _ _ W (O120.out.later hC)) (fun e x h => ⟨_, h.1, hC.trans (h.2.mono hC.size), h.2, rfl⟩)
        · intro v W ρ y hC kc kf ks ki ky ku kd
          have dg : v 3 = .bool true := by first | exact kd _ (mem0 rfl) rfl | exact kd _ (mem1 rfl) rfl | exact kd _ (mem2 rfl) rfl | exact kd _ (mem3 rfl) rfl | exact kd _ (mem4 rfl) rfl | exact kd _ (mem5 rfl) rfl
          have hy := ky 3 147 true (by decide) rfl dg
          rw [if_pos (by simp [Region.wanted, hy])]
          have t7 : ρ (.tmp 7) = .pointer (some ⟨y1, 0, none⟩) := ki 7 (by decide)
          simp [execOp, go_sem, kc, t7]
          exact ⟨hC, Below.refl _ _, rfl⟩
        · intro v W ρ y hC kc kf ks ki ky ku kd
          have dg : v 3 = .bool true := by first | exact kd _ (mem0 rfl) rfl | exact kd _ (mem1 rfl) rfl | exact kd _ (mem2 rfl) rfl | exact kd _ (mem3 rfl) rfl | exact kd _ (mem4 rfl) rfl | exact kd _ (mem5 rfl) rfl
          have hy := ky 3 147 true (by decide) rfl dg
          rw [if_pos (by simp [Region.wanted, hy])]
          have d8 : v 8 = .pointer (some ⟨y1, 2, none⟩) := by first | exact kd _ (mem0 rfl) rfl | exact kd _ (mem1 rfl) rfl | exact kd _ (mem2 rfl) rfl | exact kd _ (mem3 rfl) rfl | exact kd _ (mem4 rfl) rfl | exact kd _ (mem5 rfl) rfl
          have t152 : ρ (.tmp 152) = .pointer (some ⟨y1, 2, none⟩) := (ks 8 152 (by decide) rfl).trans d8
          have hg := blk_later Y120.out hC
          have c2 := blk_cell hg 2
          simp at c2
          simp [execOp, go_sem, kc, t152, c2]
          exact ⟨hC, Below.refl _ _, rfl⟩
        · intro v W ρ y hC kc kf ks ki ky ku kd
          have dg : v 3 = .bool true := by first | exact kd _ (mem0 rfl) rfl | exact kd _ (mem1 rfl) rfl | exact kd _ (mem2 rfl) rfl | exact kd _ (mem3 rfl) rfl | exact kd _ (mem4 rfl) rfl | exact kd _ (mem5 rfl) rfl
          have hy := ky 3 147 true (by decide) rfl dg
          rw [if_pos (by simp [Region.wanted, hy])]
          have d7 : v 7 = .int .i64 (N : Int) := by first | exact kd _ (mem0 rfl) rfl | exact kd _ (mem1 rfl) rfl | exact kd _ (mem2 rfl) rfl | exact kd _ (mem3 rfl) rfl | exact kd _ (mem4 rfl) rfl | exact kd _ (mem5 rfl) rfl
          have t151 : ρ (.tmp 151) = .int .i64 (N : Int) := (ks 7 151 (by decide) rfl).trans d7
          have d9 : v 9 = .int .i64 (N : Int) := by first | exact kd _ (mem0 rfl) rfl | exact kd _ (mem1 rfl) rfl | exact kd _ (mem2 rfl) rfl | exact kd _ (mem3 rfl) rfl | exact kd _ (mem4 rfl) rfl | exact kd _ (mem5 rfl) rfl
          have t153 : ρ (.tmp 153) = .int .i64 (N : Int) := (ks 9 153 (by decide) rfl).trans d9
          simp [execOp, go_sem, kc, t151, t153]
          exact ⟨hC, Below.refl _ _, rfl⟩
        · intro v W ρ y hC kc kf ks ki ky ku kd
          have dg : v 3 = .bool true := by first | exact kd _ (mem0 rfl) rfl | exact kd _ (mem1 rfl) rfl | exact kd _ (mem2 rfl) rfl | exact kd _ (mem3 rfl) rfl | exact kd _ (mem4 rfl) rfl | exact kd _ (mem5 rfl) rfl
          have hy := ky 3 147 true (by decide) rfl dg
          rw [if_pos (by simp [Region.wanted, hy])]
          have d10 : v 10 = .bool false := by first | exact kd _ (mem0 rfl) rfl | exact kd _ (mem1 rfl) rfl | exact kd _ (mem2 rfl) rfl | exact kd _ (mem3 rfl) rfl | exact kd _ (mem4 rfl) rfl | exact kd _ (mem5 rfl) rfl
          have t154 : ρ (.tmp 154) = .bool false := (ks 10 154 (by decide) rfl).trans d10
          simp [execOp, go_sem, kc, t154]
          exact ⟨hC, Below.refl _ _, rfl⟩
        · intro v W ρ y hC kc kf ks ki ky ku kd
          have dg : v 11 = .bool false := by first | exact kd _ (mem0 rfl) rfl | exact kd _ (mem1 rfl) rfl | exact kd _ (mem2 rfl) rfl | exact kd _ (mem3 rfl) rfl | exact kd _ (mem4 rfl) rfl | exact kd _ (mem5 rfl) rfl
          have hy := ky 11 155 false (by decide) rfl dg
          rw [if_pos (by simp [Region.wanted, hy])]
          have t5 : ρ (.tmp 5) = .pointer (some ⟨x1, 0, none⟩) := ki 5 (by decide)
          simp [execOp, go_sem, kc, t5]
          exact ⟨hC, Below.refl _ _, rfl⟩
        · intro v W ρ y hC kc kf ks ki ky ku kd
          have dg : v 11 = .bool false := by first | exact kd _ (mem0 rfl) rfl | exact kd _ (mem1 rfl) rfl | exact kd _ (mem2 rfl) rfl | exact kd _ (mem3 rfl) rfl | exact kd _ (mem4 rfl) rfl | exact kd _ (mem5 rfl) rfl
          have hy := ky 11 155 false (by decide) rfl dg
          rw [if_pos (by simp [Region.wanted, hy])]
          have d12 : v 12 = .pointer (some ⟨x1, 0, none⟩) := by first | exact kd _ (mem0 rfl) rfl | exact kd _ (mem1 rfl) rfl | exact kd _ (mem2 rfl) rfl | exact kd _ (mem3 rfl) rfl | exact kd _ (mem4 rfl) rfl | exact kd _ (mem5 rfl) rfl
          have t156 : ρ (.tmp 156) = .pointer (some ⟨x1, 0, none⟩) := (ks 12 156 (by decide) rfl).trans d12
          have hg := blk_later B120.out hC
          have c0 := blk_cell hg 0
          simp at c0
          simp [execOp, go_sem, kc, t156, c0]
          exact ⟨hC, Below.refl _ _, rfl⟩
        · intro v W ρ y hC kc kf ks ki ky ku kd
          have dg : v 11 = .bool false := by first | exact kd _ (mem0 rfl) rfl | exact kd _ (mem1 rfl) rfl | exact kd _ (mem2 rfl) rfl | exact kd _ (mem3 rfl) rfl | exact kd _ (mem4 rfl) rfl | exact kd _ (mem5 rfl) rfl
          have hy := ky 11 155 false (by decide) rfl dg
          rw [if_pos (by simp [Region.wanted, hy])]
          have t7 : ρ (.tmp 7) = .pointer (some ⟨y1, 0, none⟩) := ki 7 (by decide)
          simp [execOp, go_sem, kc, t7]
          exact ⟨hC, Below.refl _ _, rfl⟩
        · intro v W ρ y hC kc kf ks ki ky ku kd
          have dg : v 11 = .bool false := by first | exact kd _ (mem0 rfl) rfl | exact kd _ (mem1 rfl) rfl | exact kd _ (mem2 rfl) rfl | exact kd _ (mem3 rfl) rfl | exact kd _ (mem4 rfl) rfl | exact kd _ (mem5 rfl) rfl
          have hy := ky 11 155 false (by decide) rfl dg
          rw [if_pos (by simp [Region.wanted, hy])]
          have d14 : v 14 = .pointer (some ⟨y1, 2, none⟩) := by first | exact kd _ (mem0 rfl) rfl | exact kd _ (mem1 rfl) rfl | exact kd _ (mem2 rfl) rfl | exact kd _ (mem3 rfl) rfl | exact kd _ (mem4 rfl) rfl | exact kd _ (mem5 rfl) rfl
          have t158 : ρ (.tmp 158) = .pointer (some ⟨y1, 2, none⟩) := (ks 14 158 (by decide) rfl).trans d14
          have hg := blk_later Y120.out hC
          have c2 := blk_cell hg 2
          simp at c2
          simp [execOp, go_sem, kc, t158, c2]
          exact ⟨hC, Below.refl _ _, rfl⟩
        · intro v W ρ y hC kc kf ks ki ky ku kd
          have dg : v 11 = .bool false := by first | exact kd _ (mem0 rfl) rfl | exact kd _ (mem1 rfl) rfl | exact kd _ (mem2 rfl) rfl | exact kd _ (mem3 rfl) rfl | exact kd _ (mem4 rfl) rfl | exact kd _ (mem5 rfl) rfl
          have hy := ky 11 155 false (by decide) rfl dg
          rw [if_pos (by simp [Region.wanted, hy])]
          have d13 : v 13 = .slice (some ⟨xb1, xo1, none⟩) t1.slots.length xc1 := by first | exact kd _ (mem0 rfl) rfl | exact kd _ (mem1 rfl) rfl | exact kd _ (mem2 rfl) rfl | exact kd _ (mem3 rfl) rfl | exact kd _ (mem4 rfl) rfl | exact kd _ (mem5 rfl) rfl
          have t157 : ρ (.tmp 157) = .slice (some ⟨xb1, xo1, none⟩) t1.slots.length xc1 := (ks 13 157 (by decide) rfl).trans d13
          have d15 : v 15 = .int .i64 (N : Int) := by first | exact kd _ (mem0 rfl) rfl | exact kd _ (mem1 rfl) rfl | exact kd _ (mem2 rfl) rfl | exact kd _ (mem3 rfl) rfl | exact kd _ (mem4 rfl) rfl | exact kd _ (mem5 rfl) rfl
          have t159 : ρ (.tmp 159) = .int .i64 (N : Int) := (ks 15 159 (by decide) rfl).trans d15
          simp [execOp, go_sem, kc, t157, t159, hNN]
          exact ⟨hC, Below.refl _ _, rfl⟩
        · intro v W ρ y hC kc kf ks ki ky ku kd
          have dg : v 11 = .bool false := by first | exact kd _ (mem0 rfl) rfl | exact kd _ (mem1 rfl) rfl | exact kd _ (mem2 rfl) rfl | exact kd _ (mem3 rfl) rfl | exact kd _ (mem4 rfl) rfl | exact kd _ (mem5 rfl) rfl
          have hy := ky 11 155 false (by decide) rfl dg
          rw [if_pos (by simp [Region.wanted, hy])]
          have d16 : v 16 = .pointer (some ⟨xb1, xo1 + N * 4, none⟩) := by first | exact kd _ (mem0 rfl) rfl | exact kd _ (mem1 rfl) rfl | exact kd _ (mem2 rfl) rfl | exact kd _ (mem3 rfl) rfl | exact kd _ (mem4 rfl) rfl | exact kd _ (mem5 rfl) rfl
          have t160 : ρ (.tmp 160) = .pointer (some ⟨xb1, xo1 + N * 4, none⟩) := (ks 16 160 (by decide) rfl).trans d16
          simp [execOp, go_sem, kc, t160]
          exact ⟨hC, Below.refl _ _, rfl⟩
        · intro v W ρ y hC kc kf ks ki ky ku kd
          have dg : v 11 = .bool false := by first | exact kd _ (mem0 rfl) rfl | exact kd _ (mem1 rfl) rfl | exact kd _ (mem2 rfl) rfl | exact kd _ (mem3 rfl) rfl | exact kd _ (mem4 rfl) rfl | exact kd _ (mem5 rfl) rfl
          have hy := ky 11 155 false (by decide) rfl dg
          rw [if_pos (by simp [Region.wanted, hy])]
          have d17 : v 17 = .pointer (some ⟨xb1, xo1 + N * 4 + 2, none⟩) := by first | exact kd _ (mem0 rfl) rfl | exact kd _ (mem1 rfl) rfl | exact kd _ (mem2 rfl) rfl | exact kd _ (mem3 rfl) rfl | exact kd _ (mem4 rfl) rfl | exact kd _ (mem5 rfl) rfl
          have t161 : ρ (.tmp 161) = .pointer (some ⟨xb1, xo1 + N * 4 + 2, none⟩) := (ks 17 161 (by decide) rfl).trans d17
          obtain ⟨b', o', eS, lS, c0, c1, c2, c3⟩ := (Z120.out.later hC).slots.slot F5.out
          injection eS with eS; injection eS with eS1 eS2
          subst eS1 eS2
          rw [F4.out] at c2
          simp [execOp, go_sem, kc, t161, c2]
          exact ⟨hC, Below.refl _ _, rfl⟩
        · intro v W ρ y hC kc kf ks ki ky ku kd
          have dg : v 11 = .bool false := by first | exact kd _ (mem0 rfl) rfl | exact kd _ (mem1 rfl) rfl | exact kd _ (mem2 rfl) rfl | exact kd _ (mem3 rfl) rfl | exact kd _ (mem4 rfl) rfl | exact kd _ (mem5 rfl) rfl
          have hy := ky 11 155 false (by decide) rfl dg
          rw [if_pos (by simp [Region.wanted, hy])]
          have d18 : v 18 = .int .i64 0 := by first | exact kd _ (mem0 rfl) rfl | exact kd _ (mem1 rfl) rfl | exact kd _ (mem2 rfl) rfl | exact kd _ (mem3 rfl) rfl | exact kd _ (mem4 rfl) rfl | exact kd _ (mem5 rfl) rfl
          have t162 : ρ (.tmp 162) = .int .i64 0 := (ks 18 162 (by decide) rfl).trans d18
          simp [execOp, go_sem, kc, t162]
          exact ⟨hC, Below.refl _ _, rfl⟩
        · intro v W ρ y hC kc kf ks ki ky ku kd
          have dg : v 3 = .bool true := by first | exact kd _ (mem0 rfl) rfl | exact kd _ (mem1 rfl) rfl | exact kd _ (mem2 rfl) rfl | exact kd _ (mem3 rfl) rfl | exact kd _ (mem4 rfl) rfl | exact kd _ (mem5 rfl) rfl
          have hy := ky 3 147 true (by decide) rfl dg
          rw [if_pos (by simp [Region.wanted, hy])]
          have d11 : v 11 = .bool false := by first | exact kd _ (mem0 rfl) rfl | exact kd _ (mem1 rfl) rfl | exact kd _ (mem2 rfl) rfl | exact kd _ (mem3 rfl) rfl | exact kd _ (mem4 rfl) rfl | exact kd _ (mem5 rfl) rfl
          have t155 : ρ (.tmp 155) = .bool false := (ks 11 155 (by decide) rfl).trans d11
          have d19 : v 19 = .bool false := by first | exact kd _ (mem0 rfl) rfl | exact kd _ (mem1 rfl) rfl | exact kd _ (mem2 rfl) rfl | exact kd _ (mem3 rfl) rfl | exact kd _ (mem4 rfl) rfl | exact kd _ (mem5 rfl) rfl
          have t163 : ρ (.tmp 163) = .bool false := (ks 19 163 (by decide) rfl).trans d19
          simp [execOp, go_sem, kc, t155, t163]
          exact ⟨hC, Below.refl _ _, rfl⟩
        · intro v W ρ y hC kc kf ks ki ky ku kd
          have dg : v 3 = .bool true := by first | exact kd _ (mem0 rfl) rfl | exact kd _ (mem1 rfl) rfl | exact kd _ (mem2 rfl) rfl | exact kd _ (mem3 rfl) rfl | exact kd _ (mem4 rfl) rfl | exact kd _ (mem5 rfl) rfl
          have hy := ky 3 147 true (by decide) rfl dg
          rw [if_pos (by simp [Region.wanted, hy])]
          have d20 : v 20 = .bool false := by first | exact kd _ (mem0 rfl) rfl | exact kd _ (mem1 rfl) rfl | exact kd _ (mem2 rfl) rfl | exact kd _ (mem3 rfl) rfl | exact kd _ (mem4 rfl) rfl | exact kd _ (mem5 rfl) rfl
          have t164 : ρ (.tmp 164) = .bool false := (ks 20 164 (by decide) rfl).trans d20
          simp [execOp, go_sem, kc, t164]
          exact ⟨hC, Below.refl _ _, rfl⟩
        · intro v W ρ y hC kc kf ks ki ky ku kd
          have dg : v 21 = .bool false := by first | exact kd _ (mem0 rfl) rfl | exact kd _ (mem1 rfl) rfl | exact kd _ (mem2 rfl) rfl | exact kd _ (mem3 rfl) rfl | exact kd _ (mem4 rfl) rfl | exact kd _ (mem5 rfl) rfl
          have hy := ky 21 165 false (by decide) rfl dg
          rw [if_pos (by simp [Region.wanted, hy])]
          have t7 : ρ (.tmp 7) = .pointer (some ⟨y1, 0, none⟩) := ki 7 (by decide)
          simp [execOp, go_sem, kc, t7]
          exact ⟨hC, Below.refl _ _, rfl⟩
        · intro v W ρ y hC kc kf ks ki ky ku kd
          have dg : v 21 = .bool false := by first | exact kd _ (mem0 rfl) rfl | exact kd _ (mem1 rfl) rfl | exact kd _ (mem2 rfl) rfl | exact kd _ (mem3 rfl) rfl | exact kd _ (mem4 rfl) rfl | exact kd _ (mem5 rfl) rfl
          have hy := ky 21 165 false (by decide) rfl dg
          rw [if_pos (by simp [Region.wanted, hy])]
          have d22 : v 22 = .pointer (some ⟨y1, 0, none⟩) := by first | exact kd _ (mem0 rfl) rfl | exact kd _ (mem1 rfl) rfl | exact kd _ (mem2 rfl) rfl | exact kd _ (mem3 rfl) rfl | exact kd _ (mem4 rfl) rfl | exact kd _ (mem5 rfl) rfl
          have t166 : ρ (.tmp 166) = .pointer (some ⟨y1, 0, none⟩) := (ks 22 166 (by decide) rfl).trans d22
          have hg := blk_later Y120.out hC
          have c0 := blk_cell hg 0
          have c1 := blk_cell hg 1
          simp at c0 c1
          simp [execOp, go_sem, kc, t166, c0, c1]
          exact ⟨hC, Below.refl _ _, rfl⟩
        · intro v W ρ y hC kc kf ks ki ky ku kd
          have dg : v 21 = .bool false := by first | exact kd _ (mem0 rfl) rfl | exact kd _ (mem1 rfl) rfl | exact kd _ (mem2 rfl) rfl | exact kd _ (mem3 rfl) rfl | exact kd _ (mem4 rfl) rfl | exact kd _ (mem5 rfl) rfl
          have hy := ky 21 165 false (by decide) rfl dg
          rw [if_pos (by simp [Region.wanted, hy])]
          have t6 : ρ (.tmp 6) = .int .i64 key := ki 6 (by decide)
          simp [execOp, go_sem, kc, t6]
          exact ⟨hC, Below.refl _ _, rfl⟩
        · intro v W ρ y hC kc kf ks ki ky ku kd
          have dg : v 21 = .bool false := by first | exact kd _ (mem0 rfl) rfl | exact kd _ (mem1 rfl) rfl | exact kd _ (mem2 rfl) rfl | exact kd _ (mem3 rfl) rfl | exact kd _ (mem4 rfl) rfl | exact kd _ (mem5 rfl) rfl
          have hy := ky 21 165 false (by decide) rfl dg
          rw [if_pos (by simp [Region.wanted, hy])]
          have t5 : ρ (.tmp 5) = .pointer (some ⟨x1, 0, none⟩) := ki 5 (by decide)
          simp [execOp, go_sem, kc, t5]
          exact ⟨hC, Below.refl _ _, rfl⟩
        · intro v W ρ y hC kc kf ks ki ky ku kd
          have dg : v 21 = .bool false := by first | exact kd _ (mem0 rfl) rfl | exact kd _ (mem1 rfl) rfl | exact kd _ (mem2 rfl) rfl | exact kd _ (mem3 rfl) rfl | exact kd _ (mem4 rfl) rfl | exact kd _ (mem5 rfl) rfl
          have hy := ky 21 165 false (by decide) rfl dg
          rw [if_pos (by simp [Region.wanted, hy])]
          have d25 : v 25 = .pointer (some ⟨x1, 1, none⟩) := by first | exact kd _ (mem0 rfl) rfl | exact kd _ (mem1 rfl) rfl | exact kd _ (mem2 rfl) rfl | exact kd _ (mem3 rfl) rfl | exact kd _ (mem4 rfl) rfl | exact kd _ (mem5 rfl) rfl
          have t169 : ρ (.tmp 169) = .pointer (some ⟨x1, 1, none⟩) := (ks 25 169 (by decide) rfl).trans d25
          have hg := blk_later B120.out hC
          have c1 := blk_cell hg 1
          simp at c1
          simp [execOp, go_sem, kc, t169, c1]
          exact ⟨hC, Below.refl _ _, rfl⟩
        · intro v W ρ y hC kc kf ks ki ky ku kd
          have dg : v 21 = .bool false := by first | exact kd _ (mem0 rfl) rfl | exact kd _ (mem1 rfl) rfl | exact kd _ (mem2 rfl) rfl | exact kd _ (mem3 rfl) rfl | exact kd _ (mem4 rfl) rfl | exact kd _ (mem5 rfl) rfl
          have hy := ky 21 165 false (by decide) rfl dg
          rw [if_pos (by simp [Region.wanted, hy])]
          have d26 : v 26 = .slice (some ⟨yb1, yo1, none⟩) t1.heads.length yc1 := by first | exact kd _ (mem0 rfl) rfl | exact kd _ (mem1 rfl) rfl | exact kd _ (mem2 rfl) rfl | exact kd _ (mem3 rfl) rfl | exact kd _ (mem4 rfl) rfl | exact kd _ (mem5 rfl) rfl
          have t170 : ρ (.tmp 170) = .slice (some ⟨yb1, yo1, none⟩) t1.heads.length yc1 := (ks 26 170 (by decide) rfl).trans d26
          simp [execOp, go_sem, kc, t170]
          exact ⟨hC, Below.refl _ _, rfl⟩
        · intro v W ρ y hC kc kf ks ki ky ku kd
          have dg : v 21 = .bool false := by first | exact kd _ (mem0 rfl) rfl | exact kd _ (mem1 rfl) rfl | exact kd _ (mem2 rfl) rfl | exact kd _ (mem3 rfl) rfl | exact kd _ (mem4 rfl) rfl | exact kd _ (mem5 rfl) rfl
          have hy := ky 21 165 false (by decide) rfl dg
          rw [if_pos (by simp [Region.wanted, hy])]
          have d24 : v 24 = .int .i64 key := by first | exact kd _ (mem0 rfl) rfl | exact kd _ (mem1 rfl) rfl | exact kd _ (mem2 rfl) rfl | exact kd _ (mem3 rfl) rfl | exact kd _ (mem4 rfl) rfl | exact kd _ (mem5 rfl) rfl
          have t168 : ρ (.tmp 168) = .int .i64 key := (ks 24 168 (by decide) rfl).trans d24
          have d27 : v 27 = .int .i64 (t1.heads.length : Int) := by first | exact kd _ (mem0 rfl) rfl | exact kd _ (mem1 rfl) rfl | exact kd _ (mem2 rfl) rfl | exact kd _ (mem3 rfl) rfl | exact kd _ (mem4 rfl) rfl | exact kd _ (mem5 rfl) rfl
          have t171 : ρ (.tmp 171) = .int .i64 (t1.heads.length : Int) := (ks 27 171 (by decide) rfl).trans d27
          simp [execOp, go_sem, kc, t168, t171, hmod, hne]
          exact ⟨hC, Below.refl _ _, rfl⟩
        · intro v W ρ y hC kc kf ks ki ky ku kd
          have dg : v 21 = .bool false := by first | exact kd _ (mem0 rfl) rfl | exact kd _ (mem1 rfl) rfl | exact kd _ (mem2 rfl) rfl | exact kd _ (mem3 rfl) rfl | exact kd _ (mem4 rfl) rfl | exact kd _ (mem5 rfl) rfl
          have hy := ky 21 165 false (by decide) rfl dg
          rw [if_pos (by simp [Region.wanted, hy])]
          have d23 : v 23 = .agg #[.slice aS1 u1.slots.length cS1, .slice aH1 u1.heads.length cH1] := by first | exact kd _ (mem0 rfl) rfl | exact kd _ (mem1 rfl) rfl | exact kd _ (mem2 rfl) rfl | exact kd _ (mem3 rfl) rfl | exact kd _ (mem4 rfl) rfl | exact kd _ (mem5 rfl) rfl
          have t167 : ρ (.tmp 167) = .agg #[.slice aS1 u1.slots.length cS1, .slice aH1 u1.heads.length cH1] := (ks 23 167 (by decide) rfl).trans d23
          have d28 : v 28 = .int .i64 (c : Int) := by first | exact kd _ (mem0 rfl) rfl | exact kd _ (mem1 rfl) rfl | exact kd _ (mem2 rfl) rfl | exact kd _ (mem3 rfl) rfl | exact kd _ (mem4 rfl) rfl | exact kd _ (mem5 rfl) rfl
          have t172 : ρ (.tmp 172) = .int .i64 (c : Int) := (ks 28 172 (by decide) rfl).trans d28
          simp [execOp, go_sem, kc, kf, t167, t172]
          refine Calls.mono (HCH.out _ _ _ _ W (O120.out.later hC)) (fun e x h => ?_)
          obtain ⟨sa, sc, rfl, hO, hb⟩ := h
          exact ⟨_, rfl, hC.trans (hb.mono hC.size), hb, sa, sc, rfl, hO.read⟩
        · intro v W ρ y hC kc kf ks ki ky ku kd
          have dg : v 21 = .bool false := by first | exact kd _ (mem0 rfl) rfl | exact kd _ (mem1 rfl) rfl | exact kd _ (mem2 rfl) rfl | exact kd _ (mem3 rfl) rfl | exact kd _ (mem4 rfl) rfl | exact kd _ (mem5 rfl) rfl
          have hy := ky 21 165 false (by decide) rfl dg
          rw [if_pos (by simp [Region.wanted, hy])]
          obtain ⟨sa173, sc173, e173, hz173⟩ : (numsK ((N : Int) :: l)) (v 29) W := by first | exact kd _ (mem0 rfl) rfl | exact kd _ (mem1 rfl) rfl | exact kd _ (mem2 rfl) rfl | exact kd _ (mem3 rfl) rfl | exact kd _ (mem4 rfl) rfl | exact kd _ (mem5 rfl) rfl
          have t173 : ρ (.tmp 173) = .slice sa173 ((N : Int) :: l).length sc173 := (ks 29 173 (by decide) rfl).trans e173
          simp [execOp, go_sem, kc, kf, t173]
          obtain ⟨b, o, rfl, hlt, hcc⟩ := hz173 0 (by simp)
          simp [go_sem]
          exact ⟨hC, Below.refl _ _, b, o, rfl, hlt, by simpa using hcc⟩
        · intro v W ρ y hC kc kf ks ki ky ku kd
          have dg : v 21 = .bool false := by first | exact kd _ (mem0 rfl) rfl | exact kd _ (mem1 rfl) rfl | exact kd _ (mem2 rfl) rfl | exact kd _ (mem3 rfl) rfl | exact kd _ (mem4 rfl) rfl | exact kd _ (mem5 rfl) rfl
          have hy := ky 21 165 false (by decide) rfl dg
          rw [if_pos (by simp [Region.wanted, hy])]
          obtain ⟨b174, o174, e174, hl174, hc174⟩ : (ptrK (N : Int)) (v 30) W := by first | exact kd _ (mem0 rfl) rfl | exact kd _ (mem1 rfl) rfl | exact kd _ (mem2 rfl) rfl | exact kd _ (mem3 rfl) rfl | exact kd _ (mem4 rfl) rfl | exact kd _ (mem5 rfl) rfl
          have t174 : ρ (.tmp 174) = .pointer (some ⟨b174, o174, none⟩) := (ks 30 174 (by decide) rfl).trans e174
          simp [execOp, go_sem, kc, hc174, t174]
          exact ⟨hC, Below.refl _ _, rfl⟩
        · intro v W ρ y hC kc kf ks ki ky ku kd
          have dg : v 21 = .bool false := by first | exact kd _ (mem0 rfl) rfl | exact kd _ (mem1 rfl) rfl | exact kd _ (mem2 rfl) rfl | exact kd _ (mem3 rfl) rfl | exact kd _ (mem4 rfl) rfl | exact kd _ (mem5 rfl) rfl
          have hy := ky 21 165 false (by decide) rfl dg
          rw [if_pos (by simp [Region.wanted, hy])]
          have t7 : ρ (.tmp 7) = .pointer (some ⟨y1, 0, none⟩) := ki 7 (by decide)
          simp [execOp, go_sem, kc, t7]
          exact ⟨hC, Below.refl _ _, rfl⟩
        · intro v W ρ y hC kc kf ks ki ky ku kd
          have dg : v 21 = .bool false := by first | exact kd _ (mem0 rfl) rfl | exact kd _ (mem1 rfl) rfl | exact kd _ (mem2 rfl) rfl | exact kd _ (mem3 rfl) rfl | exact kd _ (mem4 rfl) rfl | exact kd _ (mem5 rfl) rfl
          have hy := ky 21 165 false (by decide) rfl dg
          rw [if_pos (by simp [Region.wanted, hy])]
          have d32 : v 32 = .pointer (some ⟨y1, 2, none⟩) := by first | exact kd _ (mem0 rfl) rfl | exact kd _ (mem1 rfl) rfl | exact kd _ (mem2 rfl) rfl | exact kd _ (mem3 rfl) rfl | exact kd _ (mem4 rfl) rfl | exact kd _ (mem5 rfl) rfl
          have t176 : ρ (.tmp 176) = .pointer (some ⟨y1, 2, none⟩) := (ks 32 176 (by decide) rfl).trans d32
          have hg := blk_later Y120.out hC
          have c2 := blk_cell hg 2
          simp at c2
          simp [execOp, go_sem, kc, t176, c2]
          exact ⟨hC, Below.refl _ _, rfl⟩
        · intro v W ρ y hC kc kf ks ki ky ku kd
          have dg : v 21 = .bool false := by first | exact kd _ (mem0 rfl) rfl | exact kd _ (mem1 rfl) rfl | exact kd _ (mem2 rfl) rfl | exact kd _ (mem3 rfl) rfl | exact kd _ (mem4 rfl) rfl | exact kd _ (mem5 rfl) rfl
          have hy := ky 21 165 false (by decide) rfl dg
          rw [if_pos (by simp [Region.wanted, hy])]
          have d31 : v 31 = .int .i64 (N : Int) := by first | exact kd _ (mem0 rfl) rfl | exact kd _ (mem1 rfl) rfl | exact kd _ (mem2 rfl) rfl | exact kd _ (mem3 rfl) rfl | exact kd _ (mem4 rfl) rfl | exact kd _ (mem5 rfl) rfl
          have t175 : ρ (.tmp 175) = .int .i64 (N : Int) := (ks 31 175 (by decide) rfl).trans d31
          have d33 : v 33 = .int .i64 (N : Int) := by first | exact kd _ (mem0 rfl) rfl | exact kd _ (mem1 rfl) rfl | exact kd _ (mem2 rfl) rfl | exact kd _ (mem3 rfl) rfl | exact kd _ (mem4 rfl) rfl | exact kd _ (mem5 rfl) rfl
          have t177 : ρ (.tmp 177) = .int .i64 (N : Int) := (ks 33 177 (by decide) rfl).trans d33
          simp [execOp, go_sem, kc, t175, t177]
          exact ⟨hC, Below.refl _ _, rfl⟩
        · intro v W ρ y hC kc kf ks ki ky ku kd
          have dg : v 3 = .bool true := by first | exact kd _ (mem0 rfl) rfl | exact kd _ (mem1 rfl) rfl | exact kd _ (mem2 rfl) rfl | exact kd _ (mem3 rfl) rfl | exact kd _ (mem4 rfl) rfl | exact kd _ (mem5 rfl) rfl
          have hy := ky 3 147 true (by decide) rfl dg
          rw [if_pos (by simp [Region.wanted, hy])]
          have d21 : v 21 = .bool false := by first | exact kd _ (mem0 rfl) rfl | exact kd _ (mem1 rfl) rfl | exact kd _ (mem2 rfl) rfl | exact kd _ (mem3 rfl) rfl | exact kd _ (mem4 rfl) rfl | exact kd _ (mem5 rfl) rfl
          have t165 : ρ (.tmp 165) = .bool false := (ks 21 165 (by decide) rfl).trans d21
          have d34 : v 34 = .bool false := by first | exact kd _ (mem0 rfl) rfl | exact kd _ (mem1 rfl) rfl | exact kd _ (mem2 rfl) rfl | exact kd _ (mem3 rfl) rfl | exact kd _ (mem4 rfl) rfl | exact kd _ (mem5 rfl) rfl
          have t178 : ρ (.tmp 178) = .bool false := (ks 34 178 (by decide) rfl).trans d34
          simp [execOp, go_sem, kc, t165, t178]
          exact ⟨hC, Below.refl _ _, rfl⟩
        · refine stepW_of_u ⟨rfl, fun v W ρ hC kc kf ks ki kd => ?_⟩
          have d3 : v 3 = .bool true := by first | exact kd _ (mem0 rfl) rfl | exact kd _ (mem1 rfl) rfl | exact kd _ (mem2 rfl) rfl | exact kd _ (mem3 rfl) rfl | exact kd _ (mem4 rfl) rfl | exact kd _ (mem5 rfl) rfl
          have t147 : ρ (.tmp 147) = .bool true := (ks 3 147 (by decide) rfl).trans d3
          have d35 : v 35 = .bool false := by first | exact kd _ (mem0 rfl) rfl | exact kd _ (mem1 rfl) rfl | exact kd _ (mem2 rfl) rfl | exact kd _ (mem3 rfl) rfl | exact kd _ (mem4 rfl) rfl | exact kd _ (mem5 rfl) rfl
          have t179 : ρ (.tmp 179) = .bool false := (ks 35 179 (by decide) rfl).trans d35
          simp [execOp, go_sem, kc, t147, t179]
          exact ⟨hC, Below.refl _ _, rfl⟩
    · have bq : (k1 == 0) = false := beq_eq_false_iff_ne.2 hq
      clear hq
      refine grow_gk 37 [isP (.pointer (some ⟨y1, 3, none⟩)), isP (.int .i64 k1), isP (.bool false), isP (.bool false), isP undef, isP undef, isP undef, isP undef, isP undef, isP undef, isP undef, isP undef, isP undef, isP undef, isP undef, isP undef, isP undef, isP undef, isP undef, isP undef, isP undef, isP undef, isP undef, isP undef, isP undef, isP undef, isP undef, isP undef, isP undef, isP undef, isP undef, isP undef, isP undef, isP undef, isP undef, isP undef, isP (.bool false)] rfl (by kernel_rfl) (by kernel_rfl) ⟨(fun v W W' h _ => h), (fun v W W' h _ => h), (fun v W W' h _ => h), (fun v W W' h _ => h), (fun v W W' h _ => h), (fun v W W' h _ => h), (fun v W W' h _ => h), (fun v W W' h _ => h), (fun v W W' h _ => h), (fun v W W' h _ => h), (fun v W W' h _ => h), (fun v W W' h _ => h), (fun v W W' h _ => h), (fun v W W' h _ => h), (fun v W W' h _ => h), (fun v W W' h _ => h), (fun v W W' h _ => h), (fun v W W' h _ => h), (fun v W W' h _ => h), (fun v W W' h _ => h), (fun v W W' h _ => h), (fun v W W' h _ => h), (fun v W W' h _ => h), (fun v W W' h _ => h), (fun v W W' h _ => h), (fun v W W' h _ => h), (fun v W W' h _ => h), (fun v W W' h _ => h), (fun v W W' h _ => h), (fun v W W' h _ => h), (fun v W W' h _ => h), (fun v W W' h _ => h), (fun v W W' h _ => h), (fun v W W' h _ => h), (fun v W W' h _ => h), (fun v W W' h _ => h), (fun v W W' h _ => h), trivial⟩ ?stepsB15 (fun v w hb hall => FIN.out v w hb (hall 36 (by decide)))
      case stepsB15 =>
        refine ⟨?_, ?_, ?_, ?_, ?_, ?_, ?_, ?_, ?_, ?_, ?_, ?_, ?_, ?_, ?_, ?_, ?_, ?_, ?_, ?_, ?_, ?_, ?_, ?_, ?_, ?_, ?_, ?_, ?_, ?_, ?_, ?_, ?_, ?_, ?_, ?_, ?_, trivial⟩
        · refine stepW_of_u ⟨rfl, fun v W ρ hC kc kf ks ki kd => ?_⟩
          have t7 : ρ (.tmp 7) = .pointer (some ⟨y1, 0, none⟩) := ki 7 (by decide)
          simp [execOp, go_sem, kc, t7]
          exact ⟨hC, Below.refl _ _, rfl⟩
        · refine stepW_of_u ⟨rfl, fun v W ρ hC kc kf ks ki kd => ?_⟩
          have d0 : v 0 = .pointer (some ⟨y1, 3, none⟩) := by first | exact kd _ (mem0 rfl) rfl | exact kd _ (mem1 rfl) rfl | exact kd _ (mem2 rfl) rfl | exact kd _ (mem3 rfl) rfl | exact kd _ (mem4 rfl) rfl | exact kd _ (mem5 rfl) rfl
          have t144 : ρ (.tmp 144) = .pointer (some ⟨y1, 3, none⟩) := (ks 0 144 (by decide) rfl).trans d0
          have hg := blk_later Y120.out hC
          have c3 := blk_cell hg 3
          simp at c3
          simp [execOp, go_sem, kc, t144, c3]
          exact ⟨hC, Below.refl _ _, rfl⟩
        · refine stepW_of_u ⟨rfl, fun v W ρ hC kc kf ks ki kd => ?_⟩
          have d1 : v 1 = .int .i64 k1 := by first | exact kd _ (mem0 rfl) rfl | exact kd _ (mem1 rfl) rfl | exact kd _ (mem2 rfl) rfl | exact kd _ (mem3 rfl) rfl | exact kd _ (mem4 rfl) rfl | exact kd _ (mem5 rfl) rfl
          have t145 : ρ (.tmp 145) = .int .i64 k1 := (ks 1 145 (by decide) rfl).trans d1
          simp [execOp, go_sem, kc, t145, bq]
          exact ⟨hC, Below.refl _ _, rfl⟩
        · refine stepW_of_u ⟨rfl, fun v W ρ hC kc kf ks ki kd => ?_⟩
          have d2 : v 2 = .bool false := by first | exact kd _ (mem0 rfl) rfl | exact kd _ (mem1 rfl) rfl | exact kd _ (mem2 rfl) rfl | exact kd _ (mem3 rfl) rfl | exact kd _ (mem4 rfl) rfl | exact kd _ (mem5 rfl) rfl
          have t146 : ρ (.tmp 146) = .bool false := (ks 2 146 (by decide) rfl).trans d2
          simp [execOp, go_sem, kc, t146]
          exact ⟨hC, Below.refl _ _, rfl⟩
        · intro v W ρ y hC kc kf ks ki ky ku kd
          have dg : v 3 = .bool false := by first | exact kd _ (mem0 rfl) rfl | exact kd _ (mem1 rfl) rfl | exact kd _ (mem2 rfl) rfl | exact kd _ (mem3 rfl) rfl | exact kd _ (mem4 rfl) rfl | exact kd _ (mem5 rfl) rfl
          have hy := ky 3 147 false (by decide) rfl dg
          rw [if_neg (by simp [Region.wanted, hy])]
          exact ⟨Below.refl _ _, rfl⟩
        · intro v W ρ y hC kc kf ks ki ky ku kd
          have dg : v 3 = .bool false := by first | exact kd _ (mem0 rfl) rfl | exact kd _ (mem1 rfl) rfl | exact kd _ (mem2 rfl) rfl | exact kd _ (mem3 rfl) rfl | exact kd _ (mem4 rfl) rfl | exact kd _ (mem5 rfl) rfl
          have hy := ky 3 147 false (by decide) rfl dg
          rw [if_neg (by simp [Region.wanted, hy])]
          exact ⟨Below.refl _ _, rfl⟩
        · intro v W ρ y hC kc kf ks ki ky ku kd
          have dg : v 3 = .bool false := by first | exact kd _ (mem0 rfl) rfl | exact kd _ (mem1 rfl) rfl | exact kd _ (mem2 rfl) rfl | exact kd _ (mem3 rfl) rfl | exact kd _ (mem4 rfl) rfl | exact kd _ (mem5 rfl) rfl
          have hy := ky 3 147 false (by decide) rfl dg
          rw [if_neg (by simp [Region.wanted, hy])]
          exact ⟨Below.refl _ _, rfl⟩
        · intro v W ρ y hC kc kf ks ki ky ku kd
          have dg : v 3 = .bool false := by first | exact kd _ (mem0 rfl) rfl | exact kd _ (mem1 rfl) rfl | exact kd _ (mem2 rfl) rfl | exact kd _ (mem3 rfl) rfl | exact kd _ (mem4 rfl) rfl | exact kd _ (mem5 rfl) rfl
          have hy := ky 3 147 false (by decide) rfl dg
          rw [if_neg (by simp [Region.wanted, hy])]
          exact ⟨Below.refl _ _, rfl⟩
        · intro v W ρ y hC kc kf ks ki ky ku kd
          have dg : v 3 = .bool false := by first | exact kd _ (mem0 rfl) rfl | exact kd _ (mem1 rfl) rfl | exact kd _ (mem2 rfl) rfl | exact kd _ (mem3 rfl) rfl | exact kd _ (mem4 rfl) rfl | exact kd _ (mem5 rfl) rfl
          have hy := ky 3 147 false (by decide) rfl dg
          rw [if_neg (by simp [Region.wanted, hy])]
          exact ⟨Below.refl _ _, rfl⟩
        · intro v W ρ y hC kc kf ks ki ky ku kd
          have dg : v 3 = .bool false := by first | exact kd _ (mem0 rfl) rfl | exact kd _ (mem1 rfl) rfl | exact kd _ (mem2 rfl) rfl | exact kd _ (mem3 rfl) rfl | exact kd _ (mem4 rfl) rfl | exact kd _ (mem5 rfl) rfl
          have hy := ky 3 147 false (by decide) rfl dg
          rw [if_neg (by simp [Region.wanted, hy])]
          exact ⟨Below.refl _ _, rfl⟩
        · intro v W ρ y hC kc kf ks ki ky ku kd
          have dg : v 3 = .bool false := by first | exact kd _ (mem0 rfl) rfl | exact kd _ (mem1 rfl) rfl | exact kd _ (mem2 rfl) rfl | exact kd _ (mem3 rfl) rfl | exact kd _ (mem4 rfl) rfl | exact kd _ (mem5 rfl) rfl
          have hy := ky 3 147 false (by decide) rfl dg
          rw [if_neg (by simp [Region.wanted, hy])]
          exact ⟨Below.refl _ _, rfl⟩
        · intro v W ρ y hC kc kf ks ki ky ku kd
          have dg : v 3 = .bool false := by first | exact kd _ (mem0 rfl) rfl | exact kd _ (mem1 rfl) rfl | exact kd _ (mem2 rfl) rfl | exact kd _ (mem3 rfl) rfl | exact kd _ (mem4 rfl) rfl | exact kd _ (mem5 rfl) rfl
          have hy := ky 3 147 false (by decide) rfl dg
          rw [if_neg (by simp [Region.wanted, hy])]
          exact ⟨Below.refl _ _, rfl⟩
        · intro v W ρ y hC kc kf ks ki ky ku kd
          have dg : v 11 = undef := by first | exact kd _ (mem0 rfl) rfl | exact kd _ (mem1 rfl) rfl | exact kd _ (mem2 rfl) rfl | exact kd _ (mem3 rfl) rfl | exact kd _ (mem4 rfl) rfl | exact kd _ (mem5 rfl) rfl
          have hy := ku 11 155 (by decide) rfl dg
          rw [if_neg (by simp [Region.wanted, hy])]
          exact ⟨Below.refl _ _, rfl⟩
        · intro v W ρ y hC kc kf ks ki ky ku kd
          have dg : v 11 = undef := by first | exact kd _ (mem0 rfl) rfl | exact kd _ (mem1 rfl) rfl | exact kd _ (mem2 rfl) rfl | exact kd _ (mem3 rfl) rfl | exact kd _ (mem4 rfl) rfl | exact kd _ (mem5 rfl) rfl
          have hy := ku 11 155 (by decide) rfl dg
          rw [if_neg (by simp [Region.wanted, hy])]
          exact ⟨Below.refl _ _, rfl⟩
        · intro v W ρ y hC kc kf ks ki ky ku kd
          have dg : v 11 = undef := by first | exact kd _ (mem0 rfl) rfl | exact kd _ (mem1 rfl) rfl | exact kd _ (mem2 rfl) rfl | exact kd _ (mem3 rfl) rfl | exact kd _ (mem4 rfl) rfl | exact kd _ (mem5 rfl) rfl
          have hy := ku 11 155 (by decide) rfl dg
          rw [if_neg (by simp [Region.wanted, hy])]
          exact ⟨Below.refl _ _, rfl⟩
        · intro v W ρ y hC kc kf ks ki ky ku kd
          have dg : v 11 = undef := by first | exact kd _ (mem0 rfl) rfl | exact kd _ (mem1 rfl) rfl | exact kd _ (mem2 rfl) rfl | exact kd _ (mem3 rfl) rfl | exact kd _ (mem4 rfl) rfl | exact kd _ (mem5 rfl) rfl
          have hy := ku 11 155 (by decide) rfl dg
          rw [if_neg (by simp [Region.wanted, hy])]
          exact ⟨Below.refl _ _, rfl⟩
        · intro v W ρ y hC kc kf ks ki ky ku kd
          have dg : v 11 = undef := by first | exact kd _ (mem0 rfl) rfl | exact kd _ (mem1 rfl) rfl | exact kd _ (mem2 rfl) rfl | exact kd _ (mem3 rfl) rfl | exact kd _ (mem4 rfl) rfl | exact kd _ (mem5 rfl) rfl
          have hy := ku 11 155 (by decide) rfl dg
          rw [if_neg (by simp [Region.wanted, hy])]
          exact ⟨Below.refl _ _, rfl⟩
        · intro v W ρ y hC kc kf ks ki ky ku kd
          have dg : v 11 = undef := by first | exact kd _ (mem0 rfl) rfl | exact kd _ (mem1 rfl) rfl | exact kd _ (mem2 rfl) rfl | exact kd _ (mem3 rfl) rfl | exact kd _ (mem4 rfl) rfl | exact kd _ (mem5 rfl) rfl
          have hy := ku 11 155 (by decide) rfl dg
          rw [if_neg (by simp [Region.wanted, hy])]
          exact ⟨Below.refl _ _, rfl⟩
        · intro v W ρ y hC kc kf ks ki ky ku kd
          have dg : v 11 = undef := by first | exact kd _ (mem0 rfl) rfl | exact kd _ (mem1 rfl) rfl | exact kd _ (mem2 rfl) rfl | exact kd _ (mem3 rfl) rfl | exact kd _ (mem4 rfl) rfl | exact kd _ (mem5 rfl) rfl
          have hy := ku 11 155 (by decide) rfl dg
          rw [if_neg (by simp [Region.wanted, hy])]
          exact ⟨Below.refl _ _, rfl⟩
        · intro v W ρ y hC kc kf ks ki ky ku kd
          have dg : v 11 = undef := by first | exact kd _ (mem0 rfl) rfl | exact kd _ (mem1 rfl) rfl | exact kd _ (mem2 rfl) rfl | exact kd _ (mem3 rfl) rfl | exact kd _ (mem4 rfl) rfl | exact kd _ (mem5 rfl) rfl
          have hy := ku 11 155 (by decide) rfl dg
          rw [if_neg (by simp [Region.wanted, hy])]
          exact ⟨Below.refl _ _, rfl⟩
        · intro v W ρ y hC kc kf ks ki ky ku kd
          have dg : v 3 = .bool false := by first | exact kd _ (mem0 rfl) rfl | exact kd _ (mem1 rfl) rfl | exact kd _ (mem2 rfl) rfl | exact kd _ (mem3 rfl) rfl | exact kd _ (mem4 rfl) rfl | exact kd _ (mem5 rfl) rfl
          have hy := ky 3 147 false (by decide) rfl dg
          rw [if_neg (by simp [Region.wanted, hy])]
          exact ⟨Below.refl _ _, rfl⟩
        · intro v W ρ y hC kc kf ks ki ky ku kd
          have dg : v 3 = .bool false := by first | exact kd _ (mem0 rfl) rfl | exact kd _ (mem1 rfl) rfl | exact kd _ (mem2 rfl) rfl | exact kd _ (mem3 rfl) rfl | exact kd _ (mem4 rfl) rfl | exact kd _ (mem5 rfl) rfl
          have hy := ky 3 147 false (by decide) rfl dg
          rw [if_neg (by simp [Region.wanted, hy])]
          exact ⟨Below.refl _ _, rfl⟩
        · intro v W ρ y hC kc kf ks ki ky ku kd
          have dg : v 21 = undef := by first | exact kd _ (mem0 rfl) rfl | exact kd _ (mem1 rfl) rfl | exact kd _ (mem2 rfl) rfl | exact kd _ (mem3 rfl) rfl | exact kd _ (mem4 rfl) rfl | exact kd _ (mem5 rfl) rfl
          have hy := ku 21 165 (by decide) rfl dg
          rw [if_neg (by simp [Region.wanted, hy])]
          exact ⟨Below.refl _ _, rfl⟩
        · intro v W ρ y hC kc kf ks ki ky ku kd
          have dg : v 21 = undef := by first | exact kd _ (mem0 rfl) rfl | exact kd _ (mem1 rfl) rfl | exact kd _ (mem2 rfl) rfl | exact kd _ (mem3 rfl) rfl | exact kd _ (mem4 rfl) rfl | exact kd _ (mem5 rfl) rfl
          have hy := ku 21 165 (by decide) rfl dg
          rw [if_neg (by simp [Region.wanted, hy])]
          exact ⟨Below.refl _ _, rfl⟩
        · intro v W ρ y hC kc kf ks ki ky ku kd
          have dg : v 21 = undef := by first | exact kd _ (mem0 rfl) rfl | exact kd _ (mem1 rfl) rfl | exact kd _ (mem2 rfl) rfl | exact kd _ (mem3 rfl) rfl | exact kd _ (mem4 rfl) rfl | exact kd _ (mem5 rfl) rfl
          have hy := ku 21 165 (by decide) rfl dg
          rw [if_neg (by simp [Region.wanted, hy])]
          exact ⟨Below.refl _ _, rfl⟩
        · intro v W ρ y hC kc kf ks ki ky ku kd
          have dg : v 21 = undef := by first | exact kd _ (mem0 rfl) rfl | exact kd _ (mem1 rfl) rfl | exact kd _ (mem2 rfl) rfl | exact kd _ (mem3 rfl) rfl | exact kd _ (mem4 rfl) rfl | exact kd _ (mem5 rfl) rfl
          have hy := ku 21 165 (by decide) rfl dg
          rw [if_neg (by simp [Region.wanted, hy])]
          exact ⟨Below.refl _ _, rfl⟩
        · intro v W ρ y hC kc kf ks ki ky ku kd
          have dg : v 21 = undef := by first | exact kd _ (mem0 rfl) rfl | exact kd _ (mem1 rfl) rfl | exact kd _ (mem2 rfl) rfl | exact kd _ (mem3 rfl) rfl | exact kd _ (mem4 rfl) rfl | exact kd _ (mem5 rfl) rfl
          have hy := ku 21 165 (by decide) rfl dg
          rw [if_neg (by simp [Region.wanted, hy])]
          exact ⟨Below.refl _ _, rfl⟩
        · intro v W ρ y hC kc kf ks ki ky ku kd
          have dg : v 21 = undef := by first | exact kd _ (mem0 rfl) rfl | exact kd _ (mem1 rfl) rfl | exact kd _ (mem2 rfl) rfl | exact kd _ (mem3 rfl) rfl | exact kd _ (mem4 rfl) rfl | exact kd _ (mem5 rfl) rfl
          have hy := ku 21 165 (by decide) rfl dg
          rw [if_neg (by simp [Region.wanted, hy])]
          exact ⟨Below.refl _ _, rfl⟩
        · intro v W ρ y hC kc kf ks ki ky ku kd
          have dg : v 21 = undef := by first | exact kd _ (mem0 rfl) rfl | exact kd _ (mem1 rfl) rfl | exact kd _ (mem2 rfl) rfl | exact kd _ (mem3 rfl) rfl | exact kd _ (mem4 rfl) rfl | exact kd _ (mem5 rfl) rfl
          have hy := ku 21 165 (by decide) rfl dg
          rw [if_neg (by simp [Region.wanted, hy])]
          exact ⟨Below.refl _ _, rfl⟩
        · intro v W ρ y hC kc kf ks ki ky ku kd
          have dg : v 21 = undef := by first | exact kd _ (mem0 rfl) rfl | exact kd _ (mem1 rfl) rfl | exact kd _ (mem2 rfl) rfl | exact kd _ (mem3 rfl) rfl | exact kd _ (mem4 rfl) rfl | exact kd _ (mem5 rfl) rfl
          have hy := ku 21 165 (by decide) rfl dg
          rw [if_neg (by simp [Region.wanted, hy])]
          exact ⟨Below.refl _ _, rfl⟩
        · intro v W ρ y hC kc kf ks ki ky ku kd
          have dg : v 21 = undef := by first | exact kd _ (mem0 rfl) rfl | exact kd _ (mem1 rfl) rfl | exact kd _ (mem2 rfl) rfl | exact kd _ (mem3 rfl) rfl | exact kd _ (mem4 rfl) rfl | exact kd _ (mem5 rfl) rfl
          have hy := ku 21 165 (by decide) rfl dg
          rw [if_neg (by simp [Region.wanted, hy])]
          exact ⟨Below.refl _ _, rfl⟩
        · intro v W ρ y hC kc kf ks ki ky ku kd
          have dg : v 21 = undef := by first | exact kd _ (mem0 rfl) rfl | exact kd _ (mem1 rfl) rfl | exact kd _ (mem2 rfl) rfl | exact kd _ (mem3 rfl) rfl | exact kd _ (mem4 rfl) rfl | exact kd _ (mem5 rfl) rfl
          have hy := ku 21 165 (by decide) rfl dg
          rw [if_neg (by simp [Region.wanted, hy])]
          exact ⟨Below.refl _ _, rfl⟩
        · intro v W ρ y hC kc kf ks ki ky ku kd
          have dg : v 21 = undef := by first | exact kd _ (mem0 rfl) rfl | exact kd _ (mem1 rfl) rfl | exact kd _ (mem2 rfl) rfl | exact kd _ (mem3 rfl) rfl | exact kd _ (mem4 rfl) rfl | exact kd _ (mem5 rfl) rfl
          have hy := ku 21 165 (by decide) rfl dg
          rw [if_neg (by simp [Region.wanted, hy])]
          exact ⟨Below.refl _ _, rfl⟩
        · intro v W ρ y hC kc kf ks ki ky ku kd
          have dg : v 21 = undef := by first | exact kd _ (mem0 rfl) rfl | exact kd _ (mem1 rfl) rfl | exact kd _ (mem2 rfl) rfl | exact kd _ (mem3 rfl) rfl | exact kd _ (mem4 rfl) rfl | exact kd _ (mem5 rfl) rfl
          have hy := ku 21 165 (by decide) rfl dg
          rw [if_neg (by simp [Region.wanted, hy])]
          exact ⟨Below.refl _ _, rfl⟩
        · intro v W ρ y hC kc kf ks ki ky ku kd
          have dg : v 21 = undef := by first | exact kd _ (mem0 rfl) rfl | exact kd _ (mem1 rfl) rfl | exact kd _ (mem2 rfl) rfl | exact kd _ (mem3 rfl) rfl | exact kd _ (mem4 rfl) rfl | exact kd _ (mem5 rfl) rfl
          have hy := ku 21 165 (by decide) rfl dg
          rw [if_neg (by simp [Region.wanted, hy])]
          exact ⟨Below.refl _ _, rfl⟩
        · intro v W ρ y hC kc kf ks ki ky ku kd
          have dg : v 3 = .bool false := by first | exact kd _ (mem0 rfl) rfl | exact kd _ (mem1 rfl) rfl | exact kd _ (mem2 rfl) rfl | exact kd _ (mem3 rfl) rfl | exact kd _ (mem4 rfl) rfl | exact kd _ (mem5 rfl) rfl
          have hy := ky 3 147 false (by decide) rfl dg
          rw [if_neg (by simp [Region.wanted, hy])]
          exact ⟨Below.refl _ _, rfl⟩
        · refine stepW_of_u ⟨rfl, fun v W ρ hC kc kf ks ki kd => ?_⟩
          have d3 : v 3 = .bool false := by first | exact kd _ (mem0 rfl) rfl | exact kd _ (mem1 rfl) rfl | exact kd _ (mem2 rfl) rfl | exact kd _ (mem3 rfl) rfl | exact kd _ (mem4 rfl) rfl | exact kd _ (mem5 rfl) rfl
          have t147 : ρ (.tmp 147) = .bool false := (ks 3 147 (by decide) rfl).trans d3
          simp [execOp, go_sem, kc, t147]
          exact ⟨hC, Below.refl _ _, rfl⟩
  case rest15 =>
    intro vR15 w21 hb hv
    have hv : vR15 36 = .bool false := hv
    simp [upto, Act.put]
    rw [hv]
    clear hv
    have Z121 := hidS (Z120.out.later hb)
    have B121 := hidS (blk_later B120.out hb)
    have O121 := hidS (O120.out.later hb)
    have Y121 := hidS (blk_later Y120.out hb)
    have Z221 := hidS (Z220.out.later hb)
    have B221 := hidS (blk_later B220.out hb)
    have O221 := hidS (O220.out.later hb)
    have Y221 := hidS (blk_later Y220.out hb)
    have Z321 := hidS (Z320.out.later hb)
    have B321 := hidS (blk_later B320.out hb)
    have O321 := hidS (O320.out.later hb)
    have Y321 := hidS (blk_later Y320.out hb)
    have hL21 := hidS (hL20.out.trans (hb.mono hL20.out.size))
    clear Z120 B120 O120 Y120 Z220 B220 O220 Y220 Z320 B320 O320 Y320 hL20 hb
    clear Z121 O121 B121 Y121 LU1 RU1 EU1 EA1 EK1 D1
    go_wp2_with fail
    refine grow_cases 13 (.bool false) ?rest17 ?now17
    case now17 =>
      intro fin
      have FIN := hidS fin
      clear fin
      by_cases hq : k3 = 0
      · have hg := EK3.out.trans hq
        obtain ⟨g1, g2⟩ := get_put hg
        have hr := get_right hg
        have ht : t3.slots.length ≤ 1048576 ∧ t3.heads.length ≤ 1048576 := by have := D3.out.n2; have := D3.out.n4; omega
        rw [EU3.out] at g1 g2 hr
        have HP := hidS (fun (aS aH : Option Addr) (c e : Nat) (W : World) (h : SlabZ aS aH u3 W) => implSlabPut_any aS aH c e u3 at3 W h (right_fit hr) LU3.out.1 LU3.out.2)
        rw [g1, g2] at HP
        generalize putA u3 at3 = pz at HP
        have HT := hidS ht
        subst hq
        clear hg g1 g2 hr ht
        refine grow_gk 13 [isP (.pointer (some ⟨y3, 3, none⟩)), isP (.int .i64 0), isP (.bool true), isP (.bool true), isP (.pointer (some ⟨y3, 0, none⟩)), isP (.agg #[.slice aS3 u3.slots.length cS3, .slice aH3 u3.heads.length cH3]), isP (.int .i64 at3), outK t3 pz 0, slK t3, isP (.agg #[.slice (some ⟨xb3, xo3, none⟩) t3.slots.length xc3, .slice (some ⟨yb3, yo3, none⟩) t3.heads.length yc3]), isP (.bool true), isP (.bool false), isP (.bool false)] rfl (by kernel_rfl) (by kernel_rfl) ⟨(fun v W W' h _ => h), (fun v W W' h _ => h), (fun v W W' h _ => h), (fun v W W' h _ => h), (fun v W W' h _ => h), (fun v W W' h _ => h), (fun v W W' h _ => h), (outK_last _ _ _), (slK_last _), (fun v W W' h _ => h), (fun v W W' h _ => h), (fun v W W' h _ => h), (fun v W W' h _ => h), trivial⟩ ?stepsA17 (fun v w hb hall => FIN.out v w hb (hall 12 (by decide)))
        case stepsA17 =>
          refine ⟨?_, ?_, ?_, ?_, ?_, ?_, ?_, ?_, ?_, ?_, ?_, ?_, ?_, trivial⟩
          · refine stepW_of_u ⟨rfl, fun v W ρ hC kc kf ks ki kd => ?_⟩
            have t13 : ρ (.tmp 13) = .pointer (some ⟨y3, 0, none⟩) := ki 13 (by decide)
            simp [execOp, go_sem, kc, t13]
            exact ⟨hC, Below.refl _ _, rfl⟩
          · refine stepW_of_u ⟨rfl, fun v W ρ hC kc kf ks ki kd => ?_⟩
            have d0 : v 0 = .pointer (some ⟨y3, 3, none⟩) := by first | exact kd _ (mem0 rfl) rfl | exact kd _ (mem1 rfl) rfl | exact kd _ (mem2 rfl) rfl | exact kd _ (mem3 rfl) rfl | exact kd _ (mem4 rfl) rfl | exact kd _ (mem5 rfl) rfl
            have t181 : ρ (.tmp 181) = .pointer (some ⟨y3, 3, none⟩) := (ks 0 181 (by decide) rfl).trans d0
            have hg := blk_later Y321.out hC
            have c3 := blk_cell hg 3
            simp at c3
            simp [execOp, go_sem, kc, t181, c3]
            exact ⟨hC, Below.refl _ _, rfl⟩
          · refine stepW_of_u ⟨rfl, fun v W ρ hC kc kf ks ki kd => ?_⟩
            have d1 : v 1 = .int .i64 0 := by first | exact kd _ (mem0 rfl) rfl | exact kd _ (mem1 rfl) rfl | exact kd _ (mem2 rfl) rfl | exact kd _ (mem3 rfl) rfl | exact kd _ (mem4 rfl) rfl | exact kd _ (mem5 rfl) rfl
            have t182 : ρ (.tmp 182) = .int .i64 0 := (ks 1 182 (by decide) rfl).trans d1
            simp [execOp, go_sem, kc, t182]
            exact ⟨hC, Below.refl _ _, rfl⟩
          · refine stepW_of_u ⟨rfl, fun v W ρ hC kc kf ks ki kd => ?_⟩
            have d2 : v 2 = .bool true := by first | exact kd _ (mem0 rfl) rfl | exact kd _ (mem1 rfl) rfl | exact kd _ (mem2 rfl) rfl | exact kd _ (mem3 rfl) rfl | exact kd _ (mem4 rfl) rfl | exact kd _ (mem5 rfl) rfl
            have t183 : ρ (.tmp 183) = .bool true := (ks 2 183 (by decide) rfl).trans d2
            simp [execOp, go_sem, kc, t183]
            exact ⟨hC, Below.refl _ _, rfl⟩
          · intro v W ρ y hC kc kf ks ki ky ku kd
            have dg : v 3 = .bool true := by first | exact kd _ (mem0 rfl) rfl | exact kd _ (mem1 rfl) rfl | exact kd _ (mem2 rfl) rfl | exact kd _ (mem3 rfl) rfl | exact kd _ (mem4 rfl) rfl | exact kd _ (mem5 rfl) rfl
            have hy := ky 3 184 true (by decide) rfl dg
            rw [if_pos (by simp [Region.wanted, hy])]
            have t13 : ρ (.tmp 13) = .pointer (some ⟨y3, 0, none⟩) := ki 13 (by decide)
            simp [execOp, go_sem, kc, t13]
            exact ⟨hC, Below.refl _ _, rfl⟩
          · intro v W ρ y hC kc kf ks ki ky ku kd
            have dg : v 3 = .bool true := by first | exact kd _ (mem0 rfl) rfl | exact kd _ (mem1 rfl) rfl | exact kd _ (mem2 rfl) rfl | exact kd _ (mem3 rfl) rfl | exact kd _ (mem4 rfl) rfl | exact kd _ (mem5 rfl) rfl
            have hy := ky 3 184 true (by decide) rfl dg
            rw [if_pos (by simp [Region.wanted, hy])]
            have d4 : v 4 = .pointer (some ⟨y3, 0, none⟩) := by first | exact kd _ (mem0 rfl) rfl | exact kd _ (mem1 rfl) rfl | exact kd _ (mem2 rfl) rfl | exact kd _ (mem3 rfl) rfl | exact kd _ (mem4 rfl) rfl | exact kd _ (mem5 rfl) rfl
            have t185 : ρ (.tmp 185) = .pointer (some ⟨y3, 0, none⟩) := (ks 4 185 (by decide) rfl).trans d4
            have hg := blk_later Y321.out hC
            have c0 := blk_cell hg 0
            have c1 := blk_cell hg 1
            simp at c0 c1
            simp [execOp, go_sem, kc, t185, c0, c1]
            exact ⟨hC, Below.refl _ _, rfl⟩
          · intro v W ρ y hC kc kf ks ki ky ku kd
            have dg : v 3 = .bool true := by first | exact kd _ (mem0 rfl) rfl | exact kd _ (mem1 rfl) rfl | exact kd _ (mem2 rfl) rfl | exact kd _ (mem3 rfl) rfl | exact kd _ (mem4 rfl) rfl | exact kd _ (mem5 rfl) rfl
            have hy := ky 3 184 true (by decide) rfl dg
            rw [if_pos (by simp [Region.wanted, hy])]
            have t12 : ρ (.tmp 12) = .int .i64 at3 := ki 12 (by decide)
            simp [execOp, go_sem, kc, t12]
            exact ⟨hC, Below.refl _ _, rfl⟩
          · intro v W ρ y hC kc kf ks ki ky ku kd
            have dg : v 3 = .bool true := by first | exact kd _ (mem0 rfl) rfl | exact kd _ (mem1 rfl) rfl | exact kd _ (mem2 rfl) rfl | exact kd _ (mem3 rfl) rfl | exact kd _ (mem4 rfl) rfl | exact kd _ (mem5 rfl) rfl
            have hy := ky 3 184 true (by decide) rfl dg
            rw [if_pos (by simp [Region.wanted, hy])]
            have d5 : v 5 = .agg #[.slice aS3 u3.slots.length cS3, .slice aH3 u3.heads.length cH3] := by first | exact kd _ (mem0 rfl) rfl | exact kd _ (mem1 rfl) rfl | exact kd _ (mem2 rfl) rfl | exact kd _ (mem3 rfl) rfl | exact kd _ (mem4 rfl) rfl | exact kd _ (mem5 rfl) rfl
            have t186 : ρ (.tmp 186) = .agg #[.slice aS3 u3.slots.length cS3, .slice aH3 u3.heads.length cH3] := (ks 5 186 (by decide) rfl).trans d5
            have d6 : v 6 = .int .i64 at3 := by first | exact kd _ (mem0 rfl) rfl | exact kd _ (mem1 rfl) rfl | exact kd _ (mem2 rfl) rfl | exact kd _ (mem3 rfl) rfl | exact kd _ (mem4 rfl) rfl | exact kd _ (mem5 rfl) rfl
            have t187 : ρ (.tmp 187) = .int .i64 at3 := (ks 6 187 (by decide) rfl).trans d6
            simp [execOp, go_sem, kc, kf, t186, t187]
            refine Calls.mono (HP.out _ _ _ _ W (O321.out.later hC)) (fun e x h => ?_)
            obtain ⟨sS, sc, sH, se, rfl, hO, hb⟩ := h
            exact ⟨_, rfl, hC.trans (hb.mono hC.size), hb, sS, sc, sH, se, rfl, hO.read⟩
          · intro v W ρ y hC kc kf ks ki ky ku kd
            have dg : v 3 = .bool true := by first | exact kd _ (mem0 rfl) rfl | exact kd _ (mem1 rfl) rfl | exact kd _ (mem2 rfl) rfl | exact kd _ (mem3 rfl) rfl | exact kd _ (mem4 rfl) rfl | exact kd _ (mem5 rfl) rfl
            have hy := ky 3 184 true (by decide) rfl dg
            rw [if_pos (by simp [Region.wanted, hy])]
            obtain ⟨sS188, sc188, sH188, se188, e188, hz188⟩ : (outK t3 pz 0) (v 7) W := by first | exact kd _ (mem0 rfl) rfl | exact kd _ (mem1 rfl) rfl | exact kd _ (mem2 rfl) rfl | exact kd _ (mem3 rfl) rfl | exact kd _ (mem4 rfl) rfl | exact kd _ (mem5 rfl) rfl
            have t188 : ρ (.tmp 188) = .agg #[.slice sS188 t3.slots.length sc188, .slice sH188 t3.heads.length se188, .int .i64 pz, .int .i64 0] := (ks 7 188 (by decide) rfl).trans e188
            simp [execOp, go_sem, kc, kf, t188]
            exact ⟨hC, Below.refl _ _, sS188, sc188, sH188, se188, rfl, hz188⟩
          · intro v W ρ y hC kc kf ks ki ky ku kd
            have dg : v 3 = .bool true := by first | exact kd _ (mem0 rfl) rfl | exact kd _ (mem1 rfl) rfl | exact kd _ (mem2 rfl) rfl | exact kd _ (mem3 rfl) rfl | exact kd _ (mem4 rfl) rfl | exact kd _ (mem5 rfl) rfl
            have hy := ky 3 184 true (by decide) rfl dg
            rw [if_pos (by simp [Region.wanted, hy])]
            have t11 : ρ (.tmp 11) = .pointer (some ⟨x3, 0, none⟩) := ki 11 (by decide)
            have hg := blk_later B321.out hC
            have c0 := blk_cell hg 0
            have c1 := blk_cell hg 1
            simp at c0 c1
            simp [execOp, go_sem, kc, t11, c0, c1]
            exact ⟨hC, Below.refl _ _, rfl⟩
          · intro v W ρ y hC kc kf ks ki ky ku kd
            have dg : v 3 = .bool true := by first | exact kd _ (mem0 rfl) rfl | exact kd _ (mem1 rfl) rfl | exact kd _ (mem2 rfl) rfl | exact kd _ (mem3 rfl) rfl | exact kd _ (mem4 rfl) rfl | exact kd _ (mem5 rfl) rfl
            have hy := ky 3 184 true (by decide) rfl dg
            rw [if_pos (by simp [Region.wanted, hy])]
            have d9 : v 9 = .agg #[.slice (some ⟨xb3, xo3, none⟩) t3.slots.length xc3, .slice (some ⟨yb3, yo3, none⟩) t3.heads.length yc3] := by first | exact kd _ (mem0 rfl) rfl | exact kd _ (mem1 rfl) rfl | exact kd _ (mem2 rfl) rfl | exact kd _ (mem3 rfl) rfl | exact kd _ (mem4 rfl) rfl | exact kd _ (mem5 rfl) rfl
            have t190 : ρ (.tmp 190) = .agg #[.slice (some ⟨xb3, xo3, none⟩) t3.slots.length xc3, .slice (some ⟨yb3, yo3, none⟩) t3.heads.length yc3] := (ks 9 190 (by decide) rfl).trans d9
            obtain ⟨sS189, sc189, sH189, se189, e189, hz189⟩ : (slK t3) (v 8) W := by first | exact kd _ (mem0 rfl) rfl | exact kd _ (mem1 rfl) rfl | exact kd _ (mem2 rfl) rfl | exact kd _ (mem3 rfl) rfl | exact kd _ (mem4 rfl) rfl | exact kd _ (mem5 rfl) rfl
            have t189 : ρ (.tmp 189) = .agg #[.slice sS189 t3.slots.length sc189, .slice sH189 t3.heads.length se189] := (ks 8 189 (by decide) rfl).trans e189
            simp [execOp, go_sem, t189, t190, kf]
            exact Calls.mono (lwSlab_any sS189 (some ⟨xb3, xo3, none⟩) sH189 (some ⟨yb3, yo3, none⟩) sc189 se189 xc3 yc3 t3 W hz189 (Z321.out.later hC) HT.out.1 HT.out.2) (fun e x h => ⟨_, h.1, hC.trans (h.2.mono hC.size), h.2, rfl⟩)
          · intro v W ρ y hC kc kf ks ki ky ku kd
            have dg : v 3 = .bool true := by first | exact kd _ (mem0 rfl) rfl | exact kd _ (mem1 rfl) rfl | exact kd _ (mem2 rfl) rfl | exact kd _ (mem3 rfl) rfl | exact kd _ (mem4 rfl) rfl | exact kd _ (mem5 rfl) rfl
            have hy := ky 3 184 true (by decide) rfl dg
            rw [if_pos (by simp [Region.wanted, hy])]
            have d10 : v 10 = .bool true := by first | exact kd _ (mem0 rfl) rfl | exact kd _ (mem1 rfl) rfl | exact kd _ (mem2 rfl) rfl | exact kd _ (mem3 rfl) rfl | exact kd _ (mem4 rfl) rfl | exact kd _ (mem5 rfl) rfl
            have t191 : ρ (.tmp 191) = .bool true := (ks 10 191 (by decide) rfl).trans d10
            simp [execOp, go_sem, kc, t191]
            exact ⟨hC, Below.refl _ _, rfl⟩
          · refine stepW_of_u ⟨rfl, fun v W ρ hC kc kf ks ki kd => ?_⟩
            have d3 : v 3 = .bool true := by first | exact kd _ (mem0 rfl) rfl | exact kd _ (mem1 rfl) rfl | exact kd _ (mem2 rfl) rfl | exact kd _ (mem3 rfl) rfl | exact kd _ (mem4 rfl) rfl | exact kd _ (mem5 rfl) rfl
            have t184 : ρ (.tmp 184) = .bool true := (ks 3 184 (by decide) rfl).trans d3
            have d11 : v 11 = .bool false := by first | exact kd _ (mem0 rfl) rfl | exact kd _ (mem1 rfl) rfl | exact kd _ (mem2 rfl) rfl | exact kd _ (mem3 rfl) rfl | exact kd _ (mem4 rfl) rfl | exact kd _ (mem5 rfl) rfl
            have t192 : ρ (.tmp 192) = .bool false := (ks 11 192 (by decide) rfl).trans d11
            simp [execOp, go_sem, kc, t184, t192]
            exact ⟨hC, Below.refl _ _, rfl⟩
      · have bq : (k3 == 0) = false := beq_eq_false_iff_ne.2 hq
        clear hq
        refine grow_gk 13 [isP (.pointer (some ⟨y3, 3, none⟩)), isP (.int .i64 k3), isP (.bool false), isP (.bool false), isP undef, isP undef, isP undef, isP undef, isP undef, isP undef, isP undef, isP undef, isP (.bool false)] rfl (by kernel_rfl) (by kernel_rfl) ⟨(fun v W W' h _ => h), (fun v W W' h _ => h), (fun v W W' h _ => h), (fun v W W' h _ => h), (fun v W W' h _ => h), (fun v W W' h _ => h), (fun v W W' h _ => h), (fun v W W' h _ => h), (fun v W W' h _ => h), (fun v W W' h _ => h), (fun v W W' h _ => h), (fun v W W' h _ => h), (fun v W W' h _ => h), trivial⟩ ?stepsB17 (fun v w hb hall => FIN.out v w hb (hall 12 (by decide)))
        case stepsB17 =>
          refine ⟨?_, ?_, ?_, ?_, ?_, ?_, ?_, ?_, ?_, ?_, ?_, ?_, ?_, trivial⟩
          · refine stepW_of_u ⟨rfl, fun v W ρ hC kc kf ks ki kd => ?_⟩
            have t13 : ρ (.tmp 13) = .pointer (some ⟨y3, 0, none⟩) := ki 13 (by decide)
            simp [execOp, go_sem, kc, t13]
            exact ⟨hC, Below.refl _ _, rfl⟩
          · refine stepW_of_u ⟨rfl, fun v W ρ hC kc kf ks ki kd => ?_⟩
            have d0 : v 0 = .pointer (some ⟨y3, 3, none⟩) := by first | exact kd _ (mem0 rfl) rfl | exact kd _ (mem1 rfl) rfl | exact kd _ (mem2 rfl) rfl | exact kd _ (mem3 rfl) rfl | exact kd _ (mem4 rfl) rfl | exact kd _ (mem5 rfl) rfl
            have t181 : ρ (.tmp 181) = .pointer (some ⟨y3, 3, none⟩) := (ks 0 181 (by decide) rfl).trans d0
            have hg := blk_later Y321.out hC
            have c3 := blk_cell hg 3
            simp at c3
            simp [execOp, go_sem, kc, t181, c3]
            exact ⟨hC, Below.refl _ _, rfl⟩
          · refine stepW_of_u ⟨rfl, fun v W ρ hC kc kf ks ki kd => ?_⟩
            have d1 : v 1 = .int .i64 k3 := by first | exact kd _ (mem0 rfl) rfl | exact kd _ (mem1 rfl) rfl | exact kd _ (mem2 rfl) rfl | exact kd _ (mem3 rfl) rfl | exact kd _ (mem4 rfl) rfl | exact kd _ (mem5 rfl) rfl
            have t182 : ρ (.tmp 182) = .int .i64 k3 := (ks 1 182 (by decide) rfl).trans d1
            simp [execOp, go_sem, kc, t182, bq]
            exact ⟨hC, Below.refl _ _, rfl⟩
          · refine stepW_of_u ⟨rfl, fun v W ρ hC kc kf ks ki kd => ?_⟩
            have d2 : v 2 = .bool false := by first | exact kd _ (mem0 rfl) rfl | exact kd _ (mem1 rfl) rfl | exact kd _ (mem2 rfl) rfl | exact kd _ (mem3 rfl) rfl | exact kd _ (mem4 rfl) rfl | exact kd _ (mem5 rfl) rfl
            have t183 : ρ (.tmp 183) = .bool false := (ks 2 183 (by decide) rfl).trans d2
            simp [execOp, go_sem, kc, t183]
            exact ⟨hC, Below.refl _ _, rfl⟩
          · intro v W ρ y hC kc kf ks ki ky ku kd
            have dg : v 3 = .bool false := by first | exact kd _ (mem0 rfl) rfl | exact kd _ (mem1 rfl) rfl | exact kd _ (mem2 rfl) rfl | exact kd _ (mem3 rfl) rfl | exact kd _ (mem4 rfl) rfl | exact kd _ (mem5 rfl) rfl
            have hy := ky 3 184 false (by decide) rfl dg
            rw [if_neg (by simp [Region.wanted, hy])]
            exact ⟨Below.refl _ _, rfl⟩
          · intro v W ρ y hC kc kf ks ki ky ku kd
            have dg : v 3 = .bool false := by first | exact kd _ (mem0 rfl) rfl | exact kd _ (mem1 rfl) rfl | exact kd _ (mem2 rfl) rfl | exact kd _ (mem3 rfl) rfl | exact kd _ (mem4 rfl) rfl | exact kd _ (mem5 rfl) rfl
            have hy := ky 3 184 false (by decide) rfl dg
            rw [if_neg (by simp [Region.wanted, hy])]
            exact ⟨Below.refl _ _, rfl⟩
          · intro v W ρ y hC kc kf ks ki ky ku kd
            have dg : v 3 = .bool false := by first | exact kd _ (mem0 rfl) rfl | exact kd _ (mem1 rfl) rfl | exact kd _ (mem2 rfl) rfl | exact kd _ (mem3 rfl) rfl | exact kd _ (mem4 rfl) rfl | exact kd _ (mem5 rfl) rfl
            have hy := ky 3 184 false (by decide) rfl dg
            rw [if_neg (by simp [Region.wanted, hy])]
            exact ⟨Below.refl _ _, rfl⟩
          · intro v W ρ y hC kc kf ks ki ky ku kd
            have dg : v 3 = .bool false := by first | exact kd _ (mem0 rfl) rfl | exact kd _ (mem1 rfl) rfl | exact kd _ (mem2 rfl) rfl | exact kd _ (mem3 rfl) rfl | exact kd _ (mem4 rfl) rfl | exact kd _ (mem5 rfl) rfl
            have hy := ky 3 184 false (by decide) rfl dg
            rw [if_neg (by simp [Region.wanted, hy])]
            exact ⟨Below.refl _ _, rfl⟩
          · intro v W ρ y hC kc kf ks ki ky ku kd
            have dg : v 3 = .bool false := by first | exact kd _ (mem0 rfl) rfl | exact kd _ (mem1 rfl) rfl | exact kd _ (mem2 rfl) rfl | exact kd _ (mem3 rfl) rfl | exact kd _ (mem4 rfl) rfl | exact kd _ (mem5 rfl) rfl
            have hy := ky 3 184 false (by decide) rfl dg
            rw [if_neg (by simp [Region.wanted, hy])]
            exact ⟨Below.refl _ _, rfl⟩
          · intro v W ρ y hC kc kf ks ki ky ku kd
            have dg : v 3 = .bool false := by first | exact kd _ (mem0 rfl) rfl | exact kd _ (mem1 rfl) rfl | exact kd _ (mem2 rfl) rfl | exact kd _ (mem3 rfl) rfl | exact kd _ (mem4 rfl) rfl | exact kd _ (mem5 rfl) rfl
            have hy := ky 3 184 false (by decide) rfl dg
            rw [if_neg (by simp [Region.wanted, hy])]
            exact ⟨Below.refl _ _, rfl⟩
          · intro v W ρ y hC kc kf ks ki ky ku kd
            have dg : v 3 = .bool false := by first | exact kd _ (mem0 rfl) rfl | exact kd _ (mem1 rfl) rfl | exact kd _ (mem2 rfl) rfl | exact kd _ (mem3 rfl) rfl | exact kd _ (mem4 rfl) rfl | exact kd _ (mem5 rfl) rfl
            have hy := ky 3 184 false (by decide) rfl dg
            rw [if_neg (by simp [Region.wanted, hy])]
            exact ⟨Below.refl _ _, rfl⟩
          · intro v W ρ y hC kc kf ks ki ky ku kd
            have dg : v 3 = .bool false := by first | exact kd _ (mem0 rfl) rfl | exact kd _ (mem1 rfl) rfl | exact kd _ (mem2 rfl) rfl | exact kd _ (mem3 rfl) rfl | exact kd _ (mem4 rfl) rfl | exact kd _ (mem5 rfl) rfl
            have hy := ky 3 184 false (by decide) rfl dg
            rw [if_neg (by simp [Region.wanted, hy])]
            exact ⟨Below.refl _ _, rfl⟩
          · refine stepW_of_u ⟨rfl, fun v W ρ hC kc kf ks ki kd => ?_⟩
            have d3 : v 3 = .bool false := by first | exact kd _ (mem0 rfl) rfl | exact kd _ (mem1 rfl) rfl | exact kd _ (mem2 rfl) rfl | exact kd _ (mem3 rfl) rfl | exact kd _ (mem4 rfl) rfl | exact kd _ (mem5 rfl) rfl
            have t184 : ρ (.tmp 184) = .bool false := (ks 3 184 (by decide) rfl).trans d3
            simp [execOp, go_sem, kc, t184]
            exact ⟨hC, Below.refl _ _, rfl⟩
    case rest17 =>
      intro vR17 w22 hb hv
      have hv : vR17 12 = .bool false := hv
      simp [upto, Act.put]
      rw [hv]
      clear hv
      have Z222 := hidS (Z221.out.later hb)
      have B222 := hidS (blk_later B221.out hb)
      have O222 := hidS (O221.out.later hb)
      have Y222 := hidS (blk_later Y221.out hb)
      have Z322 := hidS (Z321.out.later hb)
      have B322 := hidS (blk_later B321.out hb)
      have O322 := hidS (O321.out.later hb)
      have Y322 := hidS (blk_later Y321.out hb)
      have hL22 := hidS (hL21.out.trans (hb.mono hL21.out.size))
      clear Z221 B221 O221 Y221 Z321 B321 O321 Y321 hL21 hb
      clear Z322 O322 B322 Y322 LU3 RU3 EU3 EA3 EK3 D3 D4 D5 D6
      go_wp2_with fail
      by_cases hq : k2 = 0
      case neg =>
        have bq : (k2 == 0) = false := beq_eq_false_iff_ne.2 hq
        go_loopw [22] (fun i wr => i = .int .i64 0 ∧ wr = w22) (fun _ _ => 0)
        case atStart => exact ⟨rfl, rfl⟩
        case round =>
          obtain ⟨rfl, rfl⟩ := hrel
          have a0 := blk_cell Y222.out 0
          have a1 := blk_cell Y222.out 1
          have a2 := blk_cell Y222.out 2
          have a3 := blk_cell Y222.out 3
          simp at a0 a1 a2 a3
          clear hq
          go_wp2_with fail
          go_ret
          exact ⟨rfl, hL22.out⟩
      obtain ⟨f1, f2, f3, f4, f5⟩ := cut_facts (EK2.out.trans hq)
      have EI : cutIn t2 gone = u2 := by rw [← EU2.out]; unfold cutS; rw [if_pos (EK2.out.trans hq)]
      rw [EI] at f1 f2 f3
      subst hq
      have HFI := hidS (fun (kk : Int) (W : World) (h : SlabZ aS2 aH2 u2 W) => implSlabFind_any aS2 aH2 cS2 cH2 u2 kk W h (right_fit f1) LU2.out.1 LU2.out.2)
      have HFS := hidS (fun (kk : Int) (W : World) (h : SlabZ (some ⟨xb2, xo2, none⟩) (some ⟨yb2, yo2, none⟩) t2 W) => specSlabFind_any (some ⟨xb2, xo2, none⟩) (some ⟨yb2, yo2, none⟩) xc2 yc2 t2 kk W h (by have := D2.out.n2; omega) (by have := D2.out.n4; omega))
      have F1 : Hid (findAns u2 gone = -1) := by show _ = _; unfold findAns; rw [f1, f5, if_pos (by rfl)]; exact f2
      have F2 := hidS (fun (kk : Nat) (hk : kk < 10) (hne : ¬ (kk : Int) = gone) => show findAns u2 (kk : Int) = findAns t2 (kk : Int) by
        unfold findAns
        rw [f1, f4, key_iff.2 (by omega), if_pos (by rfl), if_pos (by rfl)]
        exact f3 _ (by omega) hne)
      have ZI := hidS (show (SlabZ (some ⟨xb2, xo2, none⟩) (some ⟨yb2, yo2, none⟩) t2 w22 ∧ SlabZ aS2 aH2 u2 w22) from ⟨Z222.out, O222.out⟩)
      clear f1 f2 f3 f4 f5 EI LU2 RU2 EU2 EA2 EK2 D2 hl0 hl1 g0 g1 keylo keyhi gonelo gonehi at3lo at3hi putlo puthi chnlo chnhi somlo somhi
      go_loopw [22] (fun i wr => ∃ k : Nat, i = .int .i64 (k : Int) ∧ k ≤ 10 ∧ wr.heap[x2]? = some (.cells #[.slice (some ⟨xb2, xo2, none⟩) t2.slots.length xc2, .slice (some ⟨yb2, yo2, none⟩) t2.heads.length yc2] 26) ∧ wr.heap[y2]? = some (.cells #[.slice aS2 u2.slots.length cS2, .slice aH2 u2.heads.length cH2, .int .i64 pl2, .int .i64 0] 30) ∧ SlabZ (some ⟨xb2, xo2, none⟩) (some ⟨yb2, yo2, none⟩) t2 wr ∧ SlabZ aS2 aH2 u2 wr ∧ Below w.heap.size w wr) (fun i _ => (10 - (intOf i).toNat))
      case atStart => exact ⟨0, rfl, by omega, B222.out, Y222.out, ZI.out.1, ZI.out.2, hL22.out⟩
      case round =>
        obtain ⟨k, rfl, hk, hB, hY, hZ, hO, hb⟩ := hrel
        clear ZI Z222 O222 B222 Y222 hL22
        have HB := hidS hB
        have HY := hidS hY
        have HZ := hidS hZ
        have HO := hidS hO
        have HL := hidS hb
        clear hB hY hZ hO hb
        by_cases hlt : k < 10
        · have hlt' : (k : Int) < 10 := by omega
          have a0 := blk_cell HY.out 0
          have a1 := blk_cell HY.out 1
          have a2 := blk_cell HY.out 2
          have a3 := blk_cell HY.out 3
          simp at a0 a1 a2 a3
          have e0 := blk_cell HB.out 0
          have e1 := blk_cell HB.out 1
          simp at e0 e1
          go_wp2_with fail
          refine (HFS.out (k : Int) _ HZ.out).mono ?_
          rintro _ wa ⟨rfl, hba⟩
          clear a0 a1 a2 a3 e0 e1
          have HBn := hidS (blk_later HB.out hba)
          have HYn := hidS (blk_later HY.out hba)
          have HZn := hidS (HZ.out.later hba)
          have HOn := hidS (HO.out.later hba)
          have HLn := hidS (HL.out.trans (hba.mono HL.out.size))
          clear HB HY HZ HO HL hba
          have HB := HBn
          have HY := HYn
          have HZ := HZn
          have HO := HOn
          have HL := HLn
          clear HBn HYn HZn HOn HLn
          have a0 := blk_cell HY.out 0
          have a1 := blk_cell HY.out 1
          have a2 := blk_cell HY.out 2
          have a3 := blk_cell HY.out 3
          simp at a0 a1 a2 a3
          by_cases hg : (k : Int) = gone
          · subst hg
            go_wp2_with fail
            refine (HFI.out (k : Int) _ HO.out).mono ?_
            rintro _ wb ⟨rfl, hbb⟩
            rw [F1.out]
            clear a0 a1 a2 a3
            have HBn := hidS (blk_later HB.out hbb)
            have HYn := hidS (blk_later HY.out hbb)
            have HZn := hidS (HZ.out.later hbb)
            have HOn := hidS (HO.out.later hbb)
            have HLn := hidS (HL.out.trans (hbb.mono HL.out.size))
            clear HB HY HZ HO HL hbb
            go_wp2
            go_roundw
            case rel => exact ⟨k + 1, by simp, by omega, HBn.out, HYn.out, HZn.out, HOn.out, HLn.out⟩
            case measure => simp [intOf]; omega
          · have bg : ((k : Int) == gone) = false := beq_eq_false_iff_ne.2 hg
            have F3 := hidS (F2.out k hlt hg)
            generalize findAns t2 (k : Int) = fv at F3 ⊢
            go_wp2_with fail
            refine (HFI.out (k : Int) _ HO.out).mono ?_
            rintro _ wb ⟨rfl, hbb⟩
            rw [F3.out]
            clear a0 a1 a2 a3
            have HBn := hidS (blk_later HB.out hbb)
            have HYn := hidS (blk_later HY.out hbb)
            have HZn := hidS (HZ.out.later hbb)
            have HOn := hidS (HO.out.later hbb)
            have HLn := hidS (HL.out.trans (hbb.mono HL.out.size))
            clear HB HY HZ HO HL hbb
            go_wp2
            go_roundw
            case rel => exact ⟨k + 1, by simp, by omega, HBn.out, HYn.out, HZn.out, HOn.out, HLn.out⟩
            case measure => simp [intOf]; omega
        · have hge : ¬ (k : Int) < 10 := by omega
          clear hlt
          go_wp2
          go_ret
          exact ⟨rfl, HL.out⟩
end Go.Proofs.Ytcopfejonbbmnaa
