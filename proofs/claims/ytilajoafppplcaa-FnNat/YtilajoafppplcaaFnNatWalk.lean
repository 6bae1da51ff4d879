/- Proved here: laws.FnNat answers true, whatever is drawn; all old memory stays (condition: the bytes that are drawn from can be read, at most 2^20 each). -/
import Derived.Test.YtilajoafppplcaaDrawGoes
import Derived.Test.YtilajoafppplcaaAll18
import Derived.Test.YtilajoafppplcaaGoesI
import Derived.Test.YtilajoafppplcaaGoesAS
import Derived.Test.YtilajoafppplcaaRuleForI
import Derived.Test.YtilajoafppplcaaRuleForS
import Derived.Test.YtilajoafppplcaaAll27
import Derived.Test.YtilajoafppplcaaInNetS
import Derived.Test.YtilajoafppplcaaRuleI
import Derived.Test.YtilajoafppplcaaRuleS
import Derived.Test.YtilajoafppplcaaAll36
import Derived.Test.YtilajoafppplcaaAll24
import Derived.Deep.Cut
namespace Go.Proofs.Ytilajoafppplcaa
open Go.ChangeShapes Go.WideShapes Go.ChangeAt Go.RowKit
set_option linter.unusedVariables false
set_option linter.unusedSimpArgs false
set_option maxRecDepth 100000

theorem rowAt_later {B : Nat} {a : Option Addr} {len : Nat} {w w' : World} (h : RowAt B a len w) (hb : Below B w w') : RowAt B a len w' := h.below fun k hk => hb.block k hk
theorem rowAt_up {B C : Nat} {a : Option Addr} {len : Nat} {w : World} (h : RowAt B a len w) (hb : B ≤ C) : RowAt C a len w := fun j hj => by
  obtain ⟨b, o, h1, h2, h3⟩ := h j hj
  exact ⟨b, o, h1, by omega, h3⟩
/-- no row lies in a block -/
def rowApart (a : Option Addr) (zs : List Int) (x : Nat) : Prop := ∀ j, j < zs.length → ∀ b o, a = some ⟨b, o, none⟩ → b ≠ x
theorem row_apart {a : Option Addr} {zs : List Int} {W : World} (h : RowZ a zs W) : rowApart a zs W.heap.size := fun j hj b o e => by
  obtain ⟨b', o', e', hl, _⟩ := h j hj
  rw [e] at e'
  injection e' with e'
  injection e' with e1
  omega
theorem rowZ_set {a : Option Addr} {zs : List Int} {W : World} (h : RowZ a zs W) (x k : Nat) (v : Value) (hne : rowApart a zs x) : RowZ a zs (W.setCell ⟨x, k, none⟩ v) := fun j hj => by
  obtain ⟨b, o, e, hl, hc⟩ := h j hj
  refine ⟨b, o, e, by simpa using hl, ?_⟩
  have := hne j hj b o e
  simp [World.cell?, Below.heap_setCell W ⟨x, k, none⟩ v b (by simpa using this)] at hc ⊢
  exact hc
set_option maxHeartbeats 16000000 in
theorem fnNat_in (a0 : Option Addr) (len0 cap0 : Nat) (a1 : Option Addr) (len1 cap1 : Nat) (w : World) (h0 : RowAt w.heap.size a0 len0 w) (h1 : RowAt w.heap.size a1 len1 w) (hl0 : len0 ≤ 1048576) (hl1 : len1 ≤ 1048576) :
    Calls Try.prog 4 #[.slice a0 len0 cap0, .slice a1 len1 cap1] w fun e w' => e = .returned (.bool true) ∧ Below w.heap.size w w' := by
  have g0 : ¬ ((1048576 : Int) < (len0 : Int)) := by omega
  have g1 : ¬ ((1048576 : Int) < (len1 : Int)) := by omega
  have H0 := hidS h0
  have H1 := hidS h1
  clear h0 h1
  have hL0 := hidS (Below.refl w.heap.size w)
  go_enter Try.func4, Try.ntmps4
  go_wp2_with fail
  refine (drawGoesAs_any a0 len0 cap0 _ (rowAt_up (rowAt_later H0.out hL0.out) hL0.out.size) hl0).mono ?_
  rintro _ w1 ⟨⟨aa, ca, rs, t, z, bb, cb, us, rfl, hrs, hus, hR, hU⟩, hb⟩
  have hL1 := hidS (hL0.out.trans (hb.mono hL0.out.size))
  clear hL0 hb
  have RA1 := hidS hR
  have RB1 := hidS hU
  clear hR hU
  have RA2 := hidS (RA1.out.later ((Below.refl w1.heap.size w1).alloc (Nat.le_refl _) (.cells #[.int .i64 t.proto, .int .i64 t.src, .int .i64 t.sport, .int .i64 t.dst, .int .i64 t.dport, .int .i64 t.kind] 52)))
  have RB2 := hidS (RB1.out.later ((Below.refl w1.heap.size w1).alloc (Nat.le_refl _) (.cells #[.int .i64 t.proto, .int .i64 t.src, .int .i64 t.sport, .int .i64 t.dst, .int .i64 t.dport, .int .i64 t.kind] 52)))
  have T2 := hidS (heap_newG w1 (.cells #[.int .i64 t.proto, .int .i64 t.src, .int .i64 t.sport, .int .i64 t.dst, .int .i64 t.dport, .int .i64 t.kind] 52))
  have hL2 := hidS (hL1.out.alloc hL1.out.size (.cells #[.int .i64 t.proto, .int .i64 t.src, .int .i64 t.sport, .int .i64 t.dst, .int .i64 t.dport, .int .i64 t.kind] 52))
  clear RA1 RB1 hL1
  go_upto_region 4 with fail
  generalize w1.alloc (.cells #[.int .i64 t.proto, .int .i64 t.src, .int .i64 t.sport, .int .i64 t.dst, .int .i64 t.dport, .int .i64 t.kind] 52) = w2 at RA2 RB2 T2 hL2 ⊢
  generalize w1.heap.size = xT at *
  have HIG := hidS (fun W (h : RowZ aa (flatRule rs) W) (h' : RowZ bb (flatTuple us) W) => implGoesAs_any aa bb ca cb rs us t z W h h' (by omega) (by omega))
  have HSG := hidS (fun W (h : RowZ aa (flatRule rs) W) (h' : RowZ bb (flatTuple us) W) => specGoesAs_any aa bb ca cb rs us t z W h h' (by omega) (by omega))
  have GF := hidS (fun h => goes_facts (l := rs) (t := t) (start := z) (used := us) h)
  have GO := hidS (fun h => goes_parts (l := rs) (t := t) (start := z) (used := us) h)
  generalize goesC rs t z us = c at HIG HSG GF GO
  generalize goesT rs t z us = x at HIG HSG GF GO
  have HIA := hidS (fun W (h : RowZ aa (flatRule rs) W) => implRules_any aa ca rs W h (by omega))
  have HSA := hidS (fun W (h : RowZ aa (flatRule rs) W) => specRules_any aa ca rs W h (by omega))
  generalize hrb : rulesB rs = rb at HIA HSA
  clear hrb
  have HSP := hidS (fun k u W (h : RowZ aa (flatRule rs) W) => specRuleFor_any aa ca rs k u W h (by omega))
  have v0 := blk_cell T2.out 0
  have v1 := blk_cell T2.out 1
  have v2 := blk_cell T2.out 2
  have v3 := blk_cell T2.out 3
  have v4 := blk_cell T2.out 4
  have v5 := blk_cell T2.out 5
  simp at v0 v1 v2 v3 v4 v5
  go_wp2_with fail
  refine (HIG.out _ RA2.out RB2.out).mono ?_
  rintro _ w3 ⟨rfl, hb⟩
  clear v0 v1 v2 v3 v4 v5
  have RA3 := hidS (RA2.out.later hb)
  have RB3 := hidS (RB2.out.later hb)
  have T3 := hidS (blk_later T2.out hb)
  have hL3 := hidS (hL2.out.trans (hb.mono hL2.out.size))
  clear RA2 RB2 T2 hL2 hb
  have RA4 := hidS (RA3.out.later ((Below.refl w3.heap.size w3).alloc (Nat.le_refl _) (.cells #[.int .i64 x.proto, .int .i64 x.src, .int .i64 x.sport, .int .i64 x.dst, .int .i64 x.dport, .int .i64 x.kind, .int .i64 c] 57)))
  have RB4 := hidS (RB3.out.later ((Below.refl w3.heap.size w3).alloc (Nat.le_refl _) (.cells #[.int .i64 x.proto, .int .i64 x.src, .int .i64 x.sport, .int .i64 x.dst, .int .i64 x.dport, .int .i64 x.kind, .int .i64 c] 57)))
  have T4 := hidS (blk_alloc T3.out (.cells #[.int .i64 x.proto, .int .i64 x.src, .int .i64 x.sport, .int .i64 x.dst, .int .i64 x.dport, .int .i64 x.kind, .int .i64 c] 57))
  have Y4 := hidS (heap_newG w3 (.cells #[.int .i64 x.proto, .int .i64 x.src, .int .i64 x.sport, .int .i64 x.dst, .int .i64 x.dport, .int .i64 x.kind, .int .i64 c] 57))
  have hL4 := hidS (hL3.out.alloc hL3.out.size (.cells #[.int .i64 x.proto, .int .i64 x.src, .int .i64 x.sport, .int .i64 x.dst, .int .i64 x.dport, .int .i64 x.kind, .int .i64 c] 57))
  clear RA3 RB3 T3 hL3
  go_upto_region 5 with fail
  generalize w3.alloc (.cells #[.int .i64 x.proto, .int .i64 x.src, .int .i64 x.sport, .int .i64 x.dst, .int .i64 x.dport, .int .i64 x.kind, .int .i64 c] 57) = w4 at RA4 RB4 T4 Y4 hL4 ⊢
  generalize w3.heap.size = xY at *
  go_wp2_with fail
  refine (drawRuleFor_any a1 len1 cap1 _ (rowAt_up (rowAt_later H1.out hL4.out) hL4.out.size) hl1).mono ?_
  rintro _ w5 ⟨⟨a2, c2, r2, k2, u, rfl, hr2, hR2⟩, hb⟩
  have RA5 := hidS (RA4.out.later hb)
  have RB5 := hidS (RB4.out.later hb)
  have T5 := hidS (blk_later T4.out hb)
  have Y5 := hidS (blk_later Y4.out hb)
  have hL5 := hidS (hL4.out.trans (hb.mono hL4.out.size))
  clear RA4 RB4 T4 Y4 hL4 hb
  have RC5 := hidS hR2
  clear hR2
  have RA6 := hidS (RA5.out.later ((Below.refl w5.heap.size w5).alloc (Nat.le_refl _) (.cells #[.int .i64 u.proto, .int .i64 u.src, .int .i64 u.sport, .int .i64 u.dst, .int .i64 u.dport, .int .i64 u.kind] 52)))
  have RB6 := hidS (RB5.out.later ((Below.refl w5.heap.size w5).alloc (Nat.le_refl _) (.cells #[.int .i64 u.proto, .int .i64 u.src, .int .i64 u.sport, .int .i64 u.dst, .int .i64 u.dport, .int .i64 u.kind] 52)))
  have T6 := hidS (blk_alloc T5.out (.cells #[.int .i64 u.proto, .int .i64 u.src, .int .i64 u.sport, .int .i64 u.dst, .int .i64 u.dport, .int .i64 u.kind] 52))
  have Y6 := hidS (blk_alloc Y5.out (.cells #[.int .i64 u.proto, .int .i64 u.src, .int .i64 u.sport, .int .i64 u.dst, .int .i64 u.dport, .int .i64 u.kind] 52))
  have RC6 := hidS (RC5.out.later ((Below.refl w5.heap.size w5).alloc (Nat.le_refl _) (.cells #[.int .i64 u.proto, .int .i64 u.src, .int .i64 u.sport, .int .i64 u.dst, .int .i64 u.dport, .int .i64 u.kind] 52)))
  have U6 := hidS (heap_newG w5 (.cells #[.int .i64 u.proto, .int .i64 u.src, .int .i64 u.sport, .int .i64 u.dst, .int .i64 u.dport, .int .i64 u.kind] 52))
  have hL6 := hidS (hL5.out.alloc hL5.out.size (.cells #[.int .i64 u.proto, .int .i64 u.src, .int .i64 u.sport, .int .i64 u.dst, .int .i64 u.dport, .int .i64 u.kind] 52))
  clear RA5 RB5 T5 Y5 RC5 hL5
  go_upto_region 6 with fail
  generalize w5.alloc (.cells #[.int .i64 u.proto, .int .i64 u.src, .int .i64 u.sport, .int .i64 u.dst, .int .i64 u.dport, .int .i64 u.kind] 52) = w6 at RA6 RB6 T6 Y6 RC6 U6 hL6 ⊢
  generalize w5.heap.size = xU at *
  go_wp2_with fail
  refine (drawInNet_any a1 len1 cap1 _ (rowAt_up (rowAt_later H1.out hL6.out) hL6.out.size) hl1).mono ?_
  rintro _ w7 ⟨⟨n1, n2, n3, rfl⟩, hb⟩
  have RA7 := hidS (RA6.out.later hb)
  have RB7 := hidS (RB6.out.later hb)
  have T7 := hidS (blk_later T6.out hb)
  have Y7 := hidS (blk_later Y6.out hb)
  have RC7 := hidS (RC6.out.later hb)
  have U7 := hidS (blk_later U6.out hb)
  have hL7 := hidS (hL6.out.trans (hb.mono hL6.out.size))
  clear RA6 RB6 T6 Y6 RC6 U6 hL6 hb
  go_wp2_with fail
  refine (drawRuleRight_any a0 len0 cap0 _ (rowAt_up (rowAt_later H0.out hL7.out) hL7.out.size) hl0).mono ?_
  rintro _ w8 ⟨⟨r, rfl⟩, hb⟩
  have RA8 := hidS (RA7.out.later hb)
  have RB8 := hidS (RB7.out.later hb)
  have T8 := hidS (blk_later T7.out hb)
  have Y8 := hidS (blk_later Y7.out hb)
  have RC8 := hidS (RC7.out.later hb)
  have U8 := hidS (blk_later U7.out hb)
  have hL8 := hidS (hL7.out.trans (hb.mono hL7.out.size))
  clear RA7 RB7 T7 Y7 RC7 U7 hL7 hb
  have RA9 := hidS (RA8.out.later ((Below.refl w8.heap.size w8).alloc (Nat.le_refl _) (.cells #[.int .i64 r.kind, .int .i64 r.proto, .int .i64 r.net, .int .i64 r.bits, .int .i64 r.goal, .int .i64 r.low, .int .i64 r.high] 64)))
  have RB9 := hidS (RB8.out.later ((Below.refl w8.heap.size w8).alloc (Nat.le_refl _) (.cells #[.int .i64 r.kind, .int .i64 r.proto, .int .i64 r.net, .int .i64 r.bits, .int .i64 r.goal, .int .i64 r.low, .int .i64 r.high] 64)))
  have T9 := hidS (blk_alloc T8.out (.cells #[.int .i64 r.kind, .int .i64 r.proto, .int .i64 r.net, .int .i64 r.bits, .int .i64 r.goal, .int .i64 r.low, .int .i64 r.high] 64))
  have Y9 := hidS (blk_alloc Y8.out (.cells #[.int .i64 r.kind, .int .i64 r.proto, .int .i64 r.net, .int .i64 r.bits, .int .i64 r.goal, .int .i64 r.low, .int .i64 r.high] 64))
  have RC9 := hidS (RC8.out.later ((Below.refl w8.heap.size w8).alloc (Nat.le_refl _) (.cells #[.int .i64 r.kind, .int .i64 r.proto, .int .i64 r.net, .int .i64 r.bits, .int .i64 r.goal, .int .i64 r.low, .int .i64 r.high] 64)))
  have U9 := hidS (blk_alloc U8.out (.cells #[.int .i64 r.kind, .int .i64 r.proto, .int .i64 r.net, .int .i64 r.bits, .int .i64 r.goal, .int .i64 r.low, .int .i64 r.high] 64))
  have R9 := hidS (heap_newG w8 (.cells #[.int .i64 r.kind, .int .i64 r.proto, .int .i64 r.net, .int .i64 r.bits, .int .i64 r.goal, .int .i64 r.low, .int .i64 r.high] 64))
  have hL9 := hidS (hL8.out.alloc hL8.out.size (.cells #[.int .i64 r.kind, .int .i64 r.proto, .int .i64 r.net, .int .i64 r.bits, .int .i64 r.goal, .int .i64 r.low, .int .i64 r.high] 64))
  clear RA8 RB8 T8 Y8 RC8 U8 hL8
  go_upto_region 8 with fail
  generalize w8.alloc (.cells #[.int .i64 r.kind, .int .i64 r.proto, .int .i64 r.net, .int .i64 r.bits, .int .i64 r.goal, .int .i64 r.low, .int .i64 r.high] 64) = w9 at RA9 RB9 T9 Y9 RC9 U9 R9 hL9 ⊢
  generalize w8.heap.size = xR at *
  have HN := hidS (fun h => net_whole (a := n1) (n := n2) h)
  have HIN := hidS (fun W => implInNet_any n1 n2 n3 W)
  have HSN := hidS (fun W => sameB (specInNet_any n1 n2 n3 W))
  have EN : Hid (inNetB n1 n2 n3 = true → n3 = 32 → n1 = n2) := fun h e => by subst e; exact HN.out h
  clear HN
  generalize inNetB n1 n2 n3 = q at HIN HSN EN
  have HIF := hidS (fun W (h : RowZ a2 (flatRule r2) W) => implRuleFor_any a2 c2 r2 k2 u W h (by omega))
  have HSF := hidS (fun W (h : RowZ a2 (flatRule r2) W) => specRuleFor_any a2 c2 r2 k2 u W h (by omega))
  generalize hra : ruleAns r2 k2 u = ra at HIF HSF
  clear hra
  have HIR := hidS (fun W => implRR_any r W)
  have HSR := hidS (fun W => specRR_any r W)
  generalize hrr : rightR r = rr at HIR HSR
  clear hrr
  have EQO := hidS (fun W => neq_tpo x c W)
  have EQR := hidS (fun W => neq_rl ra W)
  go_wp2_with fail
  refine (HIN.out _).mono ?_
  rintro _ w10 ⟨rfl, hb⟩
  have RA10 := hidS (RA9.out.later hb)
  have RB10 := hidS (RB9.out.later hb)
  have T10 := hidS (blk_later T9.out hb)
  have Y10 := hidS (blk_later Y9.out hb)
  have RC10 := hidS (RC9.out.later hb)
  have U10 := hidS (blk_later U9.out hb)
  have R10 := hidS (blk_later R9.out hb)
  have hL10 := hidS (hL9.out.trans (hb.mono hL9.out.size))
  clear RA9 RB9 T9 Y9 RC9 U9 R9 hL9 hb
  go_wp2_with fail
  refine grow_cases 52 (.bool false) ?rest9 ?now9
  case now9 =>
    intro fin
    have FIN := hidS fin
    clear fin
    cases q
    · clear EN
      refine grow_guarded 52 [.is (.agg #[.int .i64 x.proto, .int .i64 x.src, .int .i64 x.sport, .int .i64 x.dst, .int .i64 x.dport, .int .i64 x.kind, .int .i64 c]), .is (.slice aa rs.length ca), .is (.agg #[.int .i64 t.proto, .int .i64 t.src, .int .i64 t.sport, .int .i64 t.dst, .int .i64 t.dport, .int .i64 t.kind]), .is (.int .i64 z), .is (.slice bb us.length cb), .is (.agg #[.int .i64 x.proto, .int .i64 x.src, .int .i64 x.sport, .int .i64 x.dst, .int .i64 x.dport, .int .i64 x.kind, .int .i64 c]), .is (.bool false), .is (.bool false), .is (.slice a2 r2.length c2), .is (.int .i64 k2), .is (.agg #[.int .i64 u.proto, .int .i64 u.src, .int .i64 u.sport, .int .i64 u.dst, .int .i64 u.dport, .int .i64 u.kind]), .is (.agg #[.int .i64 ra.kind, .int .i64 ra.proto, .int .i64 ra.net, .int .i64 ra.bits, .int .i64 ra.goal, .int .i64 ra.low, .int .i64 ra.high]), .is (.slice a2 r2.length c2), .is (.int .i64 k2), .is (.agg #[.int .i64 u.proto, .int .i64 u.src, .int .i64 u.sport, .int .i64 u.dst, .int .i64 u.dport, .int .i64 u.kind]), .is (.agg #[.int .i64 ra.kind, .int .i64 ra.proto, .int .i64 ra.net, .int .i64 ra.bits, .int .i64 ra.goal, .int .i64 ra.low, .int .i64 ra.high]), .is (.bool false), .is (.bool false), .is (.bool false), .is (.bool false), .is (.int .i64 n1), .is (.int .i64 n2), .is (.int .i64 n3), .is (.bool false), .is (.bool false), .is (.bool false), .is (.bool false), .is (.agg #[.int .i64 r.kind, .int .i64 r.proto, .int .i64 r.net, .int .i64 r.bits, .int .i64 r.goal, .int .i64 r.low, .int .i64 r.high]), .is (.bool rr), .is (.agg #[.int .i64 r.kind, .int .i64 r.proto, .int .i64 r.net, .int .i64 r.bits, .int .i64 r.goal, .int .i64 r.low, .int .i64 r.high]), .is (.bool rr), .is (.bool false), .is (.bool false), .is (.bool false), .is (.slice aa rs.length ca), .is (.bool rb), .is (.slice aa rs.length ca), .is (.bool rb), .is (.bool false), .is (.bool false), .is (.bool false), .is (.bool false), .is (.bool false), .is (undef), .is (undef), .is (.bool false), .is (.bool false), .is (undef), .is (undef), .is (undef), .is (.bool false), .is (.bool false)] rfl (by kernel_rfl) (by kernel_rfl) ?stepsA9 ?finA9
      case stepsA9 =>
        refine ⟨?_, ?_, ?_, ?_, ?_, ?_, ?_, ?_, ?_, ?_, ?_, ?_, ?_, ?_, ?_, ?_, ?_, ?_, ?_, ?_, ?_, ?_, ?_, ?_, ?_, ?_, ?_, ?_, ?_, ?_, ?_, ?_, ?_, ?_, ?_, ?_, ?_, ?_, ?_, ?_, ?_, ?_, ?_, ?_, ?_, ?_, ?_, ?_, ?_, ?_, ?_, ?_, trivial⟩
        · refine stepW_of_u ⟨rfl, fun v W ρ hC kc kf ks ki kd => ?_⟩
          have t9 : ρ (.tmp 9) = .pointer (some ⟨xY, 0, none⟩) := ki 9 (by decide)
          have hg := blk_later Y10.out hC
          have c0 := blk_cell hg 0
          have c1 := blk_cell hg 1
          have c2 := blk_cell hg 2
          have c3 := blk_cell hg 3
          have c4 := blk_cell hg 4
          have c5 := blk_cell hg 5
          have c6 := blk_cell hg 6
          simp at c0 c1 c2 c3 c4 c5 c6
          simp [execOp, go_sem, kc, t9, c0, c1, c2, c3, c4, c5, c6]
          exact ⟨hC, Below.refl _ _, rfl⟩
        · refine stepW_of_u ⟨rfl, fun v W ρ hC kc kf ks ki kd => ?_⟩
          have t5 : ρ (.tmp 5) = .slice aa rs.length ca := ki 5 (by decide)
          simp [execOp, go_sem, kc, t5]
          exact ⟨hC, Below.refl _ _, rfl⟩
        · refine stepW_of_u ⟨rfl, fun v W ρ hC kc kf ks ki kd => ?_⟩
          have t6 : ρ (.tmp 6) = .pointer (some ⟨xT, 0, none⟩) := ki 6 (by decide)
          have hg := blk_later T10.out hC
          have c0 := blk_cell hg 0
          have c1 := blk_cell hg 1
          have c2 := blk_cell hg 2
          have c3 := blk_cell hg 3
          have c4 := blk_cell hg 4
          have c5 := blk_cell hg 5
          simp at c0 c1 c2 c3 c4 c5
          simp [execOp, go_sem, kc, t6, c0, c1, c2, c3, c4, c5]
          exact ⟨hC, Below.refl _ _, rfl⟩
        · refine stepW_of_u ⟨rfl, fun v W ρ hC kc kf ks ki kd => ?_⟩
          have t7 : ρ (.tmp 7) = .int .i64 z := ki 7 (by decide)
          simp [execOp, go_sem, kc, t7]
          exact ⟨hC, Below.refl _ _, rfl⟩
        · refine stepW_of_u ⟨rfl, fun v W ρ hC kc kf ks ki kd => ?_⟩
          have t8 : ρ (.tmp 8) = .slice bb us.length cb := ki 8 (by decide)
          simp [execOp, go_sem, kc, t8]
          exact ⟨hC, Below.refl _ _, rfl⟩
        · refine stepW_of_u ⟨rfl, fun v W ρ hC kc kf ks ki kd => ?_⟩
          have d1 : v 1 = .slice aa rs.length ca := by first | exact kd _ (mem0 rfl) rfl | exact kd _ (mem1 rfl) rfl | exact kd _ (mem2 rfl) rfl | exact kd _ (mem3 rfl) rfl | exact kd _ (mem4 rfl) rfl | exact kd _ (mem5 rfl) rfl | exact kd _ (Array.mem_of_getElem? (i := 6) rfl) rfl | exact kd _ (Array.mem_of_getElem? (i := 7) rfl) rfl
          have t61 : ρ (.tmp 61) = .slice aa rs.length ca := (ks 1 61 (by decide) rfl).trans d1
          have d2 : v 2 = .agg #[.int .i64 t.proto, .int .i64 t.src, .int .i64 t.sport, .int .i64 t.dst, .int .i64 t.dport, .int .i64 t.kind] := by first | exact kd _ (mem0 rfl) rfl | exact kd _ (mem1 rfl) rfl | exact kd _ (mem2 rfl) rfl | exact kd _ (mem3 rfl) rfl | exact kd _ (mem4 rfl) rfl | exact kd _ (mem5 rfl) rfl | exact kd _ (Array.mem_of_getElem? (i := 6) rfl) rfl | exact kd _ (Array.mem_of_getElem? (i := 7) rfl) rfl
          have t62 : ρ (.tmp 62) = .agg #[.int .i64 t.proto, .int .i64 t.src, .int .i64 t.sport, .int .i64 t.dst, .int .i64 t.dport, .int .i64 t.kind] := (ks 2 62 (by decide) rfl).trans d2
          have d3 : v 3 = .int .i64 z := by first | exact kd _ (mem0 rfl) rfl | exact kd _ (mem1 rfl) rfl | exact kd _ (mem2 rfl) rfl | exact kd _ (mem3 rfl) rfl | exact kd _ (mem4 rfl) rfl | exact kd _ (mem5 rfl) rfl | exact kd _ (Array.mem_of_getElem? (i := 6) rfl) rfl | exact kd _ (Array.mem_of_getElem? (i := 7) rfl) rfl
          have t63 : ρ (.tmp 63) = .int .i64 z := (ks 3 63 (by decide) rfl).trans d3
          have d4 : v 4 = .slice bb us.length cb := by first | exact kd _ (mem0 rfl) rfl | exact kd _ (mem1 rfl) rfl | exact kd _ (mem2 rfl) rfl | exact kd _ (mem3 rfl) rfl | exact kd _ (mem4 rfl) rfl | exact kd _ (mem5 rfl) rfl | exact kd _ (Array.mem_of_getElem? (i := 6) rfl) rfl | exact kd _ (Array.mem_of_getElem? (i := 7) rfl) rfl
          have t64 : ρ (.tmp 64) = .slice bb us.length cb := (ks 4 64 (by decide) rfl).trans d4
          simp [execOp, go_sem, kc, t61, t62, t63, t64, kf]
          exact Calls.mono (HSG.out W (RA10.out.later hC) (RB10.out.later hC)) (fun e x h => ⟨_, h.1, hC.trans (h.2.mono hC.size), h.2, rfl⟩)
        · refine stepW_of_u ⟨rfl, fun v W ρ hC kc kf ks ki kd => ?_⟩
          have d0 : v 0 = .agg #[.int .i64 x.proto, .int .i64 x.src, .int .i64 x.sport, .int .i64 x.dst, .int .i64 x.dport, .int .i64 x.kind, .int .i64 c] := by first | exact kd _ (mem0 rfl) rfl | exact kd _ (mem1 rfl) rfl | exact kd _ (mem2 rfl) rfl | exact kd _ (mem3 rfl) rfl | exact kd _ (mem4 rfl) rfl | exact kd _ (mem5 rfl) rfl | exact kd _ (Array.mem_of_getElem? (i := 6) rfl) rfl | exact kd _ (Array.mem_of_getElem? (i := 7) rfl) rfl
          have t60 : ρ (.tmp 60) = .agg #[.int .i64 x.proto, .int .i64 x.src, .int .i64 x.sport, .int .i64 x.dst, .int .i64 x.dport, .int .i64 x.kind, .int .i64 c] := (ks 0 60 (by decide) rfl).trans d0
          have d5 : v 5 = .agg #[.int .i64 x.proto, .int .i64 x.src, .int .i64 x.sport, .int .i64 x.dst, .int .i64 x.dport, .int .i64 x.kind, .int .i64 c] := by first | exact kd _ (mem0 rfl) rfl | exact kd _ (mem1 rfl) rfl | exact kd _ (mem2 rfl) rfl | exact kd _ (mem3 rfl) rfl | exact kd _ (mem4 rfl) rfl | exact kd _ (mem5 rfl) rfl | exact kd _ (Array.mem_of_getElem? (i := 6) rfl) rfl | exact kd _ (Array.mem_of_getElem? (i := 7) rfl) rfl
          have t65 : ρ (.tmp 65) = .agg #[.int .i64 x.proto, .int .i64 x.src, .int .i64 x.sport, .int .i64 x.dst, .int .i64 x.dport, .int .i64 x.kind, .int .i64 c] := (ks 5 65 (by decide) rfl).trans d5
          have eg : Try.prog.eqGuardType Try.prog.depth 57 = false := by kernel_rfl
          have e1 := EQO.out W
          simp only [execOp, t60, t65, Sem.run_bind, run_eqGuard_agg, eg, e1, Result.andThen_ok, Sem.run_pure]
          exact ⟨hC, Below.refl _ _, rfl⟩
        · refine stepW_of_u ⟨rfl, fun v W ρ hC kc kf ks ki kd => ?_⟩
          have d6 : v 6 = .bool false := by first | exact kd _ (mem0 rfl) rfl | exact kd _ (mem1 rfl) rfl | exact kd _ (mem2 rfl) rfl | exact kd _ (mem3 rfl) rfl | exact kd _ (mem4 rfl) rfl | exact kd _ (mem5 rfl) rfl | exact kd _ (Array.mem_of_getElem? (i := 6) rfl) rfl | exact kd _ (Array.mem_of_getElem? (i := 7) rfl) rfl
          have t66 : ρ (.tmp 66) = .bool false := (ks 6 66 (by decide) rfl).trans d6
          simp [execOp, go_sem, kc, t66]
          exact ⟨hC, Below.refl _ _, rfl⟩
        · intro v W ρ y hC kc kf ks ki ky ku kd
          have dg : v 7 = .bool false := by first | exact kd _ (mem0 rfl) rfl | exact kd _ (mem1 rfl) rfl | exact kd _ (mem2 rfl) rfl | exact kd _ (mem3 rfl) rfl | exact kd _ (mem4 rfl) rfl | exact kd _ (mem5 rfl) rfl | exact kd _ (Array.mem_of_getElem? (i := 6) rfl) rfl | exact kd _ (Array.mem_of_getElem? (i := 7) rfl) rfl
          have hy := ky 7 67 false (by decide) rfl dg
          rw [if_pos (by simp [Region.wanted, hy])]
          have t10 : ρ (.tmp 10) = .slice a2 r2.length c2 := ki 10 (by decide)
          simp [execOp, go_sem, kc, t10]
          exact ⟨hC, Below.refl _ _, rfl⟩
        · intro v W ρ y hC kc kf ks ki ky ku kd
          have dg : v 7 = .bool false := by first | exact kd _ (mem0 rfl) rfl | exact kd _ (mem1 rfl) rfl | exact kd _ (mem2 rfl) rfl | exact kd _ (mem3 rfl) rfl | exact kd _ (mem4 rfl) rfl | exact kd _ (mem5 rfl) rfl | exact kd _ (Array.mem_of_getElem? (i := 6) rfl) rfl | exact kd _ (Array.mem_of_getElem? (i := 7) rfl) rfl
          have hy := ky 7 67 false (by decide) rfl dg
          rw [if_pos (by simp [Region.wanted, hy])]
          have t11 : ρ (.tmp 11) = .int .i64 k2 := ki 11 (by decide)
          simp [execOp, go_sem, kc, t11]
          exact ⟨hC, Below.refl _ _, rfl⟩
        · intro v W ρ y hC kc kf ks ki ky ku kd
          have dg : v 7 = .bool false := by first | exact kd _ (mem0 rfl) rfl | exact kd _ (mem1 rfl) rfl | exact kd _ (mem2 rfl) rfl | exact kd _ (mem3 rfl) rfl | exact kd _ (mem4 rfl) rfl | exact kd _ (mem5 rfl) rfl | exact kd _ (Array.mem_of_getElem? (i := 6) rfl) rfl | exact kd _ (Array.mem_of_getElem? (i := 7) rfl) rfl
          have hy := ky 7 67 false (by decide) rfl dg
          rw [if_pos (by simp [Region.wanted, hy])]
          have t12 : ρ (.tmp 12) = .pointer (some ⟨xU, 0, none⟩) := ki 12 (by decide)
          have hg := blk_later U10.out hC
          have c0 := blk_cell hg 0
          have c1 := blk_cell hg 1
          have c2 := blk_cell hg 2
          have c3 := blk_cell hg 3
          have c4 := blk_cell hg 4
          have c5 := blk_cell hg 5
          simp at c0 c1 c2 c3 c4 c5
          simp [execOp, go_sem, kc, t12, c0, c1, c2, c3, c4, c5]
          exact ⟨hC, Below.refl _ _, rfl⟩
        · intro v W ρ y hC kc kf ks ki ky ku kd
          have dg : v 7 = .bool false := by first | exact kd _ (mem0 rfl) rfl | exact kd _ (mem1 rfl) rfl | exact kd _ (mem2 rfl) rfl | exact kd _ (mem3 rfl) rfl | exact kd _ (mem4 rfl) rfl | exact kd _ (mem5 rfl) rfl | exact kd _ (Array.mem_of_getElem? (i := 6) rfl) rfl | exact kd _ (Array.mem_of_getElem? (i := 7) rfl) rfl
          have hy := ky 7 67 false (by decide) rfl dg
          rw [if_pos (by simp [Region.wanted, hy])]
          have d8 : v 8 = .slice a2 r2.length c2 := by first | exact kd _ (mem0 rfl) rfl | exact kd _ (mem1 rfl) rfl | exact kd _ (mem2 rfl) rfl | exact kd _ (mem3 rfl) rfl | exact kd _ (mem4 rfl) rfl | exact kd _ (mem5 rfl) rfl | exact kd _ (Array.mem_of_getElem? (i := 6) rfl) rfl | exact kd _ (Array.mem_of_getElem? (i := 7) rfl) rfl
          have t68 : ρ (.tmp 68) = .slice a2 r2.length c2 := (ks 8 68 (by decide) rfl).trans d8
          have d9 : v 9 = .int .i64 k2 := by first | exact kd _ (mem0 rfl) rfl | exact kd _ (mem1 rfl) rfl | exact kd _ (mem2 rfl) rfl | exact kd _ (mem3 rfl) rfl | exact kd _ (mem4 rfl) rfl | exact kd _ (mem5 rfl) rfl | exact kd _ (Array.mem_of_getElem? (i := 6) rfl) rfl | exact kd _ (Array.mem_of_getElem? (i := 7) rfl) rfl
          have t69 : ρ (.tmp 69) = .int .i64 k2 := (ks 9 69 (by decide) rfl).trans d9
          have d10 : v 10 = .agg #[.int .i64 u.proto, .int .i64 u.src, .int .i64 u.sport, .int .i64 u.dst, .int .i64 u.dport, .int .i64 u.kind] := by first | exact kd _ (mem0 rfl) rfl | exact kd _ (mem1 rfl) rfl | exact kd _ (mem2 rfl) rfl | exact kd _ (mem3 rfl) rfl | exact kd _ (mem4 rfl) rfl | exact kd _ (mem5 rfl) rfl | exact kd _ (Array.mem_of_getElem? (i := 6) rfl) rfl | exact kd _ (Array.mem_of_getElem? (i := 7) rfl) rfl
          have t70 : ρ (.tmp 70) = .agg #[.int .i64 u.proto, .int .i64 u.src, .int .i64 u.sport, .int .i64 u.dst, .int .i64 u.dport, .int .i64 u.kind] := (ks 10 70 (by decide) rfl).trans d10
          simp [execOp, go_sem, kc, t68, t69, t70, kf]
          exact Calls.mono (HIF.out W (RC10.out.later hC)) (fun e x h => ⟨_, h.1, hC.trans (h.2.mono hC.size), h.2, rfl⟩)
        · intro v W ρ y hC kc kf ks ki ky ku kd
          have dg : v 7 = .bool false := by first | exact kd _ (mem0 rfl) rfl | exact kd _ (mem1 rfl) rfl | exact kd _ (mem2 rfl) rfl | exact kd _ (mem3 rfl) rfl | exact kd _ (mem4 rfl) rfl | exact kd _ (mem5 rfl) rfl | exact kd _ (Array.mem_of_getElem? (i := 6) rfl) rfl | exact kd _ (Array.mem_of_getElem? (i := 7) rfl) rfl
          have hy := ky 7 67 false (by decide) rfl dg
          rw [if_pos (by simp [Region.wanted, hy])]
          have t10 : ρ (.tmp 10) = .slice a2 r2.length c2 := ki 10 (by decide)
          simp [execOp, go_sem, kc, t10]
          exact ⟨hC, Below.refl _ _, rfl⟩
        · intro v W ρ y hC kc kf ks ki ky ku kd
          have dg : v 7 = .bool false := by first | exact kd _ (mem0 rfl) rfl | exact kd _ (mem1 rfl) rfl | exact kd _ (mem2 rfl) rfl | exact kd _ (mem3 rfl) rfl | exact kd _ (mem4 rfl) rfl | exact kd _ (mem5 rfl) rfl | exact kd _ (Array.mem_of_getElem? (i := 6) rfl) rfl | exact kd _ (Array.mem_of_getElem? (i := 7) rfl) rfl
          have hy := ky 7 67 false (by decide) rfl dg
          rw [if_pos (by simp [Region.wanted, hy])]
          have t11 : ρ (.tmp 11) = .int .i64 k2 := ki 11 (by decide)
          simp [execOp, go_sem, kc, t11]
          exact ⟨hC, Below.refl _ _, rfl⟩
        · intro v W ρ y hC kc kf ks ki ky ku kd
          have dg : v 7 = .bool false := by first | exact kd _ (mem0 rfl) rfl | exact kd _ (mem1 rfl) rfl | exact kd _ (mem2 rfl) rfl | exact kd _ (mem3 rfl) rfl | exact kd _ (mem4 rfl) rfl | exact kd _ (mem5 rfl) rfl | exact kd _ (Array.mem_of_getElem? (i := 6) rfl) rfl | exact kd _ (Array.mem_of_getElem? (i := 7) rfl) rfl
          have hy := ky 7 67 false (by decide) rfl dg
          rw [if_pos (by simp [Region.wanted, hy])]
          have t12 : ρ (.tmp 12) = .pointer (some ⟨xU, 0, none⟩) := ki 12 (by decide)
          have hg := blk_later U10.out hC
          have c0 := blk_cell hg 0
          have c1 := blk_cell hg 1
          have c2 := blk_cell hg 2
          have c3 := blk_cell hg 3
          have c4 := blk_cell hg 4
          have c5 := blk_cell hg 5
          simp at c0 c1 c2 c3 c4 c5
          simp [execOp, go_sem, kc, t12, c0, c1, c2, c3, c4, c5]
          exact ⟨hC, Below.refl _ _, rfl⟩
        · intro v W ρ y hC kc kf ks ki ky ku kd
          have dg : v 7 = .bool false := by first | exact kd _ (mem0 rfl) rfl | exact kd _ (mem1 rfl) rfl | exact kd _ (mem2 rfl) rfl | exact kd _ (mem3 rfl) rfl | exact kd _ (mem4 rfl) rfl | exact kd _ (mem5 rfl) rfl | exact kd _ (Array.mem_of_getElem? (i := 6) rfl) rfl | exact kd _ (Array.mem_of_getElem? (i := 7) rfl) rfl
          have hy := ky 7 67 false (by decide) rfl dg
          rw [if_pos (by simp [Region.wanted, hy])]
          have d12 : v 12 = .slice a2 r2.length c2 := by first | exact kd _ (mem0 rfl) rfl | exact kd _ (mem1 rfl) rfl | exact kd _ (mem2 rfl) rfl | exact kd _ (mem3 rfl) rfl | exact kd _ (mem4 rfl) rfl | exact kd _ (mem5 rfl) rfl | exact kd _ (Array.mem_of_getElem? (i := 6) rfl) rfl | exact kd _ (Array.mem_of_getElem? (i := 7) rfl) rfl
          have t72 : ρ (.tmp 72) = .slice a2 r2.length c2 := (ks 12 72 (by decide) rfl).trans d12
          have d13 : v 13 = .int .i64 k2 := by first | exact kd _ (mem0 rfl) rfl | exact kd _ (mem1 rfl) rfl | exact kd _ (mem2 rfl) rfl | exact kd _ (mem3 rfl) rfl | exact kd _ (mem4 rfl) rfl | exact kd _ (mem5 rfl) rfl | exact kd _ (Array.mem_of_getElem? (i := 6) rfl) rfl | exact kd _ (Array.mem_of_getElem? (i := 7) rfl) rfl
          have t73 : ρ (.tmp 73) = .int .i64 k2 := (ks 13 73 (by decide) rfl).trans d13
          have d14 : v 14 = .agg #[.int .i64 u.proto, .int .i64 u.src, .int .i64 u.sport, .int .i64 u.dst, .int .i64 u.dport, .int .i64 u.kind] := by first | exact kd _ (mem0 rfl) rfl | exact kd _ (mem1 rfl) rfl | exact kd _ (mem2 rfl) rfl | exact kd _ (mem3 rfl) rfl | exact kd _ (mem4 rfl) rfl | exact kd _ (mem5 rfl) rfl | exact kd _ (Array.mem_of_getElem? (i := 6) rfl) rfl | exact kd _ (Array.mem_of_getElem? (i := 7) rfl) rfl
          have t74 : ρ (.tmp 74) = .agg #[.int .i64 u.proto, .int .i64 u.src, .int .i64 u.sport, .int .i64 u.dst, .int .i64 u.dport, .int .i64 u.kind] := (ks 14 74 (by decide) rfl).trans d14
          simp [execOp, go_sem, kc, t72, t73, t74, kf]
          exact Calls.mono (HSF.out W (RC10.out.later hC)) (fun e x h => ⟨_, h.1, hC.trans (h.2.mono hC.size), h.2, rfl⟩)
        · intro v W ρ y hC kc kf ks ki ky ku kd
          have dg : v 7 = .bool false := by first | exact kd _ (mem0 rfl) rfl | exact kd _ (mem1 rfl) rfl | exact kd _ (mem2 rfl) rfl | exact kd _ (mem3 rfl) rfl | exact kd _ (mem4 rfl) rfl | exact kd _ (mem5 rfl) rfl | exact kd _ (Array.mem_of_getElem? (i := 6) rfl) rfl | exact kd _ (Array.mem_of_getElem? (i := 7) rfl) rfl
          have hy := ky 7 67 false (by decide) rfl dg
          rw [if_pos (by simp [Region.wanted, hy])]
          have d11 : v 11 = .agg #[.int .i64 ra.kind, .int .i64 ra.proto, .int .i64 ra.net, .int .i64 ra.bits, .int .i64 ra.goal, .int .i64 ra.low, .int .i64 ra.high] := by first | exact kd _ (mem0 rfl) rfl | exact kd _ (mem1 rfl) rfl | exact kd _ (mem2 rfl) rfl | exact kd _ (mem3 rfl) rfl | exact kd _ (mem4 rfl) rfl | exact kd _ (mem5 rfl) rfl | exact kd _ (Array.mem_of_getElem? (i := 6) rfl) rfl | exact kd _ (Array.mem_of_getElem? (i := 7) rfl) rfl
          have t71 : ρ (.tmp 71) = .agg #[.int .i64 ra.kind, .int .i64 ra.proto, .int .i64 ra.net, .int .i64 ra.bits, .int .i64 ra.goal, .int .i64 ra.low, .int .i64 ra.high] := (ks 11 71 (by decide) rfl).trans d11
          have d15 : v 15 = .agg #[.int .i64 ra.kind, .int .i64 ra.proto, .int .i64 ra.net, .int .i64 ra.bits, .int .i64 ra.goal, .int .i64 ra.low, .int .i64 ra.high] := by first | exact kd _ (mem0 rfl) rfl | exact kd _ (mem1 rfl) rfl | exact kd _ (mem2 rfl) rfl | exact kd _ (mem3 rfl) rfl | exact kd _ (mem4 rfl) rfl | exact kd _ (mem5 rfl) rfl | exact kd _ (Array.mem_of_getElem? (i := 6) rfl) rfl | exact kd _ (Array.mem_of_getElem? (i := 7) rfl) rfl
          have t75 : ρ (.tmp 75) = .agg #[.int .i64 ra.kind, .int .i64 ra.proto, .int .i64 ra.net, .int .i64 ra.bits, .int .i64 ra.goal, .int .i64 ra.low, .int .i64 ra.high] := (ks 15 75 (by decide) rfl).trans d15
          have eg : Try.prog.eqGuardType Try.prog.depth 64 = false := by kernel_rfl
          have e1 := EQR.out W
          simp only [execOp, t71, t75, Sem.run_bind, run_eqGuard_agg, eg, e1, Result.andThen_ok, Sem.run_pure]
          exact ⟨hC, Below.refl _ _, rfl⟩
        · refine stepW_of_u ⟨rfl, fun v W ρ hC kc kf ks ki kd => ?_⟩
          have d7 : v 7 = .bool false := by first | exact kd _ (mem0 rfl) rfl | exact kd _ (mem1 rfl) rfl | exact kd _ (mem2 rfl) rfl | exact kd _ (mem3 rfl) rfl | exact kd _ (mem4 rfl) rfl | exact kd _ (mem5 rfl) rfl | exact kd _ (Array.mem_of_getElem? (i := 6) rfl) rfl | exact kd _ (Array.mem_of_getElem? (i := 7) rfl) rfl
          have t67 : ρ (.tmp 67) = .bool false := (ks 7 67 (by decide) rfl).trans d7
          have d16 : v 16 = .bool false := by first | exact kd _ (mem0 rfl) rfl | exact kd _ (mem1 rfl) rfl | exact kd _ (mem2 rfl) rfl | exact kd _ (mem3 rfl) rfl | exact kd _ (mem4 rfl) rfl | exact kd _ (mem5 rfl) rfl | exact kd _ (Array.mem_of_getElem? (i := 6) rfl) rfl | exact kd _ (Array.mem_of_getElem? (i := 7) rfl) rfl
          have t76 : ρ (.tmp 76) = .bool false := (ks 16 76 (by decide) rfl).trans d16
          simp [execOp, go_sem, kc, t67, t76]
          exact ⟨hC, Below.refl _ _, rfl⟩
        · refine stepW_of_u ⟨rfl, fun v W ρ hC kc kf ks ki kd => ?_⟩
          have d17 : v 17 = .bool false := by first | exact kd _ (mem0 rfl) rfl | exact kd _ (mem1 rfl) rfl | exact kd _ (mem2 rfl) rfl | exact kd _ (mem3 rfl) rfl | exact kd _ (mem4 rfl) rfl | exact kd _ (mem5 rfl) rfl | exact kd _ (Array.mem_of_getElem? (i := 6) rfl) rfl | exact kd _ (Array.mem_of_getElem? (i := 7) rfl) rfl
          have t77 : ρ (.tmp 77) = .bool false := (ks 17 77 (by decide) rfl).trans d17
          simp [execOp, go_sem, kc, t77]
          exact ⟨hC, Below.refl _ _, rfl⟩
        · intro v W ρ y hC kc kf ks ki ky ku kd
          have dg : v 18 = .bool false := by first | exact kd _ (mem0 rfl) rfl | exact kd _ (mem1 rfl) rfl | exact kd _ (mem2 rfl) rfl | exact kd _ (mem3 rfl) rfl | exact kd _ (mem4 rfl) rfl | exact kd _ (mem5 rfl) rfl | exact kd _ (Array.mem_of_getElem? (i := 6) rfl) rfl | exact kd _ (Array.mem_of_getElem? (i := 7) rfl) rfl
          have hy := ky 18 78 false (by decide) rfl dg
          rw [if_pos (by simp [Region.wanted, hy])]
          have t17 : ρ (.tmp 17) = .bool false := ki 17 (by decide)
          simp [execOp, go_sem, kc, t17]
          exact ⟨hC, Below.refl _ _, rfl⟩
        · intro v W ρ y hC kc kf ks ki ky ku kd
          have dg : v 18 = .bool false := by first | exact kd _ (mem0 rfl) rfl | exact kd _ (mem1 rfl) rfl | exact kd _ (mem2 rfl) rfl | exact kd _ (mem3 rfl) rfl | exact kd _ (mem4 rfl) rfl | exact kd _ (mem5 rfl) rfl | exact kd _ (Array.mem_of_getElem? (i := 6) rfl) rfl | exact kd _ (Array.mem_of_getElem? (i := 7) rfl) rfl
          have hy := ky 18 78 false (by decide) rfl dg
          rw [if_pos (by simp [Region.wanted, hy])]
          have t13 : ρ (.tmp 13) = .int .i64 n1 := ki 13 (by decide)
          simp [execOp, go_sem, kc, t13]
          exact ⟨hC, Below.refl _ _, rfl⟩
        · intro v W ρ y hC kc kf ks ki ky ku kd
          have dg : v 18 = .bool false := by first | exact kd _ (mem0 rfl) rfl | exact kd _ (mem1 rfl) rfl | exact kd _ (mem2 rfl) rfl | exact kd _ (mem3 rfl) rfl | exact kd _ (mem4 rfl) rfl | exact kd _ (mem5 rfl) rfl | exact kd _ (Array.mem_of_getElem? (i := 6) rfl) rfl | exact kd _ (Array.mem_of_getElem? (i := 7) rfl) rfl
          have hy := ky 18 78 false (by decide) rfl dg
          rw [if_pos (by simp [Region.wanted, hy])]
          have t14 : ρ (.tmp 14) = .int .i64 n2 := ki 14 (by decide)
          simp [execOp, go_sem, kc, t14]
          exact ⟨hC, Below.refl _ _, rfl⟩
        · intro v W ρ y hC kc kf ks ki ky ku kd
          have dg : v 18 = .bool false := by first | exact kd _ (mem0 rfl) rfl | exact kd _ (mem1 rfl) rfl | exact kd _ (mem2 rfl) rfl | exact kd _ (mem3 rfl) rfl | exact kd _ (mem4 rfl) rfl | exact kd _ (mem5 rfl) rfl | exact kd _ (Array.mem_of_getElem? (i := 6) rfl) rfl | exact kd _ (Array.mem_of_getElem? (i := 7) rfl) rfl
          have hy := ky 18 78 false (by decide) rfl dg
          rw [if_pos (by simp [Region.wanted, hy])]
          have t15 : ρ (.tmp 15) = .int .i64 n3 := ki 15 (by decide)
          simp [execOp, go_sem, kc, t15]
          exact ⟨hC, Below.refl _ _, rfl⟩
        · intro v W ρ y hC kc kf ks ki ky ku kd
          have dg : v 18 = .bool false := by first | exact kd _ (mem0 rfl) rfl | exact kd _ (mem1 rfl) rfl | exact kd _ (mem2 rfl) rfl | exact kd _ (mem3 rfl) rfl | exact kd _ (mem4 rfl) rfl | exact kd _ (mem5 rfl) rfl | exact kd _ (Array.mem_of_getElem? (i := 6) rfl) rfl | exact kd _ (Array.mem_of_getElem? (i := 7) rfl) rfl
          have hy := ky 18 78 false (by decide) rfl dg
          rw [if_pos (by simp [Region.wanted, hy])]
          have d20 : v 20 = .int .i64 n1 := by first | exact kd _ (mem0 rfl) rfl | exact kd _ (mem1 rfl) rfl | exact kd _ (mem2 rfl) rfl | exact kd _ (mem3 rfl) rfl | exact kd _ (mem4 rfl) rfl | exact kd _ (mem5 rfl) rfl | exact kd _ (Array.mem_of_getElem? (i := 6) rfl) rfl | exact kd _ (Array.mem_of_getElem? (i := 7) rfl) rfl
          have t80 : ρ (.tmp 80) = .int .i64 n1 := (ks 20 80 (by decide) rfl).trans d20
          have d21 : v 21 = .int .i64 n2 := by first | exact kd _ (mem0 rfl) rfl | exact kd _ (mem1 rfl) rfl | exact kd _ (mem2 rfl) rfl | exact kd _ (mem3 rfl) rfl | exact kd _ (mem4 rfl) rfl | exact kd _ (mem5 rfl) rfl | exact kd _ (Array.mem_of_getElem? (i := 6) rfl) rfl | exact kd _ (Array.mem_of_getElem? (i := 7) rfl) rfl
          have t81 : ρ (.tmp 81) = .int .i64 n2 := (ks 21 81 (by decide) rfl).trans d21
          have d22 : v 22 = .int .i64 n3 := by first | exact kd _ (mem0 rfl) rfl | exact kd _ (mem1 rfl) rfl | exact kd _ (mem2 rfl) rfl | exact kd _ (mem3 rfl) rfl | exact kd _ (mem4 rfl) rfl | exact kd _ (mem5 rfl) rfl | exact kd _ (Array.mem_of_getElem? (i := 6) rfl) rfl | exact kd _ (Array.mem_of_getElem? (i := 7) rfl) rfl
          have t82 : ρ (.tmp 82) = .int .i64 n3 := (ks 22 82 (by decide) rfl).trans d22
          simp [execOp, go_sem, kc, t80, t81, t82, kf]
          exact Calls.mono (HSN.out W) (fun e x h => ⟨_, h.1, hC.trans (h.2.mono hC.size), h.2, rfl⟩)
        · intro v W ρ y hC kc kf ks ki ky ku kd
          have dg : v 18 = .bool false := by first | exact kd _ (mem0 rfl) rfl | exact kd _ (mem1 rfl) rfl | exact kd _ (mem2 rfl) rfl | exact kd _ (mem3 rfl) rfl | exact kd _ (mem4 rfl) rfl | exact kd _ (mem5 rfl) rfl | exact kd _ (Array.mem_of_getElem? (i := 6) rfl) rfl | exact kd _ (Array.mem_of_getElem? (i := 7) rfl) rfl
          have hy := ky 18 78 false (by decide) rfl dg
          rw [if_pos (by simp [Region.wanted, hy])]
          have d19 : v 19 = .bool false := by first | exact kd _ (mem0 rfl) rfl | exact kd _ (mem1 rfl) rfl | exact kd _ (mem2 rfl) rfl | exact kd _ (mem3 rfl) rfl | exact kd _ (mem4 rfl) rfl | exact kd _ (mem5 rfl) rfl | exact kd _ (Array.mem_of_getElem? (i := 6) rfl) rfl | exact kd _ (Array.mem_of_getElem? (i := 7) rfl) rfl
          have t79 : ρ (.tmp 79) = .bool false := (ks 19 79 (by decide) rfl).trans d19
          have d23 : v 23 = .bool false := by first | exact kd _ (mem0 rfl) rfl | exact kd _ (mem1 rfl) rfl | exact kd _ (mem2 rfl) rfl | exact kd _ (mem3 rfl) rfl | exact kd _ (mem4 rfl) rfl | exact kd _ (mem5 rfl) rfl | exact kd _ (Array.mem_of_getElem? (i := 6) rfl) rfl | exact kd _ (Array.mem_of_getElem? (i := 7) rfl) rfl
          have t83 : ρ (.tmp 83) = .bool false := (ks 23 83 (by decide) rfl).trans d23
          simp [execOp, go_sem, kc, t79, t83]
          exact ⟨hC, Below.refl _ _, rfl⟩
        · refine stepW_of_u ⟨rfl, fun v W ρ hC kc kf ks ki kd => ?_⟩
          have d18 : v 18 = .bool false := by first | exact kd _ (mem0 rfl) rfl | exact kd _ (mem1 rfl) rfl | exact kd _ (mem2 rfl) rfl | exact kd _ (mem3 rfl) rfl | exact kd _ (mem4 rfl) rfl | exact kd _ (mem5 rfl) rfl | exact kd _ (Array.mem_of_getElem? (i := 6) rfl) rfl | exact kd _ (Array.mem_of_getElem? (i := 7) rfl) rfl
          have t78 : ρ (.tmp 78) = .bool false := (ks 18 78 (by decide) rfl).trans d18
          have d24 : v 24 = .bool false := by first | exact kd _ (mem0 rfl) rfl | exact kd _ (mem1 rfl) rfl | exact kd _ (mem2 rfl) rfl | exact kd _ (mem3 rfl) rfl | exact kd _ (mem4 rfl) rfl | exact kd _ (mem5 rfl) rfl | exact kd _ (Array.mem_of_getElem? (i := 6) rfl) rfl | exact kd _ (Array.mem_of_getElem? (i := 7) rfl) rfl
          have t84 : ρ (.tmp 84) = .bool false := (ks 24 84 (by decide) rfl).trans d24
          simp [execOp, go_sem, kc, t78, t84]
          exact ⟨hC, Below.refl _ _, rfl⟩
        · refine stepW_of_u ⟨rfl, fun v W ρ hC kc kf ks ki kd => ?_⟩
          have d25 : v 25 = .bool false := by first | exact kd _ (mem0 rfl) rfl | exact kd _ (mem1 rfl) rfl | exact kd _ (mem2 rfl) rfl | exact kd _ (mem3 rfl) rfl | exact kd _ (mem4 rfl) rfl | exact kd _ (mem5 rfl) rfl | exact kd _ (Array.mem_of_getElem? (i := 6) rfl) rfl | exact kd _ (Array.mem_of_getElem? (i := 7) rfl) rfl
          have t85 : ρ (.tmp 85) = .bool false := (ks 25 85 (by decide) rfl).trans d25
          simp [execOp, go_sem, kc, t85]
          exact ⟨hC, Below.refl _ _, rfl⟩
        · intro v W ρ y hC kc kf ks ki ky ku kd
          have dg : v 26 = .bool false := by first | exact kd _ (mem0 rfl) rfl | exact kd _ (mem1 rfl) rfl | exact kd _ (mem2 rfl) rfl | exact kd _ (mem3 rfl) rfl | exact kd _ (mem4 rfl) rfl | exact kd _ (mem5 rfl) rfl | exact kd _ (Array.mem_of_getElem? (i := 6) rfl) rfl | exact kd _ (Array.mem_of_getElem? (i := 7) rfl) rfl
          have hy := ky 26 86 false (by decide) rfl dg
          rw [if_pos (by simp [Region.wanted, hy])]
          have t16 : ρ (.tmp 16) = .pointer (some ⟨xR, 0, none⟩) := ki 16 (by decide)
          have hg := blk_later R10.out hC
          have c0 := blk_cell hg 0
          have c1 := blk_cell hg 1
          have c2 := blk_cell hg 2
          have c3 := blk_cell hg 3
          have c4 := blk_cell hg 4
          have c5 := blk_cell hg 5
          have c6 := blk_cell hg 6
          simp at c0 c1 c2 c3 c4 c5 c6
          simp [execOp, go_sem, kc, t16, c0, c1, c2, c3, c4, c5, c6]
          exact ⟨hC, Below.refl _ _, rfl⟩
        · intro v W ρ y hC kc kf ks ki ky ku kd
          have dg : v 26 = .bool false := by first | exact kd _ (mem0 rfl) rfl | exact kd _ (mem1 rfl) rfl | exact kd _ (mem2 rfl) rfl | exact kd _ (mem3 rfl) rfl | exact kd _ (mem4 rfl) rfl | exact kd _ (mem5 rfl) rfl | exact kd _ (Array.mem_of_getElem? (i := 6) rfl) rfl | exact kd _ (Array.mem_of_getElem? (i := 7) rfl) rfl
          have hy := ky 26 86 false (by decide) rfl dg
          rw [if_pos (by simp [Region.wanted, hy])]
          have d27 : v 27 = .agg #[.int .i64 r.kind, .int .i64 r.proto, .int .i64 r.net, .int .i64 r.bits, .int .i64 r.goal, .int .i64 r.low, .int .i64 r.high] := by first | exact kd _ (mem0 rfl) rfl | exact kd _ (mem1 rfl) rfl | exact kd _ (mem2 rfl) rfl | exact kd _ (mem3 rfl) rfl | exact kd _ (mem4 rfl) rfl | exact kd _ (mem5 rfl) rfl | exact kd _ (Array.mem_of_getElem? (i := 6) rfl) rfl | exact kd _ (Array.mem_of_getElem? (i := 7) rfl) rfl
          have t87 : ρ (.tmp 87) = .agg #[.int .i64 r.kind, .int .i64 r.proto, .int .i64 r.net, .int .i64 r.bits, .int .i64 r.goal, .int .i64 r.low, .int .i64 r.high] := (ks 27 87 (by decide) rfl).trans d27
          simp [execOp, go_sem, kc, t87, kf]
          exact Calls.mono (HIR.out W) (fun e x h => ⟨_, h.1, hC.trans (h.2.mono hC.size), h.2, rfl⟩)
        · intro v W ρ y hC kc kf ks ki ky ku kd
          have dg : v 26 = .bool false := by first | exact kd _ (mem0 rfl) rfl | exact kd _ (mem1 rfl) rfl | exact kd _ (mem2 rfl) rfl | exact kd _ (mem3 rfl) rfl | exact kd _ (mem4 rfl) rfl | exact kd _ (mem5 rfl) rfl | exact kd _ (Array.mem_of_getElem? (i := 6) rfl) rfl | exact kd _ (Array.mem_of_getElem? (i := 7) rfl) rfl
          have hy := ky 26 86 false (by decide) rfl dg
          rw [if_pos (by simp [Region.wanted, hy])]
          have t16 : ρ (.tmp 16) = .pointer (some ⟨xR, 0, none⟩) := ki 16 (by decide)
          have hg := blk_later R10.out hC
          have c0 := blk_cell hg 0
          have c1 := blk_cell hg 1
          have c2 := blk_cell hg 2
          have c3 := blk_cell hg 3
          have c4 := blk_cell hg 4
          have c5 := blk_cell hg 5
          have c6 := blk_cell hg 6
          simp at c0 c1 c2 c3 c4 c5 c6
          simp [execOp, go_sem, kc, t16, c0, c1, c2, c3, c4, c5, c6]
          exact ⟨hC, Below.refl _ _, rfl⟩
        · intro v W ρ y hC kc kf ks ki ky ku kd
          have dg : v 26 = .bool false := by first | exact kd _ (mem0 rfl) rfl | exact kd _ (mem1 rfl) rfl | exact kd _ (mem2 rfl) rfl | exact kd _ (mem3 rfl) rfl | exact kd _ (mem4 rfl) rfl | exact kd _ (mem5 rfl) rfl | exact kd _ (Array.mem_of_getElem? (i := 6) rfl) rfl | exact kd _ (Array.mem_of_getElem? (i := 7) rfl) rfl
          have hy := ky 26 86 false (by decide) rfl dg
          rw [if_pos (by simp [Region.wanted, hy])]
          have d29 : v 29 = .agg #[.int .i64 r.kind, .int .i64 r.proto, .int .i64 r.net, .int .i64 r.bits, .int .i64 r.goal, .int .i64 r.low, .int .i64 r.high] := by first | exact kd _ (mem0 rfl) rfl | exact kd _ (mem1 rfl) rfl | exact kd _ (mem2 rfl) rfl | exact kd _ (mem3 rfl) rfl | exact kd _ (mem4 rfl) rfl | exact kd _ (mem5 rfl) rfl | exact kd _ (Array.mem_of_getElem? (i := 6) rfl) rfl | exact kd _ (Array.mem_of_getElem? (i := 7) rfl) rfl
          have t89 : ρ (.tmp 89) = .agg #[.int .i64 r.kind, .int .i64 r.proto, .int .i64 r.net, .int .i64 r.bits, .int .i64 r.goal, .int .i64 r.low, .int .i64 r.high] := (ks 29 89 (by decide) rfl).trans d29
          simp [execOp, go_sem, kc, t89, kf]
          exact Calls.mono (HSR.out W) (fun e x h => ⟨_, h.1, hC.trans (h.2.mono hC.size), h.2, rfl⟩)
        · intro v W ρ y hC kc kf ks ki ky ku kd
          have dg : v 26 = .bool false := by first | exact kd _ (mem0 rfl) rfl | exact kd _ (mem1 rfl) rfl | exact kd _ (mem2 rfl) rfl | exact kd _ (mem3 rfl) rfl | exact kd _ (mem4 rfl) rfl | exact kd _ (mem5 rfl) rfl | exact kd _ (Array.mem_of_getElem? (i := 6) rfl) rfl | exact kd _ (Array.mem_of_getElem? (i := 7) rfl) rfl
          have hy := ky 26 86 false (by decide) rfl dg
          rw [if_pos (by simp [Region.wanted, hy])]
          have d28 : v 28 = .bool rr := by first | exact kd _ (mem0 rfl) rfl | exact kd _ (mem1 rfl) rfl | exact kd _ (mem2 rfl) rfl | exact kd _ (mem3 rfl) rfl | exact kd _ (mem4 rfl) rfl | exact kd _ (mem5 rfl) rfl | exact kd _ (Array.mem_of_getElem? (i := 6) rfl) rfl | exact kd _ (Array.mem_of_getElem? (i := 7) rfl) rfl
          have t88 : ρ (.tmp 88) = .bool rr := (ks 28 88 (by decide) rfl).trans d28
          have d30 : v 30 = .bool rr := by first | exact kd _ (mem0 rfl) rfl | exact kd _ (mem1 rfl) rfl | exact kd _ (mem2 rfl) rfl | exact kd _ (mem3 rfl) rfl | exact kd _ (mem4 rfl) rfl | exact kd _ (mem5 rfl) rfl | exact kd _ (Array.mem_of_getElem? (i := 6) rfl) rfl | exact kd _ (Array.mem_of_getElem? (i := 7) rfl) rfl
          have t90 : ρ (.tmp 90) = .bool rr := (ks 30 90 (by decide) rfl).trans d30
          simp [execOp, go_sem, kc, t88, t90]
          exact ⟨hC, Below.refl _ _, rfl⟩
        · refine stepW_of_u ⟨rfl, fun v W ρ hC kc kf ks ki kd => ?_⟩
          have d26 : v 26 = .bool false := by first | exact kd _ (mem0 rfl) rfl | exact kd _ (mem1 rfl) rfl | exact kd _ (mem2 rfl) rfl | exact kd _ (mem3 rfl) rfl | exact kd _ (mem4 rfl) rfl | exact kd _ (mem5 rfl) rfl | exact kd _ (Array.mem_of_getElem? (i := 6) rfl) rfl | exact kd _ (Array.mem_of_getElem? (i := 7) rfl) rfl
          have t86 : ρ (.tmp 86) = .bool false := (ks 26 86 (by decide) rfl).trans d26
          have d31 : v 31 = .bool false := by first | exact kd _ (mem0 rfl) rfl | exact kd _ (mem1 rfl) rfl | exact kd _ (mem2 rfl) rfl | exact kd _ (mem3 rfl) rfl | exact kd _ (mem4 rfl) rfl | exact kd _ (mem5 rfl) rfl | exact kd _ (Array.mem_of_getElem? (i := 6) rfl) rfl | exact kd _ (Array.mem_of_getElem? (i := 7) rfl) rfl
          have t91 : ρ (.tmp 91) = .bool false := (ks 31 91 (by decide) rfl).trans d31
          simp [execOp, go_sem, kc, t86, t91]
          exact ⟨hC, Below.refl _ _, rfl⟩
        · refine stepW_of_u ⟨rfl, fun v W ρ hC kc kf ks ki kd => ?_⟩
          have d32 : v 32 = .bool false := by first | exact kd _ (mem0 rfl) rfl | exact kd _ (mem1 rfl) rfl | exact kd _ (mem2 rfl) rfl | exact kd _ (mem3 rfl) rfl | exact kd _ (mem4 rfl) rfl | exact kd _ (mem5 rfl) rfl | exact kd _ (Array.mem_of_getElem? (i := 6) rfl) rfl | exact kd _ (Array.mem_of_getElem? (i := 7) rfl) rfl
          have t92 : ρ (.tmp 92) = .bool false := (ks 32 92 (by decide) rfl).trans d32
          simp [execOp, go_sem, kc, t92]
          exact ⟨hC, Below.refl _ _, rfl⟩
        · intro v W ρ y hC kc kf ks ki ky ku kd
          have dg : v 33 = .bool false := by first | exact kd _ (mem0 rfl) rfl | exact kd _ (mem1 rfl) rfl | exact kd _ (mem2 rfl) rfl | exact kd _ (mem3 rfl) rfl | exact kd _ (mem4 rfl) rfl | exact kd _ (mem5 rfl) rfl | exact kd _ (Array.mem_of_getElem? (i := 6) rfl) rfl | exact kd _ (Array.mem_of_getElem? (i := 7) rfl) rfl
          have hy := ky 33 93 false (by decide) rfl dg
          rw [if_pos (by simp [Region.wanted, hy])]
          have t5 : ρ (.tmp 5) = .slice aa rs.length ca := ki 5 (by decide)
          simp [execOp, go_sem, kc, t5]
          exact ⟨hC, Below.refl _ _, rfl⟩
        · intro v W ρ y hC kc kf ks ki ky ku kd
          have dg : v 33 = .bool false := by first | exact kd _ (mem0 rfl) rfl | exact kd _ (mem1 rfl) rfl | exact kd _ (mem2 rfl) rfl | exact kd _ (mem3 rfl) rfl | exact kd _ (mem4 rfl) rfl | exact kd _ (mem5 rfl) rfl | exact kd _ (Array.mem_of_getElem? (i := 6) rfl) rfl | exact kd _ (Array.mem_of_getElem? (i := 7) rfl) rfl
          have hy := ky 33 93 false (by decide) rfl dg
          rw [if_pos (by simp [Region.wanted, hy])]
          have d34 : v 34 = .slice aa rs.length ca := by first | exact kd _ (mem0 rfl) rfl | exact kd _ (mem1 rfl) rfl | exact kd _ (mem2 rfl) rfl | exact kd _ (mem3 rfl) rfl | exact kd _ (mem4 rfl) rfl | exact kd _ (mem5 rfl) rfl | exact kd _ (Array.mem_of_getElem? (i := 6) rfl) rfl | exact kd _ (Array.mem_of_getElem? (i := 7) rfl) rfl
          have t94 : ρ (.tmp 94) = .slice aa rs.length ca := (ks 34 94 (by decide) rfl).trans d34
          simp [execOp, go_sem, kc, t94, kf]
          exact Calls.mono (HIA.out W (RA10.out.later hC)) (fun e x h => ⟨_, h.1, hC.trans (h.2.mono hC.size), h.2, rfl⟩)
        · intro v W ρ y hC kc kf ks ki ky ku kd
          have dg : v 33 = .bool false := by first | exact kd _ (mem0 rfl) rfl | exact kd _ (mem1 rfl) rfl | exact kd _ (mem2 rfl) rfl | exact kd _ (mem3 rfl) rfl | exact kd _ (mem4 rfl) rfl | exact kd _ (mem5 rfl) rfl | exact kd _ (Array.mem_of_getElem? (i := 6) rfl) rfl | exact kd _ (Array.mem_of_getElem? (i := 7) rfl) rfl
          have hy := ky 33 93 false (by decide) rfl dg
          rw [if_pos (by simp [Region.wanted, hy])]
          have t5 : ρ (.tmp 5) = .slice aa rs.length ca := ki 5 (by decide)
          simp [execOp, go_sem, kc, t5]
          exact ⟨hC, Below.refl _ _, rfl⟩
        · intro v W ρ y hC kc kf ks ki ky ku kd
          have dg : v 33 = .bool false := by first | exact kd _ (mem0 rfl) rfl | exact kd _ (mem1 rfl) rfl | exact kd _ (mem2 rfl) rfl | exact kd _ (mem3 rfl) rfl | exact kd _ (mem4 rfl) rfl | exact kd _ (mem5 rfl) rfl | exact kd _ (Array.mem_of_getElem? (i := 6) rfl) rfl | exact kd _ (Array.mem_of_getElem? (i := 7) rfl) rfl
          have hy := ky 33 93 false (by decide) rfl dg
          rw [if_pos (by simp [Region.wanted, hy])]
          have d36 : v 36 = .slice aa rs.length ca := by first | exact kd _ (mem0 rfl) rfl | exact kd _ (mem1 rfl) rfl | exact kd _ (mem2 rfl) rfl | exact kd _ (mem3 rfl) rfl | exact kd _ (mem4 rfl) rfl | exact kd _ (mem5 rfl) rfl | exact kd _ (Array.mem_of_getElem? (i := 6) rfl) rfl | exact kd _ (Array.mem_of_getElem? (i := 7) rfl) rfl
          have t96 : ρ (.tmp 96) = .slice aa rs.length ca := (ks 36 96 (by decide) rfl).trans d36
          simp [execOp, go_sem, kc, t96, kf]
          exact Calls.mono (HSA.out W (RA10.out.later hC)) (fun e x h => ⟨_, h.1, hC.trans (h.2.mono hC.size), h.2, rfl⟩)
        · intro v W ρ y hC kc kf ks ki ky ku kd
          have dg : v 33 = .bool false := by first | exact kd _ (mem0 rfl) rfl | exact kd _ (mem1 rfl) rfl | exact kd _ (mem2 rfl) rfl | exact kd _ (mem3 rfl) rfl | exact kd _ (mem4 rfl) rfl | exact kd _ (mem5 rfl) rfl | exact kd _ (Array.mem_of_getElem? (i := 6) rfl) rfl | exact kd _ (Array.mem_of_getElem? (i := 7) rfl) rfl
          have hy := ky 33 93 false (by decide) rfl dg
          rw [if_pos (by simp [Region.wanted, hy])]
          have d35 : v 35 = .bool rb := by first | exact kd _ (mem0 rfl) rfl | exact kd _ (mem1 rfl) rfl | exact kd _ (mem2 rfl) rfl | exact kd _ (mem3 rfl) rfl | exact kd _ (mem4 rfl) rfl | exact kd _ (mem5 rfl) rfl | exact kd _ (Array.mem_of_getElem? (i := 6) rfl) rfl | exact kd _ (Array.mem_of_getElem? (i := 7) rfl) rfl
          have t95 : ρ (.tmp 95) = .bool rb := (ks 35 95 (by decide) rfl).trans d35
          have d37 : v 37 = .bool rb := by first | exact kd _ (mem0 rfl) rfl | exact kd _ (mem1 rfl) rfl | exact kd _ (mem2 rfl) rfl | exact kd _ (mem3 rfl) rfl | exact kd _ (mem4 rfl) rfl | exact kd _ (mem5 rfl) rfl | exact kd _ (Array.mem_of_getElem? (i := 6) rfl) rfl | exact kd _ (Array.mem_of_getElem? (i := 7) rfl) rfl
          have t97 : ρ (.tmp 97) = .bool rb := (ks 37 97 (by decide) rfl).trans d37
          simp [execOp, go_sem, kc, t95, t97]
          exact ⟨hC, Below.refl _ _, rfl⟩
        · refine stepW_of_u ⟨rfl, fun v W ρ hC kc kf ks ki kd => ?_⟩
          have d33 : v 33 = .bool false := by first | exact kd _ (mem0 rfl) rfl | exact kd _ (mem1 rfl) rfl | exact kd _ (mem2 rfl) rfl | exact kd _ (mem3 rfl) rfl | exact kd _ (mem4 rfl) rfl | exact kd _ (mem5 rfl) rfl | exact kd _ (Array.mem_of_getElem? (i := 6) rfl) rfl | exact kd _ (Array.mem_of_getElem? (i := 7) rfl) rfl
          have t93 : ρ (.tmp 93) = .bool false := (ks 33 93 (by decide) rfl).trans d33
          have d38 : v 38 = .bool false := by first | exact kd _ (mem0 rfl) rfl | exact kd _ (mem1 rfl) rfl | exact kd _ (mem2 rfl) rfl | exact kd _ (mem3 rfl) rfl | exact kd _ (mem4 rfl) rfl | exact kd _ (mem5 rfl) rfl | exact kd _ (Array.mem_of_getElem? (i := 6) rfl) rfl | exact kd _ (Array.mem_of_getElem? (i := 7) rfl) rfl
          have t98 : ρ (.tmp 98) = .bool false := (ks 38 98 (by decide) rfl).trans d38
          simp [execOp, go_sem, kc, t93, t98]
          exact ⟨hC, Below.refl _ _, rfl⟩
        · refine stepW_of_u ⟨rfl, fun v W ρ hC kc kf ks ki kd => ?_⟩
          have d39 : v 39 = .bool false := by first | exact kd _ (mem0 rfl) rfl | exact kd _ (mem1 rfl) rfl | exact kd _ (mem2 rfl) rfl | exact kd _ (mem3 rfl) rfl | exact kd _ (mem4 rfl) rfl | exact kd _ (mem5 rfl) rfl | exact kd _ (Array.mem_of_getElem? (i := 6) rfl) rfl | exact kd _ (Array.mem_of_getElem? (i := 7) rfl) rfl
          have t99 : ρ (.tmp 99) = .bool false := (ks 39 99 (by decide) rfl).trans d39
          simp [execOp, go_sem, kc, t99]
          exact ⟨hC, Below.refl _ _, rfl⟩
        · intro v W ρ y hC kc kf ks ki ky ku kd
          have dg : v 40 = .bool false := by first | exact kd _ (mem0 rfl) rfl | exact kd _ (mem1 rfl) rfl | exact kd _ (mem2 rfl) rfl | exact kd _ (mem3 rfl) rfl | exact kd _ (mem4 rfl) rfl | exact kd _ (mem5 rfl) rfl | exact kd _ (Array.mem_of_getElem? (i := 6) rfl) rfl | exact kd _ (Array.mem_of_getElem? (i := 7) rfl) rfl
          have hy := ky 40 100 false (by decide) rfl dg
          rw [if_pos (by simp [Region.wanted, hy])]
          have t17 : ρ (.tmp 17) = .bool false := ki 17 (by decide)
          simp [execOp, go_sem, kc, t17]
          exact ⟨hC, Below.refl _ _, rfl⟩
        · intro v W ρ y hC kc kf ks ki ky ku kd
          have dg : v 40 = .bool false := by first | exact kd _ (mem0 rfl) rfl | exact kd _ (mem1 rfl) rfl | exact kd _ (mem2 rfl) rfl | exact kd _ (mem3 rfl) rfl | exact kd _ (mem4 rfl) rfl | exact kd _ (mem5 rfl) rfl | exact kd _ (Array.mem_of_getElem? (i := 6) rfl) rfl | exact kd _ (Array.mem_of_getElem? (i := 7) rfl) rfl
          have hy := ky 40 100 false (by decide) rfl dg
          rw [if_pos (by simp [Region.wanted, hy])]
          have d41 : v 41 = .bool false := by first | exact kd _ (mem0 rfl) rfl | exact kd _ (mem1 rfl) rfl | exact kd _ (mem2 rfl) rfl | exact kd _ (mem3 rfl) rfl | exact kd _ (mem4 rfl) rfl | exact kd _ (mem5 rfl) rfl | exact kd _ (Array.mem_of_getElem? (i := 6) rfl) rfl | exact kd _ (Array.mem_of_getElem? (i := 7) rfl) rfl
          have t101 : ρ (.tmp 101) = .bool false := (ks 41 101 (by decide) rfl).trans d41
          simp [execOp, go_sem, kc, t101]
          exact ⟨hC, Below.refl _ _, rfl⟩
        · intro v W ρ y hC kc kf ks ki ky ku kd
          have dg : v 42 = .bool false := by first | exact kd _ (mem0 rfl) rfl | exact kd _ (mem1 rfl) rfl | exact kd _ (mem2 rfl) rfl | exact kd _ (mem3 rfl) rfl | exact kd _ (mem4 rfl) rfl | exact kd _ (mem5 rfl) rfl | exact kd _ (Array.mem_of_getElem? (i := 6) rfl) rfl | exact kd _ (Array.mem_of_getElem? (i := 7) rfl) rfl
          have hy := ky 42 102 false (by decide) rfl dg
          rw [if_neg (by simp [Region.wanted, hy])]
          exact ⟨Below.refl _ _, rfl⟩
        · intro v W ρ y hC kc kf ks ki ky ku kd
          have dg : v 42 = .bool false := by first | exact kd _ (mem0 rfl) rfl | exact kd _ (mem1 rfl) rfl | exact kd _ (mem2 rfl) rfl | exact kd _ (mem3 rfl) rfl | exact kd _ (mem4 rfl) rfl | exact kd _ (mem5 rfl) rfl | exact kd _ (Array.mem_of_getElem? (i := 6) rfl) rfl | exact kd _ (Array.mem_of_getElem? (i := 7) rfl) rfl
          have hy := ky 42 102 false (by decide) rfl dg
          rw [if_neg (by simp [Region.wanted, hy])]
          exact ⟨Below.refl _ _, rfl⟩
        · intro v W ρ y hC kc kf ks ki ky ku kd
          have dg : v 40 = .bool false := by first | exact kd _ (mem0 rfl) rfl | exact kd _ (mem1 rfl) rfl | exact kd _ (mem2 rfl) rfl | exact kd _ (mem3 rfl) rfl | exact kd _ (mem4 rfl) rfl | exact kd _ (mem5 rfl) rfl | exact kd _ (Array.mem_of_getElem? (i := 6) rfl) rfl | exact kd _ (Array.mem_of_getElem? (i := 7) rfl) rfl
          have hy := ky 40 100 false (by decide) rfl dg
          rw [if_pos (by simp [Region.wanted, hy])]
          have d42 : v 42 = .bool false := by first | exact kd _ (mem0 rfl) rfl | exact kd _ (mem1 rfl) rfl | exact kd _ (mem2 rfl) rfl | exact kd _ (mem3 rfl) rfl | exact kd _ (mem4 rfl) rfl | exact kd _ (mem5 rfl) rfl | exact kd _ (Array.mem_of_getElem? (i := 6) rfl) rfl | exact kd _ (Array.mem_of_getElem? (i := 7) rfl) rfl
          have t102 : ρ (.tmp 102) = .bool false := (ks 42 102 (by decide) rfl).trans d42
          simp [execOp, go_sem, kc, t102]
          exact ⟨hC, Below.refl _ _, rfl⟩
        · intro v W ρ y hC kc kf ks ki ky ku kd
          have dg : v 40 = .bool false := by first | exact kd _ (mem0 rfl) rfl | exact kd _ (mem1 rfl) rfl | exact kd _ (mem2 rfl) rfl | exact kd _ (mem3 rfl) rfl | exact kd _ (mem4 rfl) rfl | exact kd _ (mem5 rfl) rfl | exact kd _ (Array.mem_of_getElem? (i := 6) rfl) rfl | exact kd _ (Array.mem_of_getElem? (i := 7) rfl) rfl
          have hy := ky 40 100 false (by decide) rfl dg
          rw [if_pos (by simp [Region.wanted, hy])]
          have d45 : v 45 = .bool false := by first | exact kd _ (mem0 rfl) rfl | exact kd _ (mem1 rfl) rfl | exact kd _ (mem2 rfl) rfl | exact kd _ (mem3 rfl) rfl | exact kd _ (mem4 rfl) rfl | exact kd _ (mem5 rfl) rfl | exact kd _ (Array.mem_of_getElem? (i := 6) rfl) rfl | exact kd _ (Array.mem_of_getElem? (i := 7) rfl) rfl
          have t105 : ρ (.tmp 105) = .bool false := (ks 45 105 (by decide) rfl).trans d45
          simp [execOp, go_sem, kc, t105]
          exact ⟨hC, Below.refl _ _, rfl⟩
        · intro v W ρ y hC kc kf ks ki ky ku kd
          have dg : v 46 = .bool false := by first | exact kd _ (mem0 rfl) rfl | exact kd _ (mem1 rfl) rfl | exact kd _ (mem2 rfl) rfl | exact kd _ (mem3 rfl) rfl | exact kd _ (mem4 rfl) rfl | exact kd _ (mem5 rfl) rfl | exact kd _ (Array.mem_of_getElem? (i := 6) rfl) rfl | exact kd _ (Array.mem_of_getElem? (i := 7) rfl) rfl
          have hy := ky 46 106 false (by decide) rfl dg
          rw [if_neg (by simp [Region.wanted, hy])]
          exact ⟨Below.refl _ _, rfl⟩
        · intro v W ρ y hC kc kf ks ki ky ku kd
          have dg : v 46 = .bool false := by first | exact kd _ (mem0 rfl) rfl | exact kd _ (mem1 rfl) rfl | exact kd _ (mem2 rfl) rfl | exact kd _ (mem3 rfl) rfl | exact kd _ (mem4 rfl) rfl | exact kd _ (mem5 rfl) rfl | exact kd _ (Array.mem_of_getElem? (i := 6) rfl) rfl | exact kd _ (Array.mem_of_getElem? (i := 7) rfl) rfl
          have hy := ky 46 106 false (by decide) rfl dg
          rw [if_neg (by simp [Region.wanted, hy])]
          exact ⟨Below.refl _ _, rfl⟩
        · intro v W ρ y hC kc kf ks ki ky ku kd
          have dg : v 46 = .bool false := by first | exact kd _ (mem0 rfl) rfl | exact kd _ (mem1 rfl) rfl | exact kd _ (mem2 rfl) rfl | exact kd _ (mem3 rfl) rfl | exact kd _ (mem4 rfl) rfl | exact kd _ (mem5 rfl) rfl | exact kd _ (Array.mem_of_getElem? (i := 6) rfl) rfl | exact kd _ (Array.mem_of_getElem? (i := 7) rfl) rfl
          have hy := ky 46 106 false (by decide) rfl dg
          rw [if_neg (by simp [Region.wanted, hy])]
          exact ⟨Below.refl _ _, rfl⟩
        · intro v W ρ y hC kc kf ks ki ky ku kd
          have dg : v 40 = .bool false := by first | exact kd _ (mem0 rfl) rfl | exact kd _ (mem1 rfl) rfl | exact kd _ (mem2 rfl) rfl | exact kd _ (mem3 rfl) rfl | exact kd _ (mem4 rfl) rfl | exact kd _ (mem5 rfl) rfl | exact kd _ (Array.mem_of_getElem? (i := 6) rfl) rfl | exact kd _ (Array.mem_of_getElem? (i := 7) rfl) rfl
          have hy := ky 40 100 false (by decide) rfl dg
          rw [if_pos (by simp [Region.wanted, hy])]
          have d46 : v 46 = .bool false := by first | exact kd _ (mem0 rfl) rfl | exact kd _ (mem1 rfl) rfl | exact kd _ (mem2 rfl) rfl | exact kd _ (mem3 rfl) rfl | exact kd _ (mem4 rfl) rfl | exact kd _ (mem5 rfl) rfl | exact kd _ (Array.mem_of_getElem? (i := 6) rfl) rfl | exact kd _ (Array.mem_of_getElem? (i := 7) rfl) rfl
          have t106 : ρ (.tmp 106) = .bool false := (ks 46 106 (by decide) rfl).trans d46
          simp [execOp, go_sem, kc, t106]
          exact ⟨hC, Below.refl _ _, rfl⟩
        · refine stepW_of_u ⟨rfl, fun v W ρ hC kc kf ks ki kd => ?_⟩
          have d40 : v 40 = .bool false := by first | exact kd _ (mem0 rfl) rfl | exact kd _ (mem1 rfl) rfl | exact kd _ (mem2 rfl) rfl | exact kd _ (mem3 rfl) rfl | exact kd _ (mem4 rfl) rfl | exact kd _ (mem5 rfl) rfl | exact kd _ (Array.mem_of_getElem? (i := 6) rfl) rfl | exact kd _ (Array.mem_of_getElem? (i := 7) rfl) rfl
          have t100 : ρ (.tmp 100) = .bool false := (ks 40 100 (by decide) rfl).trans d40
          have d50 : v 50 = .bool false := by first | exact kd _ (mem0 rfl) rfl | exact kd _ (mem1 rfl) rfl | exact kd _ (mem2 rfl) rfl | exact kd _ (mem3 rfl) rfl | exact kd _ (mem4 rfl) rfl | exact kd _ (mem5 rfl) rfl | exact kd _ (Array.mem_of_getElem? (i := 6) rfl) rfl | exact kd _ (Array.mem_of_getElem? (i := 7) rfl) rfl
          have t110 : ρ (.tmp 110) = .bool false := (ks 50 110 (by decide) rfl).trans d50
          simp [execOp, go_sem, kc, t100, t110]
          exact ⟨hC, Below.refl _ _, rfl⟩
      case finA9 => exact fun v w hb hall => FIN.out v w hb (hall 51 (by decide))
    · by_cases h32 : n3 = 32
      · have hn : (n1 != n2) = false := by rw [EN.out rfl h32]; simp
        subst h32
        clear EN
        refine grow_guarded 52 [.is (.agg #[.int .i64 x.proto, .int .i64 x.src, .int .i64 x.sport, .int .i64 x.dst, .int .i64 x.dport, .int .i64 x.kind, .int .i64 c]), .is (.slice aa rs.length ca), .is (.agg #[.int .i64 t.proto, .int .i64 t.src, .int .i64 t.sport, .int .i64 t.dst, .int .i64 t.dport, .int .i64 t.kind]), .is (.int .i64 z), .is (.slice bb us.length cb), .is (.agg #[.int .i64 x.proto, .int .i64 x.src, .int .i64 x.sport, .int .i64 x.dst, .int .i64 x.dport, .int .i64 x.kind, .int .i64 c]), .is (.bool false), .is (.bool false), .is (.slice a2 r2.length c2), .is (.int .i64 k2), .is (.agg #[.int .i64 u.proto, .int .i64 u.src, .int .i64 u.sport, .int .i64 u.dst, .int .i64 u.dport, .int .i64 u.kind]), .is (.agg #[.int .i64 ra.kind, .int .i64 ra.proto, .int .i64 ra.net, .int .i64 ra.bits, .int .i64 ra.goal, .int .i64 ra.low, .int .i64 ra.high]), .is (.slice a2 r2.length c2), .is (.int .i64 k2), .is (.agg #[.int .i64 u.proto, .int .i64 u.src, .int .i64 u.sport, .int .i64 u.dst, .int .i64 u.dport, .int .i64 u.kind]), .is (.agg #[.int .i64 ra.kind, .int .i64 ra.proto, .int .i64 ra.net, .int .i64 ra.bits, .int .i64 ra.goal, .int .i64 ra.low, .int .i64 ra.high]), .is (.bool false), .is (.bool false), .is (.bool false), .is (.bool true), .is (.int .i64 n1), .is (.int .i64 n2), .is (.int .i64 32), .is (.bool true), .is (.bool false), .is (.bool false), .is (.bool false), .is (.agg #[.int .i64 r.kind, .int .i64 r.proto, .int .i64 r.net, .int .i64 r.bits, .int .i64 r.goal, .int .i64 r.low, .int .i64 r.high]), .is (.bool rr), .is (.agg #[.int .i64 r.kind, .int .i64 r.proto, .int .i64 r.net, .int .i64 r.bits, .int .i64 r.goal, .int .i64 r.low, .int .i64 r.high]), .is (.bool rr), .is (.bool false), .is (.bool false), .is (.bool false), .is (.slice aa rs.length ca), .is (.bool rb), .is (.slice aa rs.length ca), .is (.bool rb), .is (.bool false), .is (.bool false), .is (.bool false), .is (.bool true), .is (.bool true), .is (.int .i64 32), .is (.bool true), .is (.bool true), .is (.bool true), .is (.int .i64 n1), .is (.int .i64 n2), .is (.bool false), .is (.bool false), .is (.bool false)] rfl (by kernel_rfl) (by kernel_rfl) ?stepsB9 ?finB9
        case stepsB9 =>
          refine ⟨?_, ?_, ?_, ?_, ?_, ?_, ?_, ?_, ?_, ?_, ?_, ?_, ?_, ?_, ?_, ?_, ?_, ?_, ?_, ?_, ?_, ?_, ?_, ?_, ?_, ?_, ?_, ?_, ?_, ?_, ?_, ?_, ?_, ?_, ?_, ?_, ?_, ?_, ?_, ?_, ?_, ?_, ?_, ?_, ?_, ?_, ?_, ?_, ?_, ?_, ?_, ?_, trivial⟩
          · refine stepW_of_u ⟨rfl, fun v W ρ hC kc kf ks ki kd => ?_⟩
            have t9 : ρ (.tmp 9) = .pointer (some ⟨xY, 0, none⟩) := ki 9 (by decide)
            have hg := blk_later Y10.out hC
            have c0 := blk_cell hg 0
            have c1 := blk_cell hg 1
            have c2 := blk_cell hg 2
            have c3 := blk_cell hg 3
            have c4 := blk_cell hg 4
            have c5 := blk_cell hg 5
            have c6 := blk_cell hg 6
            simp at c0 c1 c2 c3 c4 c5 c6
            simp [execOp, go_sem, kc, t9, c0, c1, c2, c3, c4, c5, c6]
            exact ⟨hC, Below.refl _ _, rfl⟩
          · refine stepW_of_u ⟨rfl, fun v W ρ hC kc kf ks ki kd => ?_⟩
            have t5 : ρ (.tmp 5) = .slice aa rs.length ca := ki 5 (by decide)
            simp [execOp, go_sem, kc, t5]
            exact ⟨hC, Below.refl _ _, rfl⟩
          · refine stepW_of_u ⟨rfl, fun v W ρ hC kc kf ks ki kd => ?_⟩
            have t6 : ρ (.tmp 6) = .pointer (some ⟨xT, 0, none⟩) := ki 6 (by decide)
            have hg := blk_later T10.out hC
            have c0 := blk_cell hg 0
            have c1 := blk_cell hg 1
            have c2 := blk_cell hg 2
            have c3 := blk_cell hg 3
            have c4 := blk_cell hg 4
            have c5 := blk_cell hg 5
            simp at c0 c1 c2 c3 c4 c5
            simp [execOp, go_sem, kc, t6, c0, c1, c2, c3, c4, c5]
            exact ⟨hC, Below.refl _ _, rfl⟩
          · refine stepW_of_u ⟨rfl, fun v W ρ hC kc kf ks ki kd => ?_⟩
            have t7 : ρ (.tmp 7) = .int .i64 z := ki 7 (by decide)
            simp [execOp, go_sem, kc, t7]
            exact ⟨hC, Below.refl _ _, rfl⟩
          · refine stepW_of_u ⟨rfl, fun v W ρ hC kc kf ks ki kd => ?_⟩
            have t8 : ρ (.tmp 8) = .slice bb us.length cb := ki 8 (by decide)
            simp [execOp, go_sem, kc, t8]
            exact ⟨hC, Below.refl _ _, rfl⟩
          · refine stepW_of_u ⟨rfl, fun v W ρ hC kc kf ks ki kd => ?_⟩
            have d1 : v 1 = .slice aa rs.length ca := by first | exact kd _ (mem0 rfl) rfl | exact kd _ (mem1 rfl) rfl | exact kd _ (mem2 rfl) rfl | exact kd _ (mem3 rfl) rfl | exact kd _ (mem4 rfl) rfl | exact kd _ (mem5 rfl) rfl | exact kd _ (Array.mem_of_getElem? (i := 6) rfl) rfl | exact kd _ (Array.mem_of_getElem? (i := 7) rfl) rfl
            have t61 : ρ (.tmp 61) = .slice aa rs.length ca := (ks 1 61 (by decide) rfl).trans d1
            have d2 : v 2 = .agg #[.int .i64 t.proto, .int .i64 t.src, .int .i64 t.sport, .int .i64 t.dst, .int .i64 t.dport, .int .i64 t.kind] := by first | exact kd _ (mem0 rfl) rfl | exact kd _ (mem1 rfl) rfl | exact kd _ (mem2 rfl) rfl | exact kd _ (mem3 rfl) rfl | exact kd _ (mem4 rfl) rfl | exact kd _ (mem5 rfl) rfl | exact kd _ (Array.mem_of_getElem? (i := 6) rfl) rfl | exact kd _ (Array.mem_of_getElem? (i := 7) rfl) rfl
            have t62 : ρ (.tmp 62) = .agg #[.int .i64 t.proto, .int .i64 t.src, .int .i64 t.sport, .int .i64 t.dst, .int .i64 t.dport, .int .i64 t.kind] := (ks 2 62 (by decide) rfl).trans d2
            have d3 : v 3 = .int .i64 z := by first | exact kd _ (mem0 rfl) rfl | exact kd _ (mem1 rfl) rfl | exact kd _ (mem2 rfl) rfl | exact kd _ (mem3 rfl) rfl | exact kd _ (mem4 rfl) rfl | exact kd _ (mem5 rfl) rfl | exact kd _ (Array.mem_of_getElem? (i := 6) rfl) rfl | exact kd _ (Array.mem_of_getElem? (i := 7) rfl) rfl
            have t63 : ρ (.tmp 63) = .int .i64 z := (ks 3 63 (by decide) rfl).trans d3
            have d4 : v 4 = .slice bb us.length cb := by first | exact kd _ (mem0 rfl) rfl | exact kd _ (mem1 rfl) rfl | exact kd _ (mem2 rfl) rfl | exact kd _ (mem3 rfl) rfl | exact kd _ (mem4 rfl) rfl | exact kd _ (mem5 rfl) rfl | exact kd _ (Array.mem_of_getElem? (i := 6) rfl) rfl | exact kd _ (Array.mem_of_getElem? (i := 7) rfl) rfl
            have t64 : ρ (.tmp 64) = .slice bb us.length cb := (ks 4 64 (by decide) rfl).trans d4
            simp [execOp, go_sem, kc, t61, t62, t63, t64, kf]
            exact Calls.mono (HSG.out W (RA10.out.later hC) (RB10.out.later hC)) (fun e x h => ⟨_, h.1, hC.trans (h.2.mono hC.size), h.2, rfl⟩)
          · refine stepW_of_u ⟨rfl, fun v W ρ hC kc kf ks ki kd => ?_⟩
            have d0 : v 0 = .agg #[.int .i64 x.proto, .int .i64 x.src, .int .i64 x.sport, .int .i64 x.dst, .int .i64 x.dport, .int .i64 x.kind, .int .i64 c] := by first | exact kd _ (mem0 rfl) rfl | exact kd _ (mem1 rfl) rfl | exact kd _ (mem2 rfl) rfl | exact kd _ (mem3 rfl) rfl | exact kd _ (mem4 rfl) rfl | exact kd _ (mem5 rfl) rfl | exact kd _ (Array.mem_of_getElem? (i := 6) rfl) rfl | exact kd _ (Array.mem_of_getElem? (i := 7) rfl) rfl
            have t60 : ρ (.tmp 60) = .agg #[.int .i64 x.proto, .int .i64 x.src, .int .i64 x.sport, .int .i64 x.dst, .int .i64 x.dport, .int .i64 x.kind, .int .i64 c] := (ks 0 60 (by decide) rfl).trans d0
            have d5 : v 5 = .agg #[.int .i64 x.proto, .int .i64 x.src, .int .i64 x.sport, .int .i64 x.dst, .int .i64 x.dport, .int .i64 x.kind, .int .i64 c] := by first | exact kd _ (mem0 rfl) rfl | exact kd _ (mem1 rfl) rfl | exact kd _ (mem2 rfl) rfl | exact kd _ (mem3 rfl) rfl | exact kd _ (mem4 rfl) rfl | exact kd _ (mem5 rfl) rfl | exact kd _ (Array.mem_of_getElem? (i := 6) rfl) rfl | exact kd _ (Array.mem_of_getElem? (i := 7) rfl) rfl
            have t65 : ρ (.tmp 65) = .agg #[.int .i64 x.proto, .int .i64 x.src, .int .i64 x.sport, .int .i64 x.dst, .int .i64 x.dport, .int .i64 x.kind, .int .i64 c] := (ks 5 65 (by decide) rfl).trans d5
            have eg : Try.prog.eqGuardType Try.prog.depth 57 = false := by kernel_rfl
            have e1 := EQO.out W
            simp only [execOp, t60, t65, Sem.run_bind, run_eqGuard_agg, eg, e1, Result.andThen_ok, Sem.run_pure]
            exact ⟨hC, Below.refl _ _, rfl⟩
          · refine stepW_of_u ⟨rfl, fun v W ρ hC kc kf ks ki kd => ?_⟩
            have d6 : v 6 = .bool false := by first | exact kd _ (mem0 rfl) rfl | exact kd _ (mem1 rfl) rfl | exact kd _ (mem2 rfl) rfl | exact kd _ (mem3 rfl) rfl | exact kd _ (mem4 rfl) rfl | exact kd _ (mem5 rfl) rfl | exact kd _ (Array.mem_of_getElem? (i := 6) rfl) rfl | exact kd _ (Array.mem_of_getElem? (i := 7) rfl) rfl
            have t66 : ρ (.tmp 66) = .bool false := (ks 6 66 (by decide) rfl).trans d6
            simp [execOp, go_sem, kc, t66]
            exact ⟨hC, Below.refl _ _, rfl⟩
          · intro v W ρ y hC kc kf ks ki ky ku kd
            have dg : v 7 = .bool false := by first | exact kd _ (mem0 rfl) rfl | exact kd _ (mem1 rfl) rfl | exact kd _ (mem2 rfl) rfl | exact kd _ (mem3 rfl) rfl | exact kd _ (mem4 rfl) rfl | exact kd _ (mem5 rfl) rfl | exact kd _ (Array.mem_of_getElem? (i := 6) rfl) rfl | exact kd _ (Array.mem_of_getElem? (i := 7) rfl) rfl
            have hy := ky 7 67 false (by decide) rfl dg
            rw [if_pos (by simp [Region.wanted, hy])]
            have t10 : ρ (.tmp 10) = .slice a2 r2.length c2 := ki 10 (by decide)
            simp [execOp, go_sem, kc, t10]
            exact ⟨hC, Below.refl _ _, rfl⟩
          · intro v W ρ y hC kc kf ks ki ky ku kd
            have dg : v 7 = .bool false := by first | exact kd _ (mem0 rfl) rfl | exact kd _ (mem1 rfl) rfl | exact kd _ (mem2 rfl) rfl | exact kd _ (mem3 rfl) rfl | exact kd _ (mem4 rfl) rfl | exact kd _ (mem5 rfl) rfl | exact kd _ (Array.mem_of_getElem? (i := 6) rfl) rfl | exact kd _ (Array.mem_of_getElem? (i := 7) rfl) rfl
            have hy := ky 7 67 false (by decide) rfl dg
            rw [if_pos (by simp [Region.wanted, hy])]
            have t11 : ρ (.tmp 11) = .int .i64 k2 := ki 11 (by decide)
            simp [execOp, go_sem, kc, t11]
            exact ⟨hC, Below.refl _ _, rfl⟩
          · intro v W ρ y hC kc kf ks ki ky ku kd
            have dg : v 7 = .bool false := by first | exact kd _ (mem0 rfl) rfl | exact kd _ (mem1 rfl) rfl | exact kd _ (mem2 rfl) rfl | exact kd _ (mem3 rfl) rfl | exact kd _ (mem4 rfl) rfl | exact kd _ (mem5 rfl) rfl | exact kd _ (Array.mem_of_getElem? (i := 6) rfl) rfl | exact kd _ (Array.mem_of_getElem? (i := 7) rfl) rfl
            have hy := ky 7 67 false (by decide) rfl dg
            rw [if_pos (by simp [Region.wanted, hy])]
            have t12 : ρ (.tmp 12) = .pointer (some ⟨xU, 0, none⟩) := ki 12 (by decide)
            have hg := blk_later U10.out hC
            have c0 := blk_cell hg 0
            have c1 := blk_cell hg 1
            have c2 := blk_cell hg 2
            have c3 := blk_cell hg 3
            have c4 := blk_cell hg 4
            have c5 := blk_cell hg 5
            simp at c0 c1 c2 c3 c4 c5
            simp [execOp, go_sem, kc, t12, c0, c1, c2, c3, c4, c5]
            exact ⟨hC, Below.refl _ _, rfl⟩
          · intro v W ρ y hC kc kf ks ki ky ku kd
            have dg : v 7 = .bool false := by first | exact kd _ (mem0 rfl) rfl | exact kd _ (mem1 rfl) rfl | exact kd _ (mem2 rfl) rfl | exact kd _ (mem3 rfl) rfl | exact kd _ (mem4 rfl) rfl | exact kd _ (mem5 rfl) rfl | exact kd _ (Array.mem_of_getElem? (i := 6) rfl) rfl | exact kd _ (Array.mem_of_getElem? (i := 7) rfl) rfl
            have hy := ky 7 67 false (by decide) rfl dg
            rw [if_pos (by simp [Region.wanted, hy])]
            have d8 : v 8 = .slice a2 r2.length c2 := by first | exact kd _ (mem0 rfl) rfl | exact kd _ (mem1 rfl) rfl | exact kd _ (mem2 rfl) rfl | exact kd _ (mem3 rfl) rfl | exact kd _ (mem4 rfl) rfl | exact kd _ (mem5 rfl) rfl | exact kd _ (Array.mem_of_getElem? (i := 6) rfl) rfl | exact kd _ (Array.mem_of_getElem? (i := 7) rfl) rfl
            have t68 : ρ (.tmp 68) = .slice a2 r2.length c2 := (ks 8 68 (by decide) rfl).trans d8
            have d9 : v 9 = .int .i64 k2 := by first | exact kd _ (mem0 rfl) rfl | exact kd _ (mem1 rfl) rfl | exact kd _ (mem2 rfl) rfl | exact kd _ (mem3 rfl) rfl | exact kd _ (mem4 rfl) rfl | exact kd _ (mem5 rfl) rfl | exact kd _ (Array.mem_of_getElem? (i := 6) rfl) rfl | exact kd _ (Array.mem_of_getElem? (i := 7) rfl) rfl
            have t69 : ρ (.tmp 69) = .int .i64 k2 := (ks 9 69 (by decide) rfl).trans d9
            have d10 : v 10 = .agg #[.int .i64 u.proto, .int .i64 u.src, .int .i64 u.sport, .int .i64 u.dst, .int .i64 u.dport, .int .i64 u.kind] := by first | exact kd _ (mem0 rfl) rfl | exact kd _ (mem1 rfl) rfl | exact kd _ (mem2 rfl) rfl | exact kd _ (mem3 rfl) rfl | exact kd _ (mem4 rfl) rfl | exact kd _ (mem5 rfl) rfl | exact kd _ (Array.mem_of_getElem? (i := 6) rfl) rfl | exact kd _ (Array.mem_of_getElem? (i := 7) rfl) rfl
            have t70 : ρ (.tmp 70) = .agg #[.int .i64 u.proto, .int .i64 u.src, .int .i64 u.sport, .int .i64 u.dst, .int .i64 u.dport, .int .i64 u.kind] := (ks 10 70 (by decide) rfl).trans d10
            simp [execOp, go_sem, kc, t68, t69, t70, kf]
            exact Calls.mono (HIF.out W (RC10.out.later hC)) (fun e x h => ⟨_, h.1, hC.trans (h.2.mono hC.size), h.2, rfl⟩)
          · intro v W ρ y hC kc kf ks ki ky ku kd
            have dg : v 7 = .bool false := by first | exact kd _ (mem0 rfl) rfl | exact kd _ (mem1 rfl) rfl | exact kd _ (mem2 rfl) rfl | exact kd _ (mem3 rfl) rfl | exact kd _ (mem4 rfl) rfl | exact kd _ (mem5 rfl) rfl | exact kd _ (Array.mem_of_getElem? (i := 6) rfl) rfl | exact kd _ (Array.mem_of_getElem? (i := 7) rfl) rfl
            have hy := ky 7 67 false (by decide) rfl dg
            rw [if_pos (by simp [Region.wanted, hy])]
            have t10 : ρ (.tmp 10) = .slice a2 r2.length c2 := ki 10 (by decide)
            simp [execOp, go_sem, kc, t10]
            exact ⟨hC, Below.refl _ _, rfl⟩
          · intro v W ρ y hC kc kf ks ki ky ku kd
            have dg : v 7 = .bool false := by first | exact kd _ (mem0 rfl) rfl | exact kd _ (mem1 rfl) rfl | exact kd _ (mem2 rfl) rfl | exact kd _ (mem3 rfl) rfl | exact kd _ (mem4 rfl) rfl | exact kd _ (mem5 rfl) rfl | exact kd _ (Array.mem_of_getElem? (i := 6) rfl) rfl | exact kd _ (Array.mem_of_getElem? (i := 7) rfl) rfl
            have hy := ky 7 67 false (by decide) rfl dg
            rw [if_pos (by simp [Region.wanted, hy])]
            have t11 : ρ (.tmp 11) = .int .i64 k2 := ki 11 (by decide)
            simp [execOp, go_sem, kc, t11]
            exact ⟨hC, Below.refl _ _, rfl⟩
          · intro v W ρ y hC kc kf ks ki ky ku kd
            have dg : v 7 = .bool false := by first | exact kd _ (mem0 rfl) rfl | exact kd _ (mem1 rfl) rfl | exact kd _ (mem2 rfl) rfl | exact kd _ (mem3 rfl) rfl | exact kd _ (mem4 rfl) rfl | exact kd _ (mem5 rfl) rfl | exact kd _ (Array.mem_of_getElem? (i := 6) rfl) rfl | exact kd _ (Array.mem_of_getElem? (i := 7) rfl) rfl
            have hy := ky 7 67 false (by decide) rfl dg
            rw [if_pos (by simp [Region.wanted, hy])]
            have t12 : ρ (.tmp 12) = .pointer (some ⟨xU, 0, none⟩) := ki 12 (by decide)
            have hg := blk_later U10.out hC
            have c0 := blk_cell hg 0
            have c1 := blk_cell hg 1
            have c2 := blk_cell hg 2
            have c3 := blk_cell hg 3
            have c4 := blk_cell hg 4
            have c5 := blk_cell hg 5
            simp at c0 c1 c2 c3 c4 c5
            simp [execOp, go_sem, kc, t12, c0, c1, c2, c3, c4, c5]
            exact ⟨hC, Below.refl _ _, rfl⟩
          · intro v W ρ y hC kc kf ks ki ky ku kd
            have dg : v 7 = .bool false := by first | exact kd _ (mem0 rfl) rfl | exact kd _ (mem1 rfl) rfl | exact kd _ (mem2 rfl) rfl | exact kd _ (mem3 rfl) rfl | exact kd _ (mem4 rfl) rfl | exact kd _ (mem5 rfl) rfl | exact kd _ (Array.mem_of_getElem? (i := 6) rfl) rfl | exact kd _ (Array.mem_of_getElem? (i := 7) rfl) rfl
            have hy := ky 7 67 false (by decide) rfl dg
            rw [if_pos (by simp [Region.wanted, hy])]
            have d12 : v 12 = .slice a2 r2.length c2 := by first | exact kd _ (mem0 rfl) rfl | exact kd _ (mem1 rfl) rfl | exact kd _ (mem2 rfl) rfl | exact kd _ (mem3 rfl) rfl | exact kd _ (mem4 rfl) rfl | exact kd _ (mem5 rfl) rfl | exact kd _ (Array.mem_of_getElem? (i := 6) rfl) rfl | exact kd _ (Array.mem_of_getElem? (i := 7) rfl) rfl
            have t72 : ρ (.tmp 72) = .slice a2 r2.length c2 := (ks 12 72 (by decide) rfl).trans d12
            have d13 : v 13 = .int .i64 k2 := by first | exact kd _ (mem0 rfl) rfl | exact kd _ (mem1 rfl) rfl | exact kd _ (mem2 rfl) rfl | exact kd _ (mem3 rfl) rfl | exact kd _ (mem4 rfl) rfl | exact kd _ (mem5 rfl) rfl | exact kd _ (Array.mem_of_getElem? (i := 6) rfl) rfl | exact kd _ (Array.mem_of_getElem? (i := 7) rfl) rfl
            have t73 : ρ (.tmp 73) = .int .i64 k2 := (ks 13 73 (by decide) rfl).trans d13
            have d14 : v 14 = .agg #[.int .i64 u.proto, .int .i64 u.src, .int .i64 u.sport, .int .i64 u.dst, .int .i64 u.dport, .int .i64 u.kind] := by first | exact kd _ (mem0 rfl) rfl | exact kd _ (mem1 rfl) rfl | exact kd _ (mem2 rfl) rfl | exact kd _ (mem3 rfl) rfl | exact kd _ (mem4 rfl) rfl | exact kd _ (mem5 rfl) rfl | exact kd _ (Array.mem_of_getElem? (i := 6) rfl) rfl | exact kd _ (Array.mem_of_getElem? (i := 7) rfl) rfl
            have t74 : ρ (.tmp 74) = .agg #[.int .i64 u.proto, .int .i64 u.src, .int .i64 u.sport, .int .i64 u.dst, .int .i64 u.dport, .int .i64 u.kind] := (ks 14 74 (by decide) rfl).trans d14
            simp [execOp, go_sem, kc, t72, t73, t74, kf]
            exact Calls.mono (HSF.out W (RC10.out.later hC)) (fun e x h => ⟨_, h.1, hC.trans (h.2.mono hC.size), h.2, rfl⟩)
          · intro v W ρ y hC kc kf ks ki ky ku kd
            have dg : v 7 = .bool false := by first | exact kd _ (mem0 rfl) rfl | exact kd _ (mem1 rfl) rfl | exact kd _ (mem2 rfl) rfl | exact kd _ (mem3 rfl) rfl | exact kd _ (mem4 rfl) rfl | exact kd _ (mem5 rfl) rfl | exact kd _ (Array.mem_of_getElem? (i := 6) rfl) rfl | exact kd _ (Array.mem_of_getElem? (i := 7) rfl) rfl
            have hy := ky 7 67 false (by decide) rfl dg
            rw [if_pos (by simp [Region.wanted, hy])]
            have d11 : v 11 = .agg #[.int .i64 ra.kind, .int .i64 ra.proto, .int .i64 ra.net, .int .i64 ra.bits, .int .i64 ra.goal, .int .i64 ra.low, .int .i64 ra.high] := by first | exact kd _ (mem0 rfl) rfl | exact kd _ (mem1 rfl) rfl | exact kd _ (mem2 rfl) rfl | exact kd _ (mem3 rfl) rfl | exact kd _ (mem4 rfl) rfl | exact kd _ (mem5 rfl) rfl | exact kd _ (Array.mem_of_getElem? (i := 6) rfl) rfl | exact kd _ (Array.mem_of_getElem? (i := 7) rfl) rfl
            have t71 : ρ (.tmp 71) = .agg #[.int .i64 ra.kind, .int .i64 ra.proto, .int .i64 ra.net, .int .i64 ra.bits, .int .i64 ra.goal, .int .i64 ra.low, .int .i64 ra.high] := (ks 11 71 (by decide) rfl).trans d11
            have d15 : v 15 = .agg #[.int .i64 ra.kind, .int .i64 ra.proto, .int .i64 ra.net, .int .i64 ra.bits, .int .i64 ra.goal, .int .i64 ra.low, .int .i64 ra.high] := by first | exact kd _ (mem0 rfl) rfl | exact kd _ (mem1 rfl) rfl | exact kd _ (mem2 rfl) rfl | exact kd _ (mem3 rfl) rfl | exact kd _ (mem4 rfl) rfl | exact kd _ (mem5 rfl) rfl | exact kd _ (Array.mem_of_getElem? (i := 6) rfl) rfl | exact kd _ (Array.mem_of_getElem? (i := 7) rfl) rfl
            have t75 : ρ (.tmp 75) = .agg #[.int .i64 ra.kind, .int .i64 ra.proto, .int .i64 ra.net, .int .i64 ra.bits, .int .i64 ra.goal, .int .i64 ra.low, .int .i64 ra.high] := (ks 15 75 (by decide) rfl).trans d15
            have eg : Try.prog.eqGuardType Try.prog.depth 64 = false := by kernel_rfl
            have e1 := EQR.out W
            simp only [execOp, t71, t75, Sem.run_bind, run_eqGuard_agg, eg, e1, Result.andThen_ok, Sem.run_pure]
            exact ⟨hC, Below.refl _ _, rfl⟩
          · refine stepW_of_u ⟨rfl, fun v W ρ hC kc kf ks ki kd => ?_⟩
            have d7 : v 7 = .bool false := by first | exact kd _ (mem0 rfl) rfl | exact kd _ (mem1 rfl) rfl | exact kd _ (mem2 rfl) rfl | exact kd _ (mem3 rfl) rfl | exact kd _ (mem4 rfl) rfl | exact kd _ (mem5 rfl) rfl | exact kd _ (Array.mem_of_getElem? (i := 6) rfl) rfl | exact kd _ (Array.mem_of_getElem? (i := 7) rfl) rfl
            have t67 : ρ (.tmp 67) = .bool false := (ks 7 67 (by decide) rfl).trans d7
            have d16 : v 16 = .bool false := by first | exact kd _ (mem0 rfl) rfl | exact kd _ (mem1 rfl) rfl | exact kd _ (mem2 rfl) rfl | exact kd _ (mem3 rfl) rfl | exact kd _ (mem4 rfl) rfl | exact kd _ (mem5 rfl) rfl | exact kd _ (Array.mem_of_getElem? (i := 6) rfl) rfl | exact kd _ (Array.mem_of_getElem? (i := 7) rfl) rfl
            have t76 : ρ (.tmp 76) = .bool false := (ks 16 76 (by decide) rfl).trans d16
            simp [execOp, go_sem, kc, t67, t76]
            exact ⟨hC, Below.refl _ _, rfl⟩
          · refine stepW_of_u ⟨rfl, fun v W ρ hC kc kf ks ki kd => ?_⟩
            have d17 : v 17 = .bool false := by first | exact kd _ (mem0 rfl) rfl | exact kd _ (mem1 rfl) rfl | exact kd _ (mem2 rfl) rfl | exact kd _ (mem3 rfl) rfl | exact kd _ (mem4 rfl) rfl | exact kd _ (mem5 rfl) rfl | exact kd _ (Array.mem_of_getElem? (i := 6) rfl) rfl | exact kd _ (Array.mem_of_getElem? (i := 7) rfl) rfl
            have t77 : ρ (.tmp 77) = .bool false := (ks 17 77 (by decide) rfl).trans d17
            simp [execOp, go_sem, kc, t77]
            exact ⟨hC, Below.refl _ _, rfl⟩
          · intro v W ρ y hC kc kf ks ki ky ku kd
            have dg : v 18 = .bool false := by first | exact kd _ (mem0 rfl) rfl | exact kd _ (mem1 rfl) rfl | exact kd _ (mem2 rfl) rfl | exact kd _ (mem3 rfl) rfl | exact kd _ (mem4 rfl) rfl | exact kd _ (mem5 rfl) rfl | exact kd _ (Array.mem_of_getElem? (i := 6) rfl) rfl | exact kd _ (Array.mem_of_getElem? (i := 7) rfl) rfl
            have hy := ky 18 78 false (by decide) rfl dg
            rw [if_pos (by simp [Region.wanted, hy])]
            have t17 : ρ (.tmp 17) = .bool true := ki 17 (by decide)
            simp [execOp, go_sem, kc, t17]
            exact ⟨hC, Below.refl _ _, rfl⟩
          · intro v W ρ y hC kc kf ks ki ky ku kd
            have dg : v 18 = .bool false := by first | exact kd _ (mem0 rfl) rfl | exact kd _ (mem1 rfl) rfl | exact kd _ (mem2 rfl) rfl | exact kd _ (mem3 rfl) rfl | exact kd _ (mem4 rfl) rfl | exact kd _ (mem5 rfl) rfl | exact kd _ (Array.mem_of_getElem? (i := 6) rfl) rfl | exact kd _ (Array.mem_of_getElem? (i := 7) rfl) rfl
            have hy := ky 18 78 false (by decide) rfl dg
            rw [if_pos (by simp [Region.wanted, hy])]
            have t13 : ρ (.tmp 13) = .int .i64 n1 := ki 13 (by decide)
            simp [execOp, go_sem, kc, t13]
            exact ⟨hC, Below.refl _ _, rfl⟩
          · intro v W ρ y hC kc kf ks ki ky ku kd
            have dg : v 18 = .bool false := by first | exact kd _ (mem0 rfl) rfl | exact kd _ (mem1 rfl) rfl | exact kd _ (mem2 rfl) rfl | exact kd _ (mem3 rfl) rfl | exact kd _ (mem4 rfl) rfl | exact kd _ (mem5 rfl) rfl | exact kd _ (Array.mem_of_getElem? (i := 6) rfl) rfl | exact kd _ (Array.mem_of_getElem? (i := 7) rfl) rfl
            have hy := ky 18 78 false (by decide) rfl dg
            rw [if_pos (by simp [Region.wanted, hy])]
            have t14 : ρ (.tmp 14) = .int .i64 n2 := ki 14 (by decide)
            simp [execOp, go_sem, kc, t14]
            exact ⟨hC, Below.refl _ _, rfl⟩
          · intro v W ρ y hC kc kf ks ki ky ku kd
            have dg : v 18 = .bool false := by first | exact kd _ (mem0 rfl) rfl | exact kd _ (mem1 rfl) rfl | exact kd _ (mem2 rfl) rfl | exact kd _ (mem3 rfl) rfl | exact kd _ (mem4 rfl) rfl | exact kd _ (mem5 rfl) rfl | exact kd _ (Array.mem_of_getElem? (i := 6) rfl) rfl | exact kd _ (Array.mem_of_getElem? (i := 7) rfl) rfl
            have hy := ky 18 78 false (by decide) rfl dg
            rw [if_pos (by simp [Region.wanted, hy])]
            have t15 : ρ (.tmp 15) = .int .i64 32 := ki 15 (by decide)
            simp [execOp, go_sem, kc, t15]
            exact ⟨hC, Below.refl _ _, rfl⟩
          · intro v W ρ y hC kc kf ks ki ky ku kd
            have dg : v 18 = .bool false := by first | exact kd _ (mem0 rfl) rfl | exact kd _ (mem1 rfl) rfl | exact kd _ (mem2 rfl) rfl | exact kd _ (mem3 rfl) rfl | exact kd _ (mem4 rfl) rfl | exact kd _ (mem5 rfl) rfl | exact kd _ (Array.mem_of_getElem? (i := 6) rfl) rfl | exact kd _ (Array.mem_of_getElem? (i := 7) rfl) rfl
            have hy := ky 18 78 false (by decide) rfl dg
            rw [if_pos (by simp [Region.wanted, hy])]
            have d20 : v 20 = .int .i64 n1 := by first | exact kd _ (mem0 rfl) rfl | exact kd _ (mem1 rfl) rfl | exact kd _ (mem2 rfl) rfl | exact kd _ (mem3 rfl) rfl | exact kd _ (mem4 rfl) rfl | exact kd _ (mem5 rfl) rfl | exact kd _ (Array.mem_of_getElem? (i := 6) rfl) rfl | exact kd _ (Array.mem_of_getElem? (i := 7) rfl) rfl
            have t80 : ρ (.tmp 80) = .int .i64 n1 := (ks 20 80 (by decide) rfl).trans d20
            have d21 : v 21 = .int .i64 n2 := by first | exact kd _ (mem0 rfl) rfl | exact kd _ (mem1 rfl) rfl | exact kd _ (mem2 rfl) rfl | exact kd _ (mem3 rfl) rfl | exact kd _ (mem4 rfl) rfl | exact kd _ (mem5 rfl) rfl | exact kd _ (Array.mem_of_getElem? (i := 6) rfl) rfl | exact kd _ (Array.mem_of_getElem? (i := 7) rfl) rfl
            have t81 : ρ (.tmp 81) = .int .i64 n2 := (ks 21 81 (by decide) rfl).trans d21
            have d22 : v 22 = .int .i64 32 := by first | exact kd _ (mem0 rfl) rfl | exact kd _ (mem1 rfl) rfl | exact kd _ (mem2 rfl) rfl | exact kd _ (mem3 rfl) rfl | exact kd _ (mem4 rfl) rfl | exact kd _ (mem5 rfl) rfl | exact kd _ (Array.mem_of_getElem? (i := 6) rfl) rfl | exact kd _ (Array.mem_of_getElem? (i := 7) rfl) rfl
            have t82 : ρ (.tmp 82) = .int .i64 32 := (ks 22 82 (by decide) rfl).trans d22
            simp [execOp, go_sem, kc, t80, t81, t82, kf]
            exact Calls.mono (HSN.out W) (fun e x h => ⟨_, h.1, hC.trans (h.2.mono hC.size), h.2, rfl⟩)
          · intro v W ρ y hC kc kf ks ki ky ku kd
            have dg : v 18 = .bool false := by first | exact kd _ (mem0 rfl) rfl | exact kd _ (mem1 rfl) rfl | exact kd _ (mem2 rfl) rfl | exact kd _ (mem3 rfl) rfl | exact kd _ (mem4 rfl) rfl | exact kd _ (mem5 rfl) rfl | exact kd _ (Array.mem_of_getElem? (i := 6) rfl) rfl | exact kd _ (Array.mem_of_getElem? (i := 7) rfl) rfl
            have hy := ky 18 78 false (by decide) rfl dg
            rw [if_pos (by simp [Region.wanted, hy])]
            have d19 : v 19 = .bool true := by first | exact kd _ (mem0 rfl) rfl | exact kd _ (mem1 rfl) rfl | exact kd _ (mem2 rfl) rfl | exact kd _ (mem3 rfl) rfl | exact kd _ (mem4 rfl) rfl | exact kd _ (mem5 rfl) rfl | exact kd _ (Array.mem_of_getElem? (i := 6) rfl) rfl | exact kd _ (Array.mem_of_getElem? (i := 7) rfl) rfl
            have t79 : ρ (.tmp 79) = .bool true := (ks 19 79 (by decide) rfl).trans d19
            have d23 : v 23 = .bool true := by first | exact kd _ (mem0 rfl) rfl | exact kd _ (mem1 rfl) rfl | exact kd _ (mem2 rfl) rfl | exact kd _ (mem3 rfl) rfl | exact kd _ (mem4 rfl) rfl | exact kd _ (mem5 rfl) rfl | exact kd _ (Array.mem_of_getElem? (i := 6) rfl) rfl | exact kd _ (Array.mem_of_getElem? (i := 7) rfl) rfl
            have t83 : ρ (.tmp 83) = .bool true := (ks 23 83 (by decide) rfl).trans d23
            simp [execOp, go_sem, kc, t79, t83]
            exact ⟨hC, Below.refl _ _, rfl⟩
          · refine stepW_of_u ⟨rfl, fun v W ρ hC kc kf ks ki kd => ?_⟩
            have d18 : v 18 = .bool false := by first | exact kd _ (mem0 rfl) rfl | exact kd _ (mem1 rfl) rfl | exact kd _ (mem2 rfl) rfl | exact kd _ (mem3 rfl) rfl | exact kd _ (mem4 rfl) rfl | exact kd _ (mem5 rfl) rfl | exact kd _ (Array.mem_of_getElem? (i := 6) rfl) rfl | exact kd _ (Array.mem_of_getElem? (i := 7) rfl) rfl
            have t78 : ρ (.tmp 78) = .bool false := (ks 18 78 (by decide) rfl).trans d18
            have d24 : v 24 = .bool false := by first | exact kd _ (mem0 rfl) rfl | exact kd _ (mem1 rfl) rfl | exact kd _ (mem2 rfl) rfl | exact kd _ (mem3 rfl) rfl | exact kd _ (mem4 rfl) rfl | exact kd _ (mem5 rfl) rfl | exact kd _ (Array.mem_of_getElem? (i := 6) rfl) rfl | exact kd _ (Array.mem_of_getElem? (i := 7) rfl) rfl
            have t84 : ρ (.tmp 84) = .bool false := (ks 24 84 (by decide) rfl).trans d24
            simp [execOp, go_sem, kc, t78, t84]
            exact ⟨hC, Below.refl _ _, rfl⟩
          · refine stepW_of_u ⟨rfl, fun v W ρ hC kc kf ks ki kd => ?_⟩
            have d25 : v 25 = .bool false := by first | exact kd _ (mem0 rfl) rfl | exact kd _ (mem1 rfl) rfl | exact kd _ (mem2 rfl) rfl | exact kd _ (mem3 rfl) rfl | exact kd _ (mem4 rfl) rfl | exact kd _ (mem5 rfl) rfl | exact kd _ (Array.mem_of_getElem? (i := 6) rfl) rfl | exact kd _ (Array.mem_of_getElem? (i := 7) rfl) rfl
            have t85 : ρ (.tmp 85) = .bool false := (ks 25 85 (by decide) rfl).trans d25
            simp [execOp, go_sem, kc, t85]
            exact ⟨hC, Below.refl _ _, rfl⟩
          · intro v W ρ y hC kc kf ks ki ky ku kd
            have dg : v 26 = .bool false := by first | exact kd _ (mem0 rfl) rfl | exact kd _ (mem1 rfl) rfl | exact kd _ (mem2 rfl) rfl | exact kd _ (mem3 rfl) rfl | exact kd _ (mem4 rfl) rfl | exact kd _ (mem5 rfl) rfl | exact kd _ (Array.mem_of_getElem? (i := 6) rfl) rfl | exact kd _ (Array.mem_of_getElem? (i := 7) rfl) rfl
            have hy := ky 26 86 false (by decide) rfl dg
            rw [if_pos (by simp [Region.wanted, hy])]
            have t16 : ρ (.tmp 16) = .pointer (some ⟨xR, 0, none⟩) := ki 16 (by decide)
            have hg := blk_later R10.out hC
            have c0 := blk_cell hg 0
            have c1 := blk_cell hg 1
            have c2 := blk_cell hg 2
            have c3 := blk_cell hg 3
            have c4 := blk_cell hg 4
            have c5 := blk_cell hg 5
            have c6 := blk_cell hg 6
            simp at c0 c1 c2 c3 c4 c5 c6
            simp [execOp, go_sem, kc, t16, c0, c1, c2, c3, c4, c5, c6]
            exact ⟨hC, Below.refl _ _, rfl⟩
          · intro v W ρ y hC kc kf ks ki ky ku kd
            have dg : v 26 = .bool false := by first | exact kd _ (mem0 rfl) rfl | exact kd _ (mem1 rfl) rfl | exact kd _ (mem2 rfl) rfl | exact kd _ (mem3 rfl) rfl | exact kd _ (mem4 rfl) rfl | exact kd _ (mem5 rfl) rfl | exact kd _ (Array.mem_of_getElem? (i := 6) rfl) rfl | exact kd _ (Array.mem_of_getElem? (i := 7) rfl) rfl
            have hy := ky 26 86 false (by decide) rfl dg
            rw [if_pos (by simp [Region.wanted, hy])]
            have d27 : v 27 = .agg #[.int .i64 r.kind, .int .i64 r.proto, .int .i64 r.net, .int .i64 r.bits, .int .i64 r.goal, .int .i64 r.low, .int .i64 r.high] := by first | exact kd _ (mem0 rfl) rfl | exact kd _ (mem1 rfl) rfl | exact kd _ (mem2 rfl) rfl | exact kd _ (mem3 rfl) rfl | exact kd _ (mem4 rfl) rfl | exact kd _ (mem5 rfl) rfl | exact kd _ (Array.mem_of_getElem? (i := 6) rfl) rfl | exact kd _ (Array.mem_of_getElem? (i := 7) rfl) rfl
            have t87 : ρ (.tmp 87) = .agg #[.int .i64 r.kind, .int .i64 r.proto, .int .i64 r.net, .int .i64 r.bits, .int .i64 r.goal, .int .i64 r.low, .int .i64 r.high] := (ks 27 87 (by decide) rfl).trans d27
            simp [execOp, go_sem, kc, t87, kf]
            exact Calls.mono (HIR.out W) (fun e x h => ⟨_, h.1, hC.trans (h.2.mono hC.size), h.2, rfl⟩)
          · intro v W ρ y hC kc kf ks ki ky ku kd
            have dg : v 26 = .bool false := by first | exact kd _ (mem0 rfl) rfl | exact kd _ (mem1 rfl) rfl | exact kd _ (mem2 rfl) rfl | exact kd _ (mem3 rfl) rfl | exact kd _ (mem4 rfl) rfl | exact kd _ (mem5 rfl) rfl | exact kd _ (Array.mem_of_getElem? (i := 6) rfl) rfl | exact kd _ (Array.mem_of_getElem? (i := 7) rfl) rfl
            have hy := ky 26 86 false (by decide) rfl dg
            rw [if_pos (by simp [Region.wanted, hy])]
            have t16 : ρ (.tmp 16) = .pointer (some ⟨xR, 0, none⟩) := ki 16 (by decide)
            have hg := blk_later R10.out hC
            have c0 := blk_cell hg 0
            have c1 := blk_cell hg 1
            have c2 := blk_cell hg 2
            have c3 := blk_cell hg 3
            have c4 := blk_cell hg 4
            have c5 := blk_cell hg 5
            have c6 := blk_cell hg 6
            simp at c0 c1 c2 c3 c4 c5 c6
            simp [execOp, go_sem, kc, t16, c0, c1, c2, c3, c4, c5, c6]
            exact ⟨hC, Below.refl _ _, rfl⟩
          · intro v W ρ y hC kc kf ks ki ky ku kd
            have dg : v 26 = .bool false := by first | exact kd _ (mem0 rfl) rfl | exact kd _ (mem1 rfl) rfl | exact kd _ (mem2 rfl) rfl | exact kd _ (mem3 rfl) rfl | exact kd _ (mem4 rfl) rfl | exact kd _ (mem5 rfl) rfl | exact kd _ (Array.mem_of_getElem? (i := 6) rfl) rfl | exact kd _ (Array.mem_of_getElem? (i := 7) rfl) rfl
            have hy := ky 26 86 false (by decide) rfl dg
            rw [if_pos (by simp [Region.wanted, hy])]
            have d29 : v 29 = .agg #[.int .i64 r.kind, .int .i64 r.proto, .int .i64 r.net, .int .i64 r.bits, .int .i64 r.goal, .int .i64 r.low, .int .i64 r.high] := by first | exact kd _ (mem0 rfl) rfl | exact kd _ (mem1 rfl) rfl | exact kd _ (mem2 rfl) rfl | exact kd _ (mem3 rfl) rfl | exact kd _ (mem4 rfl) rfl | exact kd _ (mem5 rfl) rfl | exact kd _ (Array.mem_of_getElem? (i := 6) rfl) rfl | exact kd _ (Array.mem_of_getElem? (i := 7) rfl) rfl
            have t89 : ρ (.tmp 89) = .agg #[.int .i64 r.kind, .int .i64 r.proto, .int .i64 r.net, .int .i64 r.bits, .int .i64 r.goal, .int .i64 r.low, .int .i64 r.high] := (ks 29 89 (by decide) rfl).trans d29
            simp [execOp, go_sem, kc, t89, kf]
            exact Calls.mono (HSR.out W) (fun e x h => ⟨_, h.1, hC.trans (h.2.mono hC.size), h.2, rfl⟩)
          · intro v W ρ y hC kc kf ks ki ky ku kd
            have dg : v 26 = .bool false := by first | exact kd _ (mem0 rfl) rfl | exact kd _ (mem1 rfl) rfl | exact kd _ (mem2 rfl) rfl | exact kd _ (mem3 rfl) rfl | exact kd _ (mem4 rfl) rfl | exact kd _ (mem5 rfl) rfl | exact kd _ (Array.mem_of_getElem? (i := 6) rfl) rfl | exact kd _ (Array.mem_of_getElem? (i := 7) rfl) rfl
            have hy := ky 26 86 false (by decide) rfl dg
            rw [if_pos (by simp [Region.wanted, hy])]
            have d28 : v 28 = .bool rr := by first | exact kd _ (mem0 rfl) rfl | exact kd _ (mem1 rfl) rfl | exact kd _ (mem2 rfl) rfl | exact kd _ (mem3 rfl) rfl | exact kd _ (mem4 rfl) rfl | exact kd _ (mem5 rfl) rfl | exact kd _ (Array.mem_of_getElem? (i := 6) rfl) rfl | exact kd _ (Array.mem_of_getElem? (i := 7) rfl) rfl
            have t88 : ρ (.tmp 88) = .bool rr := (ks 28 88 (by decide) rfl).trans d28
            have d30 : v 30 = .bool rr := by first | exact kd _ (mem0 rfl) rfl | exact kd _ (mem1 rfl) rfl | exact kd _ (mem2 rfl) rfl | exact kd _ (mem3 rfl) rfl | exact kd _ (mem4 rfl) rfl | exact kd _ (mem5 rfl) rfl | exact kd _ (Array.mem_of_getElem? (i := 6) rfl) rfl | exact kd _ (Array.mem_of_getElem? (i := 7) rfl) rfl
            have t90 : ρ (.tmp 90) = .bool rr := (ks 30 90 (by decide) rfl).trans d30
            simp [execOp, go_sem, kc, t88, t90]
            exact ⟨hC, Below.refl _ _, rfl⟩
          · refine stepW_of_u ⟨rfl, fun v W ρ hC kc kf ks ki kd => ?_⟩
            have d26 : v 26 = .bool false := by first | exact kd _ (mem0 rfl) rfl | exact kd _ (mem1 rfl) rfl | exact kd _ (mem2 rfl) rfl | exact kd _ (mem3 rfl) rfl | exact kd _ (mem4 rfl) rfl | exact kd _ (mem5 rfl) rfl | exact kd _ (Array.mem_of_getElem? (i := 6) rfl) rfl | exact kd _ (Array.mem_of_getElem? (i := 7) rfl) rfl
            have t86 : ρ (.tmp 86) = .bool false := (ks 26 86 (by decide) rfl).trans d26
            have d31 : v 31 = .bool false := by first | exact kd _ (mem0 rfl) rfl | exact kd _ (mem1 rfl) rfl | exact kd _ (mem2 rfl) rfl | exact kd _ (mem3 rfl) rfl | exact kd _ (mem4 rfl) rfl | exact kd _ (mem5 rfl) rfl | exact kd _ (Array.mem_of_getElem? (i := 6) rfl) rfl | exact kd _ (Array.mem_of_getElem? (i := 7) rfl) rfl
            have t91 : ρ (.tmp 91) = .bool false := (ks 31 91 (by decide) rfl).trans d31
            simp [execOp, go_sem, kc, t86, t91]
            exact ⟨hC, Below.refl _ _, rfl⟩
          · refine stepW_of_u ⟨rfl, fun v W ρ hC kc kf ks ki kd => ?_⟩
            have d32 : v 32 = .bool false := by first | exact kd _ (mem0 rfl) rfl | exact kd _ (mem1 rfl) rfl | exact kd _ (mem2 rfl) rfl | exact kd _ (mem3 rfl) rfl | exact kd _ (mem4 rfl) rfl | exact kd _ (mem5 rfl) rfl | exact kd _ (Array.mem_of_getElem? (i := 6) rfl) rfl | exact kd _ (Array.mem_of_getElem? (i := 7) rfl) rfl
            have t92 : ρ (.tmp 92) = .bool false := (ks 32 92 (by decide) rfl).trans d32
            simp [execOp, go_sem, kc, t92]
            exact ⟨hC, Below.refl _ _, rfl⟩
          · intro v W ρ y hC kc kf ks ki ky ku kd
            have dg : v 33 = .bool false := by first | exact kd _ (mem0 rfl) rfl | exact kd _ (mem1 rfl) rfl | exact kd _ (mem2 rfl) rfl | exact kd _ (mem3 rfl) rfl | exact kd _ (mem4 rfl) rfl | exact kd _ (mem5 rfl) rfl | exact kd _ (Array.mem_of_getElem? (i := 6) rfl) rfl | exact kd _ (Array.mem_of_getElem? (i := 7) rfl) rfl
            have hy := ky 33 93 false (by decide) rfl dg
            rw [if_pos (by simp [Region.wanted, hy])]
            have t5 : ρ (.tmp 5) = .slice aa rs.length ca := ki 5 (by decide)
            simp [execOp, go_sem, kc, t5]
            exact ⟨hC, Below.refl _ _, rfl⟩
          · intro v W ρ y hC kc kf ks ki ky ku kd
            have dg : v 33 = .bool false := by first | exact kd _ (mem0 rfl) rfl | exact kd _ (mem1 rfl) rfl | exact kd _ (mem2 rfl) rfl | exact kd _ (mem3 rfl) rfl | exact kd _ (mem4 rfl) rfl | exact kd _ (mem5 rfl) rfl | exact kd _ (Array.mem_of_getElem? (i := 6) rfl) rfl | exact kd _ (Array.mem_of_getElem? (i := 7) rfl) rfl
            have hy := ky 33 93 false (by decide) rfl dg
            rw [if_pos (by simp [Region.wanted, hy])]
            have d34 : v 34 = .slice aa rs.length ca := by first | exact kd _ (mem0 rfl) rfl | exact kd _ (mem1 rfl) rfl | exact kd _ (mem2 rfl) rfl | exact kd _ (mem3 rfl) rfl | exact kd _ (mem4 rfl) rfl | exact kd _ (mem5 rfl) rfl | exact kd _ (Array.mem_of_getElem? (i := 6) rfl) rfl | exact kd _ (Array.mem_of_getElem? (i := 7) rfl) rfl
            have t94 : ρ (.tmp 94) = .slice aa rs.length ca := (ks 34 94 (by decide) rfl).trans d34
            simp [execOp, go_sem, kc, t94, kf]
            exact Calls.mono (HIA.out W (RA10.out.later hC)) (fun e x h => ⟨_, h.1, hC.trans (h.2.mono hC.size), h.2, rfl⟩)
          · intro v W ρ y hC kc kf ks ki ky ku kd
            have dg : v 33 = .bool false := by first | exact kd _ (mem0 rfl) rfl | exact kd _ (mem1 rfl) rfl | exact kd _ (mem2 rfl) rfl | exact kd _ (mem3 rfl) rfl | exact kd _ (mem4 rfl) rfl | exact kd _ (mem5 rfl) rfl | exact kd _ (Array.mem_of_getElem? (i := 6) rfl) rfl | exact kd _ (Array.mem_of_getElem? (i := 7) rfl) rfl
            have hy := ky 33 93 false (by decide) rfl dg
            rw [if_pos (by simp [Region.wanted, hy])]
            have t5 : ρ (.tmp 5) = .slice aa rs.length ca := ki 5 (by decide)
            simp [execOp, go_sem, kc, t5]
            exact ⟨hC, Below.refl _ _, rfl⟩
          · intro v W ρ y hC kc kf ks ki ky ku kd
            have dg : v 33 = .bool false := by first | exact kd _ (mem0 rfl) rfl | exact kd _ (mem1 rfl) rfl | exact kd _ (mem2 rfl) rfl | exact kd _ (mem3 rfl) rfl | exact kd _ (mem4 rfl) rfl | exact kd _ (mem5 rfl) rfl | exact kd _ (Array.mem_of_getElem? (i := 6) rfl) rfl | exact kd _ (Array.mem_of_getElem? (i := 7) rfl) rfl
            have hy := ky 33 93 false (by decide) rfl dg
            rw [if_pos (by simp [Region.wanted, hy])]
            have d36 : v 36 = .slice aa rs.length ca := by first | exact kd _ (mem0 rfl) rfl | exact kd _ (mem1 rfl) rfl | exact kd _ (mem2 rfl) rfl | exact kd _ (mem3 rfl) rfl | exact kd _ (mem4 rfl) rfl | exact kd _ (mem5 rfl) rfl | exact kd _ (Array.mem_of_getElem? (i := 6) rfl) rfl | exact kd _ (Array.mem_of_getElem? (i := 7) rfl) rfl
            have t96 : ρ (.tmp 96) = .slice aa rs.length ca := (ks 36 96 (by decide) rfl).trans d36
            simp [execOp, go_sem, kc, t96, kf]
            exact Calls.mono (HSA.out W (RA10.out.later hC)) (fun e x h => ⟨_, h.1, hC.trans (h.2.mono hC.size), h.2, rfl⟩)
          · intro v W ρ y hC kc kf ks ki ky ku kd
            have dg : v 33 = .bool false := by first | exact kd _ (mem0 rfl) rfl | exact kd _ (mem1 rfl) rfl | exact kd _ (mem2 rfl) rfl | exact kd _ (mem3 rfl) rfl | exact kd _ (mem4 rfl) rfl | exact kd _ (mem5 rfl) rfl | exact kd _ (Array.mem_of_getElem? (i := 6) rfl) rfl | exact kd _ (Array.mem_of_getElem? (i := 7) rfl) rfl
            have hy := ky 33 93 false (by decide) rfl dg
            rw [if_pos (by simp [Region.wanted, hy])]
            have d35 : v 35 = .bool rb := by first | exact kd _ (mem0 rfl) rfl | exact kd _ (mem1 rfl) rfl | exact kd _ (mem2 rfl) rfl | exact kd _ (mem3 rfl) rfl | exact kd _ (mem4 rfl) rfl | exact kd _ (mem5 rfl) rfl | exact kd _ (Array.mem_of_getElem? (i := 6) rfl) rfl | exact kd _ (Array.mem_of_getElem? (i := 7) rfl) rfl
            have t95 : ρ (.tmp 95) = .bool rb := (ks 35 95 (by decide) rfl).trans d35
            have d37 : v 37 = .bool rb := by first | exact kd _ (mem0 rfl) rfl | exact kd _ (mem1 rfl) rfl | exact kd _ (mem2 rfl) rfl | exact kd _ (mem3 rfl) rfl | exact kd _ (mem4 rfl) rfl | exact kd _ (mem5 rfl) rfl | exact kd _ (Array.mem_of_getElem? (i := 6) rfl) rfl | exact kd _ (Array.mem_of_getElem? (i := 7) rfl) rfl
            have t97 : ρ (.tmp 97) = .bool rb := (ks 37 97 (by decide) rfl).trans d37
            simp [execOp, go_sem, kc, t95, t97]
            exact ⟨hC, Below.refl _ _, rfl⟩
          · refine stepW_of_u ⟨rfl, fun v W ρ hC kc kf ks ki kd => ?_⟩
            have d33 : v 33 = .bool false := by first | exact kd _ (mem0 rfl) rfl | exact kd _ (mem1 rfl) rfl | exact kd _ (mem2 rfl) rfl | exact kd _ (mem3 rfl) rfl | exact kd _ (mem4 rfl) rfl | exact kd _ (mem5 rfl) rfl | exact kd _ (Array.mem_of_getElem? (i := 6) rfl) rfl | exact kd _ (Array.mem_of_getElem? (i := 7) rfl) rfl
            have t93 : ρ (.tmp 93) = .bool false := (ks 33 93 (by decide) rfl).trans d33
            have d38 : v 38 = .bool false := by first | exact kd _ (mem0 rfl) rfl | exact kd _ (mem1 rfl) rfl | exact kd _ (mem2 rfl) rfl | exact kd _ (mem3 rfl) rfl | exact kd _ (mem4 rfl) rfl | exact kd _ (mem5 rfl) rfl | exact kd _ (Array.mem_of_getElem? (i := 6) rfl) rfl | exact kd _ (Array.mem_of_getElem? (i := 7) rfl) rfl
            have t98 : ρ (.tmp 98) = .bool false := (ks 38 98 (by decide) rfl).trans d38
            simp [execOp, go_sem, kc, t93, t98]
            exact ⟨hC, Below.refl _ _, rfl⟩
          · refine stepW_of_u ⟨rfl, fun v W ρ hC kc kf ks ki kd => ?_⟩
            have d39 : v 39 = .bool false := by first | exact kd _ (mem0 rfl) rfl | exact kd _ (mem1 rfl) rfl | exact kd _ (mem2 rfl) rfl | exact kd _ (mem3 rfl) rfl | exact kd _ (mem4 rfl) rfl | exact kd _ (mem5 rfl) rfl | exact kd _ (Array.mem_of_getElem? (i := 6) rfl) rfl | exact kd _ (Array.mem_of_getElem? (i := 7) rfl) rfl
            have t99 : ρ (.tmp 99) = .bool false := (ks 39 99 (by decide) rfl).trans d39
            simp [execOp, go_sem, kc, t99]
            exact ⟨hC, Below.refl _ _, rfl⟩
          · intro v W ρ y hC kc kf ks ki ky ku kd
            have dg : v 40 = .bool false := by first | exact kd _ (mem0 rfl) rfl | exact kd _ (mem1 rfl) rfl | exact kd _ (mem2 rfl) rfl | exact kd _ (mem3 rfl) rfl | exact kd _ (mem4 rfl) rfl | exact kd _ (mem5 rfl) rfl | exact kd _ (Array.mem_of_getElem? (i := 6) rfl) rfl | exact kd _ (Array.mem_of_getElem? (i := 7) rfl) rfl
            have hy := ky 40 100 false (by decide) rfl dg
            rw [if_pos (by simp [Region.wanted, hy])]
            have t17 : ρ (.tmp 17) = .bool true := ki 17 (by decide)
            simp [execOp, go_sem, kc, t17]
            exact ⟨hC, Below.refl _ _, rfl⟩
          · intro v W ρ y hC kc kf ks ki ky ku kd
            have dg : v 40 = .bool false := by first | exact kd _ (mem0 rfl) rfl | exact kd _ (mem1 rfl) rfl | exact kd _ (mem2 rfl) rfl | exact kd _ (mem3 rfl) rfl | exact kd _ (mem4 rfl) rfl | exact kd _ (mem5 rfl) rfl | exact kd _ (Array.mem_of_getElem? (i := 6) rfl) rfl | exact kd _ (Array.mem_of_getElem? (i := 7) rfl) rfl
            have hy := ky 40 100 false (by decide) rfl dg
            rw [if_pos (by simp [Region.wanted, hy])]
            have d41 : v 41 = .bool true := by first | exact kd _ (mem0 rfl) rfl | exact kd _ (mem1 rfl) rfl | exact kd _ (mem2 rfl) rfl | exact kd _ (mem3 rfl) rfl | exact kd _ (mem4 rfl) rfl | exact kd _ (mem5 rfl) rfl | exact kd _ (Array.mem_of_getElem? (i := 6) rfl) rfl | exact kd _ (Array.mem_of_getElem? (i := 7) rfl) rfl
            have t101 : ρ (.tmp 101) = .bool true := (ks 41 101 (by decide) rfl).trans d41
            simp [execOp, go_sem, kc, t101]
            exact ⟨hC, Below.refl _ _, rfl⟩
          · intro v W ρ y hC kc kf ks ki ky ku kd
            have dg : v 42 = .bool true := by first | exact kd _ (mem0 rfl) rfl | exact kd _ (mem1 rfl) rfl | exact kd _ (mem2 rfl) rfl | exact kd _ (mem3 rfl) rfl | exact kd _ (mem4 rfl) rfl | exact kd _ (mem5 rfl) rfl | exact kd _ (Array.mem_of_getElem? (i := 6) rfl) rfl | exact kd _ (Array.mem_of_getElem? (i := 7) rfl) rfl
            have hy := ky 42 102 true (by decide) rfl dg
            rw [if_pos (by simp [Region.wanted, hy])]
            have t15 : ρ (.tmp 15) = .int .i64 32 := ki 15 (by decide)
            simp [execOp, go_sem, kc, t15]
            exact ⟨hC, Below.refl _ _, rfl⟩
          · intro v W ρ y hC kc kf ks ki ky ku kd
            have dg : v 42 = .bool true := by first | exact kd _ (mem0 rfl) rfl | exact kd _ (mem1 rfl) rfl | exact kd _ (mem2 rfl) rfl | exact kd _ (mem3 rfl) rfl | exact kd _ (mem4 rfl) rfl | exact kd _ (mem5 rfl) rfl | exact kd _ (Array.mem_of_getElem? (i := 6) rfl) rfl | exact kd _ (Array.mem_of_getElem? (i := 7) rfl) rfl
            have hy := ky 42 102 true (by decide) rfl dg
            rw [if_pos (by simp [Region.wanted, hy])]
            have d43 : v 43 = .int .i64 32 := by first | exact kd _ (mem0 rfl) rfl | exact kd _ (mem1 rfl) rfl | exact kd _ (mem2 rfl) rfl | exact kd _ (mem3 rfl) rfl | exact kd _ (mem4 rfl) rfl | exact kd _ (mem5 rfl) rfl | exact kd _ (Array.mem_of_getElem? (i := 6) rfl) rfl | exact kd _ (Array.mem_of_getElem? (i := 7) rfl) rfl
            have t103 : ρ (.tmp 103) = .int .i64 32 := (ks 43 103 (by decide) rfl).trans d43
            simp [execOp, go_sem, kc, t103]
            exact ⟨hC, Below.refl _ _, rfl⟩
          · intro v W ρ y hC kc kf ks ki ky ku kd
            have dg : v 40 = .bool false := by first | exact kd _ (mem0 rfl) rfl | exact kd _ (mem1 rfl) rfl | exact kd _ (mem2 rfl) rfl | exact kd _ (mem3 rfl) rfl | exact kd _ (mem4 rfl) rfl | exact kd _ (mem5 rfl) rfl | exact kd _ (Array.mem_of_getElem? (i := 6) rfl) rfl | exact kd _ (Array.mem_of_getElem? (i := 7) rfl) rfl
            have hy := ky 40 100 false (by decide) rfl dg
            rw [if_pos (by simp [Region.wanted, hy])]
            have d42 : v 42 = .bool true := by first | exact kd _ (mem0 rfl) rfl | exact kd _ (mem1 rfl) rfl | exact kd _ (mem2 rfl) rfl | exact kd _ (mem3 rfl) rfl | exact kd _ (mem4 rfl) rfl | exact kd _ (mem5 rfl) rfl | exact kd _ (Array.mem_of_getElem? (i := 6) rfl) rfl | exact kd _ (Array.mem_of_getElem? (i := 7) rfl) rfl
            have t102 : ρ (.tmp 102) = .bool true := (ks 42 102 (by decide) rfl).trans d42
            have d44 : v 44 = .bool true := by first | exact kd _ (mem0 rfl) rfl | exact kd _ (mem1 rfl) rfl | exact kd _ (mem2 rfl) rfl | exact kd _ (mem3 rfl) rfl | exact kd _ (mem4 rfl) rfl | exact kd _ (mem5 rfl) rfl | exact kd _ (Array.mem_of_getElem? (i := 6) rfl) rfl | exact kd _ (Array.mem_of_getElem? (i := 7) rfl) rfl
            have t104 : ρ (.tmp 104) = .bool true := (ks 44 104 (by decide) rfl).trans d44
            simp [execOp, go_sem, kc, t102, t104]
            exact ⟨hC, Below.refl _ _, rfl⟩
          · intro v W ρ y hC kc kf ks ki ky ku kd
            have dg : v 40 = .bool false := by first | exact kd _ (mem0 rfl) rfl | exact kd _ (mem1 rfl) rfl | exact kd _ (mem2 rfl) rfl | exact kd _ (mem3 rfl) rfl | exact kd _ (mem4 rfl) rfl | exact kd _ (mem5 rfl) rfl | exact kd _ (Array.mem_of_getElem? (i := 6) rfl) rfl | exact kd _ (Array.mem_of_getElem? (i := 7) rfl) rfl
            have hy := ky 40 100 false (by decide) rfl dg
            rw [if_pos (by simp [Region.wanted, hy])]
            have d45 : v 45 = .bool true := by first | exact kd _ (mem0 rfl) rfl | exact kd _ (mem1 rfl) rfl | exact kd _ (mem2 rfl) rfl | exact kd _ (mem3 rfl) rfl | exact kd _ (mem4 rfl) rfl | exact kd _ (mem5 rfl) rfl | exact kd _ (Array.mem_of_getElem? (i := 6) rfl) rfl | exact kd _ (Array.mem_of_getElem? (i := 7) rfl) rfl
            have t105 : ρ (.tmp 105) = .bool true := (ks 45 105 (by decide) rfl).trans d45
            simp [execOp, go_sem, kc, t105]
            exact ⟨hC, Below.refl _ _, rfl⟩
          · intro v W ρ y hC kc kf ks ki ky ku kd
            have dg : v 46 = .bool true := by first | exact kd _ (mem0 rfl) rfl | exact kd _ (mem1 rfl) rfl | exact kd _ (mem2 rfl) rfl | exact kd _ (mem3 rfl) rfl | exact kd _ (mem4 rfl) rfl | exact kd _ (mem5 rfl) rfl | exact kd _ (Array.mem_of_getElem? (i := 6) rfl) rfl | exact kd _ (Array.mem_of_getElem? (i := 7) rfl) rfl
            have hy := ky 46 106 true (by decide) rfl dg
            rw [if_pos (by simp [Region.wanted, hy])]
            have t13 : ρ (.tmp 13) = .int .i64 n1 := ki 13 (by decide)
            simp [execOp, go_sem, kc, t13]
            exact ⟨hC, Below.refl _ _, rfl⟩
          · intro v W ρ y hC kc kf ks ki ky ku kd
            have dg : v 46 = .bool true := by first | exact kd _ (mem0 rfl) rfl | exact kd _ (mem1 rfl) rfl | exact kd _ (mem2 rfl) rfl | exact kd _ (mem3 rfl) rfl | exact kd _ (mem4 rfl) rfl | exact kd _ (mem5 rfl) rfl | exact kd _ (Array.mem_of_getElem? (i := 6) rfl) rfl | exact kd _ (Array.mem_of_getElem? (i := 7) rfl) rfl
            have hy := ky 46 106 true (by decide) rfl dg
            rw [if_pos (by simp [Region.wanted, hy])]
            have t14 : ρ (.tmp 14) = .int .i64 n2 := ki 14 (by decide)
            simp [execOp, go_sem, kc, t14]
            exact ⟨hC, Below.refl _ _, rfl⟩
          · intro v W ρ y hC kc kf ks ki ky ku kd
            have dg : v 46 = .bool true := by first | exact kd _ (mem0 rfl) rfl | exact kd _ (mem1 rfl) rfl | exact kd _ (mem2 rfl) rfl | exact kd _ (mem3 rfl) rfl | exact kd _ (mem4 rfl) rfl | exact kd _ (mem5 rfl) rfl | exact kd _ (Array.mem_of_getElem? (i := 6) rfl) rfl | exact kd _ (Array.mem_of_getElem? (i := 7) rfl) rfl
            have hy := ky 46 106 true (by decide) rfl dg
            rw [if_pos (by simp [Region.wanted, hy])]
            have d47 : v 47 = .int .i64 n1 := by first | exact kd _ (mem0 rfl) rfl | exact kd _ (mem1 rfl) rfl | exact kd _ (mem2 rfl) rfl | exact kd _ (mem3 rfl) rfl | exact kd _ (mem4 rfl) rfl | exact kd _ (mem5 rfl) rfl | exact kd _ (Array.mem_of_getElem? (i := 6) rfl) rfl | exact kd _ (Array.mem_of_getElem? (i := 7) rfl) rfl
            have t107 : ρ (.tmp 107) = .int .i64 n1 := (ks 47 107 (by decide) rfl).trans d47
            have d48 : v 48 = .int .i64 n2 := by first | exact kd _ (mem0 rfl) rfl | exact kd _ (mem1 rfl) rfl | exact kd _ (mem2 rfl) rfl | exact kd _ (mem3 rfl) rfl | exact kd _ (mem4 rfl) rfl | exact kd _ (mem5 rfl) rfl | exact kd _ (Array.mem_of_getElem? (i := 6) rfl) rfl | exact kd _ (Array.mem_of_getElem? (i := 7) rfl) rfl
            have t108 : ρ (.tmp 108) = .int .i64 n2 := (ks 48 108 (by decide) rfl).trans d48
            simp [execOp, go_sem, kc, t107, t108, hn]
            exact ⟨hC, Below.refl _ _, rfl⟩
          · intro v W ρ y hC kc kf ks ki ky ku kd
            have dg : v 40 = .bool false := by first | exact kd _ (mem0 rfl) rfl | exact kd _ (mem1 rfl) rfl | exact kd _ (mem2 rfl) rfl | exact kd _ (mem3 rfl) rfl | exact kd _ (mem4 rfl) rfl | exact kd _ (mem5 rfl) rfl | exact kd _ (Array.mem_of_getElem? (i := 6) rfl) rfl | exact kd _ (Array.mem_of_getElem? (i := 7) rfl) rfl
            have hy := ky 40 100 false (by decide) rfl dg
            rw [if_pos (by simp [Region.wanted, hy])]
            have d46 : v 46 = .bool true := by first | exact kd _ (mem0 rfl) rfl | exact kd _ (mem1 rfl) rfl | exact kd _ (mem2 rfl) rfl | exact kd _ (mem3 rfl) rfl | exact kd _ (mem4 rfl) rfl | exact kd _ (mem5 rfl) rfl | exact kd _ (Array.mem_of_getElem? (i := 6) rfl) rfl | exact kd _ (Array.mem_of_getElem? (i := 7) rfl) rfl
            have t106 : ρ (.tmp 106) = .bool true := (ks 46 106 (by decide) rfl).trans d46
            have d49 : v 49 = .bool false := by first | exact kd _ (mem0 rfl) rfl | exact kd _ (mem1 rfl) rfl | exact kd _ (mem2 rfl) rfl | exact kd _ (mem3 rfl) rfl | exact kd _ (mem4 rfl) rfl | exact kd _ (mem5 rfl) rfl | exact kd _ (Array.mem_of_getElem? (i := 6) rfl) rfl | exact kd _ (Array.mem_of_getElem? (i := 7) rfl) rfl
            have t109 : ρ (.tmp 109) = .bool false := (ks 49 109 (by decide) rfl).trans d49
            simp [execOp, go_sem, kc, t106, t109]
            exact ⟨hC, Below.refl _ _, rfl⟩
          · refine stepW_of_u ⟨rfl, fun v W ρ hC kc kf ks ki kd => ?_⟩
            have d40 : v 40 = .bool false := by first | exact kd _ (mem0 rfl) rfl | exact kd _ (mem1 rfl) rfl | exact kd _ (mem2 rfl) rfl | exact kd _ (mem3 rfl) rfl | exact kd _ (mem4 rfl) rfl | exact kd _ (mem5 rfl) rfl | exact kd _ (Array.mem_of_getElem? (i := 6) rfl) rfl | exact kd _ (Array.mem_of_getElem? (i := 7) rfl) rfl
            have t100 : ρ (.tmp 100) = .bool false := (ks 40 100 (by decide) rfl).trans d40
            have d50 : v 50 = .bool false := by first | exact kd _ (mem0 rfl) rfl | exact kd _ (mem1 rfl) rfl | exact kd _ (mem2 rfl) rfl | exact kd _ (mem3 rfl) rfl | exact kd _ (mem4 rfl) rfl | exact kd _ (mem5 rfl) rfl | exact kd _ (Array.mem_of_getElem? (i := 6) rfl) rfl | exact kd _ (Array.mem_of_getElem? (i := 7) rfl) rfl
            have t110 : ρ (.tmp 110) = .bool false := (ks 50 110 (by decide) rfl).trans d50
            simp [execOp, go_sem, kc, t100, t110]
            exact ⟨hC, Below.refl _ _, rfl⟩
        case finB9 => exact fun v w hb hall => FIN.out v w hb (hall 51 (by decide))
      · have h3 : (n3 == 32) = false := beq_eq_false_iff_ne.2 h32
        clear h32 EN
        refine grow_guarded 52 [.is (.agg #[.int .i64 x.proto, .int .i64 x.src, .int .i64 x.sport, .int .i64 x.dst, .int .i64 x.dport, .int .i64 x.kind, .int .i64 c]), .is (.slice aa rs.length ca), .is (.agg #[.int .i64 t.proto, .int .i64 t.src, .int .i64 t.sport, .int .i64 t.dst, .int .i64 t.dport, .int .i64 t.kind]), .is (.int .i64 z), .is (.slice bb us.length cb), .is (.agg #[.int .i64 x.proto, .int .i64 x.src, .int .i64 x.sport, .int .i64 x.dst, .int .i64 x.dport, .int .i64 x.kind, .int .i64 c]), .is (.bool false), .is (.bool false), .is (.slice a2 r2.length c2), .is (.int .i64 k2), .is (.agg #[.int .i64 u.proto, .int .i64 u.src, .int .i64 u.sport, .int .i64 u.dst, .int .i64 u.dport, .int .i64 u.kind]), .is (.agg #[.int .i64 ra.kind, .int .i64 ra.proto, .int .i64 ra.net, .int .i64 ra.bits, .int .i64 ra.goal, .int .i64 ra.low, .int .i64 ra.high]), .is (.slice a2 r2.length c2), .is (.int .i64 k2), .is (.agg #[.int .i64 u.proto, .int .i64 u.src, .int .i64 u.sport, .int .i64 u.dst, .int .i64 u.dport, .int .i64 u.kind]), .is (.agg #[.int .i64 ra.kind, .int .i64 ra.proto, .int .i64 ra.net, .int .i64 ra.bits, .int .i64 ra.goal, .int .i64 ra.low, .int .i64 ra.high]), .is (.bool false), .is (.bool false), .is (.bool false), .is (.bool true), .is (.int .i64 n1), .is (.int .i64 n2), .is (.int .i64 n3), .is (.bool true), .is (.bool false), .is (.bool false), .is (.bool false), .is (.agg #[.int .i64 r.kind, .int .i64 r.proto, .int .i64 r.net, .int .i64 r.bits, .int .i64 r.goal, .int .i64 r.low, .int .i64 r.high]), .is (.bool rr), .is (.agg #[.int .i64 r.kind, .int .i64 r.proto, .int .i64 r.net, .int .i64 r.bits, .int .i64 r.goal, .int .i64 r.low, .int .i64 r.high]), .is (.bool rr), .is (.bool false), .is (.bool false), .is (.bool false), .is (.slice aa rs.length ca), .is (.bool rb), .is (.slice aa rs.length ca), .is (.bool rb), .is (.bool false), .is (.bool false), .is (.bool false), .is (.bool true), .is (.bool true), .is (.int .i64 n3), .is (.bool false), .is (.bool false), .is (.bool false), .is (undef), .is (undef), .is (undef), .is (.bool false), .is (.bool false)] rfl (by kernel_rfl) (by kernel_rfl) ?stepsC9 ?finC9
        case stepsC9 =>
          refine ⟨?_, ?_, ?_, ?_, ?_, ?_, ?_, ?_, ?_, ?_, ?_, ?_, ?_, ?_, ?_, ?_, ?_, ?_, ?_, ?_, ?_, ?_, ?_, ?_, ?_, ?_, ?_, ?_, ?_, ?_, ?_, ?_, ?_, ?_, ?_, ?_, ?_, ?_, ?_, ?_, ?_, ?_, ?_, ?_, ?_, ?_, ?_, ?_, ?_, ?_, ?_, ?_, trivial⟩
          · refine stepW_of_u ⟨rfl, fun v W ρ hC kc kf ks ki kd => ?_⟩
            have t9 : ρ (.tmp 9) = .pointer (some ⟨xY, 0, none⟩) := ki 9 (by decide)
            have hg := blk_later Y10.out hC
            have c0 := blk_cell hg 0
            have c1 := blk_cell hg 1
            have c2 := blk_cell hg 2
            have c3 := blk_cell hg 3
            have c4 := blk_cell hg 4
            have c5 := blk_cell hg 5
            have c6 := blk_cell hg 6
            simp at c0 c1 c2 c3 c4 c5 c6
            simp [execOp, go_sem, kc, t9, c0, c1, c2, c3, c4, c5, c6]
            exact ⟨hC, Below.refl _ _, rfl⟩
          · refine stepW_of_u ⟨rfl, fun v W ρ hC kc kf ks ki kd => ?_⟩
            have t5 : ρ (.tmp 5) = .slice aa rs.length ca := ki 5 (by decide)
            simp [execOp, go_sem, kc, t5]
            exact ⟨hC, Below.refl _ _, rfl⟩
          · refine stepW_of_u ⟨rfl, fun v W ρ hC kc kf ks ki kd => ?_⟩
            have t6 : ρ (.tmp 6) = .pointer (some ⟨xT, 0, none⟩) := ki 6 (by decide)
            have hg := blk_later T10.out hC
            have c0 := blk_cell hg 0
            have c1 := blk_cell hg 1
            have c2 := blk_cell hg 2
            have c3 := blk_cell hg 3
            have c4 := blk_cell hg 4
            have c5 := blk_cell hg 5
            simp at c0 c1 c2 c3 c4 c5
            simp [execOp, go_sem, kc, t6, c0, c1, c2, c3, c4, c5]
            exact ⟨hC, Below.refl _ _, rfl⟩
          · refine stepW_of_u ⟨rfl, fun v W ρ hC kc kf ks ki kd => ?_⟩
            have t7 : ρ (.tmp 7) = .int .i64 z := ki 7 (by decide)
            simp [execOp, go_sem, kc, t7]
            exact ⟨hC, Below.refl _ _, rfl⟩
          · refine stepW_of_u ⟨rfl, fun v W ρ hC kc kf ks ki kd => ?_⟩
            have t8 : ρ (.tmp 8) = .slice bb us.length cb := ki 8 (by decide)
            simp [execOp, go_sem, kc, t8]
            exact ⟨hC, Below.refl _ _, rfl⟩
          · refine stepW_of_u ⟨rfl, fun v W ρ hC kc kf ks ki kd => ?_⟩
            have d1 : v 1 = .slice aa rs.length ca := by first | exact kd _ (mem0 rfl) rfl | exact kd _ (mem1 rfl) rfl | exact kd _ (mem2 rfl) rfl | exact kd _ (mem3 rfl) rfl | exact kd _ (mem4 rfl) rfl | exact kd _ (mem5 rfl) rfl | exact kd _ (Array.mem_of_getElem? (i := 6) rfl) rfl | exact kd _ (Array.mem_of_getElem? (i := 7) rfl) rfl
            have t61 : ρ (.tmp 61) = .slice aa rs.length ca := (ks 1 61 (by decide) rfl).trans d1
            have d2 : v 2 = .agg #[.int .i64 t.proto, .int .i64 t.src, .int .i64 t.sport, .int .i64 t.dst, .int .i64 t.dport, .int .i64 t.kind] := by first | exact kd _ (mem0 rfl) rfl | exact kd _ (mem1 rfl) rfl | exact kd _ (mem2 rfl) rfl | exact kd _ (mem3 rfl) rfl | exact kd _ (mem4 rfl) rfl | exact kd _ (mem5 rfl) rfl | exact kd _ (Array.mem_of_getElem? (i := 6) rfl) rfl | exact kd _ (Array.mem_of_getElem? (i := 7) rfl) rfl
            have t62 : ρ (.tmp 62) = .agg #[.int .i64 t.proto, .int .i64 t.src, .int .i64 t.sport, .int .i64 t.dst, .int .i64 t.dport, .int .i64 t.kind] := (ks 2 62 (by decide) rfl).trans d2
            have d3 : v 3 = .int .i64 z := by first | exact kd _ (mem0 rfl) rfl | exact kd _ (mem1 rfl) rfl | exact kd _ (mem2 rfl) rfl | exact kd _ (mem3 rfl) rfl | exact kd _ (mem4 rfl) rfl | exact kd _ (mem5 rfl) rfl | exact kd _ (Array.mem_of_getElem? (i := 6) rfl) rfl | exact kd _ (Array.mem_of_getElem? (i := 7) rfl) rfl
            have t63 : ρ (.tmp 63) = .int .i64 z := (ks 3 63 (by decide) rfl).trans d3
            have d4 : v 4 = .slice bb us.length cb := by first | exact kd _ (mem0 rfl) rfl | exact kd _ (mem1 rfl) rfl | exact kd _ (mem2 rfl) rfl | exact kd _ (mem3 rfl) rfl | exact kd _ (mem4 rfl) rfl | exact kd _ (mem5 rfl) rfl | exact kd _ (Array.mem_of_getElem? (i := 6) rfl) rfl | exact kd _ (Array.mem_of_getElem? (i := 7) rfl) rfl
            have t64 : ρ (.tmp 64) = .slice bb us.length cb := (ks 4 64 (by decide) rfl).trans d4
            simp [execOp, go_sem, kc, t61, t62, t63, t64, kf]
            exact Calls.mono (HSG.out W (RA10.out.later hC) (RB10.out.later hC)) (fun e x h => ⟨_, h.1, hC.trans (h.2.mono hC.size), h.2, rfl⟩)
          · refine stepW_of_u ⟨rfl, fun v W ρ hC kc kf ks ki kd => ?_⟩
            have d0 : v 0 = .agg #[.int .i64 x.proto, .int .i64 x.src, .int .i64 x.sport, .int .i64 x.dst, .int .i64 x.dport, .int .i64 x.kind, .int .i64 c] := by first | exact kd _ (mem0 rfl) rfl | exact kd _ (mem1 rfl) rfl | exact kd _ (mem2 rfl) rfl | exact kd _ (mem3 rfl) rfl | exact kd _ (mem4 rfl) rfl | exact kd _ (mem5 rfl) rfl | exact kd _ (Array.mem_of_getElem? (i := 6) rfl) rfl | exact kd _ (Array.mem_of_getElem? (i := 7) rfl) rfl
            have t60 : ρ (.tmp 60) = .agg #[.int .i64 x.proto, .int .i64 x.src, .int .i64 x.sport, .int .i64 x.dst, .int .i64 x.dport, .int .i64 x.kind, .int .i64 c] := (ks 0 60 (by decide) rfl).trans d0
            have d5 : v 5 = .agg #[.int .i64 x.proto, .int .i64 x.src, .int .i64 x.sport, .int .i64 x.dst, .int .i64 x.dport, .int .i64 x.kind, .int .i64 c] := by first | exact kd _ (mem0 rfl) rfl | exact kd _ (mem1 rfl) rfl | exact kd _ (mem2 rfl) rfl | exact kd _ (mem3 rfl) rfl | exact kd _ (mem4 rfl) rfl | exact kd _ (mem5 rfl) rfl | exact kd _ (Array.mem_of_getElem? (i := 6) rfl) rfl | exact kd _ (Array.mem_of_getElem? (i := 7) rfl) rfl
            have t65 : ρ (.tmp 65) = .agg #[.int .i64 x.proto, .int .i64 x.src, .int .i64 x.sport, .int .i64 x.dst, .int .i64 x.dport, .int .i64 x.kind, .int .i64 c] := (ks 5 65 (by decide) rfl).trans d5
            have eg : Try.prog.eqGuardType Try.prog.depth 57 = false := by kernel_rfl
            have e1 := EQO.out W
            simp only [execOp, t60, t65, Sem.run_bind, run_eqGuard_agg, eg, e1, Result.andThen_ok, Sem.run_pure]
            exact ⟨hC, Below.refl _ _, rfl⟩
          · refine stepW_of_u ⟨rfl, fun v W ρ hC kc kf ks ki kd => ?_⟩
            have d6 : v 6 = .bool false := by first | exact kd _ (mem0 rfl) rfl | exact kd _ (mem1 rfl) rfl | exact kd _ (mem2 rfl) rfl | exact kd _ (mem3 rfl) rfl | exact kd _ (mem4 rfl) rfl | exact kd _ (mem5 rfl) rfl | exact kd _ (Array.mem_of_getElem? (i := 6) rfl) rfl | exact kd _ (Array.mem_of_getElem? (i := 7) rfl) rfl
            have t66 : ρ (.tmp 66) = .bool false := (ks 6 66 (by decide) rfl).trans d6
            simp [execOp, go_sem, kc, t66]
            exact ⟨hC, Below.refl _ _, rfl⟩
          · intro v W ρ y hC kc kf ks ki ky ku kd
            have dg : v 7 = .bool false := by first | exact kd _ (mem0 rfl) rfl | exact kd _ (mem1 rfl) rfl | exact kd _ (mem2 rfl) rfl | exact kd _ (mem3 rfl) rfl | exact kd _ (mem4 rfl) rfl | exact kd _ (mem5 rfl) rfl | exact kd _ (Array.mem_of_getElem? (i := 6) rfl) rfl | exact kd _ (Array.mem_of_getElem? (i := 7) rfl) rfl
            have hy := ky 7 67 false (by decide) rfl dg
            rw [if_pos (by simp [Region.wanted, hy])]
            have t10 : ρ (.tmp 10) = .slice a2 r2.length c2 := ki 10 (by decide)
            simp [execOp, go_sem, kc, t10]
            exact ⟨hC, Below.refl _ _, rfl⟩
          · intro v W ρ y hC kc kf ks ki ky ku kd
            have dg : v 7 = .bool false := by first | exact kd _ (mem0 rfl) rfl | exact kd _ (mem1 rfl) rfl | exact kd _ (mem2 rfl) rfl | exact kd _ (mem3 rfl) rfl | exact kd _ (mem4 rfl) rfl | exact kd _ (mem5 rfl) rfl | exact kd _ (Array.mem_of_getElem? (i := 6) rfl) rfl | exact kd _ (Array.mem_of_getElem? (i := 7) rfl) rfl
            have hy := ky 7 67 false (by decide) rfl dg
            rw [if_pos (by simp [Region.wanted, hy])]
            have t11 : ρ (.tmp 11) = .int .i64 k2 := ki 11 (by decide)
            simp [execOp, go_sem, kc, t11]
            exact ⟨hC, Below.refl _ _, rfl⟩
          · intro v W ρ y hC kc kf ks ki ky ku kd
            have dg : v 7 = .bool false := by first | exact kd _ (mem0 rfl) rfl | exact kd _ (mem1 rfl) rfl | exact kd _ (mem2 rfl) rfl | exact kd _ (mem3 rfl) rfl | exact kd _ (mem4 rfl) rfl | exact kd _ (mem5 rfl) rfl | exact kd _ (Array.mem_of_getElem? (i := 6) rfl) rfl | exact kd _ (Array.mem_of_getElem? (i := 7) rfl) rfl
            have hy := ky 7 67 false (by decide) rfl dg
            rw [if_pos (by simp [Region.wanted, hy])]
            have t12 : ρ (.tmp 12) = .pointer (some ⟨xU, 0, none⟩) := ki 12 (by decide)
            have hg := blk_later U10.out hC
            have c0 := blk_cell hg 0
            have c1 := blk_cell hg 1
            have c2 := blk_cell hg 2
            have c3 := blk_cell hg 3
            have c4 := blk_cell hg 4
            have c5 := blk_cell hg 5
            simp at c0 c1 c2 c3 c4 c5
            simp [execOp, go_sem, kc, t12, c0, c1, c2, c3, c4, c5]
            exact ⟨hC, Below.refl _ _, rfl⟩
          · intro v W ρ y hC kc kf ks ki ky ku kd
            have dg : v 7 = .bool false := by first | exact kd _ (mem0 rfl) rfl | exact kd _ (mem1 rfl) rfl | exact kd _ (mem2 rfl) rfl | exact kd _ (mem3 rfl) rfl | exact kd _ (mem4 rfl) rfl | exact kd _ (mem5 rfl) rfl | exact kd _ (Array.mem_of_getElem? (i := 6) rfl) rfl | exact kd _ (Array.mem_of_getElem? (i := 7) rfl) rfl
            have hy := ky 7 67 false (by decide) rfl dg
            rw [if_pos (by simp [Region.wanted, hy])]
            have d8 : v 8 = .slice a2 r2.length c2 := by first | exact kd _ (mem0 rfl) rfl | exact kd _ (mem1 rfl) rfl | exact kd _ (mem2 rfl) rfl | exact kd _ (mem3 rfl) rfl | exact kd _ (mem4 rfl) rfl | exact kd _ (mem5 rfl) rfl | exact kd _ (Array.mem_of_getElem? (i := 6) rfl) rfl | exact kd _ (Array.mem_of_getElem? (i := 7) rfl) rfl
            have t68 : ρ (.tmp 68) = .slice a2 r2.length c2 := (ks 8 68 (by decide) rfl).trans d8
            have d9 : v 9 = .int .i64 k2 := by first | exact kd _ (mem0 rfl) rfl | exact kd _ (mem1 rfl) rfl | exact kd _ (mem2 rfl) rfl | exact kd _ (mem3 rfl) rfl | exact kd _ (mem4 rfl) rfl | exact kd _ (mem5 rfl) rfl | exact kd _ (Array.mem_of_getElem? (i := 6) rfl) rfl | exact kd _ (Array.mem_of_getElem? (i := 7) rfl) rfl
            have t69 : ρ (.tmp 69) = .int .i64 k2 := (ks 9 69 (by decide) rfl).trans d9
            have d10 : v 10 = .agg #[.int .i64 u.proto, .int .i64 u.src, .int .i64 u.sport, .int .i64 u.dst, .int .i64 u.dport, .int .i64 u.kind] := by first | exact kd _ (mem0 rfl) rfl | exact kd _ (mem1 rfl) rfl | exact kd _ (mem2 rfl) rfl | exact kd _ (mem3 rfl) rfl | exact kd _ (mem4 rfl) rfl | exact kd _ (mem5 rfl) rfl | exact kd _ (Array.mem_of_getElem? (i := 6) rfl) rfl | exact kd _ (Array.mem_of_getElem? (i := 7) rfl) rfl
            have t70 : ρ (.tmp 70) = .agg #[.int .i64 u.proto, .int .i64 u.src, .int .i64 u.sport, .int .i64 u.dst, .int .i64 u.dport, .int .i64 u.kind] := (ks 10 70 (by decide) rfl).trans d10
            simp [execOp, go_sem, kc, t68, t69, t70, kf]
            exact Calls.mono (HIF.out W (RC10.out.later hC)) (fun e x h => ⟨_, h.1, hC.trans (h.2.mono hC.size), h.2, rfl⟩)
          · intro v W ρ y hC kc kf ks ki ky ku kd
            have dg : v 7 = .bool false := by first | exact kd _ (mem0 rfl) rfl | exact kd _ (mem1 rfl) rfl | exact kd _ (mem2 rfl) rfl | exact kd _ (mem3 rfl) rfl | exact kd _ (mem4 rfl) rfl | exact kd _ (mem5 rfl) rfl | exact kd _ (Array.mem_of_getElem? (i := 6) rfl) rfl | exact kd _ (Array.mem_of_getElem? (i := 7) rfl) rfl
            have hy := ky 7 67 false (by decide) rfl dg
            rw [if_pos (by simp [Region.wanted, hy])]
            have t10 : ρ (.tmp 10) = .slice a2 r2.length c2 := ki 10 (by decide)
            simp [execOp, go_sem, kc, t10]
            exact ⟨hC, Below.refl _ _, rfl⟩
          · intro v W ρ y hC kc kf ks ki ky ku kd
            have dg : v 7 = .bool false := by first | exact kd _ (mem0 rfl) rfl | exact kd _ (mem1 rfl) rfl | exact kd _ (mem2 rfl) rfl | exact kd _ (mem3 rfl) rfl | exact kd _ (mem4 rfl) rfl | exact kd _ (mem5 rfl) rfl | exact kd _ (Array.mem_of_getElem? (i := 6) rfl) rfl | exact kd _ (Array.mem_of_getElem? (i := 7) rfl) rfl
            have hy := ky 7 67 false (by decide) rfl dg
            rw [if_pos (by simp [Region.wanted, hy])]
            have t11 : ρ (.tmp 11) = .int .i64 k2 := ki 11 (by decide)
            simp [execOp, go_sem, kc, t11]
            exact ⟨hC, Below.refl _ _, rfl⟩
          · intro v W ρ y hC kc kf ks ki ky ku kd
            have dg : v 7 = .bool false := by first | exact kd _ (mem0 rfl) rfl | exact kd _ (mem1 rfl) rfl | exact kd _ (mem2 rfl) rfl | exact kd _ (mem3 rfl) rfl | exact kd _ (mem4 rfl) rfl | exact kd _ (mem5 rfl) rfl | exact kd _ (Array.mem_of_getElem? (i := 6) rfl) rfl | exact kd _ (Array.mem_of_getElem? (i := 7) rfl) rfl
            have hy := ky 7 67 false (by decide) rfl dg
            rw [if_pos (by simp [Region.wanted, hy])]
            have t12 : ρ (.tmp 12) = .pointer (some ⟨xU, 0, none⟩) := ki 12 (by decide)
            have hg := blk_later U10.out hC
            have c0 := blk_cell hg 0
            have c1 := blk_cell hg 1
            have c2 := blk_cell hg 2
            have c3 := blk_cell hg 3
            have c4 := blk_cell hg 4
            have c5 := blk_cell hg 5
            simp at c0 c1 c2 c3 c4 c5
            simp [execOp, go_sem, kc, t12, c0, c1, c2, c3, c4, c5]
            exact ⟨hC, Below.refl _ _, rfl⟩
          · intro v W ρ y hC kc kf ks ki ky ku kd
            have dg : v 7 = .bool false := by first | exact kd _ (mem0 rfl) rfl | exact kd _ (mem1 rfl) rfl | exact kd _ (mem2 rfl) rfl | exact kd _ (mem3 rfl) rfl | exact kd _ (mem4 rfl) rfl | exact kd _ (mem5 rfl) rfl | exact kd _ (Array.mem_of_getElem? (i := 6) rfl) rfl | exact kd _ (Array.mem_of_getElem? (i := 7) rfl) rfl
            have hy := ky 7 67 false (by decide) rfl dg
            rw [if_pos (by simp [Region.wanted, hy])]
            have d12 : v 12 = .slice a2 r2.length c2 := by first | exact kd _ (mem0 rfl) rfl | exact kd _ (mem1 rfl) rfl | exact kd _ (mem2 rfl) rfl | exact kd _ (mem3 rfl) rfl | exact kd _ (mem4 rfl) rfl | exact kd _ (mem5 rfl) rfl | exact kd _ (Array.mem_of_getElem? (i := 6) rfl) rfl | exact kd _ (Array.mem_of_getElem? (i := 7) rfl) rfl
            have t72 : ρ (.tmp 72) = .slice a2 r2.length c2 := (ks 12 72 (by decide) rfl).trans d12
            have d13 : v 13 = .int .i64 k2 := by first | exact kd _ (mem0 rfl) rfl | exact kd _ (mem1 rfl) rfl | exact kd _ (mem2 rfl) rfl | exact kd _ (mem3 rfl) rfl | exact kd _ (mem4 rfl) rfl | exact kd _ (mem5 rfl) rfl | exact kd _ (Array.mem_of_getElem? (i := 6) rfl) rfl | exact kd _ (Array.mem_of_getElem? (i := 7) rfl) rfl
            have t73 : ρ (.tmp 73) = .int .i64 k2 := (ks 13 73 (by decide) rfl).trans d13
            have d14 : v 14 = .agg #[.int .i64 u.proto, .int .i64 u.src, .int .i64 u.sport, .int .i64 u.dst, .int .i64 u.dport, .int .i64 u.kind] := by first | exact kd _ (mem0 rfl) rfl | exact kd _ (mem1 rfl) rfl | exact kd _ (mem2 rfl) rfl | exact kd _ (mem3 rfl) rfl | exact kd _ (mem4 rfl) rfl | exact kd _ (mem5 rfl) rfl | exact kd _ (Array.mem_of_getElem? (i := 6) rfl) rfl | exact kd _ (Array.mem_of_getElem? (i := 7) rfl) rfl
            have t74 : ρ (.tmp 74) = .agg #[.int .i64 u.proto, .int .i64 u.src, .int .i64 u.sport, .int .i64 u.dst, .int .i64 u.dport, .int .i64 u.kind] := (ks 14 74 (by decide) rfl).trans d14
            simp [execOp, go_sem, kc, t72, t73, t74, kf]
            exact Calls.mono (HSF.out W (RC10.out.later hC)) (fun e x h => ⟨_, h.1, hC.trans (h.2.mono hC.size), h.2, rfl⟩)
          · intro v W ρ y hC kc kf ks ki ky ku kd
            have dg : v 7 = .bool false := by first | exact kd _ (mem0 rfl) rfl | exact kd _ (mem1 rfl) rfl | exact kd _ (mem2 rfl) rfl | exact kd _ (mem3 rfl) rfl | exact kd _ (mem4 rfl) rfl | exact kd _ (mem5 rfl) rfl | exact kd _ (Array.mem_of_getElem? (i := 6) rfl) rfl | exact kd _ (Array.mem_of_getElem? (i := 7) rfl) rfl
            have hy := ky 7 67 false (by decide) rfl dg
            rw [if_pos (by simp [Region.wanted, hy])]
            have d11 : v 11 = .agg #[.int .i64 ra.kind, .int .i64 ra.proto, .int .i64 ra.net, .int .i64 ra.bits, .int .i64 ra.goal, .int .i64 ra.low, .int .i64 ra.high] := by first | exact kd _ (mem0 rfl) rfl | exact kd _ (mem1 rfl) rfl | exact kd _ (mem2 rfl) rfl | exact kd _ (mem3 rfl) rfl | exact kd _ (mem4 rfl) rfl | exact kd _ (mem5 rfl) rfl | exact kd _ (Array.mem_of_getElem? (i := 6) rfl) rfl | exact kd _ (Array.mem_of_getElem? (i := 7) rfl) rfl
            have t71 : ρ (.tmp 71) = .agg #[.int .i64 ra.kind, .int .i64 ra.proto, .int .i64 ra.net, .int .i64 ra.bits, .int .i64 ra.goal, .int .i64 ra.low, .int .i64 ra.high] := (ks 11 71 (by decide) rfl).trans d11
            have d15 : v 15 = .agg #[.int .i64 ra.kind, .int .i64 ra.proto, .int .i64 ra.net, .int .i64 ra.bits, .int .i64 ra.goal, .int .i64 ra.low, .int .i64 ra.high] := by first | exact kd _ (mem0 rfl) rfl | exact kd _ (mem1 rfl) rfl | exact kd _ (mem2 rfl) rfl | exact kd _ (mem3 rfl) rfl | exact kd _ (mem4 rfl) rfl | exact kd _ (mem5 rfl) rfl | exact kd _ (Array.mem_of_getElem? (i := 6) rfl) rfl | exact kd _ (Array.mem_of_getElem? (i := 7) rfl) rfl
            have t75 : ρ (.tmp 75) = .agg #[.int .i64 ra.kind, .int .i64 ra.proto, .int .i64 ra.net, .int .i64 ra.bits, .int .i64 ra.goal, .int .i64 ra.low, .int .i64 ra.high] := (ks 15 75 (by decide) rfl).trans d15
            have eg : Try.prog.eqGuardType Try.prog.depth 64 = false := by kernel_rfl
            have e1 := EQR.out W
            simp only [execOp, t71, t75, Sem.run_bind, run_eqGuard_agg, eg, e1, Result.andThen_ok, Sem.run_pure]
            exact ⟨hC, Below.refl _ _, rfl⟩
          · refine stepW_of_u ⟨rfl, fun v W ρ hC kc kf ks ki kd => ?_⟩
            have d7 : v 7 = .bool false := by first | exact kd _ (mem0 rfl) rfl | exact kd _ (mem1 rfl) rfl | exact kd _ (mem2 rfl) rfl | exact kd _ (mem3 rfl) rfl | exact kd _ (mem4 rfl) rfl | exact kd _ (mem5 rfl) rfl | exact kd _ (Array.mem_of_getElem? (i := 6) rfl) rfl | exact kd _ (Array.mem_of_getElem? (i := 7) rfl) rfl
            have t67 : ρ (.tmp 67) = .bool false := (ks 7 67 (by decide) rfl).trans d7
            have d16 : v 16 = .bool false := by first | exact kd _ (mem0 rfl) rfl | exact kd _ (mem1 rfl) rfl | exact kd _ (mem2 rfl) rfl | exact kd _ (mem3 rfl) rfl | exact kd _ (mem4 rfl) rfl | exact kd _ (mem5 rfl) rfl | exact kd _ (Array.mem_of_getElem? (i := 6) rfl) rfl | exact kd _ (Array.mem_of_getElem? (i := 7) rfl) rfl
            have t76 : ρ (.tmp 76) = .bool false := (ks 16 76 (by decide) rfl).trans d16
            simp [execOp, go_sem, kc, t67, t76]
            exact ⟨hC, Below.refl _ _, rfl⟩
          · refine stepW_of_u ⟨rfl, fun v W ρ hC kc kf ks ki kd => ?_⟩
            have d17 : v 17 = .bool false := by first | exact kd _ (mem0 rfl) rfl | exact kd _ (mem1 rfl) rfl | exact kd _ (mem2 rfl) rfl | exact kd _ (mem3 rfl) rfl | exact kd _ (mem4 rfl) rfl | exact kd _ (mem5 rfl) rfl | exact kd _ (Array.mem_of_getElem? (i := 6) rfl) rfl | exact kd _ (Array.mem_of_getElem? (i := 7) rfl) rfl
            have t77 : ρ (.tmp 77) = .bool false := (ks 17 77 (by decide) rfl).trans d17
            simp [execOp, go_sem, kc, t77]
            exact ⟨hC, Below.refl _ _, rfl⟩
          · intro v W ρ y hC kc kf ks ki ky ku kd
            have dg : v 18 = .bool false := by first | exact kd _ (mem0 rfl) rfl | exact kd _ (mem1 rfl) rfl | exact kd _ (mem2 rfl) rfl | exact kd _ (mem3 rfl) rfl | exact kd _ (mem4 rfl) rfl | exact kd _ (mem5 rfl) rfl | exact kd _ (Array.mem_of_getElem? (i := 6) rfl) rfl | exact kd _ (Array.mem_of_getElem? (i := 7) rfl) rfl
            have hy := ky 18 78 false (by decide) rfl dg
            rw [if_pos (by simp [Region.wanted, hy])]
            have t17 : ρ (.tmp 17) = .bool true := ki 17 (by decide)
            simp [execOp, go_sem, kc, t17]
            exact ⟨hC, Below.refl _ _, rfl⟩
          · intro v W ρ y hC kc kf ks ki ky ku kd
            have dg : v 18 = .bool false := by first | exact kd _ (mem0 rfl) rfl | exact kd _ (mem1 rfl) rfl | exact kd _ (mem2 rfl) rfl | exact kd _ (mem3 rfl) rfl | exact kd _ (mem4 rfl) rfl | exact kd _ (mem5 rfl) rfl | exact kd _ (Array.mem_of_getElem? (i := 6) rfl) rfl | exact kd _ (Array.mem_of_getElem? (i := 7) rfl) rfl
            have hy := ky 18 78 false (by decide) rfl dg
            rw [if_pos (by simp [Region.wanted, hy])]
            have t13 : ρ (.tmp 13) = .int .i64 n1 := ki 13 (by decide)
            simp [execOp, go_sem, kc, t13]
            exact ⟨hC, Below.refl _ _, rfl⟩
          · intro v W ρ y hC kc kf ks ki ky ku kd
            have dg : v 18 = .bool false := by first | exact kd _ (mem0 rfl) rfl | exact kd _ (mem1 rfl) rfl | exact kd _ (mem2 rfl) rfl | exact kd _ (mem3 rfl) rfl | exact kd _ (mem4 rfl) rfl | exact kd _ (mem5 rfl) rfl | exact kd _ (Array.mem_of_getElem? (i := 6) rfl) rfl | exact kd _ (Array.mem_of_getElem? (i := 7) rfl) rfl
            have hy := ky 18 78 false (by decide) rfl dg
            rw [if_pos (by simp [Region.wanted, hy])]
            have t14 : ρ (.tmp 14) = .int .i64 n2 := ki 14 (by decide)
            simp [execOp, go_sem, kc, t14]
            exact ⟨hC, Below.refl _ _, rfl⟩
          · intro v W ρ y hC kc kf ks ki ky ku kd
            have dg : v 18 = .bool false := by first | exact kd _ (mem0 rfl) rfl | exact kd _ (mem1 rfl) rfl | exact kd _ (mem2 rfl) rfl | exact kd _ (mem3 rfl) rfl | exact kd _ (mem4 rfl) rfl | exact kd _ (mem5 rfl) rfl | exact kd _ (Array.mem_of_getElem? (i := 6) rfl) rfl | exact kd _ (Array.mem_of_getElem? (i := 7) rfl) rfl
            have hy := ky 18 78 false (by decide) rfl dg
            rw [if_pos (by simp [Region.wanted, hy])]
            have t15 : ρ (.tmp 15) = .int .i64 n3 := ki 15 (by decide)
            simp [execOp, go_sem, kc, t15]
            exact ⟨hC, Below.refl _ _, rfl⟩
          · intro v W ρ y hC kc kf ks ki ky ku kd
            have dg : v 18 = .bool false := by first | exact kd _ (mem0 rfl) rfl | exact kd _ (mem1 rfl) rfl | exact kd _ (mem2 rfl) rfl | exact kd _ (mem3 rfl) rfl | exact kd _ (mem4 rfl) rfl | exact kd _ (mem5 rfl) rfl | exact kd _ (Array.mem_of_getElem? (i := 6) rfl) rfl | exact kd _ (Array.mem_of_getElem? (i := 7) rfl) rfl
            have hy := ky 18 78 false (by decide) rfl dg
            rw [if_pos (by simp [Region.wanted, hy])]
            have d20 : v 20 = .int .i64 n1 := by first | exact kd _ (mem0 rfl) rfl | exact kd _ (mem1 rfl) rfl | exact kd _ (mem2 rfl) rfl | exact kd _ (mem3 rfl) rfl | exact kd _ (mem4 rfl) rfl | exact kd _ (mem5 rfl) rfl | exact kd _ (Array.mem_of_getElem? (i := 6) rfl) rfl | exact kd _ (Array.mem_of_getElem? (i := 7) rfl) rfl
            have t80 : ρ (.tmp 80) = .int .i64 n1 := (ks 20 80 (by decide) rfl).trans d20
            have d21 : v 21 = .int .i64 n2 := by first | exact kd _ (mem0 rfl) rfl | exact kd _ (mem1 rfl) rfl | exact kd _ (mem2 rfl) rfl | exact kd _ (mem3 rfl) rfl | exact kd _ (mem4 rfl) rfl | exact kd _ (mem5 rfl) rfl | exact kd _ (Array.mem_of_getElem? (i := 6) rfl) rfl | exact kd _ (Array.mem_of_getElem? (i := 7) rfl) rfl
            have t81 : ρ (.tmp 81) = .int .i64 n2 := (ks 21 81 (by decide) rfl).trans d21
            have d22 : v 22 = .int .i64 n3 := by first | exact kd _ (mem0 rfl) rfl | exact kd _ (mem1 rfl) rfl | exact kd _ (mem2 rfl) rfl | exact kd _ (mem3 rfl) rfl | exact kd _ (mem4 rfl) rfl | exact kd _ (mem5 rfl) rfl | exact kd _ (Array.mem_of_getElem? (i := 6) rfl) rfl | exact kd _ (Array.mem_of_getElem? (i := 7) rfl) rfl
            have t82 : ρ (.tmp 82) = .int .i64 n3 := (ks 22 82 (by decide) rfl).trans d22
            simp [execOp, go_sem, kc, t80, t81, t82, kf]
            exact Calls.mono (HSN.out W) (fun e x h => ⟨_, h.1, hC.trans (h.2.mono hC.size), h.2, rfl⟩)
          · intro v W ρ y hC kc kf ks ki ky ku kd
            have dg : v 18 = .bool false := by first | exact kd _ (mem0 rfl) rfl | exact kd _ (mem1 rfl) rfl | exact kd _ (mem2 rfl) rfl | exact kd _ (mem3 rfl) rfl | exact kd _ (mem4 rfl) rfl | exact kd _ (mem5 rfl) rfl | exact kd _ (Array.mem_of_getElem? (i := 6) rfl) rfl | exact kd _ (Array.mem_of_getElem? (i := 7) rfl) rfl
            have hy := ky 18 78 false (by decide) rfl dg
            rw [if_pos (by simp [Region.wanted, hy])]
            have d19 : v 19 = .bool true := by first | exact kd _ (mem0 rfl) rfl | exact kd _ (mem1 rfl) rfl | exact kd _ (mem2 rfl) rfl | exact kd _ (mem3 rfl) rfl | exact kd _ (mem4 rfl) rfl | exact kd _ (mem5 rfl) rfl | exact kd _ (Array.mem_of_getElem? (i := 6) rfl) rfl | exact kd _ (Array.mem_of_getElem? (i := 7) rfl) rfl
            have t79 : ρ (.tmp 79) = .bool true := (ks 19 79 (by decide) rfl).trans d19
            have d23 : v 23 = .bool true := by first | exact kd _ (mem0 rfl) rfl | exact kd _ (mem1 rfl) rfl | exact kd _ (mem2 rfl) rfl | exact kd _ (mem3 rfl) rfl | exact kd _ (mem4 rfl) rfl | exact kd _ (mem5 rfl) rfl | exact kd _ (Array.mem_of_getElem? (i := 6) rfl) rfl | exact kd _ (Array.mem_of_getElem? (i := 7) rfl) rfl
            have t83 : ρ (.tmp 83) = .bool true := (ks 23 83 (by decide) rfl).trans d23
            simp [execOp, go_sem, kc, t79, t83]
            exact ⟨hC, Below.refl _ _, rfl⟩
          · refine stepW_of_u ⟨rfl, fun v W ρ hC kc kf ks ki kd => ?_⟩
            have d18 : v 18 = .bool false := by first | exact kd _ (mem0 rfl) rfl | exact kd _ (mem1 rfl) rfl | exact kd _ (mem2 rfl) rfl | exact kd _ (mem3 rfl) rfl | exact kd _ (mem4 rfl) rfl | exact kd _ (mem5 rfl) rfl | exact kd _ (Array.mem_of_getElem? (i := 6) rfl) rfl | exact kd _ (Array.mem_of_getElem? (i := 7) rfl) rfl
            have t78 : ρ (.tmp 78) = .bool false := (ks 18 78 (by decide) rfl).trans d18
            have d24 : v 24 = .bool false := by first | exact kd _ (mem0 rfl) rfl | exact kd _ (mem1 rfl) rfl | exact kd _ (mem2 rfl) rfl | exact kd _ (mem3 rfl) rfl | exact kd _ (mem4 rfl) rfl | exact kd _ (mem5 rfl) rfl | exact kd _ (Array.mem_of_getElem? (i := 6) rfl) rfl | exact kd _ (Array.mem_of_getElem? (i := 7) rfl) rfl
            have t84 : ρ (.tmp 84) = .bool false := (ks 24 84 (by decide) rfl).trans d24
            simp [execOp, go_sem, kc, t78, t84]
            exact ⟨hC, Below.refl _ _, rfl⟩
          · refine stepW_of_u ⟨rfl, fun v W ρ hC kc kf ks ki kd => ?_⟩
            have d25 : v 25 = .bool false := by first | exact kd _ (mem0 rfl) rfl | exact kd _ (mem1 rfl) rfl | exact kd _ (mem2 rfl) rfl | exact kd _ (mem3 rfl) rfl | exact kd _ (mem4 rfl) rfl | exact kd _ (mem5 rfl) rfl | exact kd _ (Array.mem_of_getElem? (i := 6) rfl) rfl | exact kd _ (Array.mem_of_getElem? (i := 7) rfl) rfl
            have t85 : ρ (.tmp 85) = .bool false := (ks 25 85 (by decide) rfl).trans d25
            simp [execOp, go_sem, kc, t85]
            exact ⟨hC, Below.refl _ _, rfl⟩
          · intro v W ρ y hC kc kf ks ki ky ku kd
            have dg : v 26 = .bool false := by first | exact kd _ (mem0 rfl) rfl | exact kd _ (mem1 rfl) rfl | exact kd _ (mem2 rfl) rfl | exact kd _ (mem3 rfl) rfl | exact kd _ (mem4 rfl) rfl | exact kd _ (mem5 rfl) rfl | exact kd _ (Array.mem_of_getElem? (i := 6) rfl) rfl | exact kd _ (Array.mem_of_getElem? (i := 7) rfl) rfl
            have hy := ky 26 86 false (by decide) rfl dg
            rw [if_pos (by simp [Region.wanted, hy])]
            have t16 : ρ (.tmp 16) = .pointer (some ⟨xR, 0, none⟩) := ki 16 (by decide)
            have hg := blk_later R10.out hC
            have c0 := blk_cell hg 0
            have c1 := blk_cell hg 1
            have c2 := blk_cell hg 2
            have c3 := blk_cell hg 3
            have c4 := blk_cell hg 4
            have c5 := blk_cell hg 5
            have c6 := blk_cell hg 6
            simp at c0 c1 c2 c3 c4 c5 c6
            simp [execOp, go_sem, kc, t16, c0, c1, c2, c3, c4, c5, c6]
            exact ⟨hC, Below.refl _ _, rfl⟩
          · intro v W ρ y hC kc kf ks ki ky ku kd
            have dg : v 26 = .bool false := by first | exact kd _ (mem0 rfl) rfl | exact kd _ (mem1 rfl) rfl | exact kd _ (mem2 rfl) rfl | exact kd _ (mem3 rfl) rfl | exact kd _ (mem4 rfl) rfl | exact kd _ (mem5 rfl) rfl | exact kd _ (Array.mem_of_getElem? (i := 6) rfl) rfl | exact kd _ (Array.mem_of_getElem? (i := 7) rfl) rfl
            have hy := ky 26 86 false (by decide) rfl dg
            rw [if_pos (by simp [Region.wanted, hy])]
            have d27 : v 27 = .agg #[.int .i64 r.kind, .int .i64 r.proto, .int .i64 r.net, .int .i64 r.bits, .int .i64 r.goal, .int .i64 r.low, .int .i64 r.high] := by first | exact kd _ (mem0 rfl) rfl | exact kd _ (mem1 rfl) rfl | exact kd _ (mem2 rfl) rfl | exact kd _ (mem3 rfl) rfl | exact kd _ (mem4 rfl) rfl | exact kd _ (mem5 rfl) rfl | exact kd _ (Array.mem_of_getElem? (i := 6) rfl) rfl | exact kd _ (Array.mem_of_getElem? (i := 7) rfl) rfl
            have t87 : ρ (.tmp 87) = .agg #[.int .i64 r.kind, .int .i64 r.proto, .int .i64 r.net, .int .i64 r.bits, .int .i64 r.goal, .int .i64 r.low, .int .i64 r.high] := (ks 27 87 (by decide) rfl).trans d27
            simp [execOp, go_sem, kc, t87, kf]
            exact Calls.mono (HIR.out W) (fun e x h => ⟨_, h.1, hC.trans (h.2.mono hC.size), h.2, rfl⟩)
          · intro v W ρ y hC kc kf ks ki ky ku kd
            have dg : v 26 = .bool false := by first | exact kd _ (mem0 rfl) rfl | exact kd _ (mem1 rfl) rfl | exact kd _ (mem2 rfl) rfl | exact kd _ (mem3 rfl) rfl | exact kd _ (mem4 rfl) rfl | exact kd _ (mem5 rfl) rfl | exact kd _ (Array.mem_of_getElem? (i := 6) rfl) rfl | exact kd _ (Array.mem_of_getElem? (i := 7) rfl) rfl
            have hy := ky 26 86 false (by decide) rfl dg
            rw [if_pos (by simp [Region.wanted, hy])]
            have t16 : ρ (.tmp 16) = .pointer (some ⟨xR, 0, none⟩) := ki 16 (by decide)
            have hg := blk_later R10.out hC
            have c0 := blk_cell hg 0
            have c1 := blk_cell hg 1
            have c2 := blk_cell hg 2
            have c3 := blk_cell hg 3
            have c4 := blk_cell hg 4
            have c5 := blk_cell hg 5
            have c6 := blk_cell hg 6
            simp at c0 c1 c2 c3 c4 c5 c6
            simp [execOp, go_sem, kc, t16, c0, c1, c2, c3, c4, c5, c6]
            exact ⟨hC, Below.refl _ _, rfl⟩
          · intro v W ρ y hC kc kf ks ki ky ku kd
            have dg : v 26 = .bool false := by first | exact kd _ (mem0 rfl) rfl | exact kd _ (mem1 rfl) rfl | exact kd _ (mem2 rfl) rfl | exact kd _ (mem3 rfl) rfl | exact kd _ (mem4 rfl) rfl | exact kd _ (mem5 rfl) rfl | exact kd _ (Array.mem_of_getElem? (i := 6) rfl) rfl | exact kd _ (Array.mem_of_getElem? (i := 7) rfl) rfl
            have hy := ky 26 86 false (by decide) rfl dg
            rw [if_pos (by simp [Region.wanted, hy])]
            have d29 : v 29 = .agg #[.int .i64 r.kind, .int .i64 r.proto, .int .i64 r.net, .int .i64 r.bits, .int .i64 r.goal, .int .i64 r.low, .int .i64 r.high] := by first | exact kd _ (mem0 rfl) rfl | exact kd _ (mem1 rfl) rfl | exact kd _ (mem2 rfl) rfl | exact kd _ (mem3 rfl) rfl | exact kd _ (mem4 rfl) rfl | exact kd _ (mem5 rfl) rfl | exact kd _ (Array.mem_of_getElem? (i := 6) rfl) rfl | exact kd _ (Array.mem_of_getElem? (i := 7) rfl) rfl
            have t89 : ρ (.tmp 89) = .agg #[.int .i64 r.kind, .int .i64 r.proto, .int .i64 r.net, .int .i64 r.bits, .int .i64 r.goal, .int .i64 r.low, .int .i64 r.high] := (ks 29 89 (by decide) rfl).trans d29
            simp [execOp, go_sem, kc, t89, kf]
            exact Calls.mono (HSR.out W) (fun e x h => ⟨_, h.1, hC.trans (h.2.mono hC.size), h.2, rfl⟩)
          · intro v W ρ y hC kc kf ks ki ky ku kd
            have dg : v 26 = .bool false := by first | exact kd _ (mem0 rfl) rfl | exact kd _ (mem1 rfl) rfl | exact kd _ (mem2 rfl) rfl | exact kd _ (mem3 rfl) rfl | exact kd _ (mem4 rfl) rfl | exact kd _ (mem5 rfl) rfl | exact kd _ (Array.mem_of_getElem? (i := 6) rfl) rfl | exact kd _ (Array.mem_of_getElem? (i := 7) rfl) rfl
            have hy := ky 26 86 false (by decide) rfl dg
            rw [if_pos (by simp [Region.wanted, hy])]
            have d28 : v 28 = .bool rr := by first | exact kd _ (mem0 rfl) rfl | exact kd _ (mem1 rfl) rfl | exact kd _ (mem2 rfl) rfl | exact kd _ (mem3 rfl) rfl | exact kd _ (mem4 rfl) rfl | exact kd _ (mem5 rfl) rfl | exact kd _ (Array.mem_of_getElem? (i := 6) rfl) rfl | exact kd _ (Array.mem_of_getElem? (i := 7) rfl) rfl
            have t88 : ρ (.tmp 88) = .bool rr := (ks 28 88 (by decide) rfl).trans d28
            have d30 : v 30 = .bool rr := by first | exact kd _ (mem0 rfl) rfl | exact kd _ (mem1 rfl) rfl | exact kd _ (mem2 rfl) rfl | exact kd _ (mem3 rfl) rfl | exact kd _ (mem4 rfl) rfl | exact kd _ (mem5 rfl) rfl | exact kd _ (Array.mem_of_getElem? (i := 6) rfl) rfl | exact kd _ (Array.mem_of_getElem? (i := 7) rfl) rfl
            have t90 : ρ (.tmp 90) = .bool rr := (ks 30 90 (by decide) rfl).trans d30
            simp [execOp, go_sem, kc, t88, t90]
            exact ⟨hC, Below.refl _ _, rfl⟩
          · refine stepW_of_u ⟨rfl, fun v W ρ hC kc kf ks ki kd => ?_⟩
            have d26 : v 26 = .bool false := by first | exact kd _ (mem0 rfl) rfl | exact kd _ (mem1 rfl) rfl | exact kd _ (mem2 rfl) rfl | exact kd _ (mem3 rfl) rfl | exact kd _ (mem4 rfl) rfl | exact kd _ (mem5 rfl) rfl | exact kd _ (Array.mem_of_getElem? (i := 6) rfl) rfl | exact kd _ (Array.mem_of_getElem? (i := 7) rfl) rfl
            have t86 : ρ (.tmp 86) = .bool false := (ks 26 86 (by decide) rfl).trans d26
            have d31 : v 31 = .bool false := by first | exact kd _ (mem0 rfl) rfl | exact kd _ (mem1 rfl) rfl | exact kd _ (mem2 rfl) rfl | exact kd _ (mem3 rfl) rfl | exact kd _ (mem4 rfl) rfl | exact kd _ (mem5 rfl) rfl | exact kd _ (Array.mem_of_getElem? (i := 6) rfl) rfl | exact kd _ (Array.mem_of_getElem? (i := 7) rfl) rfl
            have t91 : ρ (.tmp 91) = .bool false := (ks 31 91 (by decide) rfl).trans d31
            simp [execOp, go_sem, kc, t86, t91]
            exact ⟨hC, Below.refl _ _, rfl⟩
          · refine stepW_of_u ⟨rfl, fun v W ρ hC kc kf ks ki kd => ?_⟩
            have d32 : v 32 = .bool false := by first | exact kd _ (mem0 rfl) rfl | exact kd _ (mem1 rfl) rfl | exact kd _ (mem2 rfl) rfl | exact kd _ (mem3 rfl) rfl | exact kd _ (mem4 rfl) rfl | exact kd _ (mem5 rfl) rfl | exact kd _ (Array.mem_of_getElem? (i := 6) rfl) rfl | exact kd _ (Array.mem_of_getElem? (i := 7) rfl) rfl
            have t92 : ρ (.tmp 92) = .bool false := (ks 32 92 (by decide) rfl).trans d32
            simp [execOp, go_sem, kc, t92]
            exact ⟨hC, Below.refl _ _, rfl⟩
          · intro v W ρ y hC kc kf ks ki ky ku kd
            have dg : v 33 = .bool false := by first | exact kd _ (mem0 rfl) rfl | exact kd _ (mem1 rfl) rfl | exact kd _ (mem2 rfl) rfl | exact kd _ (mem3 rfl) rfl | exact kd _ (mem4 rfl) rfl | exact kd _ (mem5 rfl) rfl | exact kd _ (Array.mem_of_getElem? (i := 6) rfl) rfl | exact kd _ (Array.mem_of_getElem? (i := 7) rfl) rfl
            have hy := ky 33 93 false (by decide) rfl dg
            rw [if_pos (by simp [Region.wanted, hy])]
            have t5 : ρ (.tmp 5) = .slice aa rs.length ca := ki 5 (by decide)
            simp [execOp, go_sem, kc, t5]
            exact ⟨hC, Below.refl _ _, rfl⟩
          · intro v W ρ y hC kc kf ks ki ky ku kd
            have dg : v 33 = .bool false := by first | exact kd _ (mem0 rfl) rfl | exact kd _ (mem1 rfl) rfl | exact kd _ (mem2 rfl) rfl | exact kd _ (mem3 rfl) rfl | exact kd _ (mem4 rfl) rfl | exact kd _ (mem5 rfl) rfl | exact kd _ (Array.mem_of_getElem? (i := 6) rfl) rfl | exact kd _ (Array.mem_of_getElem? (i := 7) rfl) rfl
            have hy := ky 33 93 false (by decide) rfl dg
            rw [if_pos (by simp [Region.wanted, hy])]
            have d34 : v 34 = .slice aa rs.length ca := by first | exact kd _ (mem0 rfl) rfl | exact kd _ (mem1 rfl) rfl | exact kd _ (mem2 rfl) rfl | exact kd _ (mem3 rfl) rfl | exact kd _ (mem4 rfl) rfl | exact kd _ (mem5 rfl) rfl | exact kd _ (Array.mem_of_getElem? (i := 6) rfl) rfl | exact kd _ (Array.mem_of_getElem? (i := 7) rfl) rfl
            have t94 : ρ (.tmp 94) = .slice aa rs.length ca := (ks 34 94 (by decide) rfl).trans d34
            simp [execOp, go_sem, kc, t94, kf]
            exact Calls.mono (HIA.out W (RA10.out.later hC)) (fun e x h => ⟨_, h.1, hC.trans (h.2.mono hC.size), h.2, rfl⟩)
          · intro v W ρ y hC kc kf ks ki ky ku kd
            have dg : v 33 = .bool false := by first | exact kd _ (mem0 rfl) rfl | exact kd _ (mem1 rfl) rfl | exact kd _ (mem2 rfl) rfl | exact kd _ (mem3 rfl) rfl | exact kd _ (mem4 rfl) rfl | exact kd _ (mem5 rfl) rfl | exact kd _ (Array.mem_of_getElem? (i := 6) rfl) rfl | exact kd _ (Array.mem_of_getElem? (i := 7) rfl) rfl
            have hy := ky 33 93 false (by decide) rfl dg
            rw [if_pos (by simp [Region.wanted, hy])]
            have t5 : ρ (.tmp 5) = .slice aa rs.length ca := ki 5 (by decide)
            simp [execOp, go_sem, kc, t5]
            exact ⟨hC, Below.refl _ _, rfl⟩
          · intro v W ρ y hC kc kf ks ki ky ku kd
            have dg : v 33 = .bool false := by first | exact kd _ (mem0 rfl) rfl | exact kd _ (mem1 rfl) rfl | exact kd _ (mem2 rfl) rfl | exact kd _ (mem3 rfl) rfl | exact kd _ (mem4 rfl) rfl | exact kd _ (mem5 rfl) rfl | exact kd _ (Array.mem_of_getElem? (i := 6) rfl) rfl | exact kd _ (Array.mem_of_getElem? (i := 7) rfl) rfl
            have hy := ky 33 93 false (by decide) rfl dg
            rw [if_pos (by simp [Region.wanted, hy])]
            have d36 : v 36 = .slice aa rs.length ca := by first | exact kd _ (mem0 rfl) rfl | exact kd _ (mem1 rfl) rfl | exact kd _ (mem2 rfl) rfl | exact kd _ (mem3 rfl) rfl | exact kd _ (mem4 rfl) rfl | exact kd _ (mem5 rfl) rfl | exact kd _ (Array.mem_of_getElem? (i := 6) rfl) rfl | exact kd _ (Array.mem_of_getElem? (i := 7) rfl) rfl
            have t96 : ρ (.tmp 96) = .slice aa rs.length ca := (ks 36 96 (by decide) rfl).trans d36
            simp [execOp, go_sem, kc, t96, kf]
            exact Calls.mono (HSA.out W (RA10.out.later hC)) (fun e x h => ⟨_, h.1, hC.trans (h.2.mono hC.size), h.2, rfl⟩)
          · intro v W ρ y hC kc kf ks ki ky ku kd
            have dg : v 33 = .bool false := by first | exact kd _ (mem0 rfl) rfl | exact kd _ (mem1 rfl) rfl | exact kd _ (mem2 rfl) rfl | exact kd _ (mem3 rfl) rfl | exact kd _ (mem4 rfl) rfl | exact kd _ (mem5 rfl) rfl | exact kd _ (Array.mem_of_getElem? (i := 6) rfl) rfl | exact kd _ (Array.mem_of_getElem? (i := 7) rfl) rfl
            have hy := ky 33 93 false (by decide) rfl dg
            rw [if_pos (by simp [Region.wanted, hy])]
            have d35 : v 35 = .bool rb := by first | exact kd _ (mem0 rfl) rfl | exact kd _ (mem1 rfl) rfl | exact kd _ (mem2 rfl) rfl | exact kd _ (mem3 rfl) rfl | exact kd _ (mem4 rfl) rfl | exact kd _ (mem5 rfl) rfl | exact kd _ (Array.mem_of_getElem? (i := 6) rfl) rfl | exact kd _ (Array.mem_of_getElem? (i := 7) rfl) rfl
            have t95 : ρ (.tmp 95) = .bool rb := (ks 35 95 (by decide) rfl).trans d35
            have d37 : v 37 = .bool rb := by first | exact kd _ (mem0 rfl) rfl | exact kd _ (mem1 rfl) rfl | exact kd _ (mem2 rfl) rfl | exact kd _ (mem3 rfl) rfl | exact kd _ (mem4 rfl) rfl | exact kd _ (mem5 rfl) rfl | exact kd _ (Array.mem_of_getElem? (i := 6) rfl) rfl | exact kd _ (Array.mem_of_getElem? (i := 7) rfl) rfl
            have t97 : ρ (.tmp 97) = .bool rb := (ks 37 97 (by decide) rfl).trans d37
            simp [execOp, go_sem, kc, t95, t97]
            exact ⟨hC, Below.refl _ _, rfl⟩
          · refine stepW_of_u ⟨rfl, fun v W ρ hC kc kf ks ki kd => ?_⟩
            have d33 : v 33 = .bool false := by first | exact kd _ (mem0 rfl) rfl | exact kd _ (mem1 rfl) rfl | exact kd _ (mem2 rfl) rfl | exact kd _ (mem3 rfl) rfl | exact kd _ (mem4 rfl) rfl | exact kd _ (mem5 rfl) rfl | exact kd _ (Array.mem_of_getElem? (i := 6) rfl) rfl | exact kd _ (Array.mem_of_getElem? (i := 7) rfl) rfl
            have t93 : ρ (.tmp 93) = .bool false := (ks 33 93 (by decide) rfl).trans d33
            have d38 : v 38 = .bool false := by first | exact kd _ (mem0 rfl) rfl | exact kd _ (mem1 rfl) rfl | exact kd _ (mem2 rfl) rfl | exact kd _ (mem3 rfl) rfl | exact kd _ (mem4 rfl) rfl | exact kd _ (mem5 rfl) rfl | exact kd _ (Array.mem_of_getElem? (i := 6) rfl) rfl | exact kd _ (Array.mem_of_getElem? (i := 7) rfl) rfl
            have t98 : ρ (.tmp 98) = .bool false := (ks 38 98 (by decide) rfl).trans d38
            simp [execOp, go_sem, kc, t93, t98]
            exact ⟨hC, Below.refl _ _, rfl⟩
          · refine stepW_of_u ⟨rfl, fun v W ρ hC kc kf ks ki kd => ?_⟩
            have d39 : v 39 = .bool false := by first | exact kd _ (mem0 rfl) rfl | exact kd _ (mem1 rfl) rfl | exact kd _ (mem2 rfl) rfl | exact kd _ (mem3 rfl) rfl | exact kd _ (mem4 rfl) rfl | exact kd _ (mem5 rfl) rfl | exact kd _ (Array.mem_of_getElem? (i := 6) rfl) rfl | exact kd _ (Array.mem_of_getElem? (i := 7) rfl) rfl
            have t99 : ρ (.tmp 99) = .bool false := (ks 39 99 (by decide) rfl).trans d39
            simp [execOp, go_sem, kc, t99]
            exact ⟨hC, Below.refl _ _, rfl⟩
          · intro v W ρ y hC kc kf ks ki ky ku kd
            have dg : v 40 = .bool false := by first | exact kd _ (mem0 rfl) rfl | exact kd _ (mem1 rfl) rfl | exact kd _ (mem2 rfl) rfl | exact kd _ (mem3 rfl) rfl | exact kd _ (mem4 rfl) rfl | exact kd _ (mem5 rfl) rfl | exact kd _ (Array.mem_of_getElem? (i := 6) rfl) rfl | exact kd _ (Array.mem_of_getElem? (i := 7) rfl) rfl
            have hy := ky 40 100 false (by decide) rfl dg
            rw [if_pos (by simp [Region.wanted, hy])]
            have t17 : ρ (.tmp 17) = .bool true := ki 17 (by decide)
            simp [execOp, go_sem, kc, t17]
            exact ⟨hC, Below.refl _ _, rfl⟩
          · intro v W ρ y hC kc kf ks ki ky ku kd
            have dg : v 40 = .bool false := by first | exact kd _ (mem0 rfl) rfl | exact kd _ (mem1 rfl) rfl | exact kd _ (mem2 rfl) rfl | exact kd _ (mem3 rfl) rfl | exact kd _ (mem4 rfl) rfl | exact kd _ (mem5 rfl) rfl | exact kd _ (Array.mem_of_getElem? (i := 6) rfl) rfl | exact kd _ (Array.mem_of_getElem? (i := 7) rfl) rfl
            have hy := ky 40 100 false (by decide) rfl dg
            rw [if_pos (by simp [Region.wanted, hy])]
            have d41 : v 41 = .bool true := by first | exact kd _ (mem0 rfl) rfl | exact kd _ (mem1 rfl) rfl | exact kd _ (mem2 rfl) rfl | exact kd _ (mem3 rfl) rfl | exact kd _ (mem4 rfl) rfl | exact kd _ (mem5 rfl) rfl | exact kd _ (Array.mem_of_getElem? (i := 6) rfl) rfl | exact kd _ (Array.mem_of_getElem? (i := 7) rfl) rfl
            have t101 : ρ (.tmp 101) = .bool true := (ks 41 101 (by decide) rfl).trans d41
            simp [execOp, go_sem, kc, t101]
            exact ⟨hC, Below.refl _ _, rfl⟩
          · intro v W ρ y hC kc kf ks ki ky ku kd
            have dg : v 42 = .bool true := by first | exact kd _ (mem0 rfl) rfl | exact kd _ (mem1 rfl) rfl | exact kd _ (mem2 rfl) rfl | exact kd _ (mem3 rfl) rfl | exact kd _ (mem4 rfl) rfl | exact kd _ (mem5 rfl) rfl | exact kd _ (Array.mem_of_getElem? (i := 6) rfl) rfl | exact kd _ (Array.mem_of_getElem? (i := 7) rfl) rfl
            have hy := ky 42 102 true (by decide) rfl dg
            rw [if_pos (by simp [Region.wanted, hy])]
            have t15 : ρ (.tmp 15) = .int .i64 n3 := ki 15 (by decide)
            simp [execOp, go_sem, kc, t15]
            exact ⟨hC, Below.refl _ _, rfl⟩
          · intro v W ρ y hC kc kf ks ki ky ku kd
            have dg : v 42 = .bool true := by first | exact kd _ (mem0 rfl) rfl | exact kd _ (mem1 rfl) rfl | exact kd _ (mem2 rfl) rfl | exact kd _ (mem3 rfl) rfl | exact kd _ (mem4 rfl) rfl | exact kd _ (mem5 rfl) rfl | exact kd _ (Array.mem_of_getElem? (i := 6) rfl) rfl | exact kd _ (Array.mem_of_getElem? (i := 7) rfl) rfl
            have hy := ky 42 102 true (by decide) rfl dg
            rw [if_pos (by simp [Region.wanted, hy])]
            have d43 : v 43 = .int .i64 n3 := by first | exact kd _ (mem0 rfl) rfl | exact kd _ (mem1 rfl) rfl | exact kd _ (mem2 rfl) rfl | exact kd _ (mem3 rfl) rfl | exact kd _ (mem4 rfl) rfl | exact kd _ (mem5 rfl) rfl | exact kd _ (Array.mem_of_getElem? (i := 6) rfl) rfl | exact kd _ (Array.mem_of_getElem? (i := 7) rfl) rfl
            have t103 : ρ (.tmp 103) = .int .i64 n3 := (ks 43 103 (by decide) rfl).trans d43
            simp [execOp, go_sem, kc, t103, h3]
            exact ⟨hC, Below.refl _ _, rfl⟩
          · intro v W ρ y hC kc kf ks ki ky ku kd
            have dg : v 40 = .bool false := by first | exact kd _ (mem0 rfl) rfl | exact kd _ (mem1 rfl) rfl | exact kd _ (mem2 rfl) rfl | exact kd _ (mem3 rfl) rfl | exact kd _ (mem4 rfl) rfl | exact kd _ (mem5 rfl) rfl | exact kd _ (Array.mem_of_getElem? (i := 6) rfl) rfl | exact kd _ (Array.mem_of_getElem? (i := 7) rfl) rfl
            have hy := ky 40 100 false (by decide) rfl dg
            rw [if_pos (by simp [Region.wanted, hy])]
            have d42 : v 42 = .bool true := by first | exact kd _ (mem0 rfl) rfl | exact kd _ (mem1 rfl) rfl | exact kd _ (mem2 rfl) rfl | exact kd _ (mem3 rfl) rfl | exact kd _ (mem4 rfl) rfl | exact kd _ (mem5 rfl) rfl | exact kd _ (Array.mem_of_getElem? (i := 6) rfl) rfl | exact kd _ (Array.mem_of_getElem? (i := 7) rfl) rfl
            have t102 : ρ (.tmp 102) = .bool true := (ks 42 102 (by decide) rfl).trans d42
            have d44 : v 44 = .bool false := by first | exact kd _ (mem0 rfl) rfl | exact kd _ (mem1 rfl) rfl | exact kd _ (mem2 rfl) rfl | exact kd _ (mem3 rfl) rfl | exact kd _ (mem4 rfl) rfl | exact kd _ (mem5 rfl) rfl | exact kd _ (Array.mem_of_getElem? (i := 6) rfl) rfl | exact kd _ (Array.mem_of_getElem? (i := 7) rfl) rfl
            have t104 : ρ (.tmp 104) = .bool false := (ks 44 104 (by decide) rfl).trans d44
            simp [execOp, go_sem, kc, t102, t104]
            exact ⟨hC, Below.refl _ _, rfl⟩
          · intro v W ρ y hC kc kf ks ki ky ku kd
            have dg : v 40 = .bool false := by first | exact kd _ (mem0 rfl) rfl | exact kd _ (mem1 rfl) rfl | exact kd _ (mem2 rfl) rfl | exact kd _ (mem3 rfl) rfl | exact kd _ (mem4 rfl) rfl | exact kd _ (mem5 rfl) rfl | exact kd _ (Array.mem_of_getElem? (i := 6) rfl) rfl | exact kd _ (Array.mem_of_getElem? (i := 7) rfl) rfl
            have hy := ky 40 100 false (by decide) rfl dg
            rw [if_pos (by simp [Region.wanted, hy])]
            have d45 : v 45 = .bool false := by first | exact kd _ (mem0 rfl) rfl | exact kd _ (mem1 rfl) rfl | exact kd _ (mem2 rfl) rfl | exact kd _ (mem3 rfl) rfl | exact kd _ (mem4 rfl) rfl | exact kd _ (mem5 rfl) rfl | exact kd _ (Array.mem_of_getElem? (i := 6) rfl) rfl | exact kd _ (Array.mem_of_getElem? (i := 7) rfl) rfl
            have t105 : ρ (.tmp 105) = .bool false := (ks 45 105 (by decide) rfl).trans d45
            simp [execOp, go_sem, kc, t105]
            exact ⟨hC, Below.refl _ _, rfl⟩
          · intro v W ρ y hC kc kf ks ki ky ku kd
            have dg : v 46 = .bool false := by first | exact kd _ (mem0 rfl) rfl | exact kd _ (mem1 rfl) rfl | exact kd _ (mem2 rfl) rfl | exact kd _ (mem3 rfl) rfl | exact kd _ (mem4 rfl) rfl | exact kd _ (mem5 rfl) rfl | exact kd _ (Array.mem_of_getElem? (i := 6) rfl) rfl | exact kd _ (Array.mem_of_getElem? (i := 7) rfl) rfl
            have hy := ky 46 106 false (by decide) rfl dg
            rw [if_neg (by simp [Region.wanted, hy])]
            exact ⟨Below.refl _ _, rfl⟩
          · intro v W ρ y hC kc kf ks ki ky ku kd
            have dg : v 46 = .bool false := by first | exact kd _ (mem0 rfl) rfl | exact kd _ (mem1 rfl) rfl | exact kd _ (mem2 rfl) rfl | exact kd _ (mem3 rfl) rfl | exact kd _ (mem4 rfl) rfl | exact kd _ (mem5 rfl) rfl | exact kd _ (Array.mem_of_getElem? (i := 6) rfl) rfl | exact kd _ (Array.mem_of_getElem? (i := 7) rfl) rfl
            have hy := ky 46 106 false (by decide) rfl dg
            rw [if_neg (by simp [Region.wanted, hy])]
            exact ⟨Below.refl _ _, rfl⟩
          · intro v W ρ y hC kc kf ks ki ky ku kd
            have dg : v 46 = .bool false := by first | exact kd _ (mem0 rfl) rfl | exact kd _ (mem1 rfl) rfl | exact kd _ (mem2 rfl) rfl | exact kd _ (mem3 rfl) rfl | exact kd _ (mem4 rfl) rfl | exact kd _ (mem5 rfl) rfl | exact kd _ (Array.mem_of_getElem? (i := 6) rfl) rfl | exact kd _ (Array.mem_of_getElem? (i := 7) rfl) rfl
            have hy := ky 46 106 false (by decide) rfl dg
            rw [if_neg (by simp [Region.wanted, hy])]
            exact ⟨Below.refl _ _, rfl⟩
          · intro v W ρ y hC kc kf ks ki ky ku kd
            have dg : v 40 = .bool false := by first | exact kd _ (mem0 rfl) rfl | exact kd _ (mem1 rfl) rfl | exact kd _ (mem2 rfl) rfl | exact kd _ (mem3 rfl) rfl | exact kd _ (mem4 rfl) rfl | exact kd _ (mem5 rfl) rfl | exact kd _ (Array.mem_of_getElem? (i := 6) rfl) rfl | exact kd _ (Array.mem_of_getElem? (i := 7) rfl) rfl
            have hy := ky 40 100 false (by decide) rfl dg
            rw [if_pos (by simp [Region.wanted, hy])]
            have d46 : v 46 = .bool false := by first | exact kd _ (mem0 rfl) rfl | exact kd _ (mem1 rfl) rfl | exact kd _ (mem2 rfl) rfl | exact kd _ (mem3 rfl) rfl | exact kd _ (mem4 rfl) rfl | exact kd _ (mem5 rfl) rfl | exact kd _ (Array.mem_of_getElem? (i := 6) rfl) rfl | exact kd _ (Array.mem_of_getElem? (i := 7) rfl) rfl
            have t106 : ρ (.tmp 106) = .bool false := (ks 46 106 (by decide) rfl).trans d46
            simp [execOp, go_sem, kc, t106]
            exact ⟨hC, Below.refl _ _, rfl⟩
          · refine stepW_of_u ⟨rfl, fun v W ρ hC kc kf ks ki kd => ?_⟩
            have d40 : v 40 = .bool false := by first | exact kd _ (mem0 rfl) rfl | exact kd _ (mem1 rfl) rfl | exact kd _ (mem2 rfl) rfl | exact kd _ (mem3 rfl) rfl | exact kd _ (mem4 rfl) rfl | exact kd _ (mem5 rfl) rfl | exact kd _ (Array.mem_of_getElem? (i := 6) rfl) rfl | exact kd _ (Array.mem_of_getElem? (i := 7) rfl) rfl
            have t100 : ρ (.tmp 100) = .bool false := (ks 40 100 (by decide) rfl).trans d40
            have d50 : v 50 = .bool false := by first | exact kd _ (mem0 rfl) rfl | exact kd _ (mem1 rfl) rfl | exact kd _ (mem2 rfl) rfl | exact kd _ (mem3 rfl) rfl | exact kd _ (mem4 rfl) rfl | exact kd _ (mem5 rfl) rfl | exact kd _ (Array.mem_of_getElem? (i := 6) rfl) rfl | exact kd _ (Array.mem_of_getElem? (i := 7) rfl) rfl
            have t110 : ρ (.tmp 110) = .bool false := (ks 50 110 (by decide) rfl).trans d50
            simp [execOp, go_sem, kc, t100, t110]
            exact ⟨hC, Below.refl _ _, rfl⟩
        case finC9 => exact fun v w hb hall => FIN.out v w hb (hall 51 (by decide))
  case rest9 =>
    intro vR9 w11 hb hv
    have hv : vR9 51 = .bool false := hv
    simp [upto, Act.put]
    rw [hv]
    clear hv HIG HSG HIA HSA HIN HSN EN HIF HSF HIR HSR EQO EQR RC10 U10 R10
    have RA11 := hidS (RA10.out.later hb)
    have RB11 := hidS (RB10.out.later hb)
    have T11 := hidS (blk_later T10.out hb)
    have Y11 := hidS (blk_later Y10.out hb)
    have hL11 := hidS (hL10.out.trans (hb.mono hL10.out.size))
    clear RA10 RB10 T10 Y10 hL10 hb
    by_cases hc : c = 0
    case neg =>
      have bc : (c != 0) = true := by simp [bne, hc]
      have y6 := blk_cell Y11.out 6
      simp at y6
      clear hc
      go_wp2_with fail
      go_ret
      exact ⟨rfl, hL11.out⟩
    obtain ⟨f1, f2, f3, f4⟩ := GF.out hc
    obtain ⟨f5, f6, _, _⟩ := GO.out hc
    subst hc
    clear GF GO
    have F1 := hidS (fun k (hk : k < us.length) => used_not f1 f2 hk)
    have F2 := hidS f2
    have F4 := hidS f4
    have F5 := hidS f5
    have F6 := hidS f6
    have F3 := hidS f3
    clear f1 f2 f3 f4 f5 f6
    have HIV := hidS (fun W => implInv_any x W)
    have y6 := blk_cell Y11.out 6
    simp at y6
    go_wp2_with fail
    clear y6
    go_loopw [18] (fun i wr => ∃ k : Nat, i = .int .i64 (k : Int) ∧ k ≤ us.length ∧ Below w11.heap.size w11 wr) (fun i _ => (us.length - (intOf i).toNat))
    case atStart => exact ⟨0, rfl, Nat.zero_le _, Below.refl _ _⟩
    case round =>
      obtain ⟨k, rfl, hk, hbk⟩ := hrel
      have hT := hidS (blk_later T11.out hbk)
      have hY := hidS (blk_later Y11.out hbk)
      have hA := hidS (RA11.out.later hbk)
      have hL := hidS (hL11.out.trans (hbk.mono hL11.out.size))
      by_cases hlt : k < us.length
      · have hlt' : (k : Int) < (us.length : Int) := by omega
        have hj : (0 : Int) ≤ (k : Int) ∧ (k : Int) < (us.length : Int) := by omega
        obtain ⟨b, o, hbe, hbl, c0, c1, c2', c3, c4, c5⟩ := (RB11.out.later hbk).tuple hlt
        obtain ⟨s1, s2⟩ := F1.out k hlt
        generalize us.getD k zeroTp = e at *
        have E1 := hidS (fun W => eql_tup e x W)
        have E2 := hidS (fun W => eql_tup e (invAns x) W)
        rw [s1] at E1
        rw [s2] at E2
        generalize invAns x = ix at HIV E2
        have HBK := hidS hbk
        clear s1 s2 hbk
        subst hbe
        go_wp2_with fail
        refine grow_guarded 17 [.is (.slice (some ⟨b, o, none⟩) us.length cb), .is (.int .i64 (k : Int)), .is (.pointer (some ⟨b, o + k * 6, none⟩)), .is (.agg #[.int .i64 e.proto, .int .i64 e.src, .int .i64 e.sport, .int .i64 e.dst, .int .i64 e.dport, .int .i64 e.kind]), .is (.pointer (some ⟨xY, 0, none⟩)), .is (.agg #[.int .i64 x.proto, .int .i64 x.src, .int .i64 x.sport, .int .i64 x.dst, .int .i64 x.dport, .int .i64 x.kind]), .is (.bool false), .is (.bool false), .is (.slice (some ⟨b, o, none⟩) us.length cb), .is (.int .i64 (k : Int)), .is (.pointer (some ⟨b, o + k * 6, none⟩)), .is (.agg #[.int .i64 e.proto, .int .i64 e.src, .int .i64 e.sport, .int .i64 e.dst, .int .i64 e.dport, .int .i64 e.kind]), .is (.pointer (some ⟨xY, 0, none⟩)), .is (.agg #[.int .i64 x.proto, .int .i64 x.src, .int .i64 x.sport, .int .i64 x.dst, .int .i64 x.dport, .int .i64 x.kind]), .is (.agg #[.int .i64 ix.proto, .int .i64 ix.src, .int .i64 ix.sport, .int .i64 ix.dst, .int .i64 ix.dport, .int .i64 ix.kind]), .is (.bool false), .is (.bool false)] rfl (by kernel_rfl) (by kernel_rfl) ?stepsL16 ?finL16
        case stepsL16 =>
          refine ⟨?_, ?_, ?_, ?_, ?_, ?_, ?_, ?_, ?_, ?_, ?_, ?_, ?_, ?_, ?_, ?_, ?_, trivial⟩
          · refine stepW_of_u ⟨rfl, fun v W ρ hC kc kf ks ki kd => ?_⟩
            have t8 : ρ (.tmp 8) = .slice (some ⟨b, o, none⟩) us.length cb := ki 8 (by decide)
            simp [execOp, go_sem, kc, t8]
            exact ⟨hC, Below.refl _ _, rfl⟩
          · refine stepW_of_u ⟨rfl, fun v W ρ hC kc kf ks ki kd => ?_⟩
            have t18 : ρ (.tmp 18) = .int .i64 (k : Int) := ki 18 (by decide)
            simp [execOp, go_sem, kc, t18]
            exact ⟨hC, Below.refl _ _, rfl⟩
          · refine stepW_of_u ⟨rfl, fun v W ρ hC kc kf ks ki kd => ?_⟩
            have d0 : v 0 = .slice (some ⟨b, o, none⟩) us.length cb := by first | exact kd _ (mem0 rfl) rfl | exact kd _ (mem1 rfl) rfl | exact kd _ (mem2 rfl) rfl | exact kd _ (mem3 rfl) rfl | exact kd _ (mem4 rfl) rfl | exact kd _ (mem5 rfl) rfl | exact kd _ (Array.mem_of_getElem? (i := 6) rfl) rfl | exact kd _ (Array.mem_of_getElem? (i := 7) rfl) rfl
            have t121 : ρ (.tmp 121) = .slice (some ⟨b, o, none⟩) us.length cb := (ks 0 121 (by decide) rfl).trans d0
            have d1 : v 1 = .int .i64 (k : Int) := by first | exact kd _ (mem0 rfl) rfl | exact kd _ (mem1 rfl) rfl | exact kd _ (mem2 rfl) rfl | exact kd _ (mem3 rfl) rfl | exact kd _ (mem4 rfl) rfl | exact kd _ (mem5 rfl) rfl | exact kd _ (Array.mem_of_getElem? (i := 6) rfl) rfl | exact kd _ (Array.mem_of_getElem? (i := 7) rfl) rfl
            have t122 : ρ (.tmp 122) = .int .i64 (k : Int) := (ks 1 122 (by decide) rfl).trans d1
            simp [execOp, go_sem, kc, t121, t122, hj]
            exact ⟨hC, Below.refl _ _, rfl⟩
          · refine stepW_of_u ⟨rfl, fun v W ρ hC kc kf ks ki kd => ?_⟩
            have d2 : v 2 = .pointer (some ⟨b, o + k * 6, none⟩) := by first | exact kd _ (mem0 rfl) rfl | exact kd _ (mem1 rfl) rfl | exact kd _ (mem2 rfl) rfl | exact kd _ (mem3 rfl) rfl | exact kd _ (mem4 rfl) rfl | exact kd _ (mem5 rfl) rfl | exact kd _ (Array.mem_of_getElem? (i := 6) rfl) rfl | exact kd _ (Array.mem_of_getElem? (i := 7) rfl) rfl
            have t123 : ρ (.tmp 123) = .pointer (some ⟨b, o + k * 6, none⟩) := (ks 2 123 (by decide) rfl).trans d2
            have z0 := (hC.cell (p := ⟨b, o + k * 6, none⟩) hbl).trans c0
            have z1 := (hC.cell (p := ⟨b, o + k * 6 + 1, none⟩) hbl).trans c1
            have z2 := (hC.cell (p := ⟨b, o + k * 6 + 2, none⟩) hbl).trans c2'
            have z3 := (hC.cell (p := ⟨b, o + k * 6 + 3, none⟩) hbl).trans c3
            have z4 := (hC.cell (p := ⟨b, o + k * 6 + 4, none⟩) hbl).trans c4
            have z5 := (hC.cell (p := ⟨b, o + k * 6 + 5, none⟩) hbl).trans c5
            simp [execOp, go_sem, kc, t123, z0, z1, z2, z3, z4, z5]
            exact ⟨hC, Below.refl _ _, rfl⟩
          · refine stepW_of_u ⟨rfl, fun v W ρ hC kc kf ks ki kd => ?_⟩
            have t9 : ρ (.tmp 9) = .pointer (some ⟨xY, 0, none⟩) := ki 9 (by decide)
            simp [execOp, go_sem, kc, t9]
            exact ⟨hC, Below.refl _ _, rfl⟩
          · refine stepW_of_u ⟨rfl, fun v W ρ hC kc kf ks ki kd => ?_⟩
            have d4 : v 4 = .pointer (some ⟨xY, 0, none⟩) := by first | exact kd _ (mem0 rfl) rfl | exact kd _ (mem1 rfl) rfl | exact kd _ (mem2 rfl) rfl | exact kd _ (mem3 rfl) rfl | exact kd _ (mem4 rfl) rfl | exact kd _ (mem5 rfl) rfl | exact kd _ (Array.mem_of_getElem? (i := 6) rfl) rfl | exact kd _ (Array.mem_of_getElem? (i := 7) rfl) rfl
            have t125 : ρ (.tmp 125) = .pointer (some ⟨xY, 0, none⟩) := (ks 4 125 (by decide) rfl).trans d4
            have hg := blk_later hY.out hC
            have c0 := blk_cell hg 0
            have c1 := blk_cell hg 1
            have c2 := blk_cell hg 2
            have c3 := blk_cell hg 3
            have c4 := blk_cell hg 4
            have c5 := blk_cell hg 5
            simp at c0 c1 c2 c3 c4 c5
            simp [execOp, go_sem, kc, t125, c0, c1, c2, c3, c4, c5]
            exact ⟨hC, Below.refl _ _, rfl⟩
          · refine stepW_of_u ⟨rfl, fun v W ρ hC kc kf ks ki kd => ?_⟩
            have d3 : v 3 = .agg #[.int .i64 e.proto, .int .i64 e.src, .int .i64 e.sport, .int .i64 e.dst, .int .i64 e.dport, .int .i64 e.kind] := by first | exact kd _ (mem0 rfl) rfl | exact kd _ (mem1 rfl) rfl | exact kd _ (mem2 rfl) rfl | exact kd _ (mem3 rfl) rfl | exact kd _ (mem4 rfl) rfl | exact kd _ (mem5 rfl) rfl | exact kd _ (Array.mem_of_getElem? (i := 6) rfl) rfl | exact kd _ (Array.mem_of_getElem? (i := 7) rfl) rfl
            have t124 : ρ (.tmp 124) = .agg #[.int .i64 e.proto, .int .i64 e.src, .int .i64 e.sport, .int .i64 e.dst, .int .i64 e.dport, .int .i64 e.kind] := (ks 3 124 (by decide) rfl).trans d3
            have d5 : v 5 = .agg #[.int .i64 x.proto, .int .i64 x.src, .int .i64 x.sport, .int .i64 x.dst, .int .i64 x.dport, .int .i64 x.kind] := by first | exact kd _ (mem0 rfl) rfl | exact kd _ (mem1 rfl) rfl | exact kd _ (mem2 rfl) rfl | exact kd _ (mem3 rfl) rfl | exact kd _ (mem4 rfl) rfl | exact kd _ (mem5 rfl) rfl | exact kd _ (Array.mem_of_getElem? (i := 6) rfl) rfl | exact kd _ (Array.mem_of_getElem? (i := 7) rfl) rfl
            have t126 : ρ (.tmp 126) = .agg #[.int .i64 x.proto, .int .i64 x.src, .int .i64 x.sport, .int .i64 x.dst, .int .i64 x.dport, .int .i64 x.kind] := (ks 5 126 (by decide) rfl).trans d5
            have eg : Try.prog.eqGuardType Try.prog.depth 52 = false := by kernel_rfl
            have e1 := E1.out W
            simp only [execOp, t124, t126, Sem.run_bind, run_eqGuard_agg, eg, e1, Result.andThen_ok, Sem.run_pure]
            exact ⟨hC, Below.refl _ _, rfl⟩
          · refine stepW_of_u ⟨rfl, fun v W ρ hC kc kf ks ki kd => ?_⟩
            have d6 : v 6 = .bool false := by first | exact kd _ (mem0 rfl) rfl | exact kd _ (mem1 rfl) rfl | exact kd _ (mem2 rfl) rfl | exact kd _ (mem3 rfl) rfl | exact kd _ (mem4 rfl) rfl | exact kd _ (mem5 rfl) rfl | exact kd _ (Array.mem_of_getElem? (i := 6) rfl) rfl | exact kd _ (Array.mem_of_getElem? (i := 7) rfl) rfl
            have t127 : ρ (.tmp 127) = .bool false := (ks 6 127 (by decide) rfl).trans d6
            simp [execOp, go_sem, kc, t127]
            exact ⟨hC, Below.refl _ _, rfl⟩
          · intro v W ρ y hC kc kf ks ki ky ku kd
            have dg : v 7 = .bool false := by first | exact kd _ (mem0 rfl) rfl | exact kd _ (mem1 rfl) rfl | exact kd _ (mem2 rfl) rfl | exact kd _ (mem3 rfl) rfl | exact kd _ (mem4 rfl) rfl | exact kd _ (mem5 rfl) rfl | exact kd _ (Array.mem_of_getElem? (i := 6) rfl) rfl | exact kd _ (Array.mem_of_getElem? (i := 7) rfl) rfl
            have hy := ky 7 128 false (by decide) rfl dg
            rw [if_pos (by simp [Region.wanted, hy])]
            have t8 : ρ (.tmp 8) = .slice (some ⟨b, o, none⟩) us.length cb := ki 8 (by decide)
            simp [execOp, go_sem, kc, t8]
            exact ⟨hC, Below.refl _ _, rfl⟩
          · intro v W ρ y hC kc kf ks ki ky ku kd
            have dg : v 7 = .bool false := by first | exact kd _ (mem0 rfl) rfl | exact kd _ (mem1 rfl) rfl | exact kd _ (mem2 rfl) rfl | exact kd _ (mem3 rfl) rfl | exact kd _ (mem4 rfl) rfl | exact kd _ (mem5 rfl) rfl | exact kd _ (Array.mem_of_getElem? (i := 6) rfl) rfl | exact kd _ (Array.mem_of_getElem? (i := 7) rfl) rfl
            have hy := ky 7 128 false (by decide) rfl dg
            rw [if_pos (by simp [Region.wanted, hy])]
            have t18 : ρ (.tmp 18) = .int .i64 (k : Int) := ki 18 (by decide)
            simp [execOp, go_sem, kc, t18]
            exact ⟨hC, Below.refl _ _, rfl⟩
          · intro v W ρ y hC kc kf ks ki ky ku kd
            have dg : v 7 = .bool false := by first | exact kd _ (mem0 rfl) rfl | exact kd _ (mem1 rfl) rfl | exact kd _ (mem2 rfl) rfl | exact kd _ (mem3 rfl) rfl | exact kd _ (mem4 rfl) rfl | exact kd _ (mem5 rfl) rfl | exact kd _ (Array.mem_of_getElem? (i := 6) rfl) rfl | exact kd _ (Array.mem_of_getElem? (i := 7) rfl) rfl
            have hy := ky 7 128 false (by decide) rfl dg
            rw [if_pos (by simp [Region.wanted, hy])]
            have d8 : v 8 = .slice (some ⟨b, o, none⟩) us.length cb := by first | exact kd _ (mem0 rfl) rfl | exact kd _ (mem1 rfl) rfl | exact kd _ (mem2 rfl) rfl | exact kd _ (mem3 rfl) rfl | exact kd _ (mem4 rfl) rfl | exact kd _ (mem5 rfl) rfl | exact kd _ (Array.mem_of_getElem? (i := 6) rfl) rfl | exact kd _ (Array.mem_of_getElem? (i := 7) rfl) rfl
            have t129 : ρ (.tmp 129) = .slice (some ⟨b, o, none⟩) us.length cb := (ks 8 129 (by decide) rfl).trans d8
            have d9 : v 9 = .int .i64 (k : Int) := by first | exact kd _ (mem0 rfl) rfl | exact kd _ (mem1 rfl) rfl | exact kd _ (mem2 rfl) rfl | exact kd _ (mem3 rfl) rfl | exact kd _ (mem4 rfl) rfl | exact kd _ (mem5 rfl) rfl | exact kd _ (Array.mem_of_getElem? (i := 6) rfl) rfl | exact kd _ (Array.mem_of_getElem? (i := 7) rfl) rfl
            have t130 : ρ (.tmp 130) = .int .i64 (k : Int) := (ks 9 130 (by decide) rfl).trans d9
            simp [execOp, go_sem, kc, t129, t130, hj]
            exact ⟨hC, Below.refl _ _, rfl⟩
          · intro v W ρ y hC kc kf ks ki ky ku kd
            have dg : v 7 = .bool false := by first | exact kd _ (mem0 rfl) rfl | exact kd _ (mem1 rfl) rfl | exact kd _ (mem2 rfl) rfl | exact kd _ (mem3 rfl) rfl | exact kd _ (mem4 rfl) rfl | exact kd _ (mem5 rfl) rfl | exact kd _ (Array.mem_of_getElem? (i := 6) rfl) rfl | exact kd _ (Array.mem_of_getElem? (i := 7) rfl) rfl
            have hy := ky 7 128 false (by decide) rfl dg
            rw [if_pos (by simp [Region.wanted, hy])]
            have d10 : v 10 = .pointer (some ⟨b, o + k * 6, none⟩) := by first | exact kd _ (mem0 rfl) rfl | exact kd _ (mem1 rfl) rfl | exact kd _ (mem2 rfl) rfl | exact kd _ (mem3 rfl) rfl | exact kd _ (mem4 rfl) rfl | exact kd _ (mem5 rfl) rfl | exact kd _ (Array.mem_of_getElem? (i := 6) rfl) rfl | exact kd _ (Array.mem_of_getElem? (i := 7) rfl) rfl
            have t131 : ρ (.tmp 131) = .pointer (some ⟨b, o + k * 6, none⟩) := (ks 10 131 (by decide) rfl).trans d10
            have z0 := (hC.cell (p := ⟨b, o + k * 6, none⟩) hbl).trans c0
            have z1 := (hC.cell (p := ⟨b, o + k * 6 + 1, none⟩) hbl).trans c1
            have z2 := (hC.cell (p := ⟨b, o + k * 6 + 2, none⟩) hbl).trans c2'
            have z3 := (hC.cell (p := ⟨b, o + k * 6 + 3, none⟩) hbl).trans c3
            have z4 := (hC.cell (p := ⟨b, o + k * 6 + 4, none⟩) hbl).trans c4
            have z5 := (hC.cell (p := ⟨b, o + k * 6 + 5, none⟩) hbl).trans c5
            simp [execOp, go_sem, kc, t131, z0, z1, z2, z3, z4, z5]
            exact ⟨hC, Below.refl _ _, rfl⟩
          · intro v W ρ y hC kc kf ks ki ky ku kd
            have dg : v 7 = .bool false := by first | exact kd _ (mem0 rfl) rfl | exact kd _ (mem1 rfl) rfl | exact kd _ (mem2 rfl) rfl | exact kd _ (mem3 rfl) rfl | exact kd _ (mem4 rfl) rfl | exact kd _ (mem5 rfl) rfl | exact kd _ (Array.mem_of_getElem? (i := 6) rfl) rfl | exact kd _ (Array.mem_of_getElem? (i := 7) rfl) rfl
            have hy := ky 7 128 false (by decide) rfl dg
            rw [if_pos (by simp [Region.wanted, hy])]
            have t9 : ρ (.tmp 9) = .pointer (some ⟨xY, 0, none⟩) := ki 9 (by decide)
            simp [execOp, go_sem, kc, t9]
            exact ⟨hC, Below.refl _ _, rfl⟩
          · intro v W ρ y hC kc kf ks ki ky ku kd
            have dg : v 7 = .bool false := by first | exact kd _ (mem0 rfl) rfl | exact kd _ (mem1 rfl) rfl | exact kd _ (mem2 rfl) rfl | exact kd _ (mem3 rfl) rfl | exact kd _ (mem4 rfl) rfl | exact kd _ (mem5 rfl) rfl | exact kd _ (Array.mem_of_getElem? (i := 6) rfl) rfl | exact kd _ (Array.mem_of_getElem? (i := 7) rfl) rfl
            have hy := ky 7 128 false (by decide) rfl dg
            rw [if_pos (by simp [Region.wanted, hy])]
            have d12 : v 12 = .pointer (some ⟨xY, 0, none⟩) := by first | exact kd _ (mem0 rfl) rfl | exact kd _ (mem1 rfl) rfl | exact kd _ (mem2 rfl) rfl | exact kd _ (mem3 rfl) rfl | exact kd _ (mem4 rfl) rfl | exact kd _ (mem5 rfl) rfl | exact kd _ (Array.mem_of_getElem? (i := 6) rfl) rfl | exact kd _ (Array.mem_of_getElem? (i := 7) rfl) rfl
            have t133 : ρ (.tmp 133) = .pointer (some ⟨xY, 0, none⟩) := (ks 12 133 (by decide) rfl).trans d12
            have hg := blk_later hY.out hC
            have c0 := blk_cell hg 0
            have c1 := blk_cell hg 1
            have c2 := blk_cell hg 2
            have c3 := blk_cell hg 3
            have c4 := blk_cell hg 4
            have c5 := blk_cell hg 5
            simp at c0 c1 c2 c3 c4 c5
            simp [execOp, go_sem, kc, t133, c0, c1, c2, c3, c4, c5]
            exact ⟨hC, Below.refl _ _, rfl⟩
          · intro v W ρ y hC kc kf ks ki ky ku kd
            have dg : v 7 = .bool false := by first | exact kd _ (mem0 rfl) rfl | exact kd _ (mem1 rfl) rfl | exact kd _ (mem2 rfl) rfl | exact kd _ (mem3 rfl) rfl | exact kd _ (mem4 rfl) rfl | exact kd _ (mem5 rfl) rfl | exact kd _ (Array.mem_of_getElem? (i := 6) rfl) rfl | exact kd _ (Array.mem_of_getElem? (i := 7) rfl) rfl
            have hy := ky 7 128 false (by decide) rfl dg
            rw [if_pos (by simp [Region.wanted, hy])]
            have d13 : v 13 = .agg #[.int .i64 x.proto, .int .i64 x.src, .int .i64 x.sport, .int .i64 x.dst, .int .i64 x.dport, .int .i64 x.kind] := by first | exact kd _ (mem0 rfl) rfl | exact kd _ (mem1 rfl) rfl | exact kd _ (mem2 rfl) rfl | exact kd _ (mem3 rfl) rfl | exact kd _ (mem4 rfl) rfl | exact kd _ (mem5 rfl) rfl | exact kd _ (Array.mem_of_getElem? (i := 6) rfl) rfl | exact kd _ (Array.mem_of_getElem? (i := 7) rfl) rfl
            have t134 : ρ (.tmp 134) = .agg #[.int .i64 x.proto, .int .i64 x.src, .int .i64 x.sport, .int .i64 x.dst, .int .i64 x.dport, .int .i64 x.kind] := (ks 13 134 (by decide) rfl).trans d13
            simp [execOp, go_sem, kc, t134, kf]
            exact Calls.mono (HIV.out W) (fun e x h => ⟨_, h.1, hC.trans (h.2.mono hC.size), h.2, rfl⟩)
          · intro v W ρ y hC kc kf ks ki ky ku kd
            have dg : v 7 = .bool false := by first | exact kd _ (mem0 rfl) rfl | exact kd _ (mem1 rfl) rfl | exact kd _ (mem2 rfl) rfl | exact kd _ (mem3 rfl) rfl | exact kd _ (mem4 rfl) rfl | exact kd _ (mem5 rfl) rfl | exact kd _ (Array.mem_of_getElem? (i := 6) rfl) rfl | exact kd _ (Array.mem_of_getElem? (i := 7) rfl) rfl
            have hy := ky 7 128 false (by decide) rfl dg
            rw [if_pos (by simp [Region.wanted, hy])]
            have d11 : v 11 = .agg #[.int .i64 e.proto, .int .i64 e.src, .int .i64 e.sport, .int .i64 e.dst, .int .i64 e.dport, .int .i64 e.kind] := by first | exact kd _ (mem0 rfl) rfl | exact kd _ (mem1 rfl) rfl | exact kd _ (mem2 rfl) rfl | exact kd _ (mem3 rfl) rfl | exact kd _ (mem4 rfl) rfl | exact kd _ (mem5 rfl) rfl | exact kd _ (Array.mem_of_getElem? (i := 6) rfl) rfl | exact kd _ (Array.mem_of_getElem? (i := 7) rfl) rfl
            have t132 : ρ (.tmp 132) = .agg #[.int .i64 e.proto, .int .i64 e.src, .int .i64 e.sport, .int .i64 e.dst, .int .i64 e.dport, .int .i64 e.kind] := (ks 11 132 (by decide) rfl).trans d11
            have d14 : v 14 = .agg #[.int .i64 ix.proto, .int .i64 ix.src, .int .i64 ix.sport, .int .i64 ix.dst, .int .i64 ix.dport, .int .i64 ix.kind] := by first | exact kd _ (mem0 rfl) rfl | exact kd _ (mem1 rfl) rfl | exact kd _ (mem2 rfl) rfl | exact kd _ (mem3 rfl) rfl | exact kd _ (mem4 rfl) rfl | exact kd _ (mem5 rfl) rfl | exact kd _ (Array.mem_of_getElem? (i := 6) rfl) rfl | exact kd _ (Array.mem_of_getElem? (i := 7) rfl) rfl
            have t135 : ρ (.tmp 135) = .agg #[.int .i64 ix.proto, .int .i64 ix.src, .int .i64 ix.sport, .int .i64 ix.dst, .int .i64 ix.dport, .int .i64 ix.kind] := (ks 14 135 (by decide) rfl).trans d14
            have eg : Try.prog.eqGuardType Try.prog.depth 52 = false := by kernel_rfl
            have e1 := E2.out W
            simp only [execOp, t132, t135, Sem.run_bind, run_eqGuard_agg, eg, e1, Result.andThen_ok, Sem.run_pure]
            exact ⟨hC, Below.refl _ _, rfl⟩
          · refine stepW_of_u ⟨rfl, fun v W ρ hC kc kf ks ki kd => ?_⟩
            have d7 : v 7 = .bool false := by first | exact kd _ (mem0 rfl) rfl | exact kd _ (mem1 rfl) rfl | exact kd _ (mem2 rfl) rfl | exact kd _ (mem3 rfl) rfl | exact kd _ (mem4 rfl) rfl | exact kd _ (mem5 rfl) rfl | exact kd _ (Array.mem_of_getElem? (i := 6) rfl) rfl | exact kd _ (Array.mem_of_getElem? (i := 7) rfl) rfl
            have t128 : ρ (.tmp 128) = .bool false := (ks 7 128 (by decide) rfl).trans d7
            have d15 : v 15 = .bool false := by first | exact kd _ (mem0 rfl) rfl | exact kd _ (mem1 rfl) rfl | exact kd _ (mem2 rfl) rfl | exact kd _ (mem3 rfl) rfl | exact kd _ (mem4 rfl) rfl | exact kd _ (mem5 rfl) rfl | exact kd _ (Array.mem_of_getElem? (i := 6) rfl) rfl | exact kd _ (Array.mem_of_getElem? (i := 7) rfl) rfl
            have t136 : ρ (.tmp 136) = .bool false := (ks 15 136 (by decide) rfl).trans d15
            simp [execOp, go_sem, kc, t128, t136]
            exact ⟨hC, Below.refl _ _, rfl⟩
        intro vL16 wl hbl2 hall
        have hvL16 : vL16 16 = .bool false := hall 16 (by decide)
        simp [upto, Act.put]
        rw [hvL16]
        clear hall hvL16
        have hb3 := hidS (HBK.out.trans (hbl2.mono HBK.out.size))
        clear hbl2
        go_wp2_with fail
        go_roundw
        case rel => exact ⟨k + 1, by simp, by omega, hb3.out⟩
        case measure => simp [intOf]; omega
      · have hge : ¬ (k : Int) < (us.length : Int) := by omega
        clear hlt RA11 RB11 T11 Y11 hL11 hbk F1 HIV
        have ED := ans_goal F5.out F6.out
        have ES := ans_send F5.out F3.out
        have HK := hidS (has_kind (l := rs) (k := 2) (t := t))
        have HZ := hidS (has_not (l := rs) (k := 2) (t := t))
        have HK1 := hidS (has_kind (l := rs) (k := 1) (t := goalT rs t))
        have HZ1 := hidS (has_not (l := rs) (k := 1) (t := goalT rs t))
        have HD := hidS (fun W h => HSP.out 2 t W h)
        rw [ED] at HD
        have HG : Hid (goalT rs t = if hasR rs 2 t = true then ⟨t.proto, t.src, t.sport, (foundR rs 2 t).goal, if 0 < (foundR rs 2 t).low ∧ t.proto ≠ 1 then (foundR rs 2 t).low else t.dport, t.kind⟩ else t) := rfl
        have HS := hidS (fun W h => HSP.out 1 (goalT rs t) W h)
        rw [ES] at HS
        clear ED ES HSP F5 F6 F3
        generalize foundR rs 1 (goalT rs t) = s at HS HK1 HZ1 F4
        generalize hasR rs 1 (goalT rs t) = h1 at HK1 HZ1 F4
        generalize goalT rs t = g at HG HS F4
        generalize foundR rs 2 t = d at HD HK HZ HG
        generalize hasR rs 2 t = h2 at HK HZ HG
        have v0 := blk_cell hT.out 0
        have v1 := blk_cell hT.out 1
        have v2 := blk_cell hT.out 2
        have v3 := blk_cell hT.out 3
        have v4 := blk_cell hT.out 4
        have v5 := blk_cell hT.out 5
        simp at v0 v1 v2 v3 v4 v5
        go_wp2_with fail
        refine (HD.out _ hA.out).mono ?_
        rintro _ w0' ⟨rfl, hb⟩
        have hT0 := hidS (blk_later hT.out hb)
        have hY0 := hidS (blk_later hY.out hb)
        have hA0 := hidS (hA.out.later hb)
        have hL0 := hidS (hL.out.trans (hb.mono hL.out.size))
        clear hb hT hY hA hL HD v0 v1 v2 v3 v4 v5
        generalize w0' = w0 at *
        have hT1 := hidS (blk_alloc hT0.out (.cells #[.int .i64 d.kind, .int .i64 d.proto, .int .i64 d.net, .int .i64 d.bits, .int .i64 d.goal, .int .i64 d.low, .int .i64 d.high] 64))
        have hY1 := hidS (blk_alloc hY0.out (.cells #[.int .i64 d.kind, .int .i64 d.proto, .int .i64 d.net, .int .i64 d.bits, .int .i64 d.goal, .int .i64 d.low, .int .i64 d.high] 64))
        have hA1 := hidS (hA0.out.later ((Below.refl w0.heap.size w0).alloc (Nat.le_refl _) (.cells #[.int .i64 d.kind, .int .i64 d.proto, .int .i64 d.net, .int .i64 d.bits, .int .i64 d.goal, .int .i64 d.low, .int .i64 d.high] 64)))
        have hD1 := hidS (heap_newG w0 (.cells #[.int .i64 d.kind, .int .i64 d.proto, .int .i64 d.net, .int .i64 d.bits, .int .i64 d.goal, .int .i64 d.low, .int .i64 d.high] 64))
        have hL1 := hidS (hL0.out.alloc hL0.out.size (.cells #[.int .i64 d.kind, .int .i64 d.proto, .int .i64 d.net, .int .i64 d.bits, .int .i64 d.goal, .int .i64 d.low, .int .i64 d.high] 64))
        clear hT0 hY0 hA0 hL0
        go_upto_region 19 with fail
        generalize w0.alloc (.cells #[.int .i64 d.kind, .int .i64 d.proto, .int .i64 d.net, .int .i64 d.bits, .int .i64 d.goal, .int .i64 d.low, .int .i64 d.high] 64) = w1 at hT1 hY1 hA1 hD1 hL1 ⊢
        generalize w0.heap.size = xD at *
        have v0 := blk_cell hT1.out 0
        have v1 := blk_cell hT1.out 1
        have v2 := blk_cell hT1.out 2
        have v3 := blk_cell hT1.out 3
        have v4 := blk_cell hT1.out 4
        have v5 := blk_cell hT1.out 5
        simp at v0 v1 v2 v3 v4 v5
        go_upto_region 20 with fail
        clear v0 v1 v2 v3 v4 v5
        have hT2 := hidS (blk_alloc hT1.out (.cells #[.int .i64 t.proto, .int .i64 t.src, .int .i64 t.sport, .int .i64 t.dst, .int .i64 t.dport, .int .i64 t.kind] 52))
        have hY2 := hidS (blk_alloc hY1.out (.cells #[.int .i64 t.proto, .int .i64 t.src, .int .i64 t.sport, .int .i64 t.dst, .int .i64 t.dport, .int .i64 t.kind] 52))
        have hA2 := hidS (hA1.out.later ((Below.refl w1.heap.size w1).alloc (Nat.le_refl _) (.cells #[.int .i64 t.proto, .int .i64 t.src, .int .i64 t.sport, .int .i64 t.dst, .int .i64 t.dport, .int .i64 t.kind] 52)))
        have hD2 := hidS (blk_alloc hD1.out (.cells #[.int .i64 t.proto, .int .i64 t.src, .int .i64 t.sport, .int .i64 t.dst, .int .i64 t.dport, .int .i64 t.kind] 52))
        have hG2 := hidS (heap_newG w1 (.cells #[.int .i64 t.proto, .int .i64 t.src, .int .i64 t.sport, .int .i64 t.dst, .int .i64 t.dport, .int .i64 t.kind] 52))
        have hL2 := hidS (hL1.out.alloc hL1.out.size (.cells #[.int .i64 t.proto, .int .i64 t.src, .int .i64 t.sport, .int .i64 t.dst, .int .i64 t.dport, .int .i64 t.kind] 52))
        have hAne := hidS (row_apart hA1.out)
        have lT := blk_lt hT1.out
        have lY := blk_lt hY1.out
        have lD := blk_lt hD1.out
        have lW := hL1.out.size
        clear hT1 hY1 hA1 hD1 hL1
        generalize w1.alloc (.cells #[.int .i64 t.proto, .int .i64 t.src, .int .i64 t.sport, .int .i64 t.dst, .int .i64 t.dport, .int .i64 t.kind] 52) = w2 at hT2 hY2 hA2 hD2 hG2 hL2 ⊢
        generalize w1.heap.size = xG at *
        cases h2
        · have hz := HZ.out rfl
          have e0 : d.kind = 0 := by rw [hz]; rfl
          have d0 := blk_cell hD2.out 0
          simp at d0
          rw [e0] at d0
          have hgt : g = t := HG.out
          subst hgt
          clear hz e0 HZ HK
          go_upto_region 24 with fail
          clear d0
          have v0 := blk_cell hG2.out 0
          have v1 := blk_cell hG2.out 1
          have v2 := blk_cell hG2.out 2
          have v3 := blk_cell hG2.out 3
          have v4 := blk_cell hG2.out 4
          have v5 := blk_cell hG2.out 5
          simp at v0 v1 v2 v3 v4 v5
          go_wp2_with fail
          refine (HS.out _ hA2.out).mono ?_
          rintro _ w3 ⟨rfl, hb⟩
          clear v0 v1 v2 v3 v4 v5
          have hT3 := hidS (blk_later hT2.out hb)
          have hY3 := hidS (blk_later hY2.out hb)
          have hA3 := hidS (hA2.out.later hb)
          have hD3 := hidS (blk_later hD2.out hb)
          have hG3 := hidS (blk_later hG2.out hb)
          have hL3 := hidS (hL2.out.trans (hb.mono hL2.out.size))
          clear hT2 hY2 hA2 hD2 hG2 hL2 hb
          have hT4 := hidS (blk_alloc hT3.out (.cells #[.int .i64 s.kind, .int .i64 s.proto, .int .i64 s.net, .int .i64 s.bits, .int .i64 s.goal, .int .i64 s.low, .int .i64 s.high] 64))
          have hY4 := hidS (blk_alloc hY3.out (.cells #[.int .i64 s.kind, .int .i64 s.proto, .int .i64 s.net, .int .i64 s.bits, .int .i64 s.goal, .int .i64 s.low, .int .i64 s.high] 64))
          have hA4 := hidS (hA3.out.later ((Below.refl w3.heap.size w3).alloc (Nat.le_refl _) (.cells #[.int .i64 s.kind, .int .i64 s.proto, .int .i64 s.net, .int .i64 s.bits, .int .i64 s.goal, .int .i64 s.low, .int .i64 s.high] 64)))
          have hD4 := hidS (blk_alloc hD3.out (.cells #[.int .i64 s.kind, .int .i64 s.proto, .int .i64 s.net, .int .i64 s.bits, .int .i64 s.goal, .int .i64 s.low, .int .i64 s.high] 64))
          have hG4 := hidS (blk_alloc hG3.out (.cells #[.int .i64 s.kind, .int .i64 s.proto, .int .i64 s.net, .int .i64 s.bits, .int .i64 s.goal, .int .i64 s.low, .int .i64 s.high] 64))
          have hS4 := hidS (heap_newG w3 (.cells #[.int .i64 s.kind, .int .i64 s.proto, .int .i64 s.net, .int .i64 s.bits, .int .i64 s.goal, .int .i64 s.low, .int .i64 s.high] 64))
          have hL4 := hidS (hL3.out.alloc hL3.out.size (.cells #[.int .i64 s.kind, .int .i64 s.proto, .int .i64 s.net, .int .i64 s.bits, .int .i64 s.goal, .int .i64 s.low, .int .i64 s.high] 64))
          clear hT3 hY3 hA3 hD3 hG3 hL3
          go_upto_region 25 with fail
          generalize w3.alloc (.cells #[.int .i64 s.kind, .int .i64 s.proto, .int .i64 s.net, .int .i64 s.bits, .int .i64 s.goal, .int .i64 s.low, .int .i64 s.high] 64) = w4 at hT4 hY4 hA4 hD4 hG4 hS4 hL4 ⊢
          generalize w3.heap.size = xS at *
          have v0 := blk_cell hG4.out 0
          have v1 := blk_cell hG4.out 1
          have v2 := blk_cell hG4.out 2
          have v3 := blk_cell hG4.out 3
          have v4 := blk_cell hG4.out 4
          have v5 := blk_cell hG4.out 5
          simp at v0 v1 v2 v3 v4 v5
          have y0 := blk_cell hY4.out 0
          have y1 := blk_cell hY4.out 1
          have y2 := blk_cell hY4.out 2
          have y3 := blk_cell hY4.out 3
          have y4 := blk_cell hY4.out 4
          have y5 := blk_cell hY4.out 5
          simp at y0 y1 y2 y3 y4 y5
          have s0 := blk_cell hS4.out 0
          have s1 := blk_cell hS4.out 1
          have s2 := blk_cell hS4.out 2
          have s3 := blk_cell hS4.out 3
          have s4 := blk_cell hS4.out 4
          have s5 := blk_cell hS4.out 5
          have s6 := blk_cell hS4.out 6
          simp at s0 s1 s2 s3 s4 s5 s6
          rcases F4.out with ⟨h1e, hx⟩ | ⟨h1e, k, hx, hlo, hhi⟩
          · have hz := HZ1.out h1e
            have e0 : s.kind = 0 := by rw [hz]; rfl
            rw [e0] at s0
            have E3 := fun W => eql_tup x (⟨g.proto, g.src, g.sport, g.dst, g.dport, g.kind⟩ : Tp) W
            rw [sameT_iff.2 hx] at E3
            clear hz e0 h1e hx F4 HZ1 HK1 HS HG
            go_wp2_with fail
            go_ret
            exact ⟨rfl, hL4.out⟩
          · have hk1 := HK1.out h1e
            rw [hk1] at s0
            have b1 : (x.src == s.goal) = true := by rw [hx]; simp [nameK, senderT]
            have b2 : (x.dst == g.dst) = true := by rw [hx]; simp [nameK, senderT]
            have b3 : s.low ≤ x.sport := by rw [hx]; exact hlo
            have b4 : x.sport ≤ s.high := by rw [hx]; exact hhi
            have HTR := hidS (fun W => specTRight_any x W)
            rw [F2.out] at HTR
            clear hk1 h1e hx hlo hhi F4 HZ1 HK1 HS HG
            go_wp2_with fail
            refine (HTR.out _).mono ?_
            rintro _ wz ⟨rfl, hbz⟩
            have hLz := hidS (hL4.out.trans (hbz.mono hL4.out.size))
            go_wp2_with fail
            go_ret
            exact ⟨rfl, hLz.out⟩
        have hk := HK.out rfl
        have d0 := blk_cell hD2.out 0
        have d4 := blk_cell hD2.out 4
        simp at d0 d4
        rw [hk] at d0
        clear HZ HK
        have HG2 : Hid (g = ⟨t.proto, t.src, t.sport, d.goal, if 0 < d.low ∧ t.proto ≠ 1 then d.low else t.dport, t.kind⟩) := HG.out
        clear HG hk
        have k0 := blk_cell hG2.out 3
        have f0 := blk_free hG2.out 3
        simp at k0
        have hT3 := hidS (blk_other (B := xG) hT2.out (by omega) 3 (.int .i64 d.goal))
        have hY3 := hidS (blk_other (B := xG) hY2.out (by omega) 3 (.int .i64 d.goal))
        have hA3 := hidS (rowZ_set hA2.out xG 3 (.int .i64 d.goal) hAne.out)
        have hD3 := hidS (blk_other (B := xG) hD2.out (by omega) 3 (.int .i64 d.goal))
        have hG3 : Hid ((w2.setCell ⟨xG, 3, none⟩ (.int .i64 d.goal)).heap[xG]? = some (.cells #[.int .i64 t.proto, .int .i64 t.src, .int .i64 t.sport, .int .i64 d.goal, .int .i64 t.dport, .int .i64 t.kind] 52)) := blk_set hG2.out 3 (.int .i64 d.goal)
        have hL3 := hidS (below_at (b := xG) (k := 3) (v := .int .i64 d.goal) hL2.out (by omega))
        go_upto_region 22 with fail
        clear k0 f0 hT2 hY2 hA2 hD2 hG2 hL2
        generalize w2.setCell ⟨xG, 3, none⟩ (.int .i64 d.goal) = w3 at hT3 hY3 hA3 hD3 hG3 hL3 ⊢
        clear d0 d4
        have d5 := blk_cell hD3.out 5
        have v0 := blk_cell hT3.out 0
        simp at d5 v0
        by_cases hlow : 0 < d.low
        · by_cases hp : t.proto = 1
          · have hgt : g = ⟨t.proto, t.src, t.sport, d.goal, t.dport, t.kind⟩ := by rw [HG2.out, if_neg (fun q => q.2 hp)]
            have bp : (t.proto != 1) = false := by rw [hp]; rfl
            subst hgt
            clear hp
            have HG := hidS True.intro
            go_upto_region 24 with fail
            clear d5 v0
            have v0 := blk_cell hG3.out 0
            have v1 := blk_cell hG3.out 1
            have v2 := blk_cell hG3.out 2
            have v3 := blk_cell hG3.out 3
            have v4 := blk_cell hG3.out 4
            have v5 := blk_cell hG3.out 5
            simp at v0 v1 v2 v3 v4 v5
            go_wp2_with fail
            refine (HS.out _ hA3.out).mono ?_
            rintro _ w4 ⟨rfl, hb⟩
            clear v0 v1 v2 v3 v4 v5
            have hT4 := hidS (blk_later hT3.out hb)
            have hY4 := hidS (blk_later hY3.out hb)
            have hA4 := hidS (hA3.out.later hb)
            have hD4 := hidS (blk_later hD3.out hb)
            have hG4 := hidS (blk_later hG3.out hb)
            have hL4 := hidS (hL3.out.trans (hb.mono hL3.out.size))
            clear hT3 hY3 hA3 hD3 hG3 hL3 hb
            have hT5 := hidS (blk_alloc hT4.out (.cells #[.int .i64 s.kind, .int .i64 s.proto, .int .i64 s.net, .int .i64 s.bits, .int .i64 s.goal, .int .i64 s.low, .int .i64 s.high] 64))
            have hY5 := hidS (blk_alloc hY4.out (.cells #[.int .i64 s.kind, .int .i64 s.proto, .int .i64 s.net, .int .i64 s.bits, .int .i64 s.goal, .int .i64 s.low, .int .i64 s.high] 64))
            have hA5 := hidS (hA4.out.later ((Below.refl w4.heap.size w4).alloc (Nat.le_refl _) (.cells #[.int .i64 s.kind, .int .i64 s.proto, .int .i64 s.net, .int .i64 s.bits, .int .i64 s.goal, .int .i64 s.low, .int .i64 s.high] 64)))
            have hD5 := hidS (blk_alloc hD4.out (.cells #[.int .i64 s.kind, .int .i64 s.proto, .int .i64 s.net, .int .i64 s.bits, .int .i64 s.goal, .int .i64 s.low, .int .i64 s.high] 64))
            have hG5 := hidS (blk_alloc hG4.out (.cells #[.int .i64 s.kind, .int .i64 s.proto, .int .i64 s.net, .int .i64 s.bits, .int .i64 s.goal, .int .i64 s.low, .int .i64 s.high] 64))
            have hS5 := hidS (heap_newG w4 (.cells #[.int .i64 s.kind, .int .i64 s.proto, .int .i64 s.net, .int .i64 s.bits, .int .i64 s.goal, .int .i64 s.low, .int .i64 s.high] 64))
            have hL5 := hidS (hL4.out.alloc hL4.out.size (.cells #[.int .i64 s.kind, .int .i64 s.proto, .int .i64 s.net, .int .i64 s.bits, .int .i64 s.goal, .int .i64 s.low, .int .i64 s.high] 64))
            clear hT4 hY4 hA4 hD4 hG4 hL4
            go_upto_region 25 with fail
            generalize w4.alloc (.cells #[.int .i64 s.kind, .int .i64 s.proto, .int .i64 s.net, .int .i64 s.bits, .int .i64 s.goal, .int .i64 s.low, .int .i64 s.high] 64) = w5 at hT5 hY5 hA5 hD5 hG5 hS5 hL5 ⊢
            generalize w4.heap.size = xS at *
            have v0 := blk_cell hG5.out 0
            have v1 := blk_cell hG5.out 1
            have v2 := blk_cell hG5.out 2
            have v3 := blk_cell hG5.out 3
            have v4 := blk_cell hG5.out 4
            have v5 := blk_cell hG5.out 5
            simp at v0 v1 v2 v3 v4 v5
            have y0 := blk_cell hY5.out 0
            have y1 := blk_cell hY5.out 1
            have y2 := blk_cell hY5.out 2
            have y3 := blk_cell hY5.out 3
            have y4 := blk_cell hY5.out 4
            have y5 := blk_cell hY5.out 5
            simp at y0 y1 y2 y3 y4 y5
            have s0 := blk_cell hS5.out 0
            have s1 := blk_cell hS5.out 1
            have s2 := blk_cell hS5.out 2
            have s3 := blk_cell hS5.out 3
            have s4 := blk_cell hS5.out 4
            have s5 := blk_cell hS5.out 5
            have s6 := blk_cell hS5.out 6
            simp at s0 s1 s2 s3 s4 s5 s6
            rcases F4.out with ⟨h1e, hx⟩ | ⟨h1e, k, hx, hlo, hhi⟩
            · have hz := HZ1.out h1e
              have e0 : s.kind = 0 := by rw [hz]; rfl
              rw [e0] at s0
              have E3 := fun W => eql_tup x (⟨t.proto, t.src, t.sport, d.goal, t.dport, t.kind⟩ : Tp) W
              rw [sameT_iff.2 hx] at E3
              clear hz e0 h1e hx F4 HZ1 HK1 HS HG
              go_wp2_with fail
              go_ret
              exact ⟨rfl, hL5.out⟩
            · have hk1 := HK1.out h1e
              rw [hk1] at s0
              have b1 : (x.src == s.goal) = true := by rw [hx]; simp [nameK, senderT]
              have b2 : (x.dst == d.goal) = true := by rw [hx]; simp [nameK, senderT]
              have b3 : s.low ≤ x.sport := by rw [hx]; exact hlo
              have b4 : x.sport ≤ s.high := by rw [hx]; exact hhi
              have HTR := hidS (fun W => specTRight_any x W)
              rw [F2.out] at HTR
              clear hk1 h1e hx hlo hhi F4 HZ1 HK1 HS HG
              go_wp2_with fail
              refine (HTR.out _).mono ?_
              rintro _ wz ⟨rfl, hbz⟩
              have hLz := hidS (hL5.out.trans (hbz.mono hL5.out.size))
              go_wp2_with fail
              go_ret
              exact ⟨rfl, hLz.out⟩
          have hgt : g = ⟨t.proto, t.src, t.sport, d.goal, d.low, t.kind⟩ := by rw [HG2.out, if_pos ⟨hlow, hp⟩]
          have bp : (t.proto != 1) = true := by simp [bne, hp]
          subst hgt
          clear hp
          have HG := hidS True.intro
          go_upto_region 23 with fail
          have k0 := blk_cell hG3.out 4
          have f0 := blk_free hG3.out 4
          simp at k0
          have hT4 := hidS (blk_other (B := xG) hT3.out (by omega) 4 (.int .i64 d.low))
          have hY4 := hidS (blk_other (B := xG) hY3.out (by omega) 4 (.int .i64 d.low))
          have hA4 := hidS (rowZ_set hA3.out xG 4 (.int .i64 d.low) hAne.out)
          have hD4 := hidS (blk_other (B := xG) hD3.out (by omega) 4 (.int .i64 d.low))
          have hG4 : Hid ((w3.setCell ⟨xG, 4, none⟩ (.int .i64 d.low)).heap[xG]? = some (.cells #[.int .i64 t.proto, .int .i64 t.src, .int .i64 t.sport, .int .i64 d.goal, .int .i64 d.low, .int .i64 t.kind] 52)) := blk_set hG3.out 4 (.int .i64 d.low)
          have hL4 := hidS (below_at (b := xG) (k := 4) (v := .int .i64 d.low) hL3.out (by omega))
          go_upto_region 24 with fail
          clear k0 f0 hT3 hY3 hA3 hD3 hG3 hL3
          generalize w3.setCell ⟨xG, 4, none⟩ (.int .i64 d.low) = w4 at hT4 hY4 hA4 hD4 hG4 hL4 ⊢
          clear d5 v0
          have v0 := blk_cell hG4.out 0
          have v1 := blk_cell hG4.out 1
          have v2 := blk_cell hG4.out 2
          have v3 := blk_cell hG4.out 3
          have v4 := blk_cell hG4.out 4
          have v5 := blk_cell hG4.out 5
          simp at v0 v1 v2 v3 v4 v5
          go_wp2_with fail
          refine (HS.out _ hA4.out).mono ?_
          rintro _ w5 ⟨rfl, hb⟩
          clear v0 v1 v2 v3 v4 v5
          have hT5 := hidS (blk_later hT4.out hb)
          have hY5 := hidS (blk_later hY4.out hb)
          have hA5 := hidS (hA4.out.later hb)
          have hD5 := hidS (blk_later hD4.out hb)
          have hG5 := hidS (blk_later hG4.out hb)
          have hL5 := hidS (hL4.out.trans (hb.mono hL4.out.size))
          clear hT4 hY4 hA4 hD4 hG4 hL4 hb
          have hT6 := hidS (blk_alloc hT5.out (.cells #[.int .i64 s.kind, .int .i64 s.proto, .int .i64 s.net, .int .i64 s.bits, .int .i64 s.goal, .int .i64 s.low, .int .i64 s.high] 64))
          have hY6 := hidS (blk_alloc hY5.out (.cells #[.int .i64 s.kind, .int .i64 s.proto, .int .i64 s.net, .int .i64 s.bits, .int .i64 s.goal, .int .i64 s.low, .int .i64 s.high] 64))
          have hA6 := hidS (hA5.out.later ((Below.refl w5.heap.size w5).alloc (Nat.le_refl _) (.cells #[.int .i64 s.kind, .int .i64 s.proto, .int .i64 s.net, .int .i64 s.bits, .int .i64 s.goal, .int .i64 s.low, .int .i64 s.high] 64)))
          have hD6 := hidS (blk_alloc hD5.out (.cells #[.int .i64 s.kind, .int .i64 s.proto, .int .i64 s.net, .int .i64 s.bits, .int .i64 s.goal, .int .i64 s.low, .int .i64 s.high] 64))
          have hG6 := hidS (blk_alloc hG5.out (.cells #[.int .i64 s.kind, .int .i64 s.proto, .int .i64 s.net, .int .i64 s.bits, .int .i64 s.goal, .int .i64 s.low, .int .i64 s.high] 64))
          have hS6 := hidS (heap_newG w5 (.cells #[.int .i64 s.kind, .int .i64 s.proto, .int .i64 s.net, .int .i64 s.bits, .int .i64 s.goal, .int .i64 s.low, .int .i64 s.high] 64))
          have hL6 := hidS (hL5.out.alloc hL5.out.size (.cells #[.int .i64 s.kind, .int .i64 s.proto, .int .i64 s.net, .int .i64 s.bits, .int .i64 s.goal, .int .i64 s.low, .int .i64 s.high] 64))
          clear hT5 hY5 hA5 hD5 hG5 hL5
          go_upto_region 25 with fail
          generalize w5.alloc (.cells #[.int .i64 s.kind, .int .i64 s.proto, .int .i64 s.net, .int .i64 s.bits, .int .i64 s.goal, .int .i64 s.low, .int .i64 s.high] 64) = w6 at hT6 hY6 hA6 hD6 hG6 hS6 hL6 ⊢
          generalize w5.heap.size = xS at *
          have v0 := blk_cell hG6.out 0
          have v1 := blk_cell hG6.out 1
          have v2 := blk_cell hG6.out 2
          have v3 := blk_cell hG6.out 3
          have v4 := blk_cell hG6.out 4
          have v5 := blk_cell hG6.out 5
          simp at v0 v1 v2 v3 v4 v5
          have y0 := blk_cell hY6.out 0
          have y1 := blk_cell hY6.out 1
          have y2 := blk_cell hY6.out 2
          have y3 := blk_cell hY6.out 3
          have y4 := blk_cell hY6.out 4
          have y5 := blk_cell hY6.out 5
          simp at y0 y1 y2 y3 y4 y5
          have s0 := blk_cell hS6.out 0
          have s1 := blk_cell hS6.out 1
          have s2 := blk_cell hS6.out 2
          have s3 := blk_cell hS6.out 3
          have s4 := blk_cell hS6.out 4
          have s5 := blk_cell hS6.out 5
          have s6 := blk_cell hS6.out 6
          simp at s0 s1 s2 s3 s4 s5 s6
          rcases F4.out with ⟨h1e, hx⟩ | ⟨h1e, k, hx, hlo, hhi⟩
          · have hz := HZ1.out h1e
            have e0 : s.kind = 0 := by rw [hz]; rfl
            rw [e0] at s0
            have E3 := fun W => eql_tup x (⟨t.proto, t.src, t.sport, d.goal, d.low, t.kind⟩ : Tp) W
            rw [sameT_iff.2 hx] at E3
            clear hz e0 h1e hx F4 HZ1 HK1 HS HG
            go_wp2_with fail
            go_ret
            exact ⟨rfl, hL6.out⟩
          · have hk1 := HK1.out h1e
            rw [hk1] at s0
            have b1 : (x.src == s.goal) = true := by rw [hx]; simp [nameK, senderT]
            have b2 : (x.dst == d.goal) = true := by rw [hx]; simp [nameK, senderT]
            have b3 : s.low ≤ x.sport := by rw [hx]; exact hlo
            have b4 : x.sport ≤ s.high := by rw [hx]; exact hhi
            have HTR := hidS (fun W => specTRight_any x W)
            rw [F2.out] at HTR
            clear hk1 h1e hx hlo hhi F4 HZ1 HK1 HS HG
            go_wp2_with fail
            refine (HTR.out _).mono ?_
            rintro _ wz ⟨rfl, hbz⟩
            have hLz := hidS (hL6.out.trans (hbz.mono hL6.out.size))
            go_wp2_with fail
            go_ret
            exact ⟨rfl, hLz.out⟩
        have hgt : g = ⟨t.proto, t.src, t.sport, d.goal, t.dport, t.kind⟩ := by rw [HG2.out, if_neg (fun q => hlow q.1)]
        subst hgt
        have HG := hidS True.intro
        go_upto_region 24 with fail
        clear d5 v0
        have v0 := blk_cell hG3.out 0
        have v1 := blk_cell hG3.out 1
        have v2 := blk_cell hG3.out 2
        have v3 := blk_cell hG3.out 3
        have v4 := blk_cell hG3.out 4
        have v5 := blk_cell hG3.out 5
        simp at v0 v1 v2 v3 v4 v5
        go_wp2_with fail
        refine (HS.out _ hA3.out).mono ?_
        rintro _ w4 ⟨rfl, hb⟩
        clear v0 v1 v2 v3 v4 v5
        have hT4 := hidS (blk_later hT3.out hb)
        have hY4 := hidS (blk_later hY3.out hb)
        have hA4 := hidS (hA3.out.later hb)
        have hD4 := hidS (blk_later hD3.out hb)
        have hG4 := hidS (blk_later hG3.out hb)
        have hL4 := hidS (hL3.out.trans (hb.mono hL3.out.size))
        clear hT3 hY3 hA3 hD3 hG3 hL3 hb
        have hT5 := hidS (blk_alloc hT4.out (.cells #[.int .i64 s.kind, .int .i64 s.proto, .int .i64 s.net, .int .i64 s.bits, .int .i64 s.goal, .int .i64 s.low, .int .i64 s.high] 64))
        have hY5 := hidS (blk_alloc hY4.out (.cells #[.int .i64 s.kind, .int .i64 s.proto, .int .i64 s.net, .int .i64 s.bits, .int .i64 s.goal, .int .i64 s.low, .int .i64 s.high] 64))
        have hA5 := hidS (hA4.out.later ((Below.refl w4.heap.size w4).alloc (Nat.le_refl _) (.cells #[.int .i64 s.kind, .int .i64 s.proto, .int .i64 s.net, .int .i64 s.bits, .int .i64 s.goal, .int .i64 s.low, .int .i64 s.high] 64)))
        have hD5 := hidS (blk_alloc hD4.out (.cells #[.int .i64 s.kind, .int .i64 s.proto, .int .i64 s.net, .int .i64 s.bits, .int .i64 s.goal, .int .i64 s.low, .int .i64 s.high] 64))
        have hG5 := hidS (blk_alloc hG4.out (.cells #[.int .i64 s.kind, .int .i64 s.proto, .int .i64 s.net, .int .i64 s.bits, .int .i64 s.goal, .int .i64 s.low, .int .i64 s.high] 64))
        have hS5 := hidS (heap_newG w4 (.cells #[.int .i64 s.kind, .int .i64 s.proto, .int .i64 s.net, .int .i64 s.bits, .int .i64 s.goal, .int .i64 s.low, .int .i64 s.high] 64))
        have hL5 := hidS (hL4.out.alloc hL4.out.size (.cells #[.int .i64 s.kind, .int .i64 s.proto, .int .i64 s.net, .int .i64 s.bits, .int .i64 s.goal, .int .i64 s.low, .int .i64 s.high] 64))
        clear hT4 hY4 hA4 hD4 hG4 hL4
        go_upto_region 25 with fail
        generalize w4.alloc (.cells #[.int .i64 s.kind, .int .i64 s.proto, .int .i64 s.net, .int .i64 s.bits, .int .i64 s.goal, .int .i64 s.low, .int .i64 s.high] 64) = w5 at hT5 hY5 hA5 hD5 hG5 hS5 hL5 ⊢
        generalize w4.heap.size = xS at *
        have v0 := blk_cell hG5.out 0
        have v1 := blk_cell hG5.out 1
        have v2 := blk_cell hG5.out 2
        have v3 := blk_cell hG5.out 3
        have v4 := blk_cell hG5.out 4
        have v5 := blk_cell hG5.out 5
        simp at v0 v1 v2 v3 v4 v5
        have y0 := blk_cell hY5.out 0
        have y1 := blk_cell hY5.out 1
        have y2 := blk_cell hY5.out 2
        have y3 := blk_cell hY5.out 3
        have y4 := blk_cell hY5.out 4
        have y5 := blk_cell hY5.out 5
        simp at y0 y1 y2 y3 y4 y5
        have s0 := blk_cell hS5.out 0
        have s1 := blk_cell hS5.out 1
        have s2 := blk_cell hS5.out 2
        have s3 := blk_cell hS5.out 3
        have s4 := blk_cell hS5.out 4
        have s5 := blk_cell hS5.out 5
        have s6 := blk_cell hS5.out 6
        simp at s0 s1 s2 s3 s4 s5 s6
        rcases F4.out with ⟨h1e, hx⟩ | ⟨h1e, k, hx, hlo, hhi⟩
        · have hz := HZ1.out h1e
          have e0 : s.kind = 0 := by rw [hz]; rfl
          rw [e0] at s0
          have E3 := fun W => eql_tup x (⟨t.proto, t.src, t.sport, d.goal, t.dport, t.kind⟩ : Tp) W
          rw [sameT_iff.2 hx] at E3
          clear hz e0 h1e hx F4 HZ1 HK1 HS HG
          go_wp2_with fail
          go_ret
          exact ⟨rfl, hL5.out⟩
        · have hk1 := HK1.out h1e
          rw [hk1] at s0
          have b1 : (x.src == s.goal) = true := by rw [hx]; simp [nameK, senderT]
          have b2 : (x.dst == d.goal) = true := by rw [hx]; simp [nameK, senderT]
          have b3 : s.low ≤ x.sport := by rw [hx]; exact hlo
          have b4 : x.sport ≤ s.high := by rw [hx]; exact hhi
          have HTR := hidS (fun W => specTRight_any x W)
          rw [F2.out] at HTR
          clear hk1 h1e hx hlo hhi F4 HZ1 HK1 HS HG
          go_wp2_with fail
          refine (HTR.out _).mono ?_
          rintro _ wz ⟨rfl, hbz⟩
          have hLz := hidS (hL5.out.trans (hbz.mono hL5.out.size))
          go_wp2_with fail
          go_ret
          exact ⟨rfl, hLz.out⟩
end Go.Proofs.Ytilajoafppplcaa
