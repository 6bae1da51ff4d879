/- Proved here: impl.namesOf's own function hands each name that may be given to whatever body, in the order in which they are tried (conditions: right rules, a right tuple, a time; rows that can be read). -/
import Derived.Test.YtilajoafppplcaaAll27
import Derived.Test.YtilajoafppplcaaNamesI
import Derived.RangeFuncWrites
namespace Go.Proofs.Ytilajoafppplcaa
open Go.RowKit Go.Shelf
set_option linter.unusedVariables false
set_option linter.unusedSimpArgs false
set_option maxRecDepth 100000
attribute [local go_sem] Oper.semAt_some

/-- the names, in the order in which they are tried -/
def namesL (l : List Rl) (t : Tp) (start : Int) : List Tp := if hasR l 1 t = true then upF (fun k : Nat => senderT t (foundR l 1 t).goal (portN (foundR l 1 t) start k)) (manyR (foundR l 1 t)).toNat else [t]
theorem below_keeps {A B : World} (h : Below A.heap.size A B) (n : Nat) : KeepsFrom n A B := ⟨h.size, fun k o _ hk _ => (h.block k (Array.getElem?_eq_some_iff.1 hk).1).trans hk⟩
theorem own_below {β : Type} {n : Nat} {J : β → World → Prop} (hJ : OwnFrom n J) {s : β} {A B : World} (hs : J s A) (h : Below A.heap.size A B) : J s B :=
  hJ s A B none hs ⟨h.os, h.tape, h.output, h.size, fun k hk _ => h.block k hk⟩ (fun r e => by cases e)

theorem round_inRound {F : Fence} {m : Nat} {P : Program} {k : Nat} {fn : FuncId} {tmps : Array Value} {assign body : Code} {w : World} {R : Ending → World → Prop} (l : Nat) (h : RoundIn F m P k fn tmps assign body w R) : RoundIn (F.inRound l) m P k fn tmps assign body w R := h
theorem upF_prefix {α : Type} (f : Nat → α) {k N : Nat} (h : k ≤ N) : upF f k <+: upF f N := by
  unfold upF
  have e : List.range k = (List.range N).take k := by rw [List.take_range, Nat.min_eq_left h]
  rw [e, List.map_take]
  exact List.take_prefix _ _

set_option maxHeartbeats 4000000 in
theorem names1_in (n lr Bl Bt Bq : Nat) (a : Option Addr) (cap : Nat) (l : List Rl) (t : Tp) (start : Int) (J Jx : List Tp → World → Prop) (W : World) (hn : 6 ≤ n) (hl : allR l = true) (ht : rightT t = true) (hz : l.length ≤ 1048576) (hs0 : 0 ≤ start) (hs1 : start ≤ 1000000)
    (hBl : W.heap[Bl]? = some (.cells #[.slice a l.length cap] 50)) (hBt : W.heap[Bt]? = some (.cells #[.int .i64 t.proto, .int .i64 t.src, .int .i64 t.sport, .int .i64 t.dst, .int .i64 t.dport, .int .i64 t.kind] 52)) (hBq : W.heap[Bq]? = some (.cells #[.int .i64 start] 2)) (hR : RowZ a (flatRule l) W)
    (hJ : OwnFrom W.heap.size J) (hJx : OwnFrom W.heap.size Jx) (h0 : J [] W)
    (hY : ∀ pre x V m, J pre V → YieldAt Fence.wide m Try.prog lr #[.agg #[.int .i64 x.proto, .int .i64 x.src, .int .i64 x.sport, .int .i64 x.dst, .int .i64 x.dport, .int .i64 x.kind]] V fun e V' =>
      (e = .returned (.bool true) ∧ J (pre ++ [x]) V' ∧ Below V.heap.size V V') ∨ (e = .returned (.bool false) ∧ Jx (pre ++ [x]) V' ∧ KeepsFrom W.heap.size V V')) :
    CallsIn Fence.wide n Try.prog 110 #[.func (.yield lr) #[] #[], .pointer (some ⟨Bl, 0, none⟩), .pointer (some ⟨Bt, 0, none⟩), .pointer (some ⟨Bq, 0, none⟩)] W fun e W' => (∃ v, e = .returned v) ∧
      (J (namesL l t start) W' ∨ ∃ pre, pre <+: namesL l t start ∧ Jx pre W') := by
  have hnL : ∀ hh : Bool, hasR l 1 t = hh → namesL l t start = if hh = true then upF (fun k : Nat => senderT t (foundR l 1 t).goal (portN (foundR l 1 t) start k)) (manyR (foundR l 1 t)).toNat else [t] := fun hh e => by unfold namesL; rw [e]
  have hrr := fun h => found_right (t := t) (k := 1) hl h
  have HF := fun V (h : Below W.heap.size W V) => (callsIn_wide (n := n - 1)).2 (firstRule_any a cap l 1 t V (hR.later h) hz hl ht)
  obtain ⟨hh, ehh⟩ : ∃ hh, hasR l 1 t = hh := ⟨_, rfl⟩
  have hN := hidS (hnL hh ehh)
  have hrr2 := hidS (fun (h : hh = true) => hrr (ehh.trans h))
  rw [ehh] at HF
  clear hnL hrr ehh hl hz
  generalize foundR l 1 t = s at HF hN hrr2
  have hB1 := (Below.refl W.heap.size W).alloc (Nat.le_refl _) (.cells #[.func (.yield lr) #[] #[]] 71)
  have hYB := heap_newG W (.cells #[.func (.yield lr) #[] #[]] 71)
  have hl1 := blk_alloc hBl (.cells #[.func (.yield lr) #[] #[]] 71)
  have ht1 := blk_alloc hBt (.cells #[.func (.yield lr) #[] #[]] 71)
  have hq1 := blk_alloc hBq (.cells #[.func (.yield lr) #[] #[]] 71)
  have cl := blk_cell hl1 0
  have ct0 := blk_cell ht1 0
  have ct1 := blk_cell ht1 1
  have ct2 := blk_cell ht1 2
  have ct3 := blk_cell ht1 3
  have ct4 := blk_cell ht1 4
  have ct5 := blk_cell ht1 5
  simp at cl ct0 ct1 ct2 ct3 ct4 ct5
  refine callsIn_of_wp_marks Try.func110 rfl trivial ?_ rfl
  simp only [Try.ntmps110, List.size_toArray, List.length_cons, List.length_nil, Nat.reduceAdd, Nat.reduceSub, Array.replicate_succ, Array.replicate_zero, List.push_toArray, List.append_toArray, List.nil_append, List.cons_append]
  gi_wp2
  refine ⟨trivial, fun _ => by omega, (HF _ hB1).mono ?_⟩
  rintro _ w1 ⟨rfl, hb1⟩
  have hB2 := hidS (hB1.trans (hb1.mono hB1.size))
  have hYB2 := hidS (blk_later hYB hb1)
  have hl2 := hidS (blk_later hl1 hb1)
  have ht2 := hidS (blk_later ht1 hb1)
  have hq2 := hidS (blk_later hq1 hb1)
  have hJ1 : J [] w1 := own_below hJ (own_below hJ h0 ((Below.refl _ _).alloc (Nat.le_refl _) _)) hb1
  clear HF cl ct0 ct1 ct2 ct3 ct4 ct5 hB1 hYB hl1 ht1 hq1 hb1 h0 hBl hBt hBq hR
  dsimp only
  -- the rule's block
  obtain ⟨V, hV⟩ : ∃ V, w1.alloc (.cells #[.int .i64 s.kind, .int .i64 s.proto, .int .i64 s.net, .int .i64 s.bits, .int .i64 s.goal, .int .i64 s.low, .int .i64 s.high] 64) = V := ⟨_, rfl⟩
  have hbV := (Below.refl w1.heap.size w1).alloc (Nat.le_refl _) (.cells #[.int .i64 s.kind, .int .i64 s.proto, .int .i64 s.net, .int .i64 s.bits, .int .i64 s.goal, .int .i64 s.low, .int .i64 s.high] 64)
  have hsV := heap_newG w1 (.cells #[.int .i64 s.kind, .int .i64 s.proto, .int .i64 s.net, .int .i64 s.bits, .int .i64 s.goal, .int .i64 s.low, .int .i64 s.high] 64)
  rw [hV] at hbV hsV
  have hJV : J [] V := own_below hJ hJ1 hbV
  have hYV := hidS (blk_later hYB2.out hbV)
  have htV := hidS (blk_later ht2.out hbV)
  have hqV := hidS (blk_later hq2.out hbV)
  have hBV := hidS (hB2.out.trans (hbV.mono hB2.out.size))
  have hgt := hidS (show V.heap.size = w1.heap.size + 1 by rw [← hV]; simp)
  have cy := blk_cell hYV.out 0
  have ct0 := blk_cell htV.out 0
  have ct1 := blk_cell htV.out 1
  have ct2 := blk_cell htV.out 2
  have ct3 := blk_cell htV.out 3
  have ct4 := blk_cell htV.out 4
  have ct5 := blk_cell htV.out 5
  have cq := blk_cell hqV.out 0
  have cs0 := blk_cell hsV 0
  have cs1 := blk_cell hsV 1
  have cs2 := blk_cell hsV 2
  have cs3 := blk_cell hsV 3
  have cs4 := blk_cell hsV 4
  have cs5 := blk_cell hsV 5
  have cs6 := blk_cell hsV 6
  simp at cy ct0 ct1 ct2 ct3 ct4 ct5 cq cs0 cs1 cs2 cs3 cs4 cs5 cs6
  cases hh
  · have E : Hid (namesL l t start = [t]) := hidS (hN.out.trans (if_neg (by simp)))
    obtain ⟨fn, tmps, assign, body, hy, hR⟩ := hY [] t V (n - 1) hJV
    gi_wp2
    refine ⟨fun _ => by omega, hR.mono ?_⟩
    rintro e W3 (⟨rfl, hJ3, hk3⟩ | ⟨rfl, hJx3, hk3⟩)
    · gi_wp2
      refine ⟨_, results_none rfl _ _ _, ⟨_, rfl⟩, .inl ?_⟩
      rw [E.out]; exact hJ3
    · gi_wp2
      refine ⟨_, results_none rfl _ _ _, ⟨_, rfl⟩, .inr ⟨[t], ?_, hJx3⟩⟩
      rw [E.out]; exact List.prefix_refl _
  · have hsr := hrr2.out rfl
    have hmb := many_bd hsr
    gi_wp2
    refine ⟨trivial, fun _ => by omega, ((callsIn_wide (n := n - 1)).2 (portsOf_any s start V hsr)).mono ?_⟩
    rintro _ V2 ⟨Bm, Bs, Bp, rfl, hm, hs, hp, hb2⟩
    dsimp only
    have hJ2 : J [] V2 := own_below hJ hJV hb2
    have hY2 := hidS (blk_later hYV.out hb2)
    have ht3 := hidS (blk_later htV.out hb2)
    have hs3 := hidS (blk_later hsV hb2)
    have lw1 := blk_lt hs3.out
    have lm := blk_lt hm
    have ls := blk_lt hs
    have lp := blk_lt hp
    have hW2 : W.heap.size ≤ V2.heap.size := Nat.le_trans hBV.out.size hb2.size
    obtain ⟨N, hNN⟩ : ∃ N : Nat, (N : Int) = manyR s := ⟨(manyR s).toNat, by omega⟩
    have hL : Hid (namesL l t start = (upF (fun k : Nat => portN s start k) N).map (fun p => senderT t s.goal p)) := by
      have e : (manyR s).toNat = N := by omega
      have := hN.out
      rw [e] at this
      show _ = _
      rw [this, if_pos trivial]
      simp [upF, Function.comp_def]
    rw [← hNN] at hm
    have hst := ports_stops Fence.wide (n - 1) (fun _ => trivial) trivial rfl (by omega) Bm Bs Bp V2.heap.size N s start hsr hs0 hs1 hNN V2 lm ls lp (Nat.le_refl _) hm hs hp
    clear hm hs hp hNN hsr hN hrr2 cy ct0 ct1 ct2 ct3 ct4 ct5 cq cs0 cs1 cs2 cs3 cs4 cs5 cs6 hsV hbV hJV hYV htV hqV hl2 ht2 hq2 hYB2 hB2 hJ1 hV hmb
    gi_wp2
    refine wpIn_rangeFunc_ownG rfl (by omega) (gf := 132) (lb := #[.pointer (some ⟨Bm, 0, none⟩), .pointer (some ⟨Bs, 0, none⟩), .pointer (some ⟨Bp, 0, none⟩)]) rfl trivial (enters_of Try.func132 (by kernel_rfl) rfl) hst belowK_t (belowK_b (Nat.le_refl _)) (Below.refl _ _) (fun _ => rfl)
      (fun pre W' => J (pre.map (fun p => senderT t s.goal p)) W' ∧ Below V2.heap.size V2 W')
      (fun c pre W' => c = .ret ∧ Jx (pre.map (fun p => senderT t s.goal p)) W')
      (fun s' A B row h hg hr => ⟨hJ _ A B row h.1 hg (fun r e => ⟨Nat.le_trans hW2 (hr r e).1, (hr r e).2⟩), ownFrom_below (β := Unit) (Nat.le_refl _) (Nat.le_refl _) () A B row h.2 hg hr⟩)
      (fun c s' A B row h hg hr => ⟨h.1, hJx _ A B row h.2 hg (fun r e => ⟨Nat.le_trans hW2 (hr r e).1, (hr r e).2⟩)⟩)
      ⟨hJ2, Below.refl _ _⟩
      (fun x => { tmps := #[.func (.yield lr) #[] #[], .pointer (some ⟨Bl, 0, none⟩), .pointer (some ⟨Bt, 0, none⟩), .pointer (some ⟨Bq, 0, none⟩), .pointer (some ⟨W.heap.size, 0, none⟩), .pointer (some ⟨w1.heap.size, 0, none⟩), .bool true, .int .i64 x,
        .tuple #[.agg #[.int .i64 s.kind, .int .i64 s.proto, .int .i64 s.net, .int .i64 s.bits, .int .i64 s.goal, .int .i64 s.low, .int .i64 s.high], .bool true], .slice a l.length cap, .agg #[.int .i64 t.proto, .int .i64 t.src, .int .i64 t.sport, .int .i64 t.dst, .int .i64 t.dport, .int .i64 t.kind], .tuple #[.agg #[.int .i64 s.kind, .int .i64 s.proto, .int .i64 s.net, .int .i64 s.bits, .int .i64 s.goal, .int .i64 s.low, .int .i64 s.high], .bool true], .agg #[.int .i64 s.kind, .int .i64 s.proto, .int .i64 s.net, .int .i64 s.bits, .int .i64 s.goal, .int .i64 s.low, .int .i64 s.high], .bool true, .bool true, .bool false, undef, undef, undef, .agg #[.int .i64 s.kind, .int .i64 s.proto, .int .i64 s.net, .int .i64 s.bits, .int .i64 s.goal, .int .i64 s.low, .int .i64 s.high], .int .i64 start,
        .func (.func 132) #[] #[.pointer (some ⟨Bm, 0, none⟩), .pointer (some ⟨Bs, 0, none⟩), .pointer (some ⟨Bp, 0, none⟩)], .int .i64 x, undef, undef, undef, undef, undef, undef, undef, undef], defers := [] }) ?assign ?body ?done ?stop
    case assign =>
      intro l' x W' K hK
      gi_wp2
      exact hK
    case body =>
      rintro l' pre x W' ⟨hJp, hBp⟩ _
      have hcs := hidS (fun V' (h : Below W'.heap.size W' V') => withSender_any t s.goal x V')
      have hcl : ∀ V', Below W'.heap.size W' V' → Below V2.heap.size V2 V' := fun V' h => hBp.trans (h.mono hBp.size)
      have gy := fun V' h => blk_cell (((hcl V' h).block _ (blk_lt hY2.out)).trans hY2.out) 0
      have gs := fun V' h => blk_cell (((hcl V' h).block _ lw1).trans hs3.out) 4
      have g := fun V' h => blk_cell (((hcl V' h).block _ (blk_lt ht3.out)).trans ht3.out)
      gi_wp2
      refine quiet_chain 6 2 (fun j => match j with | 0 => .func (.yield lr) #[] #[] | 1 => .agg #[.int .i64 t.proto, .int .i64 t.src, .int .i64 t.sport, .int .i64 t.dst, .int .i64 t.dport, .int .i64 t.kind] | 2 => .pointer (some ⟨w1.heap.size, 4, none⟩) | 3 => .int .i64 s.goal | 4 => .int .i64 x | _ => .agg #[.int .i64 (senderT t s.goal x).proto, .int .i64 (senderT t s.goal x).src, .int .i64 (senderT t s.goal x).sport, .int .i64 (senderT t s.goal x).dst, .int .i64 (senderT t s.goal x).dport, .int .i64 (senderT t s.goal x).kind]) (fun V' => Below W'.heap.size W' V') (fun _ => trivial) rfl (by kernel_rfl) (by kernel_rfl) (by kernel_rfl) (by kernel_rfl) (Below.refl _ _).drew ?reads ?rest
      case reads =>
        intro j o hj ho
        obtain rfl | rfl | rfl | rfl | rfl | rfl : j = 0 ∨ j = 1 ∨ j = 2 ∨ j = 3 ∨ j = 4 ∨ j = 5 := by omega
        case inr.inr.inr.inr.inr =>
          injection ho with ho
          subst ho
          refine ⟨rfl, (fun c h => by cases h), fun V' hV' => .inr ⟨112, #[.agg #[.int .i64 t.proto, .int .i64 t.src, .int .i64 t.sport, .int .i64 t.dst, .int .i64 t.dport, .int .i64 t.kind], .int .i64 s.goal, .int .i64 x], ?_, (fun h => by cases h), ?_⟩⟩
          · simp [upto, Act.put, execOp, go_sem]
          · exact CallsIn.inRound l' (((callsIn_wide (n := n - 1 - 1 - 1)).2 (hcs.out V' hV')).mono fun e W4 h => ⟨h.1, hV'.trans (h.2.mono hV'.size)⟩)
        all_goals
          injection ho with ho
          subst ho
          refine ⟨rfl, (fun c h => by cases h), fun V' hV' => .inl ?_⟩
          have y0 := gy V' hV'
          have y1 := gs V' hV'
          have z0 := g V' hV' 0
          have z1 := g V' hV' 1
          have z2 := g V' hV' 2
          have z3 := g V' hV' 3
          have z4 := g V' hV' 4
          have z5 := g V' hV' 5
          simp at y0 y1 z0 z1 z2 z3 z4 z5
          simp [upto, Act.put, execOp, go_sem, y0, y1, z0, z1, z2, z3, z4, z5]
      case rest =>
        intro V' hV'
        obtain ⟨fn, tmps, assign, body, hy, hR⟩ := hY _ (senderT t s.goal x) V' (n - 1 - 1 - 1) (own_below hJ hJp hV')
        simp only [List.range', wpOpsIn_cons]
        unfold wpOpIn
        simp [upto, Act.put, Region.wanted, Oper.wpIn, execOp, go_sem, hy]
        refine ⟨(fun h => by cases h), round_inRound l' (hR.mono ?_)⟩
        rintro e W3 (⟨rfl, hJ3, hk3⟩ | ⟨rfl, hJx3, hk3⟩)
        · have hb3 : Below W'.heap.size W' W3 := hV'.trans (hk3.mono hV'.size)
          simp only [wpOpsIn_cons]
          unfold wpOpIn
          simp [Act.put, Region.wanted, Oper.wpIn, execOp, go_sem]
          simp only [wpOpsIn]
          gi_wp2
          exact ⟨below_keeps hb3 _, hb3.mono hBp.size, by rw [List.map_append]; exact hJ3, hBp.trans (hb3.mono hBp.size)⟩
        · simp only [wpOpsIn_cons]
          unfold wpOpIn
          simp [Act.put, Region.wanted, Oper.wpIn, execOp, go_sem]
          simp only [wpOpsIn]
          gi_wp2
          exact ⟨⟨Nat.le_trans hV'.size hk3.size, fun k o hk ho hc => hk3.same k o (Nat.le_trans hW2 hk) ((below_keeps hV' 0).same k o (Nat.zero_le _) ho hc) hc⟩, rfl, by rw [List.map_append]; exact hJx3⟩
    case done =>
      rintro D ys W' hD rfl ⟨hJp, hBp⟩ hK
      gi_wp2
      refine ⟨by simp, .inl ⟨_, _, rfl, run_takeDeferred hK, ?_⟩⟩
      refine ⟨_, results_none rfl _ _ _, ⟨_, rfl⟩, .inl ?_⟩
      rw [hL.out]
      exact hJ.putObj _ hJp (Nat.le_trans hW2 hD) hK rfl
    case stop =>
      rintro D c pre W' hD ⟨k, hk, rfl⟩ ⟨rfl, hJp⟩ hK
      gi_wp2
      refine ⟨by simp, .inl ⟨_, _, rfl, run_takeDeferred hK, ?_⟩⟩
      refine ⟨_, results_none rfl _ _ _, ⟨_, rfl⟩, .inr ⟨_, ?_, hJx.putObj _ hJp (Nat.le_trans hW2 hD) hK rfl⟩⟩
      rw [hL.out]
      exact (upF_prefix _ hk).map _
end Go.Proofs.Ytilajoafppplcaa
