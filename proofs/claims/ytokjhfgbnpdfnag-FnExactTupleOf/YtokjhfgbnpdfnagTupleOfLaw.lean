/- Proved here: laws.FnExactTupleOf returns true at every argument, and each argument reads afterwards as before (no conditions). -/
import Derived.Test.YtokjhfgbnpdfnagOpenPacket
import Derived.Test.YtokjhfgbnpdfnagLawsPk
import Derived.Test.YtokjhfgbnpdfnagLawsTpEq
import Derived.Test.YtokjhfgbnpdfnagTupOfSpec
import Derived.Test.YtokjhfgbnpdfnagTupOfI
import Derived.Deep.Cut
import Derived.WalkKit
import Derived.WalkSpells
import Derived.ProofKit
import Derived.OpenShut
import Derived.ShutString
import Derived.Handy
import Derived.Below
namespace Go.Proofs.Ytokjhfgbnpdfnag
open Go.ChangeShapes Go.WideShapes Go.ChangeAt Go.RowKit
open Go.ChangeMaps (open_string shut_string)
set_option linter.unusedVariables false

set_option maxHeartbeats 2000000 in
theorem tupleOfLaw_all (p : Pk) (hs : p.body.size ≤ maxLen) (w : World) :
    Calls Try.prog 4 #[.agg #[.int .i64 p.src, .int .i64 p.dst, .int .i64 p.proto, .int .i64 p.a, .int .i64 p.b, .int .i64 p.kind, .int .i64 p.flags, .int .i64 p.seq, .int .i64 p.ack, .string p.body]] w fun e w' => e = .returned (.bool true) ∧ Below w.heap.size w w' := by
  by_cases hbig : 1048576 < p.body.size
  · have hSZ := hidS (fun W => szPacket_big p W hs hbig)
    have hGP0 : Hid ((w.alloc (.cells #[.int .i64 p.src, .int .i64 p.dst, .int .i64 p.proto, .int .i64 p.a, .int .i64 p.b, .int .i64 p.kind, .int .i64 p.flags, .int .i64 p.seq, .int .i64 p.ack, .string p.body] 29)).heap[w.heap.size]? = some (.cells #[.int .i64 p.src, .int .i64 p.dst, .int .i64 p.proto, .int .i64 p.a, .int .i64 p.b, .int .i64 p.kind, .int .i64 p.flags, .int .i64 p.seq, .int .i64 p.ack, .string p.body] 29)) := by
      show _ = _
      have := heap_newG w (.cells #[.int .i64 p.src, .int .i64 p.dst, .int .i64 p.proto, .int .i64 p.a, .int .i64 p.b, .int .i64 p.kind, .int .i64 p.flags, .int .i64 p.seq, .int .i64 p.ack, .string p.body] 29)
      simpa using this
    have hL0 := hidS ((Below.refl w.heap.size w).alloc (Nat.le_refl _) (.cells #[.int .i64 p.src, .int .i64 p.dst, .int .i64 p.proto, .int .i64 p.a, .int .i64 p.b, .int .i64 p.kind, .int .i64 p.flags, .int .i64 p.seq, .int .i64 p.ack, .string p.body] 29))
    go_enter Try.func4, Try.ntmps4
    go_wp2_with fail
    refine (hSZ.out _).mono ?_
    rintro _ w1 ⟨rfl, hb1⟩
    have hGP1 := hidS (blk_later hGP0.out hb1)
    have hL1 := hidS (hL0.out.trans (hb1.mono hL0.out.size))
    clear hb1 hL0 hGP0
    go_wp2_with fail
    go_ret
    exact ⟨rfl, hL1.out⟩
  have hSZ := hidS (fun W => szPacket_ok p W hs hbig)
  have hnn : ¬ (1048576 - (p.body.size : Int)) < 0 := by omega
  have hTP := hidS (fun W => toPacket_any p W)
  have hSR := hidS (fun W => specTOf_any p W hs)
  have hIR := hidS (fun W => implTOf_any p W hs)
  generalize ofAns p = q at *
  have hEQ := hidS (fun W => eqTuple_same q W)
  have hGP0 : Hid ((w.alloc (.cells #[.int .i64 p.src, .int .i64 p.dst, .int .i64 p.proto, .int .i64 p.a, .int .i64 p.b, .int .i64 p.kind, .int .i64 p.flags, .int .i64 p.seq, .int .i64 p.ack, .string p.body] 29)).heap[w.heap.size]? = some (.cells #[.int .i64 p.src, .int .i64 p.dst, .int .i64 p.proto, .int .i64 p.a, .int .i64 p.b, .int .i64 p.kind, .int .i64 p.flags, .int .i64 p.seq, .int .i64 p.ack, .string p.body] 29)) := by
    show _ = _
    have := heap_newG w (.cells #[.int .i64 p.src, .int .i64 p.dst, .int .i64 p.proto, .int .i64 p.a, .int .i64 p.b, .int .i64 p.kind, .int .i64 p.flags, .int .i64 p.seq, .int .i64 p.ack, .string p.body] 29)
    simpa using this
  have hL0 := hidS ((Below.refl w.heap.size w).alloc (Nat.le_refl _) (.cells #[.int .i64 p.src, .int .i64 p.dst, .int .i64 p.proto, .int .i64 p.a, .int .i64 p.b, .int .i64 p.kind, .int .i64 p.flags, .int .i64 p.seq, .int .i64 p.ack, .string p.body] 29))
  go_enter Try.func4, Try.ntmps4
  go_wp2_with fail
  refine (hSZ.out _).mono ?_
  rintro _ w1 ⟨rfl, hb1⟩
  have hGP1 := hidS (blk_later hGP0.out hb1)
  have hL1 := hidS (hL0.out.trans (hb1.mono hL0.out.size))
  clear hb1 hL0 hGP0
  have cP0 := blk_cell hGP1.out 0
  have cP1 := blk_cell hGP1.out 1
  have cP2 := blk_cell hGP1.out 2
  have cP3 := blk_cell hGP1.out 3
  have cP4 := blk_cell hGP1.out 4
  have cP5 := blk_cell hGP1.out 5
  have cP6 := blk_cell hGP1.out 6
  have cP7 := blk_cell hGP1.out 7
  have cP8 := blk_cell hGP1.out 8
  have cP9 := blk_cell hGP1.out 9
  simp at cP0 cP1 cP2 cP3 cP4 cP5 cP6 cP7 cP8 cP9
  go_wp2_with fail
  refine (hTP.out _).mono ?_
  rintro _ w2 ⟨rfl, hb2⟩
  clear cP0 cP1 cP2 cP3 cP4 cP5 cP6 cP7 cP8 cP9
  have hGP2 := hidS (blk_later hGP1.out hb2)
  have hL2 := hidS (hL1.out.trans (hb2.mono hL1.out.size))
  clear hb2 hL1 hGP1
  have cP0 := blk_cell hGP2.out 0
  have cP1 := blk_cell hGP2.out 1
  have cP2 := blk_cell hGP2.out 2
  have cP3 := blk_cell hGP2.out 3
  have cP4 := blk_cell hGP2.out 4
  have cP5 := blk_cell hGP2.out 5
  have cP6 := blk_cell hGP2.out 6
  have cP7 := blk_cell hGP2.out 7
  have cP8 := blk_cell hGP2.out 8
  have cP9 := blk_cell hGP2.out 9
  simp at cP0 cP1 cP2 cP3 cP4 cP5 cP6 cP7 cP8 cP9
  go_wp2_with fail
  refine (hSR.out _).mono ?_
  rintro _ w3 ⟨rfl, hb3⟩
  clear cP0 cP1 cP2 cP3 cP4 cP5 cP6 cP7 cP8 cP9
  have hGP3 := hidS (blk_later hGP2.out hb3)
  have hL3 := hidS (hL2.out.trans (hb3.mono hL2.out.size))
  clear hb3 hL2 hGP2
  go_upto_region 6 with fail
  have hGW4 := hidS (heap_newG w3 (.cells #[.int .i64 q.proto, .int .i64 q.src, .int .i64 q.sport, .int .i64 q.dst, .int .i64 q.dport, .int .i64 q.kind] 25))
  have hGP4 := hidS (blk_alloc hGP3.out (.cells #[.int .i64 q.proto, .int .i64 q.src, .int .i64 q.sport, .int .i64 q.dst, .int .i64 q.dport, .int .i64 q.kind] 25))
  have hL4 := hidS (hL3.out.alloc hL3.out.size (.cells #[.int .i64 q.proto, .int .i64 q.src, .int .i64 q.sport, .int .i64 q.dst, .int .i64 q.dport, .int .i64 q.kind] 25))
  clear hL3 hGP3
  generalize w3.alloc (.cells #[.int .i64 q.proto, .int .i64 q.src, .int .i64 q.sport, .int .i64 q.dst, .int .i64 q.dport, .int .i64 q.kind] 25) = w4 at hGP4 hGW4 hL4 ⊢
  have cP0 := blk_cell hGP4.out 0
  have cP1 := blk_cell hGP4.out 1
  have cP2 := blk_cell hGP4.out 2
  have cP3 := blk_cell hGP4.out 3
  have cP4 := blk_cell hGP4.out 4
  have cP5 := blk_cell hGP4.out 5
  have cP6 := blk_cell hGP4.out 6
  have cP7 := blk_cell hGP4.out 7
  have cP8 := blk_cell hGP4.out 8
  have cP9 := blk_cell hGP4.out 9
  simp at cP0 cP1 cP2 cP3 cP4 cP5 cP6 cP7 cP8 cP9
  go_wp2_with fail
  refine (hTP.out _).mono ?_
  rintro _ w5 ⟨rfl, hb5⟩
  clear cP0 cP1 cP2 cP3 cP4 cP5 cP6 cP7 cP8 cP9
  have hGP5 := hidS (blk_later hGP4.out hb5)
  have hGW5 := hidS (blk_later hGW4.out hb5)
  have hL5 := hidS (hL4.out.trans (hb5.mono hL4.out.size))
  clear hb5 hL4 hGP4 hGW4
  have cP0 := blk_cell hGP5.out 0
  have cP1 := blk_cell hGP5.out 1
  have cP2 := blk_cell hGP5.out 2
  have cP3 := blk_cell hGP5.out 3
  have cP4 := blk_cell hGP5.out 4
  have cP5 := blk_cell hGP5.out 5
  have cP6 := blk_cell hGP5.out 6
  have cP7 := blk_cell hGP5.out 7
  have cP8 := blk_cell hGP5.out 8
  have cP9 := blk_cell hGP5.out 9
  simp at cP0 cP1 cP2 cP3 cP4 cP5 cP6 cP7 cP8 cP9
  go_wp2_with fail
  refine (hIR.out _).mono ?_
  rintro _ w6 ⟨rfl, hb6⟩
  clear cP0 cP1 cP2 cP3 cP4 cP5 cP6 cP7 cP8 cP9
  have hGP6 := hidS (blk_later hGP5.out hb6)
  have hGW6 := hidS (blk_later hGW5.out hb6)
  have hL6 := hidS (hL5.out.trans (hb6.mono hL5.out.size))
  clear hb6 hL5 hGP5 hGW5
  go_upto_region 7 with fail
  have hGG7 := hidS (heap_newG w6 (.cells #[.int .i64 q.proto, .int .i64 q.src, .int .i64 q.sport, .int .i64 q.dst, .int .i64 q.dport, .int .i64 q.kind] 25))
  have hGP7 := hidS (blk_alloc hGP6.out (.cells #[.int .i64 q.proto, .int .i64 q.src, .int .i64 q.sport, .int .i64 q.dst, .int .i64 q.dport, .int .i64 q.kind] 25))
  have hGW7 := hidS (blk_alloc hGW6.out (.cells #[.int .i64 q.proto, .int .i64 q.src, .int .i64 q.sport, .int .i64 q.dst, .int .i64 q.dport, .int .i64 q.kind] 25))
  have hL7 := hidS (hL6.out.alloc hL6.out.size (.cells #[.int .i64 q.proto, .int .i64 q.src, .int .i64 q.sport, .int .i64 q.dst, .int .i64 q.dport, .int .i64 q.kind] 25))
  clear hL6 hGP6 hGW6
  generalize w6.alloc (.cells #[.int .i64 q.proto, .int .i64 q.src, .int .i64 q.sport, .int .i64 q.dst, .int .i64 q.dport, .int .i64 q.kind] 25) = w7 at hGP7 hGW7 hGG7 hL7 ⊢
  have cW0 := blk_cell hGW7.out 0
  have cW1 := blk_cell hGW7.out 1
  have cW2 := blk_cell hGW7.out 2
  have cW3 := blk_cell hGW7.out 3
  have cW4 := blk_cell hGW7.out 4
  have cW5 := blk_cell hGW7.out 5
  simp at cW0 cW1 cW2 cW3 cW4 cW5
  have cG0 := blk_cell hGG7.out 0
  have cG1 := blk_cell hGG7.out 1
  have cG2 := blk_cell hGG7.out 2
  have cG3 := blk_cell hGG7.out 3
  have cG4 := blk_cell hGG7.out 4
  have cG5 := blk_cell hGG7.out 5
  simp at cG0 cG1 cG2 cG3 cG4 cG5
  go_wp2_with fail
  refine (hEQ.out _).mono ?_
  rintro _ w8 ⟨rfl, hb8⟩
  clear cW0 cW1 cW2 cW3 cW4 cW5 cG0 cG1 cG2 cG3 cG4 cG5
  have hGP8 := hidS (blk_later hGP7.out hb8)
  have hGW8 := hidS (blk_later hGW7.out hb8)
  have hGG8 := hidS (blk_later hGG7.out hb8)
  have hL8 := hidS (hL7.out.trans (hb8.mono hL7.out.size))
  clear hb8 hL7 hGP7 hGW7 hGG7
  go_wp2_with fail
  go_ret
  exact ⟨rfl, hL8.out⟩

theorem tupleOfLaw_walk (f0_0 f0_1 f0_2 f0_3 f0_4 f0_5 f0_6 f0_7 f0_8 : Int) (f0_9 : ByteArray) (g0_0 : (Lit.int .i64 f0_0).wf = true) (g0_1 : (Lit.int .i64 f0_1).wf = true) (g0_2 : (Lit.int .i64 f0_2).wf = true) (g0_3 : (Lit.int .i64 f0_3).wf = true) (g0_4 : (Lit.int .i64 f0_4).wf = true) (g0_5 : (Lit.int .i64 f0_5).wf = true) (g0_6 : (Lit.int .i64 f0_6).wf = true) (g0_7 : (Lit.int .i64 f0_7).wf = true) (g0_8 : (Lit.int .i64 f0_8).wf = true) (g0_9 : f0_9.size ≤ maxLen) (w : World) :
    Calls Try.prog 4 #[.agg #[.int .i64 f0_0, .int .i64 f0_1, .int .i64 f0_2, .int .i64 f0_3, .int .i64 f0_4, .int .i64 f0_5, .int .i64 f0_6, .int .i64 f0_7, .int .i64 f0_8, .string f0_9]] w fun e w' => e = .returned (.bool true) ∧ Below w.heap.size w w' :=
  tupleOfLaw_all ⟨f0_0, f0_1, f0_2, f0_3, f0_4, f0_5, f0_6, f0_7, f0_8, f0_9⟩ g0_9 w

theorem laidOut_fnExactTupleOf : laidOutB Try.prog = true := by kernel_rfl
theorem own_fnExactTupleOf : ownKnob Try.prog.godebug = none := by kernel_rfl
set_option maxRecDepth 100000 in
theorem lifted_fnExactTupleOf (os : Os) (started : os.Started) (H : Type) (enc : TypeId × Value → H) :
    ReturnsInHanded {} Try.checked os 4 .any (Rows.fnExactTupleOfSpec.pre6 enc Try.prog Try.f4 Rows.fnExactTupleOfRow.domain false) (Rows.fnExactTupleOfSpec.post enc Try.prog Try.f4 false true false false) := by
  refine returnsInHanded_of_change (C := Try.checked) own_fnExactTupleOf started (by kernel_rfl) Try.func4
    (ChangeSpec.witness6 (enc := enc) (C := Try.checked) false ⟨#[], #[.agg #[.int .i64 0, .int .i64 0, .int .i64 0, .int .i64 0, .int .i64 0, .int .i64 0, .int .i64 0, .int .i64 0, .int .i64 0, .string ByteArray.empty]], []⟩ 8 (by kernel_rfl) (by kernel_rfl) (by kernel_rfl) (by kernel_rfl)) ?_
  intro W base args ds gs before hval0 hW hcnd _
  have hval : ∀ (j : Nat) t v, Try.f4.params[j]? = some t → args[j]? = some v → Value.okWide Try.prog W .any base t v := hval0
  have hW' := hW
  obtain ⟨p, q, hA0, hV, rfl, hfz, hnd⟩ := hW
  have hA : DataW.TrodAll enc Try.prog W 0 (fun _ => true) true Try.f4.params.toList args.toList ds p := hA0
  rw [Try.params4] at hA hval
  obtain ⟨v0, vs0, d0, ds0, p0, q0, hargs, rfl, rfl, h0, r0⟩ := trodAll_cons hA
  obtain ⟨rfl, rfl, rfl⟩ := trodAll_nil r0
  obtain rfl : args = #[v0] := by cases args; simp_all
  obtain ⟨rfl, rfl⟩ := trodVars_none hV
  have k0 := h0
  have lt0 : ∀ x ∈ p0, x.block < W.heap.size := by obtain ⟨m, hm⟩ := k0; exact DataW.trod_lt m _ _ _ hm
  obtain ⟨f0_0, f0_1, f0_2, f0_3, f0_4, f0_5, f0_6, f0_7, f0_8, f0_9, rfl, g0_0, g0_1, g0_2, g0_3, g0_4, g0_5, g0_6, g0_7, g0_8, g0_9⟩ := open_packet (hval 0 29 v0 rfl rfl) h0
  clear hA0 hval0
  refine (tupleOfLaw_walk f0_0 f0_1 f0_2 f0_3 f0_4 f0_5 f0_6 f0_7 f0_8 f0_9 g0_0 g0_1 g0_2 g0_3 g0_4 g0_5 g0_6 g0_7 g0_8 g0_9 W).mono fun e W' ⟨he, bel⟩ => ?_
  subst he
  exact ⟨_, rfl, _, _, _, [], _, [], hW', trodAll_mk1 (shut_bool Try.underlying4 _), (trodAll_cons_mk (Below.trod laidOut_fnExactTupleOf (by kernel_rfl) (of_decide_eq_true (by kernel_rfl)) k0 bel lt0) trodAll_mk0), rfl, bel.frame _, fun h => by cases h⟩

theorem tupleOf_holds : Rows.FnExactTupleOfSaid :=
  OpenClaim.holds_of_wide 4 Try.f4 rfl rfl rfl rfl rfl rfl rfl ⟨rfl, rfl, rfl, rfl, rfl⟩ rfl rfl rfl rfl rfl (by kernel_rfl) Try.func4 (by kernel_rfl)
    (of_decide_eq_true (by kernel_rfl)) (by unfold Func.isWrapper; first | (rw [if_pos (by decide +kernel)]; kernel_rfl) | (rw [if_neg (by decide +kernel)]; exact ⟨rfl, rfl⟩))
    (fun os started H enc _ => lifted_fnExactTupleOf os started H enc)
#print axioms tupleOf_holds
end Go.Proofs.Ytokjhfgbnpdfnag
