/- Proved here: laws.FnExactPacketBytes returns true at every argument, and each argument reads afterwards as before (no conditions). -/
import Derived.Test.YtokjhfgbnpdfnafOpenPacket
import Derived.Test.YtokjhfgbnpdfnafLawsPk
import Derived.Test.YtokjhfgbnpdfnafBytesI2
import Derived.Test.YtokjhfgbnpdfnafBytesAns
import Derived.WalkKit
import Derived.WalkSpells
import Derived.ProofKit
import Derived.OpenShut
import Derived.ShutString
import Derived.Handy
import Derived.Below
namespace Go.Proofs.Ytokjhfgbnpdfnaf
open Go.ChangeShapes Go.WideShapes Go.ChangeAt Go.RowKit
open Go.ChangeMaps (open_string shut_string)
set_option linter.unusedVariables false

set_option maxHeartbeats 1000000 in
theorem packetBytesLaw_pk (p : Pk) (w : World) (hs : p.body.size ≤ maxLen) :
    Calls Try.prog 6 #[.agg #[.int .i64 p.src, .int .i64 p.dst, .int .i64 p.proto, .int .i64 p.a, .int .i64 p.b, .int .i64 p.kind, .int .i64 p.flags, .int .i64 p.seq, .int .i64 p.ack, .string p.body]] w fun e w' => e = .returned (.bool true) ∧ Below w.heap.size w w' := by
  have hB1 := hidS ((Below.refl w.heap.size w).alloc (Nat.le_refl _) (.cells #[.int .i64 p.src, .int .i64 p.dst, .int .i64 p.proto, .int .i64 p.a, .int .i64 p.b, .int .i64 p.kind, .int .i64 p.flags, .int .i64 p.seq, .int .i64 p.ack, .string p.body] 27))
  have HP := hidS (heap_newG w (.cells #[.int .i64 p.src, .int .i64 p.dst, .int .i64 p.proto, .int .i64 p.a, .int .i64 p.b, .int .i64 p.kind, .int .i64 p.flags, .int .i64 p.seq, .int .i64 p.ack, .string p.body] 27))
  by_cases hbig : 1048576 < p.body.size
  · have hSZ := hidS (fun W => szPacket_big p W hs hbig)
    clear HP
    go_enter Try.func6, Try.ntmps6
    go_wp2_with fail
    refine (hSZ.out _).mono ?_
    rintro _ w1 ⟨rfl, hb1⟩
    have hL1 := hidS (hB1.out.trans (hb1.mono hB1.out.size))
    clear hb1 hB1 hSZ
    go_wp2_with fail
    go_ret
    exact ⟨rfl, hL1.out⟩
  have hSZ := hidS (fun W => szPacket_ok p W hs hbig)
  have hTO := hidS (fun W => toPacket_any p W)
  have hSR := hidS (fun W => specBytes_any p W hs)
  have hIR := hidS (fun W => implBytes_any p W hs)
  have hnn : ¬ (1048576 - (p.body.size : Int)) < 0 := by omega
  go_enter Try.func6, Try.ntmps6
  go_wp2_with fail
  refine (hSZ.out _).mono ?_
  rintro _ w1 ⟨rfl, hb1⟩
  have hG1 := blk_later HP.out hb1
  have hL1 := hidS (hB1.out.trans (hb1.mono hB1.out.size))
  clear hb1 hB1 hSZ HP
  have c0 := blk_cell hG1 0
  have c1 := blk_cell hG1 1
  have c2 := blk_cell hG1 2
  have c3 := blk_cell hG1 3
  have c4 := blk_cell hG1 4
  have c5 := blk_cell hG1 5
  have c6 := blk_cell hG1 6
  have c7 := blk_cell hG1 7
  have c8 := blk_cell hG1 8
  have c9 := blk_cell hG1 9
  simp at c0 c1 c2 c3 c4 c5 c6 c7 c8 c9
  go_wp2_with fail
  refine (hTO.out _).mono ?_
  rintro _ w2 ⟨rfl, hb2⟩
  have hG2 := blk_later hG1 hb2
  have hL2 := hidS (hL1.out.trans (hb2.mono hL1.out.size))
  clear c0 c1 c2 c3 c4 c5 c6 c7 c8 c9
  clear hG1 hL1 hb2
  go_wp2_with fail
  refine (hSR.out _).mono ?_
  rintro _ w3 ⟨rfl, hb3⟩
  have hG3 := blk_later hG2 hb3
  have hL3 := hidS (hL2.out.trans (hb3.mono hL2.out.size))
  clear hG2 hL2 hb3 hSR
  have c0 := blk_cell hG3 0
  have c1 := blk_cell hG3 1
  have c2 := blk_cell hG3 2
  have c3 := blk_cell hG3 3
  have c4 := blk_cell hG3 4
  have c5 := blk_cell hG3 5
  have c6 := blk_cell hG3 6
  have c7 := blk_cell hG3 7
  have c8 := blk_cell hG3 8
  have c9 := blk_cell hG3 9
  simp at c0 c1 c2 c3 c4 c5 c6 c7 c8 c9
  go_wp2_with fail
  refine (hTO.out _).mono ?_
  rintro _ w4 ⟨rfl, hb4⟩
  have hL4 := hidS (hL3.out.trans (hb4.mono hL3.out.size))
  clear c0 c1 c2 c3 c4 c5 c6 c7 c8 c9
  clear hG3 hL3 hb4 hTO
  go_wp2_with fail
  refine (hIR.out _).mono ?_
  rintro _ w5 ⟨rfl, hb5⟩
  have hL5 := hidS (hL4.out.trans (hb5.mono hL4.out.size))
  clear hL4 hb5 hIR
  go_wp2_with fail
  go_ret
  exact ⟨rfl, hL5.out⟩

theorem packetBytesLaw_walk (f0_0 f0_1 f0_2 f0_3 f0_4 f0_5 f0_6 f0_7 f0_8 : Int) (f0_9 : ByteArray)
    (g0_0 : (Lit.int .i64 f0_0).wf = true) (g0_1 : (Lit.int .i64 f0_1).wf = true) (g0_2 : (Lit.int .i64 f0_2).wf = true) (g0_3 : (Lit.int .i64 f0_3).wf = true) (g0_4 : (Lit.int .i64 f0_4).wf = true) (g0_5 : (Lit.int .i64 f0_5).wf = true) (g0_6 : (Lit.int .i64 f0_6).wf = true) (g0_7 : (Lit.int .i64 f0_7).wf = true) (g0_8 : (Lit.int .i64 f0_8).wf = true) (g0_9 : f0_9.size ≤ maxLen) (w : World) :
    Calls Try.prog 6 #[.agg #[.int .i64 f0_0, .int .i64 f0_1, .int .i64 f0_2, .int .i64 f0_3, .int .i64 f0_4, .int .i64 f0_5, .int .i64 f0_6, .int .i64 f0_7, .int .i64 f0_8, .string f0_9]] w fun e w' => e = .returned (.bool true) ∧ Below w.heap.size w w' :=
  packetBytesLaw_pk ⟨f0_0, f0_1, f0_2, f0_3, f0_4, f0_5, f0_6, f0_7, f0_8, f0_9⟩ w g0_9

theorem laidOut_fnExactPacketBytes : laidOutB Try.prog = true := by kernel_rfl
theorem own_fnExactPacketBytes : ownKnob Try.prog.godebug = none := by kernel_rfl
set_option maxRecDepth 100000 in
theorem lifted_fnExactPacketBytes (os : Os) (started : os.Started) (H : Type) (enc : TypeId × Value → H) :
    ReturnsInHanded {} Try.checked os 6 .any (Rows.fnExactPacketBytesSpec.pre6 enc Try.prog Try.f6 Rows.fnExactPacketBytesRow.domain false) (Rows.fnExactPacketBytesSpec.post enc Try.prog Try.f6 false true false false) := by
  refine returnsInHanded_of_change (C := Try.checked) own_fnExactPacketBytes started (by kernel_rfl) Try.func6
    (ChangeSpec.witness6 (enc := enc) (C := Try.checked) false ⟨#[], #[.agg #[.int .i64 0, .int .i64 0, .int .i64 0, .int .i64 0, .int .i64 0, .int .i64 0, .int .i64 0, .int .i64 0, .int .i64 0, .string ByteArray.empty]], []⟩ 8 (by kernel_rfl) (by kernel_rfl) (by kernel_rfl) (by kernel_rfl)) ?_
  intro W base args ds gs before hval0 hW hcnd _
  have hval : ∀ (j : Nat) t v, Try.f6.params[j]? = some t → args[j]? = some v → Value.okWide Try.prog W .any base t v := hval0
  have hW' := hW
  obtain ⟨p, q, hA0, hV, rfl, hfz, hnd⟩ := hW
  have hA : DataW.TrodAll enc Try.prog W 0 (fun _ => true) true Try.f6.params.toList args.toList ds p := hA0
  rw [Try.params6] at hA hval
  obtain ⟨v0, vs0, d0, ds0, p0, q0, hargs, rfl, rfl, h0, r0⟩ := trodAll_cons hA
  obtain ⟨rfl, rfl, rfl⟩ := trodAll_nil r0
  obtain rfl : args = #[v0] := by cases args; simp_all
  obtain ⟨rfl, rfl⟩ := trodVars_none hV
  have k0 := h0
  have lt0 : ∀ x ∈ p0, x.block < W.heap.size := by obtain ⟨m, hm⟩ := k0; exact DataW.trod_lt m _ _ _ hm
  obtain ⟨f0_0, f0_1, f0_2, f0_3, f0_4, f0_5, f0_6, f0_7, f0_8, f0_9, rfl, g0_0, g0_1, g0_2, g0_3, g0_4, g0_5, g0_6, g0_7, g0_8, g0_9⟩ := open_packet (hval 0 27 v0 rfl rfl) h0
  clear hA0 hval0
  refine (packetBytesLaw_walk f0_0 f0_1 f0_2 f0_3 f0_4 f0_5 f0_6 f0_7 f0_8 f0_9 g0_0 g0_1 g0_2 g0_3 g0_4 g0_5 g0_6 g0_7 g0_8 g0_9 W).mono fun e W' ⟨he, bel⟩ => ?_
  subst he
  exact ⟨_, rfl, _, _, _, [], _, [], hW', trodAll_mk1 (shut_bool Try.underlying4 _), (trodAll_cons_mk (Below.trod laidOut_fnExactPacketBytes (by kernel_rfl) (of_decide_eq_true (by kernel_rfl)) k0 bel lt0) trodAll_mk0), rfl, bel.frame _, fun h => by cases h⟩

theorem packetBytes_holds : Rows.FnExactPacketBytesSaid :=
  OpenClaim.holds_of_wide 6 Try.f6 rfl rfl rfl rfl rfl rfl rfl ⟨rfl, rfl, rfl, rfl, rfl⟩ rfl rfl rfl rfl rfl (by kernel_rfl) Try.func6 (by kernel_rfl)
    (of_decide_eq_true (by kernel_rfl)) (by unfold Func.isWrapper; first | (rw [if_pos (by decide +kernel)]; kernel_rfl) | (rw [if_neg (by decide +kernel)]; exact ⟨rfl, rfl⟩))
    (fun os started H enc _ => lifted_fnExactPacketBytes os started H enc)
#print axioms packetBytes_holds
end Go.Proofs.Ytokjhfgbnpdfnaf
