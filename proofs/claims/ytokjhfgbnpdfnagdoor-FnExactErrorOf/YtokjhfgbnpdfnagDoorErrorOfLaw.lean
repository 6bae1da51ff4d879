/- Proved here: the card of laws.FnExactErrorOf: it returns true at every argument, and each argument reads afterwards as before, where the package variables that the row lists start as the program's text lays them, which the given tie pays (the pruned copy of the project alone is looked at). -/
import Derived.Test.YtokjhfgbnpdfnagDoorCards
import Derived.Test.YtokjhfgbnpdfnagDoorTie
import Derived.Test.YtokjhfgbnpdfnagDoorAll34
import Derived.Test.YtokjhfgbnpdfnagDoorAll35
import Derived.Test.YtokjhfgbnpdfnagDoorOpenPacket
import Derived.WalkKit
import Derived.WalkSpells
import Derived.ProofKit
import Derived.OpenShut
import Derived.ShutString
import Derived.Handy
import Derived.Below
import Derived.ChangeOld
import Derived.ChangeSame
import Derived.ChangeVars
import Derived.JoinedOf
import Derived.RowKit
import Derived.RowKitTokens
import Derived.LaidLaws
import Derived.Lay
import Derived.MakeChecks
import Derived.OpenVars
import Derived.SevenTiedAt
namespace Go.Proofs.YtokjhfgbnpdfnagDoor
open Go.ChangeShapes Go.WideShapes Go.ChangeAt Go.RowKit
open Go.ChangeMaps (open_string shut_string)
set_option linter.unusedVariables false
set_option maxRecDepth 100000

set_option maxHeartbeats 2000000 in
theorem errorOfLaw_pk (p : Pk) (x0 : Int) (w : World) (hs : p.body.size ≤ maxLen) (hX : ∃ aF aS aY aM, Sent aF aS aY aM w) :
    Calls Tryd.prog 4 #[.agg #[.int .i64 p.src, .int .i64 p.dst, .int .i64 p.proto, .int .i64 p.a, .int .i64 p.b, .int .i64 p.kind, .int .i64 p.flags, .int .i64 p.seq, .int .i64 p.ack, .string p.body], .int .i64 x0] w fun e w' => e = .returned (.bool true) ∧ Below w.heap.size w w' := by
  obtain ⟨aF, aS, aY, aM, hS⟩ := hX
  have hB1 := hidS ((Below.refl w.heap.size w).alloc (Nat.le_refl _) (.cells #[.int .i64 p.src, .int .i64 p.dst, .int .i64 p.proto, .int .i64 p.a, .int .i64 p.b, .int .i64 p.kind, .int .i64 p.flags, .int .i64 p.seq, .int .i64 p.ack, .string p.body] 28))
  have HP := hidS (heap_newG w (.cells #[.int .i64 p.src, .int .i64 p.dst, .int .i64 p.proto, .int .i64 p.a, .int .i64 p.b, .int .i64 p.kind, .int .i64 p.flags, .int .i64 p.seq, .int .i64 p.ack, .string p.body] 28))
  by_cases hbig : 1048576 < p.body.size
  · have hSZ := hidS (fun W => szPacket_big p W hs hbig)
    clear HP
    go_enter Tryd.func4, Tryd.ntmps4
    go_wp2_with fail
    refine (hSZ.out _).mono ?_
    rintro _ w1 ⟨rfl, hb1⟩
    have hL1 := hidS (hB1.out.trans (hb1.mono hB1.out.size))
    clear hb1 hB1 hSZ
    go_wp2_with fail
    go_ret
    exact ⟨rfl, hL1.out⟩
  have hSZ := hidS (fun W => szPacket_ok p W hs hbig)
  have hTO := hidS (fun W => toPacket_any p W)
  have HSP := hidS (fun W => specError_any p x0 W hs)
  have HIM := hidS (fun W (hW : Below w.heap.size w W) => implError_any p x0 W hs (hS.later hW))
  generalize errP p x0 = q at *
  generalize errC p x0 = c at *
  have HEQ := hidS (fun W => eqPacketOut_same q c W)
  clear hS
  have hnn : ¬ (1048576 - (p.body.size : Int)) < 0 := by omega
  go_enter Tryd.func4, Tryd.ntmps4
  go_wp2_with fail
  refine (hSZ.out _).mono ?_
  rintro _ w1 ⟨rfl, hb1⟩
  have hG1 := blk_later HP.out hb1
  have hL1 := hidS (hB1.out.trans (hb1.mono hB1.out.size))
  clear hb1 hB1 hSZ HP
  have c0 := blk_cell hG1 0
  have c1 := blk_cell hG1 1
  have c2 := blk_cell hG1 2
  have c3 := blk_cell hG1 3
  have c4 := blk_cell hG1 4
  have c5 := blk_cell hG1 5
  have c6 := blk_cell hG1 6
  have c7 := blk_cell hG1 7
  have c8 := blk_cell hG1 8
  have c9 := blk_cell hG1 9
  simp at c0 c1 c2 c3 c4 c5 c6 c7 c8 c9
  go_wp2_with fail
  refine (hTO.out _).mono ?_
  rintro _ w2 ⟨rfl, hb2⟩
  have hG2 := blk_later hG1 hb2
  have hL2 := hidS (hL1.out.trans (hb2.mono hL1.out.size))
  clear c0 c1 c2 c3 c4 c5 c6 c7 c8 c9
  clear hG1 hL1 hb2
  go_wp2_with fail
  refine (HSP.out _).mono ?_
  rintro _ w3 ⟨rfl, hb3⟩
  have hG3' := blk_later hG2 hb3
  have hlt3 := blk_lt hG3'
  have hL3' := hL2.out.trans (hb3.mono hL2.out.size)
  have hL3 := hidS (hL3'.alloc hL3'.size (.cells #[.int .i64 q.src, .int .i64 q.dst, .int .i64 q.proto, .int .i64 q.a, .int .i64 q.b, .int .i64 q.kind, .int .i64 q.flags, .int .i64 q.seq, .int .i64 q.ack, .string q.body, .int .i64 c] 32))
  have hO3 := hidS (heap_newG w3 (.cells #[.int .i64 q.src, .int .i64 q.dst, .int .i64 q.proto, .int .i64 q.a, .int .i64 q.b, .int .i64 q.kind, .int .i64 q.flags, .int .i64 q.seq, .int .i64 q.ack, .string q.body, .int .i64 c] 32))
  have hG3 := hidS (blk_alloc hG3' (.cells #[.int .i64 q.src, .int .i64 q.dst, .int .i64 q.proto, .int .i64 q.a, .int .i64 q.b, .int .i64 q.kind, .int .i64 q.flags, .int .i64 q.seq, .int .i64 q.ack, .string q.body, .int .i64 c] 32))
  have c0 := blk_cell hG3' 0
  have c1 := blk_cell hG3' 1
  have c2 := blk_cell hG3' 2
  have c3 := blk_cell hG3' 3
  have c4 := blk_cell hG3' 4
  have c5 := blk_cell hG3' 5
  have c6 := blk_cell hG3' 6
  have c7 := blk_cell hG3' 7
  have c8 := blk_cell hG3' 8
  have c9 := blk_cell hG3' 9
  simp at c0 c1 c2 c3 c4 c5 c6 c7 c8 c9
  clear hG2 hL2 hb3 HSP hG3' hL3'
  go_wp2_with fail
  refine (hTO.out _).mono ?_
  rintro _ w4 ⟨rfl, hb4⟩
  have hL4 := hidS (hL3.out.trans (hb4.mono hL3.out.size))
  have hO4 := hidS (blk_later hO3.out hb4)
  clear c0 c1 c2 c3 c4 c5 c6 c7 c8 c9
  clear hL3 hb4 hTO hO3 hG3
  go_wp2_with fail
  refine (HIM.out _ hL4.out).mono ?_
  rintro _ w5 ⟨rfl, hb5⟩
  have hL5' := hL4.out.trans (hb5.mono hL4.out.size)
  have hL5 := hidS (hL5'.alloc hL5'.size (.cells #[.int .i64 q.src, .int .i64 q.dst, .int .i64 q.proto, .int .i64 q.a, .int .i64 q.b, .int .i64 q.kind, .int .i64 q.flags, .int .i64 q.seq, .int .i64 q.ack, .string q.body, .int .i64 c] 32))
  have hO5 := blk_later hO4.out hb5
  have hlt := blk_lt hO5
  have c0 := blk_cell hO5 0
  have c1 := blk_cell hO5 1
  have c2 := blk_cell hO5 2
  have c3 := blk_cell hO5 3
  have c4 := blk_cell hO5 4
  have c5 := blk_cell hO5 5
  have c6 := blk_cell hO5 6
  have c7 := blk_cell hO5 7
  have c8 := blk_cell hO5 8
  have c9 := blk_cell hO5 9
  have c10 := blk_cell hO5 10
  simp at c0 c1 c2 c3 c4 c5 c6 c7 c8 c9 c10
  clear hL4 hb5 HIM hL5' hO4 hO5
  go_wp2_with fail
  refine (HEQ.out _).mono ?_
  rintro _ w6 ⟨rfl, hb6⟩
  have hL6 := hidS (hL5.out.trans (hb6.mono hL5.out.size))
  clear hL5 hb6 HEQ
  go_wp2_with fail
  go_ret
  exact ⟨rfl, hL6.out⟩

theorem errorOfLaw_walk (f0_0 f0_1 f0_2 f0_3 f0_4 f0_5 f0_6 f0_7 f0_8 : Int) (f0_9 : ByteArray) (a1 : Int)
    (g0_0 : (Lit.int .i64 f0_0).wf = true) (g0_1 : (Lit.int .i64 f0_1).wf = true) (g0_2 : (Lit.int .i64 f0_2).wf = true) (g0_3 : (Lit.int .i64 f0_3).wf = true) (g0_4 : (Lit.int .i64 f0_4).wf = true) (g0_5 : (Lit.int .i64 f0_5).wf = true) (g0_6 : (Lit.int .i64 f0_6).wf = true) (g0_7 : (Lit.int .i64 f0_7).wf = true) (g0_8 : (Lit.int .i64 f0_8).wf = true) (g0_9 : f0_9.size ≤ maxLen) (w1 : (Lit.int .i64 a1).wf = true) (w : World) (hX : ∃ aF aS aY aM, Sent aF aS aY aM w) :
    Calls Tryd.prog 4 #[.agg #[.int .i64 f0_0, .int .i64 f0_1, .int .i64 f0_2, .int .i64 f0_3, .int .i64 f0_4, .int .i64 f0_5, .int .i64 f0_6, .int .i64 f0_7, .int .i64 f0_8, .string f0_9], .int .i64 a1] w fun e w' => e = .returned (.bool true) ∧ Below w.heap.size w w' :=
  errorOfLaw_pk ⟨f0_0, f0_1, f0_2, f0_3, f0_4, f0_5, f0_6, f0_7, f0_8, f0_9⟩ a1 w g0_9 hX

theorem trodVars_len {H : Type} {enc : TypeId × Value → H} {P : Program} {w : World} {sp : Nat → Bool} : ∀ {ns : List String} {gs : List (DataW H)} {ps : List MemPlace}, DataW.TrodVars enc P w sp ns gs ps → gs.length = ns.length
  | [], [], _, _ => rfl
  | [], _ :: _, _, h => h.elim
  | _ :: _, [], _, h => h.elim
  | n :: ns, d :: ds, _, h => by
    obtain ⟨g, t, cs, fuel, p, q, _, _, _, _, hs, _⟩ := h
    simp [trodVars_len hs]
theorem list_4 {α : Type} {l : List α} (h : l.length = 4) : ∃ x0 x1 x2 x3, l = [x0, x1, x2, x3] := by
  match l, h with
  | [x0, x1, x2, x3], _ => exact ⟨x0, x1, x2, x3, rfl⟩
theorem laidOut_fnExactErrorOf : laidOutB Tryd.prog = true := by kernel_rfl
theorem own_fnExactErrorOf : ownKnob Tryd.prog.godebug = none := by kernel_rfl

set_option maxRecDepth 100000 in
theorem lifted_fnExactErrorOf (os : Os) (started : os.Started) (H : Type) (enc : TypeId × Value → H) :
    ReturnsInHanded {} Tryd.checked os 4 .any (fun w args => (Rows.fnExactErrorOfSpec.pre enc Tryd.prog Tryd.f4 [] false w args ∧ laidMetH Tryd.prog Rows.fnExactErrorOfRow.laid w) ∧ sizedMet enc Tryd.prog Tryd.f4 (OpenSpec.ofChange Rows.fnExactErrorOfSpec) false w args)
      (Rows.fnExactErrorOfSpec.post enc Tryd.prog Tryd.f4 false true false false) := by
  refine returnsInHanded_of_change_and (C := Tryd.checked) (X := fun w _ => laidMetH Tryd.prog Rows.fnExactErrorOfRow.laid w) (fun _ _ _ hh h => h.of_heap hh) own_fnExactErrorOf started (by kernel_rfl) Tryd.func4
    (ChangeSpec.witness_shaped (enc := enc) (C := Tryd.checked) (os := os) (X := fun w _ => laidMetH Tryd.prog Rows.fnExactErrorOfRow.laid w) false (World.laidAll Tryd.prog os Rows.fnExactErrorOfRow.laid) #[.agg #[.int .i64 0, .int .i64 0, .int .i64 0, .int .i64 0, .int .i64 0, .int .i64 0, .int .i64 0, .int .i64 0, .int .i64 0, .string ByteArray.empty], .int .i64 0] 8 (World.laidAll_os _ _ _)
      (World.shaped_of_ZipB (by kernel_rfl) (by kernel_rfl)) (by kernel_rfl) (by kernel_rfl) (by kernel_rfl)
      (by rw [MakeChecks.laidMetH_plain _ _ _ (by kernel_rfl)]; exact laidMet_laidAll _ (by kernel_rfl) (by kernel_rfl))) ?_
  intro W base args ds gs before hval0 hW _ _ hL0 _
  have hL : laidMet Tryd.prog Rows.fnExactErrorOfRow.laid W := by
    have h := hL0
    rwa [MakeChecks.laidMetH_plain _ _ _ (by kernel_rfl)] at h
  have hval : ∀ (j : Nat) t v, Tryd.f4.params[j]? = some t → args[j]? = some v → Value.okWide Tryd.prog W .any base t v := hval0
  have hW' := hW
  obtain ⟨p, q, hA0, hV, rfl, hfz, hnd⟩ := hW
  have hA : DataW.TrodAll enc Tryd.prog W 0 (fun _ => true) true Tryd.f4.params.toList args.toList ds p := hA0
  rw [Tryd.params4] at hA hval
  obtain ⟨v0, vs0, d0, ds0, p0, q0, hargs, rfl, rfl, h0, r0⟩ := trodAll_cons hA
  obtain ⟨v1, vs1, d1, ds1, p1, q1, rfl, rfl, rfl, h1, r1⟩ := trodAll_cons r0
  obtain ⟨rfl, rfl, rfl⟩ := trodAll_nil r1
  obtain rfl : args = #[v0, v1] := by cases args; simp_all
  obtain ⟨gv0, gv1, gv2, gv3, rfl⟩ := list_4 (trodVars_len hV)
  have k0 := h0
  have lt0 : ∀ x ∈ p0, x.block < W.heap.size := by obtain ⟨m, hm⟩ := k0; exact DataW.trod_lt m _ _ _ hm
  obtain ⟨f0_0, f0_1, f0_2, f0_3, f0_4, f0_5, f0_6, f0_7, f0_8, f0_9, rfl, g0_0, g0_1, g0_2, g0_3, g0_4, g0_5, g0_6, g0_7, g0_8, g0_9⟩ := open_packet (hval 0 28 v0 rfl rfl) h0
  obtain ⟨a1, rfl, rfl, rfl, w1⟩ := open_int Tryd.underlying2 (hval 1 2 v1 rfl rfl) h1
  clear hA0 hval0
  refine (errorOfLaw_walk f0_0 f0_1 f0_2 f0_3 f0_4 f0_5 f0_6 f0_7 f0_8 f0_9 a1 g0_0 g0_1 g0_2 g0_3 g0_4 g0_5 g0_6 g0_7 g0_8 g0_9 w1 W (sents_of hL)).mono fun e W' ⟨he, bel⟩ => ?_
  subst he
  exact ⟨_, rfl, _, _, _, [], _, q, hW', trodAll_mk1 (shut_bool Tryd.underlying4 _), (trodAll_cons_mk (Below.trod laidOut_fnExactErrorOf (by kernel_rfl) (of_decide_eq_true (by kernel_rfl)) k0 bel lt0) (trodAll_cons_mk (shut_int Tryd.underlying2 w1) trodAll_mk0)), bel.trodVars laidOut_fnExactErrorOf (by kernel_rfl) hV, bel.frame _, fun h => by cases h⟩

theorem said_fnExactErrorOf : Rows.FnExactErrorOfSaid :=
  OpenClaim.holds_of_wide 4 Tryd.f4 rfl rfl rfl rfl rfl rfl rfl ⟨rfl, rfl, rfl, rfl, rfl⟩ rfl rfl rfl rfl rfl (by kernel_rfl) Tryd.func4 (by kernel_rfl)
    (of_decide_eq_true (by kernel_rfl)) (by unfold Func.isWrapper; first | (rw [if_pos (by decide +kernel)]; kernel_rfl) | (rw [if_neg (by decide +kernel)]; exact ⟨rfl, rfl⟩))
    (fun os started H enc _ => lifted_fnExactErrorOf os started H enc)

theorem plain_fnExactErrorOf (f : FuncId) (fn : Func) (hf : Tryd.pinned.checked.prog.funcNamed "loop.example/g00542/laws.FnExactErrorOf" = some f) (hfn : Tryd.pinned.checked.prog.funcs[f]? = some fn) :
    true = Tryd.pinned.checked.prog.looks [] ∧ ∀ (j : Nat) t, fn.params[j]? = some t → Tryd.pinned.checked.prog.wantsStandIn t = false := by
  obtain rfl : f = 4 := Option.some.inj ((show Tryd.prog.funcNamed "loop.example/g00542/laws.FnExactErrorOf" = some 4 by kernel_rfl).symm.trans hf) |>.symm
  obtain rfl : fn = Tryd.f4 := (Option.some.inj (Tryd.func4.symm.trans hfn)).symm
  refine ⟨by kernel_rfl, fun j t ht => ?_⟩
  rw [Tryd.params4] at ht
  have hm := Array.mem_of_getElem? ht
  simp at hm
  rcases hm with rfl | rfl
  · exact (show Tryd.prog.wantsStandIn 28 = false by kernel_rfl)
  · exact (show Tryd.prog.wantsStandIn 2 = false by kernel_rfl)

theorem errorOf_holds : Rows.FnExactErrorOfCardSaid :=
  Claim7.holds_tied_plain_at .later [] _ _ _ _ said_fnExactErrorOf (fun _ h => by cases h) (by kernel_rfl) (fun _ h => by cases h) fnExactErrorOf_row_tie rfl ⟨rfl, rfl⟩ (by kernel_rfl) rfl plain_fnExactErrorOf (by kernel_rfl)
#print axioms errorOf_holds
end Go.Proofs.YtokjhfgbnpdfnagDoor
