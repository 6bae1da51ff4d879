/- Proved here: the card of laws.FnExactTupleText: it returns true at every argument, and each argument reads afterwards as before, where the package variables that the row lists start as the program's text lays them, which the given tie pays (the pruned copy of the project alone is looked at). -/
import Derived.Test.YtokjhfgbnpdfnahDoorCards
import Derived.Test.YtokjhfgbnpdfnahDoorTie
import Derived.Test.YtokjhfgbnpdfnahDoorOpenTuple
import Derived.Test.YtokjhfgbnpdfnahDoorLawsTp
import Derived.Test.YtokjhfgbnpdfnahDoorTextSpec2
import Derived.Test.YtokjhfgbnpdfnahDoorTextI
import Derived.Test.YtokjhfgbnpdfnahDoorTab
import Derived.Deep.Cut
import Derived.WalkKit
import Derived.WalkSpells
import Derived.ProofKit
import Derived.OpenShut
import Derived.ShutString
import Derived.Handy
import Derived.Below
import Derived.ChangeOld
import Derived.ChangeSame
import Derived.ChangeVars
import Derived.JoinedOf
import Derived.RowKit
import Derived.RowKitTokens
import Derived.LaidLaws
import Derived.Lay
import Derived.MakeChecks
import Derived.OpenVars
import Derived.SevenTiedAt
namespace Go.Proofs.YtokjhfgbnpdfnahDoor
open Go.ChangeShapes Go.WideShapes Go.ChangeAt Go.RowKit
open Go.ChangeMaps (open_string shut_string)
set_option linter.unusedVariables false
set_option maxRecDepth 100000

set_option maxHeartbeats 2000000 in
theorem tupleTextLaw_all (t : Tp) (w : World) (hX : Lib.TabIs Tryd.prog w "internal/strconv.uint64pow10" .u64 Lib.pow10Tab) :
    Calls Tryd.prog 3 #[.agg #[.int .i64 t.proto, .int .i64 t.src, .int .i64 t.sport, .int .i64 t.dst, .int .i64 t.dport, .int .i64 t.kind]] w fun e w' => e = .returned (.bool true) ∧ Below w.heap.size w w' := by
  have hTT := hidS (fun W => toTuple_any t W)
  have hSR := hidS (fun W => specText_any t W)
  have hIR := hidS (fun (W : World) (hW : Below w.heap.size w W) => implText_any t W (tab_later hX hW))
  clear hX
  generalize textAns t = a at *
  have hGT0 : Hid ((w.alloc (.cells #[.int .i64 t.proto, .int .i64 t.src, .int .i64 t.sport, .int .i64 t.dst, .int .i64 t.dport, .int .i64 t.kind] 23)).heap[w.heap.size]? = some (.cells #[.int .i64 t.proto, .int .i64 t.src, .int .i64 t.sport, .int .i64 t.dst, .int .i64 t.dport, .int .i64 t.kind] 23)) := by
    show _ = _
    have := heap_newG w (.cells #[.int .i64 t.proto, .int .i64 t.src, .int .i64 t.sport, .int .i64 t.dst, .int .i64 t.dport, .int .i64 t.kind] 23)
    simpa using this
  have hL0 := hidS ((Below.refl w.heap.size w).alloc (Nat.le_refl _) (.cells #[.int .i64 t.proto, .int .i64 t.src, .int .i64 t.sport, .int .i64 t.dst, .int .i64 t.dport, .int .i64 t.kind] 23))
  go_enter Tryd.func3, Tryd.ntmps3
  go_wp2_with fail
  refine (hTT.out _).mono ?_
  rintro _ w1 ⟨rfl, hb1⟩
  have hGT1 := hidS (blk_later hGT0.out hb1)
  have hL1 := hidS (hL0.out.trans (hb1.mono hL0.out.size))
  clear hb1 hL0 hGT0
  have cT0 := blk_cell hGT1.out 0
  have cT1 := blk_cell hGT1.out 1
  have cT2 := blk_cell hGT1.out 2
  have cT3 := blk_cell hGT1.out 3
  have cT4 := blk_cell hGT1.out 4
  have cT5 := blk_cell hGT1.out 5
  simp at cT0 cT1 cT2 cT3 cT4 cT5
  go_wp2_with fail
  refine (hSR.out _).mono ?_
  rintro _ w2 ⟨rfl, hb2⟩
  clear cT0 cT1 cT2 cT3 cT4 cT5
  have hGT2 := hidS (blk_later hGT1.out hb2)
  have hL2 := hidS (hL1.out.trans (hb2.mono hL1.out.size))
  clear hb2 hL1 hGT1
  have cT0 := blk_cell hGT2.out 0
  have cT1 := blk_cell hGT2.out 1
  have cT2 := blk_cell hGT2.out 2
  have cT3 := blk_cell hGT2.out 3
  have cT4 := blk_cell hGT2.out 4
  have cT5 := blk_cell hGT2.out 5
  simp at cT0 cT1 cT2 cT3 cT4 cT5
  go_wp2_with fail
  refine (hTT.out _).mono ?_
  rintro _ w3 ⟨rfl, hb3⟩
  clear cT0 cT1 cT2 cT3 cT4 cT5
  have hGT3 := hidS (blk_later hGT2.out hb3)
  have hL3 := hidS (hL2.out.trans (hb3.mono hL2.out.size))
  clear hb3 hL2 hGT2
  have cT0 := blk_cell hGT3.out 0
  have cT1 := blk_cell hGT3.out 1
  have cT2 := blk_cell hGT3.out 2
  have cT3 := blk_cell hGT3.out 3
  have cT4 := blk_cell hGT3.out 4
  have cT5 := blk_cell hGT3.out 5
  simp at cT0 cT1 cT2 cT3 cT4 cT5
  go_wp2_with fail
  refine (hIR.out _ hL3.out).mono ?_
  rintro _ w4 ⟨rfl, hb4⟩
  clear cT0 cT1 cT2 cT3 cT4 cT5
  have hGT4 := hidS (blk_later hGT3.out hb4)
  have hL4 := hidS (hL3.out.trans (hb4.mono hL3.out.size))
  clear hb4 hL3 hGT3
  go_wp2_with fail
  go_ret
  exact ⟨rfl, hL4.out⟩

theorem tupleTextLaw_walk (f0_0 f0_1 f0_2 f0_3 f0_4 f0_5 : Int) (g0_0 : (Lit.int .i64 f0_0).wf = true) (g0_1 : (Lit.int .i64 f0_1).wf = true) (g0_2 : (Lit.int .i64 f0_2).wf = true) (g0_3 : (Lit.int .i64 f0_3).wf = true) (g0_4 : (Lit.int .i64 f0_4).wf = true) (g0_5 : (Lit.int .i64 f0_5).wf = true) (w : World) (hX : Lib.TabIs Tryd.prog w "internal/strconv.uint64pow10" .u64 Lib.pow10Tab) :
    Calls Tryd.prog 3 #[.agg #[.int .i64 f0_0, .int .i64 f0_1, .int .i64 f0_2, .int .i64 f0_3, .int .i64 f0_4, .int .i64 f0_5]] w fun e w' => e = .returned (.bool true) ∧ Below w.heap.size w w' :=
  tupleTextLaw_all ⟨f0_0, f0_1, f0_2, f0_3, f0_4, f0_5⟩ w hX

theorem laidOut_fnExactTupleText : laidOutB Tryd.prog = true := by kernel_rfl
theorem own_fnExactTupleText : ownKnob Tryd.prog.godebug = none := by kernel_rfl

set_option maxRecDepth 100000 in
theorem lifted_fnExactTupleText (os : Os) (started : os.Started) (H : Type) (enc : TypeId × Value → H) :
    ReturnsInHanded {} Tryd.checked os 3 .any (fun w args => (Rows.fnExactTupleTextSpec.pre enc Tryd.prog Tryd.f3 [] false w args ∧ laidMetH Tryd.prog Rows.fnExactTupleTextRow.laid w) ∧ sizedMet enc Tryd.prog Tryd.f3 (OpenSpec.ofChange Rows.fnExactTupleTextSpec) false w args)
      (Rows.fnExactTupleTextSpec.post enc Tryd.prog Tryd.f3 false true false false) := by
  refine returnsInHanded_of_change_and (C := Tryd.checked) (X := fun w _ => laidMetH Tryd.prog Rows.fnExactTupleTextRow.laid w) (fun _ _ _ hh h => h.of_heap hh) own_fnExactTupleText started (by kernel_rfl) Tryd.func3
    (ChangeSpec.witness_shaped (enc := enc) (C := Tryd.checked) (os := os) (X := fun w _ => laidMetH Tryd.prog Rows.fnExactTupleTextRow.laid w) false (World.laidAll Tryd.prog os Rows.fnExactTupleTextRow.laid) #[.agg #[.int .i64 0, .int .i64 0, .int .i64 0, .int .i64 0, .int .i64 0, .int .i64 0]] 8 (World.laidAll_os _ _ _)
      (World.shaped_of_ZipB (by kernel_rfl) (by kernel_rfl)) (by kernel_rfl) (by kernel_rfl) (by kernel_rfl)
      (by rw [MakeChecks.laidMetH_plain _ _ _ (by kernel_rfl)]; exact laidMet_laidAll _ (by kernel_rfl) (by kernel_rfl))) ?_
  intro W base args ds gs before hval0 hW _ _ hL0 _
  have hL : laidMet Tryd.prog Rows.fnExactTupleTextRow.laid W := by
    have h := hL0
    rwa [MakeChecks.laidMetH_plain _ _ _ (by kernel_rfl)] at h
  have hval : ∀ (j : Nat) t v, Tryd.f3.params[j]? = some t → args[j]? = some v → Value.okWide Tryd.prog W .any base t v := hval0
  have hW' := hW
  obtain ⟨p, q, hA0, hV, rfl, hfz, hnd⟩ := hW
  have hA : DataW.TrodAll enc Tryd.prog W 0 (fun _ => true) true Tryd.f3.params.toList args.toList ds p := hA0
  rw [Tryd.params3] at hA hval
  obtain ⟨v0, vs0, d0, ds0, p0, q0, hargs, rfl, rfl, h0, r0⟩ := trodAll_cons hA
  obtain ⟨rfl, rfl, rfl⟩ := trodAll_nil r0
  obtain rfl : args = #[v0] := by cases args; simp_all
  obtain ⟨rfl, rfl⟩ := trodVars_none hV
  have k0 := h0
  have lt0 : ∀ x ∈ p0, x.block < W.heap.size := by obtain ⟨m, hm⟩ := k0; exact DataW.trod_lt m _ _ _ hm
  obtain ⟨f0_0, f0_1, f0_2, f0_3, f0_4, f0_5, rfl, g0_0, g0_1, g0_2, g0_3, g0_4, g0_5⟩ := open_tuple (hval 0 23 v0 rfl rfl) h0
  clear hA0 hval0
  refine (tupleTextLaw_walk f0_0 f0_1 f0_2 f0_3 f0_4 f0_5 g0_0 g0_1 g0_2 g0_3 g0_4 g0_5 W (tabOf3 hL)).mono fun e W' ⟨he, bel⟩ => ?_
  subst he
  exact ⟨_, rfl, _, _, _, [], _, [], hW', trodAll_mk1 (shut_bool Tryd.underlying4 _), (trodAll_cons_mk (Below.trod laidOut_fnExactTupleText (by kernel_rfl) (of_decide_eq_true (by kernel_rfl)) k0 bel lt0) trodAll_mk0), rfl, bel.frame _, fun h => by cases h⟩

theorem said_fnExactTupleText : Rows.FnExactTupleTextSaid :=
  OpenClaim.holds_of_wide 3 Tryd.f3 rfl rfl rfl rfl rfl rfl rfl ⟨rfl, rfl, rfl, rfl, rfl⟩ rfl rfl rfl rfl rfl (by kernel_rfl) Tryd.func3 (by kernel_rfl)
    (of_decide_eq_true (by kernel_rfl)) (by unfold Func.isWrapper; first | (rw [if_pos (by decide +kernel)]; kernel_rfl) | (rw [if_neg (by decide +kernel)]; exact ⟨rfl, rfl⟩))
    (fun os started H enc _ => lifted_fnExactTupleText os started H enc)

theorem plain_fnExactTupleText (f : FuncId) (fn : Func) (hf : Tryd.pinned.checked.prog.funcNamed "loop.example/g00542/laws.FnExactTupleText" = some f) (hfn : Tryd.pinned.checked.prog.funcs[f]? = some fn) :
    true = Tryd.pinned.checked.prog.looks [] ∧ ∀ (j : Nat) t, fn.params[j]? = some t → Tryd.pinned.checked.prog.wantsStandIn t = false := by
  obtain rfl : f = 3 := Option.some.inj ((show Tryd.prog.funcNamed "loop.example/g00542/laws.FnExactTupleText" = some 3 by kernel_rfl).symm.trans hf) |>.symm
  obtain rfl : fn = Tryd.f3 := (Option.some.inj (Tryd.func3.symm.trans hfn)).symm
  refine ⟨by kernel_rfl, fun j t ht => ?_⟩
  rw [Tryd.params3] at ht
  obtain rfl : t = 23 := by simpa using Array.mem_of_getElem? ht
  exact (show Tryd.prog.wantsStandIn 23 = false by kernel_rfl)

theorem tupleText_holds : Rows.FnExactTupleTextCardSaid :=
  Claim7.holds_tied_plain_at .later [] _ _ _ _ said_fnExactTupleText (fun _ h => by cases h) (by kernel_rfl) (fun _ h => by cases h) fnExactTupleText_row_tie rfl ⟨rfl, rfl⟩ (by kernel_rfl) rfl plain_fnExactTupleText (by kernel_rfl)
#print axioms tupleText_holds
end Go.Proofs.YtokjhfgbnpdfnahDoor
