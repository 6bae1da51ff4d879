/- Proved here: the card of laws.FnExactAddrRead: it returns true at every argument, and each argument reads afterwards as before, where the package variables that the row lists start as the program's text lays them, which the given tie pays (the pruned copy of the project alone is looked at). -/
import Derived.Test.YtokjhfgbnpdfnagDoorCards
import Derived.Test.YtokjhfgbnpdfnagDoorTie
import Derived.Test.YtokjhfgbnpdfnagDoorAddrK2
import Derived.Test.YtokjhfgbnpdfnagDoorLawsNum
import Derived.Test.YtokjhfgbnpdfnagDoorShapedAnd
import Derived.Test.YtokjhfgbnpdfnagDoorAddrReadSpec
import Derived.Deep.Cut
import Derived.WalkKit
import Derived.WalkSpells
import Derived.ProofKit
import Derived.OpenShut
import Derived.ShutString
import Derived.Handy
import Derived.Below
import Derived.ChangeOld
import Derived.ChangeSame
import Derived.ChangeVars
import Derived.JoinedOf
import Derived.RowKit
import Derived.RowKitTokens
import Derived.LaidLaws
import Derived.Lay
import Derived.MakeChecks
import Derived.OpenVars
import Derived.SevenTiedAt
namespace Go.Proofs.YtokjhfgbnpdfnagDoor
open Go.ChangeShapes Go.WideShapes Go.ChangeAt Go.RowKit
open Go.ChangeMaps (open_string shut_string)
set_option linter.unusedVariables false
set_option maxRecDepth 100000

set_option maxHeartbeats 1000000 in
theorem addrReadLaw_walk (s : ByteArray) (hsz : s.size ≤ maxLen) (w : World) (hX : LibOk w) :
    Calls Tryd.prog 3 #[.string s] w fun e w' => e = .returned (.bool true) ∧ Below w.heap.size w w' := by
  have hsz' : s.size ≤ 2 ^ 63 - 1 := hsz
  by_cases hbig : 1048576 < s.size
  · go_enter Tryd.func3, Tryd.ntmps3
    go_wp2_with fail
    go_ret
    exact ⟨rfl, Below.refl _ _⟩
  have HSP := hidS (fun W => specAddrRead_any s W hsz)
  have HIM := hidS (fun W (h : Below w.heap.size w W) => implAddrRead_any s W hsz (hX.later h))
  generalize readAN s = n at *
  generalize readAC s = c at *
  have HEQ := hidS (fun W => eqNumOut_same n 0 c W)
  clear hX
  have hL0 := hidS (Below.refl w.heap.size w)
  go_enter Tryd.func3, Tryd.ntmps3
  go_wp2_with fail
  refine (HSP.out _).mono ?_
  rintro _ w1 ⟨rfl, hb1⟩
  have hL1 := hidS (hL0.out.trans (hb1.mono hL0.out.size))
  clear hb1 hL0
  go_upto_region 4 with fail
  have hGW2 := hidS (heap_newG w1 (.cells #[.int .i64 n, .int .i64 0, .int .i64 c] 23))
  have hL2 := hidS (hL1.out.alloc hL1.out.size (.cells #[.int .i64 n, .int .i64 0, .int .i64 c] 23))
  clear hL1
  generalize w1.alloc (.cells #[.int .i64 n, .int .i64 0, .int .i64 c] 23) = w2 at hGW2 hL2 ⊢
  go_wp2_with fail
  refine (HIM.out _ hL2.out).mono ?_
  rintro _ w3 ⟨rfl, hb3⟩
  have hGW3 := hidS (blk_later hGW2.out hb3)
  have hL3 := hidS (hL2.out.trans (hb3.mono hL2.out.size))
  clear hb3 hL2 hGW2
  go_upto_region 5 with fail
  have hGG4 := hidS (heap_newG w3 (.cells #[.int .i64 n, .int .i64 0, .int .i64 c] 23))
  have hGW4 := hidS (blk_alloc hGW3.out (.cells #[.int .i64 n, .int .i64 0, .int .i64 c] 23))
  have hL4 := hidS (hL3.out.alloc hL3.out.size (.cells #[.int .i64 n, .int .i64 0, .int .i64 c] 23))
  clear hL3 hGW3
  generalize w3.alloc (.cells #[.int .i64 n, .int .i64 0, .int .i64 c] 23) = w4 at hGW4 hGG4 hL4 ⊢
  have cW0 := blk_cell hGW4.out 0
  have cW1 := blk_cell hGW4.out 1
  have cW2 := blk_cell hGW4.out 2
  simp at cW0 cW1 cW2
  have cG0 := blk_cell hGG4.out 0
  have cG1 := blk_cell hGG4.out 1
  have cG2 := blk_cell hGG4.out 2
  simp at cG0 cG1 cG2
  go_wp2_with fail
  refine (HEQ.out _).mono ?_
  rintro _ w5 ⟨rfl, hb5⟩
  clear cW0 cW1 cW2 cG0 cG1 cG2
  have hGW5 := hidS (blk_later hGW4.out hb5)
  have hGG5 := hidS (blk_later hGG4.out hb5)
  have hL5 := hidS (hL4.out.trans (hb5.mono hL4.out.size))
  clear hb5 hL4 hGW4 hGG4
  go_wp2_with fail
  go_ret
  exact ⟨rfl, hL5.out⟩

theorem own_fnExactAddrRead : ownKnob Tryd.prog.godebug = none := by kernel_rfl

set_option maxRecDepth 100000 in
theorem lifted_fnExactAddrRead (os : Os) (started : os.Started) (H : Type) (enc : TypeId × Value → H) :
    ReturnsInHanded {} Tryd.checked os 3 .any (fun w args => (Rows.fnExactAddrReadSpec.pre enc Tryd.prog Tryd.f3 [] false w args ∧ laidMetH Tryd.prog Rows.fnExactAddrReadRow.laid w) ∧ sizedMet enc Tryd.prog Tryd.f3 (OpenSpec.ofChange Rows.fnExactAddrReadSpec) false w args)
      (Rows.fnExactAddrReadSpec.post enc Tryd.prog Tryd.f3 false true false false) := by
  refine change_and_shaped (C := Tryd.checked) (X := fun w _ => laidMetH Tryd.prog Rows.fnExactAddrReadRow.laid w) (fun _ _ _ hh h => h.of_heap hh) own_fnExactAddrRead started (by kernel_rfl) Tryd.func3
    (ChangeSpec.witness_shaped (enc := enc) (C := Tryd.checked) (os := os) (X := fun w _ => laidMetH Tryd.prog Rows.fnExactAddrReadRow.laid w) false (World.laidAll Tryd.prog os Rows.fnExactAddrReadRow.laid) #[.string ByteArray.empty] 8 (World.laidAll_os _ _ _)
      (World.shaped_of_ZipB (by kernel_rfl) (by kernel_rfl)) (by kernel_rfl) (by kernel_rfl) (by kernel_rfl)
      (by rw [MakeChecks.laidMetH_plain _ _ _ (by kernel_rfl)]; exact laidMet_laidAll _ (by kernel_rfl) (by kernel_rfl))) ?_
  intro W base args ds gs before hval0 hW _ _ hL0 hSh _
  have hL : laidMet Tryd.prog Rows.fnExactAddrReadRow.laid W := by
    have h := hL0
    rwa [MakeChecks.laidMetH_plain _ _ _ (by kernel_rfl)] at h
  have hval : ∀ (j : Nat) t v, Tryd.f3.params[j]? = some t → args[j]? = some v → Value.okWide Tryd.prog W .any base t v := hval0
  have hW' := hW
  obtain ⟨p, q, hA0, hV, rfl, hfz, hnd⟩ := hW
  have hA : DataW.TrodAll enc Tryd.prog W 0 (fun _ => true) true Tryd.f3.params.toList args.toList ds p := hA0
  rw [Tryd.params3] at hA hval
  obtain ⟨v0, vs0, d0, ds0, p0, q0, hargs, rfl, rfl, h0, r0⟩ := trodAll_cons hA
  obtain ⟨rfl, rfl, rfl⟩ := trodAll_nil r0
  obtain rfl : args = #[v0] := by cases args; simp_all
  obtain ⟨rfl, rfl⟩ := trodVars_none hV
  obtain ⟨a0, rfl, rfl, rfl, w0⟩ := open_string Tryd.underlying9 (hval 0 9 v0 rfl rfl) h0
  clear hA0 hval0
  simp only [List.append_nil] at hW'
  refine (addrReadLaw_walk a0 w0 W (libOk_of hL hSh)).mono fun e W' ⟨he, bel⟩ => ?_
  subst he
  exact ⟨_, rfl, _, _, _, [], [], [], hW', trodAll_mk1 (shut_bool Tryd.underlying4 _), (trodAll_cons_mk (shut_string Tryd.underlying9 w0) trodAll_mk0), rfl, bel.frame _, fun h => by cases h⟩

theorem said_fnExactAddrRead : Rows.FnExactAddrReadSaid :=
  OpenClaim.holds_of_wide 3 Tryd.f3 rfl rfl rfl rfl rfl rfl rfl ⟨rfl, rfl, rfl, rfl, rfl⟩ rfl rfl rfl rfl rfl (by kernel_rfl) Tryd.func3 (by kernel_rfl)
    (of_decide_eq_true (by kernel_rfl)) (by unfold Func.isWrapper; first | (rw [if_pos (by decide +kernel)]; kernel_rfl) | (rw [if_neg (by decide +kernel)]; exact ⟨rfl, rfl⟩))
    (fun os started H enc _ => lifted_fnExactAddrRead os started H enc)

theorem plain_fnExactAddrRead (f : FuncId) (fn : Func) (hf : Tryd.pinned.checked.prog.funcNamed "loop.example/g00542/laws.FnExactAddrRead" = some f) (hfn : Tryd.pinned.checked.prog.funcs[f]? = some fn) :
    true = Tryd.pinned.checked.prog.looks [] ∧ ∀ (j : Nat) t, fn.params[j]? = some t → Tryd.pinned.checked.prog.wantsStandIn t = false := by
  obtain rfl : f = 3 := Option.some.inj ((show Tryd.prog.funcNamed "loop.example/g00542/laws.FnExactAddrRead" = some 3 by kernel_rfl).symm.trans hf) |>.symm
  obtain rfl : fn = Tryd.f3 := (Option.some.inj (Tryd.func3.symm.trans hfn)).symm
  refine ⟨by kernel_rfl, fun j t ht => ?_⟩
  rw [Tryd.params3] at ht
  obtain rfl : t = 9 := by simpa using Array.mem_of_getElem? ht
  exact (show Tryd.prog.wantsStandIn 9 = false by kernel_rfl)

theorem addrRead_holds : Rows.FnExactAddrReadCardSaid :=
  Claim7.holds_tied_plain_at .later [] _ _ _ _ said_fnExactAddrRead (fun _ h => by cases h) (by kernel_rfl) (fun _ h => by cases h) fnExactAddrRead_row_tie rfl ⟨rfl, rfl⟩ (by kernel_rfl) rfl plain_fnExactAddrRead (by kernel_rfl)
#print axioms addrRead_holds
end Go.Proofs.YtokjhfgbnpdfnagDoor
