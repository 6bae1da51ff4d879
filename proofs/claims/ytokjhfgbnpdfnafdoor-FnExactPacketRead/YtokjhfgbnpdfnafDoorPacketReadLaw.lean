/- Proved here: the card of laws.FnExactPacketRead: it returns true at every argument, and each argument reads afterwards as before, where the package variables that the row lists start as the program's text lays them, which the given tie pays (the pruned copy of the project alone is looked at). -/
import Derived.Test.YtokjhfgbnpdfnafDoorCards
import Derived.Test.YtokjhfgbnpdfnafDoorTie
import Derived.Test.YtokjhfgbnpdfnafDoorReadI2
import Derived.Test.YtokjhfgbnpdfnafDoorAll43
import Derived.WalkKit
import Derived.WalkSpells
import Derived.ProofKit
import Derived.OpenShut
import Derived.ShutString
import Derived.Handy
import Derived.Below
import Derived.ChangeOld
import Derived.ChangeSame
import Derived.ChangeVars
import Derived.JoinedOf
import Derived.RowKit
import Derived.RowKitTokens
import Derived.LaidLaws
import Derived.Lay
import Derived.MakeChecks
import Derived.OpenVars
import Derived.SevenTiedAt
namespace Go.Proofs.YtokjhfgbnpdfnafDoor
open Go.ChangeShapes Go.WideShapes Go.ChangeAt Go.RowKit
open Go.ChangeMaps (open_string shut_string)
set_option linter.unusedVariables false
set_option maxRecDepth 100000

set_option maxHeartbeats 1000000 in
theorem packetReadLaw_walk (s : ByteArray) (hs : s.size ≤ maxLen) (w : World) (hX : ∃ aF aS aY aM, Sent aF aS aY aM w) :
    Calls Tryd.prog 3 #[.string s] w fun e w' => e = .returned (.bool true) ∧ Below w.heap.size w w' := by
  obtain ⟨aF, aS, aY, aM, hS⟩ := hX
  have hs' : s.size ≤ 2 ^ 63 - 1 := hs
  by_cases hbig : 1048576 < s.size
  · go_enter Tryd.func3, Tryd.ntmps3
    go_wp2
    go_ret
    exact ⟨rfl, Below.refl _ _⟩
  have HSP := hidS (fun W => specRead_any s W hs)
  have HIM := hidS (fun W (hW : Below w.heap.size w W) => implRead_any s W hs (hS.later hW))
  generalize readP s = q at *
  generalize readC s = c at *
  have HEQ := hidS (fun W => eqPacketOut_same q c W)
  clear hS
  go_enter Tryd.func3, Tryd.ntmps3
  go_wp2_with fail
  refine (HSP.out _).mono ?_
  rintro _ w1 ⟨rfl, hb1⟩
  have hL1 := hidS (hb1.alloc hb1.size (.cells #[.int .i64 q.src, .int .i64 q.dst, .int .i64 q.proto, .int .i64 q.a, .int .i64 q.b, .int .i64 q.kind, .int .i64 q.flags, .int .i64 q.seq, .int .i64 q.ack, .string q.body, .int .i64 c] 25))
  have hG1 := hidS (heap_newG w1 (.cells #[.int .i64 q.src, .int .i64 q.dst, .int .i64 q.proto, .int .i64 q.a, .int .i64 q.b, .int .i64 q.kind, .int .i64 q.flags, .int .i64 q.seq, .int .i64 q.ack, .string q.body, .int .i64 c] 25))
  clear hb1 HSP
  go_wp2_with fail
  refine (HIM.out _ hL1.out).mono ?_
  rintro _ w2 ⟨rfl, hb2⟩
  have hL2' := hL1.out.trans (hb2.mono hL1.out.size)
  have hL2 := hidS (hL2'.alloc hL2'.size (.cells #[.int .i64 q.src, .int .i64 q.dst, .int .i64 q.proto, .int .i64 q.a, .int .i64 q.b, .int .i64 q.kind, .int .i64 q.flags, .int .i64 q.seq, .int .i64 q.ack, .string q.body, .int .i64 c] 25))
  have hG2 := blk_later hG1.out hb2
  have hlt := blk_lt hG2
  have c0 := blk_cell hG2 0
  have c1 := blk_cell hG2 1
  have c2 := blk_cell hG2 2
  have c3 := blk_cell hG2 3
  have c4 := blk_cell hG2 4
  have c5 := blk_cell hG2 5
  have c6 := blk_cell hG2 6
  have c7 := blk_cell hG2 7
  have c8 := blk_cell hG2 8
  have c9 := blk_cell hG2 9
  have c10 := blk_cell hG2 10
  simp at c0 c1 c2 c3 c4 c5 c6 c7 c8 c9 c10
  clear hb2 hL1 hG1 HIM hL2' hG2
  go_wp2_with fail
  refine (HEQ.out _).mono ?_
  rintro _ w3 ⟨rfl, hb3⟩
  have hL3 := hidS (hL2.out.trans (hb3.mono hL2.out.size))
  clear hb3 hL2 HEQ
  go_wp2_with fail
  go_ret
  exact ⟨rfl, hL3.out⟩

theorem trodVars_len {H : Type} {enc : TypeId × Value → H} {P : Program} {w : World} {sp : Nat → Bool} : ∀ {ns : List String} {gs : List (DataW H)} {ps : List MemPlace}, DataW.TrodVars enc P w sp ns gs ps → gs.length = ns.length
  | [], [], _, _ => rfl
  | [], _ :: _, _, h => h.elim
  | _ :: _, [], _, h => h.elim
  | n :: ns, d :: ds, _, h => by
    obtain ⟨g, t, cs, fuel, p, q, _, _, _, _, hs, _⟩ := h
    simp [trodVars_len hs]
theorem list_4 {α : Type} {l : List α} (h : l.length = 4) : ∃ x0 x1 x2 x3, l = [x0, x1, x2, x3] := by
  match l, h with
  | [x0, x1, x2, x3], _ => exact ⟨x0, x1, x2, x3, rfl⟩
theorem laidOut_fnExactPacketRead : laidOutB Tryd.prog = true := by kernel_rfl
theorem own_fnExactPacketRead : ownKnob Tryd.prog.godebug = none := by kernel_rfl

set_option maxRecDepth 100000 in
theorem lifted_fnExactPacketRead (os : Os) (started : os.Started) (H : Type) (enc : TypeId × Value → H) :
    ReturnsInHanded {} Tryd.checked os 3 .any (fun w args => (Rows.fnExactPacketReadSpec.pre enc Tryd.prog Tryd.f3 [] false w args ∧ laidMetH Tryd.prog Rows.fnExactPacketReadRow.laid w) ∧ sizedMet enc Tryd.prog Tryd.f3 (OpenSpec.ofChange Rows.fnExactPacketReadSpec) false w args)
      (Rows.fnExactPacketReadSpec.post enc Tryd.prog Tryd.f3 false true false false) := by
  refine returnsInHanded_of_change_and (C := Tryd.checked) (X := fun w _ => laidMetH Tryd.prog Rows.fnExactPacketReadRow.laid w) (fun _ _ _ hh h => h.of_heap hh) own_fnExactPacketRead started (by kernel_rfl) Tryd.func3
    (ChangeSpec.witness_shaped (enc := enc) (C := Tryd.checked) (os := os) (X := fun w _ => laidMetH Tryd.prog Rows.fnExactPacketReadRow.laid w) false (World.laidAll Tryd.prog os Rows.fnExactPacketReadRow.laid) #[.string ByteArray.empty] 8 (World.laidAll_os _ _ _)
      (World.shaped_of_ZipB (by kernel_rfl) (by kernel_rfl)) (by kernel_rfl) (by kernel_rfl) (by kernel_rfl)
      (by rw [MakeChecks.laidMetH_plain _ _ _ (by kernel_rfl)]; exact laidMet_laidAll _ (by kernel_rfl) (by kernel_rfl))) ?_
  intro W base args ds gs before hval0 hW _ _ hL0 _
  have hL : laidMet Tryd.prog Rows.fnExactPacketReadRow.laid W := by
    have h := hL0
    rwa [MakeChecks.laidMetH_plain _ _ _ (by kernel_rfl)] at h
  have hval : ∀ (j : Nat) t v, Tryd.f3.params[j]? = some t → args[j]? = some v → Value.okWide Tryd.prog W .any base t v := hval0
  have hW' := hW
  obtain ⟨p, q, hA0, hV, rfl, hfz, hnd⟩ := hW
  have hA : DataW.TrodAll enc Tryd.prog W 0 (fun _ => true) true Tryd.f3.params.toList args.toList ds p := hA0
  rw [Tryd.params3] at hA hval
  obtain ⟨v0, vs0, d0, ds0, p0, q0, hargs, rfl, rfl, h0, r0⟩ := trodAll_cons hA
  obtain ⟨rfl, rfl, rfl⟩ := trodAll_nil r0
  obtain rfl : args = #[v0] := by cases args; simp_all
  obtain ⟨gv0, gv1, gv2, gv3, rfl⟩ := list_4 (trodVars_len hV)
  obtain ⟨a0, rfl, rfl, rfl, w0⟩ := open_string Tryd.underlying9 (hval 0 9 v0 rfl rfl) h0
  clear hA0 hval0
  refine (packetReadLaw_walk a0 w0 W (sents_of hL)).mono fun e W' ⟨he, bel⟩ => ?_
  subst he
  exact ⟨_, rfl, _, _, _, [], [], q, hW', trodAll_mk1 (shut_bool Tryd.underlying4 _), (trodAll_cons_mk (shut_string Tryd.underlying9 w0) trodAll_mk0), bel.trodVars laidOut_fnExactPacketRead (by kernel_rfl) hV, bel.frame _, fun h => by cases h⟩

theorem said_fnExactPacketRead : Rows.FnExactPacketReadSaid :=
  OpenClaim.holds_of_wide 3 Tryd.f3 rfl rfl rfl rfl rfl rfl rfl ⟨rfl, rfl, rfl, rfl, rfl⟩ rfl rfl rfl rfl rfl (by kernel_rfl) Tryd.func3 (by kernel_rfl)
    (of_decide_eq_true (by kernel_rfl)) (by unfold Func.isWrapper; first | (rw [if_pos (by decide +kernel)]; kernel_rfl) | (rw [if_neg (by decide +kernel)]; exact ⟨rfl, rfl⟩))
    (fun os started H enc _ => lifted_fnExactPacketRead os started H enc)

theorem plain_fnExactPacketRead (f : FuncId) (fn : Func) (hf : Tryd.pinned.checked.prog.funcNamed "loop.example/g00542/laws.FnExactPacketRead" = some f) (hfn : Tryd.pinned.checked.prog.funcs[f]? = some fn) :
    true = Tryd.pinned.checked.prog.looks [] ∧ ∀ (j : Nat) t, fn.params[j]? = some t → Tryd.pinned.checked.prog.wantsStandIn t = false := by
  obtain rfl : f = 3 := Option.some.inj ((show Tryd.prog.funcNamed "loop.example/g00542/laws.FnExactPacketRead" = some 3 by kernel_rfl).symm.trans hf) |>.symm
  obtain rfl : fn = Tryd.f3 := (Option.some.inj (Tryd.func3.symm.trans hfn)).symm
  refine ⟨by kernel_rfl, fun j t ht => ?_⟩
  rw [Tryd.params3] at ht
  obtain rfl : t = 9 := by simpa using Array.mem_of_getElem? ht
  exact (show Tryd.prog.wantsStandIn 9 = false by kernel_rfl)

theorem packetRead_holds : Rows.FnExactPacketReadCardSaid :=
  Claim7.holds_tied_plain_at .later [] _ _ _ _ said_fnExactPacketRead (fun _ h => by cases h) (by kernel_rfl) (fun _ h => by cases h) fnExactPacketRead_row_tie rfl ⟨rfl, rfl⟩ (by kernel_rfl) rfl plain_fnExactPacketRead (by kernel_rfl)
#print axioms packetRead_holds
end Go.Proofs.YtokjhfgbnpdfnafDoor
