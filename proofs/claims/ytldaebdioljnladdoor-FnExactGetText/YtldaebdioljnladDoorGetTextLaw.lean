/- Proved here: the card of laws.FnExactGetText: it returns true at every argument, and each argument reads afterwards as before, where the package variable errors.errorType starts as the program's text lays it, which the given tie pays (the pruned copy of the project alone is looked at). -/
import Derived.Test.YtldaebdioljnladDoorCards
import Derived.Test.YtldaebdioljnladDoorTie
import Derived.Test.YtldaebdioljnladDoorGetText
import Derived.WalkKit
import Derived.WalkSpells
import Derived.ProofKit
import Derived.OpenShut
import Derived.ShutString
import Derived.Handy
import Derived.Below
import Derived.ChangeOld
import Derived.ChangeSame
import Derived.ChangeVars
import Derived.JoinedOf
import Derived.RowKit
import Derived.RowKitTokens
import Derived.LaidLaws
import Derived.LaidHandle
import Derived.Stop.Joined
import Derived.SevenTiedAt
namespace Go.Proofs.YtldaebdioljnladDoor
open Go.ChangeShapes Go.WideShapes Go.ChangeAt Go.RowKit
open Go.ChangeMaps (open_string shut_string)
set_option linter.unusedVariables false

theorem eqTextOut_same (t : ByteArray) (a c : Int) (w : World) :
    Calls Tryd.prog 10 #[.agg #[.string t, .int .i64 a, .int .i64 c], .agg #[.string t, .int .i64 a, .int .i64 c]] w fun e w' => e = .returned (.bool true) ∧ Below w.heap.size w w' := by
  have h1 : (t.toList == t.toList) = true := by simp
  go_enter Tryd.func10, Tryd.ntmps10
  go_wp2
  go_ret
  exact ⟨rfl, by go_grown⟩

set_option maxRecDepth 100000 in
theorem getTextLaw_walk (a0 : ByteArray) (a1 : Int) (w0 : a0.size ≤ maxLen) (w1 : (Lit.int .i64 a1).wf = true) (w : World) (hg : w.cell? ⟨0, 0, none⟩ = some (.iface 57 (.agg #[.pointer (some ⟨1, 34, none⟩)]))) :
    Calls Tryd.prog 4 #[.string a0, .int .i64 a1] w fun e w' => e = .returned (.bool true) ∧ Below w.heap.size w w' := by
  have hm : a0.size ≤ 2 ^ 63 - 1 := w0
  by_cases hb : a0.size ≤ 1048576
  · have hb' : decide ((1048576 : Int) < (a0.size : Int)) = false := by simp; omega
    have hlt : 0 < w.heap.size := by
      rcases Nat.eq_zero_or_pos w.heap.size with h0 | h
      · simp [World.cell?, h0] at hg
      · exact h
    have hS := fun W => specGetNum_any a0 a1 W w0
    have hI := fun W hW => implGetNum_any a0 a1 W w0 hW
    have hat := rdAll_at a0 a1
    obtain ⟨r, hr⟩ : ∃ r, rdAll a0 a1 = r := ⟨_, rfl⟩
    rw [hr] at hS hI hat
    obtain ⟨rn, ra, rc⟩ := r
    have HS := hid' fun W => specGetText_in a0 a1 rn ra rc W hS hat
    have HI := hid' fun W hW => implGetText_in a0 a1 rn ra rc W hI hat hW
    clear hS hI hr hat
    generalize gtT a0 rn ra rc = tt at HS HI
    generalize gtA a0 rn ra rc = ta at HS HI
    generalize gtC a0 rn ra rc = tc at HS HI
    go_enter Tryd.func4, Tryd.ntmps4
    go_wp2_with fail
    refine (HS.out _).mono ?_
    rintro e v1 ⟨rfl, hb1⟩
    have hz1 := hb1.size
    have hg1 : v1.cell? ⟨0, 0, none⟩ = some (.iface 57 (.agg #[.pointer (some ⟨1, 34, none⟩)])) := (hb1.cell (p := ⟨0, 0, none⟩) hlt).trans hg
    go_wp2_with fail
    refine (HI.out _ (by rw [World.cell?_alloc_lt _ _ ⟨0, 0, none⟩ (by show 0 < v1.heap.size; omega)]; exact hg1)).mono ?_
    rintro e v2 ⟨rfl, hb2⟩
    obtain ⟨hc, hf⟩ := bcell hb2
    have hz : v1.heap.size < v2.heap.size := by have := hb2.size; simp at this; omega
    have hB1 : Below w.heap.size w v2 := (hb1.alloc hz1 _).trans (hb2.mono (by simp; omega))
    go_wp2_with (go_at_call 10; refine (eqTextOut_same _ _ _ _).mono ?_; rintro e v3 ⟨rfl, hb3⟩)
    go_ret
    exact ⟨rfl, (hB1.alloc hB1.size _).trans (hb3.mono (by have := hB1.size; simp; omega))⟩
  · go_enter Tryd.func4, Tryd.ntmps4
    go_wp2
    go_ret
    exact ⟨rfl, Below.refl _ _⟩

theorem own_fnExactGetText : ownKnob Tryd.prog.godebug = none := by kernel_rfl
theorem et_fnExactGetText : Tryd.prog.globalNamed "errors.errorType" = some 0 := by kernel_rfl
theorem rt_fnExactGetText : (Tryd.prog.cutTypes.find? (·.1 == "internal/reflectlite.rtype")).map (·.2) = some 57 := by kernel_rfl
theorem oneRow_fnExactGetText : ((List.range 101).filter fun t => Tryd.prog.rowNamed t [101, 114, 114, 111, 114]) = [34] := by kernel_rfl
theorem size_fnExactGetText : Tryd.prog.types.size = 101 := by kernel_rfl

/-- what the row's list gives the walk: the variable's one cell -/
theorem handle_fnExactGetText {W : World} (h : laidMetH Tryd.prog Rows.fnExactGetTextRow.laid W) : W.cell? ⟨0, 0, none⟩ = some (.iface 57 (.agg #[.pointer (some ⟨1, 34, none⟩)])) := by
  have h' : laidMet Tryd.prog [] W ∧ handlesMet Tryd.prog Rows.fnExactGetTextRow.laid W := h
  obtain ⟨name, u, ty, e1, e2, e3, e4, e5⟩ := h'.2 _ (List.mem_singleton.2 rfl)
  have en : name = [101, 114, 114, 111, 114] := (Option.some.inj e1).symm
  subst en
  obtain rfl := Option.some.inj (rt_fnExactGetText.symm.trans e2)
  have hm : ty ∈ (List.range 101).filter fun t => Tryd.prog.rowNamed t [101, 114, 114, 111, 114] := List.mem_filter.2 ⟨List.mem_range.2 (by rw [← size_fnExactGetText]; exact e3), e4⟩
  rw [oneRow_fnExactGetText] at hm
  obtain rfl := List.mem_singleton.1 hm
  have hh : typeHandle Tryd.prog 34 = .pointer (some ⟨1, 34, none⟩) := by kernel_rfl
  rw [hh] at e5
  simpa using World.var?_cell et_fnExactGetText e5 0

set_option maxRecDepth 100000 in
theorem lifted_fnExactGetText (os : Os) (started : os.Started) (H : Type) (enc : TypeId × Value → H) :
    ReturnsInHanded {} Tryd.checked os 4 .any (fun w args => (Rows.fnExactGetTextSpec.pre enc Tryd.prog Tryd.f4 [] false w args ∧ laidMetH Tryd.prog Rows.fnExactGetTextRow.laid w) ∧ sizedMet enc Tryd.prog Tryd.f4 (OpenSpec.ofChange Rows.fnExactGetTextSpec) false w args)
      (Rows.fnExactGetTextSpec.post enc Tryd.prog Tryd.f4 false true false false) := by
  refine returnsInHanded_of_change_and (C := Tryd.checked) (X := fun w _ => laidMetH Tryd.prog Rows.fnExactGetTextRow.laid w) (fun _ _ _ hh h => h.of_heap hh) own_fnExactGetText started (by kernel_rfl) Tryd.func4
    (ChangeSpec.witness_at (enc := enc) (C := Tryd.checked) (os := os) (X := fun w _ => laidMetH Tryd.prog Rows.fnExactGetTextRow.laid w) false ({ World.holding Tryd.prog os ⟨#[], #[], []⟩ with heap := (World.holding Tryd.prog os ⟨#[], #[], []⟩).heap.modify 0 fun
      | .cells _ t frozen => .cells #[.iface 57 (.agg #[.pointer (some ⟨1, 34, none⟩)])] t frozen
      | o => o }) #[.string ByteArray.empty, .int .i64 0] 8 rfl (by kernel_rfl) (by kernel_rfl) (by kernel_rfl) (by kernel_rfl) (by kernel_rfl) (laidMetH_of_parts (laidMet_nil _ _) (by kernel_rfl))) ?_
  intro W base args ds gs before hval0 hW _ _ hL _
  have hval : ∀ (j : Nat) t v, Tryd.f4.params[j]? = some t → args[j]? = some v → Value.okWide Tryd.prog W .any base t v := hval0
  have hW' := hW
  obtain ⟨p, q, hA0, hV0, rfl, hfz, hnd⟩ := hW
  have hA : DataW.TrodAll enc Tryd.prog W 0 (fun _ => true) true Tryd.f4.params.toList args.toList ds p := hA0
  have hV : DataW.TrodVars enc Tryd.prog W (fun _ => true) [] gs q := hV0
  rw [Tryd.params4] at hA hval
  obtain ⟨v0, vs0, d0, ds0, p0, q0, hargs, rfl, rfl, h0, r0⟩ := trodAll_cons hA
  obtain ⟨v1, vs1, d1, ds1, p1, q1, rfl, rfl, rfl, h1, r1⟩ := trodAll_cons r0
  obtain ⟨rfl, rfl, rfl⟩ := trodAll_nil r1
  obtain rfl : args = #[v0, v1] := by cases args; simp_all
  obtain ⟨rfl, rfl⟩ : gs = [] ∧ q = [] := by
    cases gs with
    | nil => exact ⟨rfl, hV⟩
    | cons g r => exact absurd hV (by intro h; cases h)
  have hg := handle_fnExactGetText hL
  obtain ⟨a0, rfl, rfl, rfl, w0⟩ := open_string Tryd.underlying9 (hval 0 9 v0 rfl rfl) h0
  obtain ⟨a1, rfl, rfl, rfl, w1⟩ := open_int Tryd.underlying2 (hval 1 2 v1 rfl rfl) h1
  clear hA0 hval0
  simp only [List.append_nil] at hW'
  refine (getTextLaw_walk a0 a1 w0 w1 W hg).mono fun e W' ⟨he, bel⟩ => ?_
  subst he
  exact ⟨_, rfl, _, _, _, [], [], [], hW', trodAll_mk1 (shut_bool Tryd.underlying4 _), (trodAll_cons_mk (shut_string Tryd.underlying9 w0) (trodAll_cons_mk (shut_int Tryd.underlying2 w1) trodAll_mk0)), rfl, bel.frame _, fun h => by cases h⟩

theorem said_fnExactGetText : Rows.FnExactGetTextSaid :=
  OpenClaim.holds_of_wide 4 Tryd.f4 rfl rfl rfl rfl rfl rfl rfl ⟨rfl, rfl, rfl, rfl, rfl⟩ rfl rfl rfl rfl rfl (by kernel_rfl) Tryd.func4 (by kernel_rfl)
    (of_decide_eq_true (by kernel_rfl)) (by unfold Func.isWrapper; first | (rw [if_pos (by decide +kernel)]; kernel_rfl) | (rw [if_neg (by decide +kernel)]; exact ⟨rfl, rfl⟩))
    (fun os started H enc _ => lifted_fnExactGetText os started H enc)

theorem plain_fnExactGetText (f : FuncId) (fn : Func) (hf : Tryd.pinned.checked.prog.funcNamed "loop.example/g00542/laws.FnExactGetText" = some f) (hfn : Tryd.pinned.checked.prog.funcs[f]? = some fn) :
    true = Tryd.pinned.checked.prog.looks [] ∧ ∀ (j : Nat) t, fn.params[j]? = some t → Tryd.pinned.checked.prog.wantsStandIn t = false := by
  obtain rfl : f = 4 := Option.some.inj ((show Tryd.prog.funcNamed "loop.example/g00542/laws.FnExactGetText" = some 4 by kernel_rfl).symm.trans hf) |>.symm
  obtain rfl : fn = Tryd.f4 := (Option.some.inj (Tryd.func4.symm.trans hfn)).symm
  refine ⟨by kernel_rfl, fun j t ht => ?_⟩
  rw [Tryd.params4] at ht
  have hm := Array.mem_of_getElem? ht
  simp at hm
  rcases hm with rfl | rfl
  · exact (show Tryd.prog.wantsStandIn 9 = false by kernel_rfl)
  · exact (show Tryd.prog.wantsStandIn 2 = false by kernel_rfl)

theorem getText_holds : Rows.FnExactGetTextCardSaid :=
  Claim7.holds_tied_plain_at .later [] _ _ _ _ said_fnExactGetText (fun _ h => by cases h) (by kernel_rfl) (fun _ h => by cases h) fnExactGetText_row_tie rfl ⟨rfl, rfl⟩ (by kernel_rfl) rfl plain_fnExactGetText (by kernel_rfl)
#print axioms getText_holds
end Go.Proofs.YtldaebdioljnladDoor
