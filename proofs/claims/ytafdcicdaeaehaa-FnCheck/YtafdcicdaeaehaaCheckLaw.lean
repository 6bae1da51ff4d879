/- Proved here: laws.FnCheck returns true at every argument, and each argument reads afterwards as before (no conditions). -/
import Derived.Test.YtafdcicdaeaehaaCheckMath
import Derived.Test.YtafdcicdaeaehaaCheckDraws
import Derived.Test.YtafdcicdaeaehaaBytesArg
import Derived.WalkKit
import Derived.WalkSpells
import Derived.ProofKit
import Derived.OpenShut
import Derived.ShutString
import Derived.Handy
import Derived.Below
namespace Go.Proofs.Ytafdcicdaeaehaa
open Go.ChangeShapes Go.WideShapes Go.ChangeAt Go.RowKit
open Go.ChangeMaps (open_string shut_string)
set_option linter.unusedVariables false

set_option maxRecDepth 100000 in
set_option maxHeartbeats 4000000 in
theorem checkTop_in (a0 : Option Addr) (len0 cap0 : Nat) (a1 : Option Addr) (len1 cap1 : Nat) (w : World) (h0 : RowAt w.heap.size a0 len0 w) (h1 : RowAt w.heap.size a1 len1 w) (hl0 : len0 ≤ 1048576) (hl1 : len1 ≤ 1048576) :
    Calls Try.prog 4 #[.slice a0 len0 cap0, .slice a1 len1 cap1] w fun e w' => e = .returned (.bool true) ∧ Below w.heap.size w w' := by
  have g0 : ¬ ((1048576 : Int) < (len0 : Int)) := by omega
  have g1 : ¬ ((1048576 : Int) < (len1 : Int)) := by omega
  have H0 := hidS h0
  have H1 := hidS h1
  clear h0 h1
  go_enter Try.func4, Try.ntmps4
  go_wp2_with fail
  refine (drawSumOf_any a0 len0 cap0 w H0.out hl0).mono ?_
  rintro e w1 ⟨t, rfl, ht, hb1⟩
  have htm : t.size ≤ maxLen := by unfold maxLen; omega
  have B1 := hidS hb1
  clear hb1
  go_wp2_with fail
  refine (drawCheckGood_any a1 len1 cap1 w1 (H1.out.later B1.out) hl1).mono ?_
  rintro e w2 ⟨u, rfl, hu, hu2, hb2⟩
  have hum : u.size ≤ maxLen := by unfold maxLen; omega
  have HU := hidS hu2
  have B2 := hidS (B1.out.trans (hb2.mono B1.out.size))
  clear hb2 B1 hu2
  go_wp2_with fail
  refine (drawSumAdd_any a0 len0 cap0 w2 (H0.out.later B2.out) hl0).mono ?_
  rintro e w3 ⟨a, b, rfl, ha, hb, hb3⟩
  have B3 := hidS (B2.out.trans (hb3.mono B2.out.size))
  clear hb3 B2 ha hb
  go_wp2_with fail
  refine (drawCheckTurn_any a1 len1 cap1 w3 (H1.out.later B3.out) hl1).mono ?_
  rintro e w4 ⟨x, y, z, rfl, hx, hy, hz, hb4⟩
  have B4 := hidS (B3.out.trans (hb4.mono B3.out.size))
  clear hb4 B3 hx hy hz
  go_wp2_with fail
  refine (drawWordText_any a0 len0 cap0 w4 (H0.out.later B4.out) hl0).mono ?_
  rintro e w5 ⟨v, rfl, hv, hb5⟩
  have B5 := hidS (B4.out.trans (hb5.mono B4.out.size))
  clear hb5 B4 hv H0 H1 g0 g1 hl0 hl1
  go_wp2_with fail
  refine (implSumOf_any t _ htm).mono ?_
  rintro e w6 ⟨rfl, hb6⟩
  have B6 := hidS (B5.out.trans (hb6.mono B5.out.size))
  clear hb6 B5
  go_wp2_with fail
  refine (specSumOf_any t _ htm).mono ?_
  rintro e W101 ⟨rfl, rfl⟩
  go_wp2_with fail
  refine (implCheckOf_any t _ htm).mono ?_
  rintro e w7 ⟨rfl, hb7⟩
  have B7 := hidS (B6.out.trans (hb7.mono B6.out.size))
  clear hb7 B6
  go_wp2_with fail
  refine (specCheckOf_any t _ htm).mono ?_
  rintro e W103 ⟨rfl, rfl⟩
  go_wp2_with fail
  refine (implCheckGood_any u _ hum).mono ?_
  rintro e w8 ⟨rfl, hb8⟩
  have B8 := hidS (B7.out.trans (hb8.mono B7.out.size))
  clear hb8 B7
  go_wp2_with fail
  refine (specCheckGood_any u _ hum).mono ?_
  rintro e W105 ⟨rfl, rfl⟩
  go_wp2_with fail
  refine (implSumAdd_any a b _).mono ?_
  rintro e w9 ⟨rfl, hb9⟩
  have B9 := hidS (B8.out.trans (hb9.mono B8.out.size))
  clear hb9 B8
  go_wp2_with fail
  refine (specSumAdd_any a b _).mono ?_
  rintro e W107 ⟨rfl, rfl⟩
  go_wp2_with fail
  refine (implCheckTurn_any x y z _).mono ?_
  rintro e w10 ⟨rfl, hb10⟩
  have B10 := hidS (B9.out.trans (hb10.mono B9.out.size))
  clear hb10 B9
  go_wp2_with fail
  refine (specCheckTurn_any x y z _).mono ?_
  rintro e W109 ⟨rfl, rfl⟩
  go_wp2_with fail
  refine (implWordText_any v _).mono ?_
  rintro e w11 ⟨rfl, hb11⟩
  have B11 := hidS (B10.out.trans (hb11.mono B10.out.size))
  clear hb11 B10
  go_wp2_with fail
  refine (specWordText_any v _).mono ?_
  rintro e w12 ⟨rfl, hb12⟩
  have B12 := hidS (B11.out.trans (hb12.mono B11.out.size))
  clear hb12 B11
  have HT : Hid (∀ r : ByteArray, r.size ≤ 20 → r.size % 2 = 0 → goodAns (r ++ wordT (checkAns r)) = true ∧ addAns (sumAns r : Nat) (sumAns u : Nat) = (sumAns (r ++ u) : Nat)) := fun r h1 h2 => ⟨good_fact h2 (by omega), add_fact h2 (by omega)⟩
  by_cases hodd : t.size % 2 = 1
  · have hodd' : ((t.size : Int) % 2 == 1) = true := by simp; omega
    have hpos : 1 ≤ t.size := by omega
    have hr1 : (t.extract 1 t.size).size ≤ 20 := by simp; omega
    have hr2 := hidS (show (t.extract 1 t.size).size % 2 = 0 by simp; omega)
    clear hodd
    go_wp2_with fail
    generalize t.extract 1 t.size = r at *
    have hrm : r.size ≤ maxLen := by unfold maxLen; omega
    have hw1 := wordT_size (checkAns r)
    have hw2 := wordT_size y
    have hw3 := wordT_size z
    obtain ⟨hg, hadd⟩ := HT.out r hr1 hr2.out
    have HG := hidS hg
    have HA := hidS hadd
    clear HT hg hadd
    refine (implCheckOf_any r _ hrm).mono ?_
    rintro e w13 ⟨rfl, hb13⟩
    have B13 := hidS (B12.out.trans (hb13.mono B12.out.size))
    clear hb13 B12
    go_wp2_with fail
    refine (implWordText_any (checkAns r) _).mono ?_
    rintro e w14 ⟨rfl, hb14⟩
    have B14 := hidS (B13.out.trans (hb14.mono B13.out.size))
    clear hb14 B13
    go_wp2_with fail
    refine (implCheckGood_any (r ++ wordT (checkAns r)) _ (by have := wordT_size (checkAns r); rw [ByteArray.size_append]; unfold maxLen; omega)).mono ?_
    rintro e w15 ⟨rfl, hb15⟩
    have B15 := hidS (B14.out.trans (hb15.mono B14.out.size))
    clear hb15 B14
    rw [HG.out]
    go_wp2_with fail
    refine (implSumOf_any (r ++ u) _ (by rw [ByteArray.size_append]; unfold maxLen; omega)).mono ?_
    rintro e w16 ⟨rfl, hb16⟩
    have B16 := hidS (B15.out.trans (hb16.mono B15.out.size))
    clear hb16 B15
    go_wp2_with fail
    refine (implSumOf_any r _ hrm).mono ?_
    rintro e w17 ⟨rfl, hb17⟩
    have B17 := hidS (B16.out.trans (hb17.mono B16.out.size))
    clear hb17 B16
    go_wp2_with fail
    refine (implSumOf_any u _ hum).mono ?_
    rintro e w18 ⟨rfl, hb18⟩
    have B18 := hidS (B17.out.trans (hb18.mono B17.out.size))
    clear hb18 B17
    go_wp2_with fail
    refine (implSumAdd_any _ _ _).mono ?_
    rintro e w19 ⟨rfl, hb19⟩
    have B19 := hidS (B18.out.trans (hb19.mono B18.out.size))
    clear hb19 B18
    rw [HA.out]
    go_wp2_with fail
    refine (specWordText_any y _).mono ?_
    rintro e w20 ⟨rfl, hb20⟩
    have B20 := hidS (B19.out.trans (hb20.mono B19.out.size))
    clear hb20 B19
    cases hy : wordB y
    · rw [wordT_empty hy]
      go_wp2
      go_ret
      exact ⟨rfl, B20.out⟩
    have ey := wordT_full hy
    go_wp2_with fail
    refine (specWordText_any z _).mono ?_
    rintro e w21 ⟨rfl, hb21⟩
    have B21 := hidS (B20.out.trans (hb21.mono B20.out.size))
    clear hb21 B20
    cases hz : wordB z
    · rw [wordT_empty hz]
      go_wp2
      go_ret
      exact ⟨rfl, B21.out⟩
    have ez := wordT_full hz
    go_wp2_with fail
    refine (implSumOf_any r _ hrm).mono ?_
    rintro e w22 ⟨rfl, hb22⟩
    have B22 := hidS (B21.out.trans (hb22.mono B21.out.size))
    clear hb22 B21
    by_cases hs0 : sumAns r = 0
    · have hs1 : (((sumAns r : Nat) : Int) == 0) = true := by rw [hs0]; rfl
      go_wp2
      go_ret
      exact ⟨rfl, B22.out⟩
    have hs1 : (((sumAns r : Nat) : Int) == 0) = false := by simp; omega
    have HF := hidS (turn_fact hr2.out (by omega) hs0 hy hz)
    go_wp2_with fail
    refine (implWordText_any y _).mono ?_
    rintro e w23 ⟨rfl, hb23⟩
    have B23 := hidS (B22.out.trans (hb23.mono B22.out.size))
    clear hb23 B22
    go_wp2_with fail
    refine (implCheckOf_any (r ++ wordT y) _ (by have := wordT_size y; rw [ByteArray.size_append]; unfold maxLen; omega)).mono ?_
    rintro e w24 ⟨rfl, hb24⟩
    have B24 := hidS (B23.out.trans (hb24.mono B23.out.size))
    clear hb24 B23
    go_wp2_with fail
    refine (implCheckTurn_any _ y z _).mono ?_
    rintro e w25 ⟨rfl, hb25⟩
    have B25 := hidS (B24.out.trans (hb25.mono B24.out.size))
    clear hb25 B24
    rw [HF.out]
    go_wp2_with fail
    refine (implWordText_any z _).mono ?_
    rintro e w26 ⟨rfl, hb26⟩
    have B26 := hidS (B25.out.trans (hb26.mono B25.out.size))
    clear hb26 B25
    go_wp2_with fail
    refine (implCheckOf_any (r ++ wordT z) _ (by have := wordT_size z; rw [ByteArray.size_append]; unfold maxLen; omega)).mono ?_
    rintro e w27 ⟨rfl, hb27⟩
    have B27 := hidS (B26.out.trans (hb27.mono B26.out.size))
    clear hb27 B26
    go_wp2
    go_ret
    exact ⟨rfl, B27.out⟩
  · have hodd' : ((t.size : Int) % 2 == 1) = false := by simp; omega
    have hr1 : t.size ≤ 20 := ht
    have hr2 := hidS (show t.size % 2 = 0 by omega)
    clear hodd
    obtain ⟨r, hr⟩ : ∃ r, r = t := ⟨t, rfl⟩
    subst hr
    go_wp2_with fail
    have hrm : r.size ≤ maxLen := by unfold maxLen; omega
    have hw1 := wordT_size (checkAns r)
    have hw2 := wordT_size y
    have hw3 := wordT_size z
    obtain ⟨hg, hadd⟩ := HT.out r hr1 hr2.out
    have HG := hidS hg
    have HA := hidS hadd
    clear HT hg hadd
    refine (implCheckOf_any r _ hrm).mono ?_
    rintro e w13 ⟨rfl, hb13⟩
    have B13 := hidS (B12.out.trans (hb13.mono B12.out.size))
    clear hb13 B12
    go_wp2_with fail
    refine (implWordText_any (checkAns r) _).mono ?_
    rintro e w14 ⟨rfl, hb14⟩
    have B14 := hidS (B13.out.trans (hb14.mono B13.out.size))
    clear hb14 B13
    go_wp2_with fail
    refine (implCheckGood_any (r ++ wordT (checkAns r)) _ (by have := wordT_size (checkAns r); rw [ByteArray.size_append]; unfold maxLen; omega)).mono ?_
    rintro e w15 ⟨rfl, hb15⟩
    have B15 := hidS (B14.out.trans (hb15.mono B14.out.size))
    clear hb15 B14
    rw [HG.out]
    go_wp2_with fail
    refine (implSumOf_any (r ++ u) _ (by rw [ByteArray.size_append]; unfold maxLen; omega)).mono ?_
    rintro e w16 ⟨rfl, hb16⟩
    have B16 := hidS (B15.out.trans (hb16.mono B15.out.size))
    clear hb16 B15
    go_wp2_with fail
    refine (implSumOf_any r _ hrm).mono ?_
    rintro e w17 ⟨rfl, hb17⟩
    have B17 := hidS (B16.out.trans (hb17.mono B16.out.size))
    clear hb17 B16
    go_wp2_with fail
    refine (implSumOf_any u _ hum).mono ?_
    rintro e w18 ⟨rfl, hb18⟩
    have B18 := hidS (B17.out.trans (hb18.mono B17.out.size))
    clear hb18 B17
    go_wp2_with fail
    refine (implSumAdd_any _ _ _).mono ?_
    rintro e w19 ⟨rfl, hb19⟩
    have B19 := hidS (B18.out.trans (hb19.mono B18.out.size))
    clear hb19 B18
    rw [HA.out]
    go_wp2_with fail
    refine (specWordText_any y _).mono ?_
    rintro e w20 ⟨rfl, hb20⟩
    have B20 := hidS (B19.out.trans (hb20.mono B19.out.size))
    clear hb20 B19
    cases hy : wordB y
    · rw [wordT_empty hy]
      go_wp2
      go_ret
      exact ⟨rfl, B20.out⟩
    have ey := wordT_full hy
    go_wp2_with fail
    refine (specWordText_any z _).mono ?_
    rintro e w21 ⟨rfl, hb21⟩
    have B21 := hidS (B20.out.trans (hb21.mono B20.out.size))
    clear hb21 B20
    cases hz : wordB z
    · rw [wordT_empty hz]
      go_wp2
      go_ret
      exact ⟨rfl, B21.out⟩
    have ez := wordT_full hz
    go_wp2_with fail
    refine (implSumOf_any r _ hrm).mono ?_
    rintro e w22 ⟨rfl, hb22⟩
    have B22 := hidS (B21.out.trans (hb22.mono B21.out.size))
    clear hb22 B21
    by_cases hs0 : sumAns r = 0
    · have hs1 : (((sumAns r : Nat) : Int) == 0) = true := by rw [hs0]; rfl
      go_wp2
      go_ret
      exact ⟨rfl, B22.out⟩
    have hs1 : (((sumAns r : Nat) : Int) == 0) = false := by simp; omega
    have HF := hidS (turn_fact hr2.out (by omega) hs0 hy hz)
    go_wp2_with fail
    refine (implWordText_any y _).mono ?_
    rintro e w23 ⟨rfl, hb23⟩
    have B23 := hidS (B22.out.trans (hb23.mono B22.out.size))
    clear hb23 B22
    go_wp2_with fail
    refine (implCheckOf_any (r ++ wordT y) _ (by have := wordT_size y; rw [ByteArray.size_append]; unfold maxLen; omega)).mono ?_
    rintro e w24 ⟨rfl, hb24⟩
    have B24 := hidS (B23.out.trans (hb24.mono B23.out.size))
    clear hb24 B23
    go_wp2_with fail
    refine (implCheckTurn_any _ y z _).mono ?_
    rintro e w25 ⟨rfl, hb25⟩
    have B25 := hidS (B24.out.trans (hb25.mono B24.out.size))
    clear hb25 B24
    rw [HF.out]
    go_wp2_with fail
    refine (implWordText_any z _).mono ?_
    rintro e w26 ⟨rfl, hb26⟩
    have B26 := hidS (B25.out.trans (hb26.mono B25.out.size))
    clear hb26 B25
    go_wp2_with fail
    refine (implCheckOf_any (r ++ wordT z) _ (by have := wordT_size z; rw [ByteArray.size_append]; unfold maxLen; omega)).mono ?_
    rintro e w27 ⟨rfl, hb27⟩
    have B27 := hidS (B26.out.trans (hb27.mono B26.out.size))
    clear hb27 B26
    go_wp2
    go_ret
    exact ⟨rfl, B27.out⟩

theorem checkTop_walk (a0 : Option Addr) (len0 cap0 : Nat) (z0 : List Int) (a1 : Option Addr) (len1 cap1 : Nat) (z1 : List Int) (w : World) (w0 : IsRow .u8 w a0 len0 cap0 z0) (w1 : IsRow .u8 w a1 len1 cap1 z1) :
    Calls Try.prog 4 #[.slice a0 len0 cap0, .slice a1 len1 cap1] w fun e w' => e = .returned (.bool true) ∧ Below w.heap.size w w' := by
  by_cases h0 : len0 ≤ 1048576
  · by_cases h1 : len1 ≤ 1048576
    · exact checkTop_in a0 len0 cap0 a1 len1 cap1 w (rowAt_of w0) (rowAt_of w1) h0 h1
    · have g0 : ¬ ((1048576 : Int) < (len0 : Int)) := by omega
      have g1 : (1048576 : Int) < (len1 : Int) := by omega
      clear w0 w1 h0 h1
      go_enter Try.func4, Try.ntmps4
      go_wp2
      go_ret
      exact ⟨rfl, Below.refl _ _⟩
  · have g0 : (1048576 : Int) < (len0 : Int) := by omega
    clear w0 w1 h0
    go_enter Try.func4, Try.ntmps4
    go_wp2
    go_ret
    exact ⟨rfl, Below.refl _ _⟩

theorem laidOut_fnCheck : laidOutB Try.prog = true := by kernel_rfl
theorem own_fnCheck : ownKnob Try.prog.godebug = none := by kernel_rfl
set_option maxRecDepth 100000 in
theorem lifted_fnCheck (os : Os) (started : os.Started) (H : Type) (enc : TypeId × Value → H) :
    ReturnsInHanded {} Try.checked os 4 .any (Rows.fnCheckSpec.pre6 enc Try.prog Try.f4 Rows.fnCheckRow.domain false) (Rows.fnCheckSpec.post enc Try.prog Try.f4 false true false false) := by
  refine returnsInHanded_of_change (C := Try.checked) own_fnCheck started (by kernel_rfl) Try.func4
    (ChangeSpec.witness6 (enc := enc) (C := Try.checked) false ⟨#[], #[.slice none 0 0, .slice none 0 0], []⟩ 8 (by kernel_rfl) (by kernel_rfl) (by kernel_rfl) (by kernel_rfl)) ?_
  intro W base args ds gs before hval0 hW hcnd _
  have hval : ∀ (j : Nat) t v, Try.f4.params[j]? = some t → args[j]? = some v → Value.okWide Try.prog W .any base t v := hval0
  have hW' := hW
  obtain ⟨p, q, hA0, hV, rfl, hfz, hnd⟩ := hW
  have hA : DataW.TrodAll enc Try.prog W 0 (fun _ => true) true Try.f4.params.toList args.toList ds p := hA0
  rw [Try.params4] at hA hval
  obtain ⟨v0, vs0, d0, ds0, p0, q0, hargs, rfl, rfl, h0, r0⟩ := trodAll_cons hA
  obtain ⟨v1, vs1, d1, ds1, p1, q1, rfl, rfl, rfl, h1, r1⟩ := trodAll_cons r0
  obtain ⟨rfl, rfl, rfl⟩ := trodAll_nil r1
  obtain rfl : args = #[v0, v1] := by cases args; simp_all
  obtain ⟨rfl, rfl⟩ := trodVars_none hV
  obtain ⟨a0, len0, cap0, rfl⟩ := okWide_slice Try.underlying22 (hval 0 22 v0 rfl rfl)
  have k0 := h0
  have lt0 : ∀ x ∈ p0, x.block < W.heap.size := by obtain ⟨m, hm⟩ := k0; exact DataW.trod_lt m _ _ _ hm
  obtain ⟨z0, w0⟩ : ∃ zs, IsRow .u8 W a0 len0 cap0 zs := by
    obtain ⟨fuel, hf⟩ := h0
    rcases open_ints Try.underlying22 Try.underlying5 (by kernel_rfl) hf with ⟨hcs, _⟩ | ⟨x, l, c, zs, hcs, _, hl, hm, hz, _, hcell, hwz⟩
    · simp [Value.cells] at hcs
      obtain ⟨rfl, rfl, rfl⟩ := hcs
      exact ⟨[], .inl ⟨rfl, rfl, rfl, rfl⟩⟩
    · simp [Value.cells] at hcs
      obtain ⟨rfl, rfl, rfl⟩ := hcs
      exact ⟨zs, .inr ⟨_, rfl, hl, hm, by simpa using hz, hcell, hwz⟩⟩
  obtain ⟨a1, len1, cap1, rfl⟩ := okWide_slice Try.underlying22 (hval 1 22 v1 rfl rfl)
  have k1 := h1
  have lt1 : ∀ x ∈ p1, x.block < W.heap.size := by obtain ⟨m, hm⟩ := k1; exact DataW.trod_lt m _ _ _ hm
  obtain ⟨z1, w1⟩ : ∃ zs, IsRow .u8 W a1 len1 cap1 zs := by
    obtain ⟨fuel, hf⟩ := h1
    rcases open_ints Try.underlying22 Try.underlying5 (by kernel_rfl) hf with ⟨hcs, _⟩ | ⟨x, l, c, zs, hcs, _, hl, hm, hz, _, hcell, hwz⟩
    · simp [Value.cells] at hcs
      obtain ⟨rfl, rfl, rfl⟩ := hcs
      exact ⟨[], .inl ⟨rfl, rfl, rfl, rfl⟩⟩
    · simp [Value.cells] at hcs
      obtain ⟨rfl, rfl, rfl⟩ := hcs
      exact ⟨zs, .inr ⟨_, rfl, hl, hm, by simpa using hz, hcell, hwz⟩⟩
  clear hA0 hval0
  refine (checkTop_walk a0 len0 cap0 z0 a1 len1 cap1 z1 W w0 w1).mono fun e W' ⟨he, bel⟩ => ?_
  subst he
  exact ⟨_, rfl, _, _, _, [], _, [], hW', trodAll_mk1 (shut_bool Try.underlying4 _), (trodAll_cons_mk (Below.trod laidOut_fnCheck (by kernel_rfl) (of_decide_eq_true (by kernel_rfl)) k0 bel lt0) (trodAll_cons_mk (Below.trod laidOut_fnCheck (by kernel_rfl) (of_decide_eq_true (by kernel_rfl)) k1 bel lt1) trodAll_mk0)), rfl, bel.frame _, fun h => by cases h⟩

theorem checkTop_holds : Rows.FnCheckSaid :=
  OpenClaim.holds_of_wide 4 Try.f4 rfl rfl rfl rfl rfl rfl rfl ⟨rfl, rfl, rfl, rfl, rfl⟩ rfl rfl rfl rfl rfl (by kernel_rfl) Try.func4 (by kernel_rfl)
    (of_decide_eq_true (by kernel_rfl)) (by unfold Func.isWrapper; first | (rw [if_pos (by decide +kernel)]; kernel_rfl) | (rw [if_neg (by decide +kernel)]; exact ⟨rfl, rfl⟩))
    (fun os started H enc _ => lifted_fnCheck os started H enc)
#print axioms checkTop_holds
end Go.Proofs.Ytafdcicdaeaehaa
