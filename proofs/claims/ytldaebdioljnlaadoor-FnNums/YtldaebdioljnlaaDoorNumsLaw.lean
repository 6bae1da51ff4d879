/- Proved here: the card of laws.FnNums: it returns true at every argument, and each argument reads afterwards as before, where the package variable errors.errorType starts as the program's text lays it, which the given tie pays (the pruned copy of the project alone is looked at). -/
import Derived.Test.YtldaebdioljnlaaDoorCards
import Derived.Test.YtldaebdioljnlaaDoorTie
import Derived.Test.YtldaebdioljnlaaDoorNumMath2
import Derived.Test.YtldaebdioljnlaaDoorNumDraws
import Derived.Test.YtldaebdioljnlaaDoorBytesArg
import Derived.WalkKit
import Derived.WalkSpells
import Derived.ProofKit
import Derived.OpenShut
import Derived.ShutString
import Derived.Handy
import Derived.Below
import Derived.ChangeOld
import Derived.ChangeSame
import Derived.ChangeVars
import Derived.JoinedOf
import Derived.RowKit
import Derived.RowKitTokens
import Derived.LaidLaws
import Derived.LaidHandle
import Derived.Stop.Joined
import Derived.SevenTiedAt
namespace Go.Proofs.YtldaebdioljnlaaDoor
open Go.ChangeShapes Go.WideShapes Go.ChangeAt Go.RowKit
open Go.ChangeMaps (open_string shut_string)
set_option linter.unusedVariables false

theorem hidF {q : Prop} (h : q) : Hid q := h

/-- GetText of a text's bytes behind a byte -/
theorem getText_mid {u p : ByteArray} (hu : u.size ≤ 19) (hE : p = (⟨(numBytes 10 (zig u.size)).toArray⟩ ++ u : ByteArray)) (hq : (⟨#[120]⟩ ++ p : ByteArray).size ≤ 8000) (W : World) (hW : W.cell? ⟨0, 0, none⟩ = some (.iface 70 (.agg #[.pointer (some ⟨1, 41, none⟩)]))) :
    Calls Tryd.prog 11 #[.string (⟨#[120]⟩ ++ p), .int .i64 1] W fun e w' => e = .returned (.agg #[.string u, .int .i64 ((p.size : Int) + 1), .int .i64 0]) ∧ Below W.heap.size W w' := by
  obtain ⟨a, k1, k2, k3, k4⟩ := text_mid hu hE
  have hI : Hid (∀ W : World, W.cell? ⟨0, 0, none⟩ = some (.iface 70 (.agg #[.pointer (some ⟨1, 41, none⟩)])) → Calls Tryd.prog 7 #[.string (⟨#[120]⟩ ++ p), .int .i64 1] W fun e w' => e = .returned (.agg #[.int .i64 (u.size : Int), .int .i64 a, .int .i64 0]) ∧ Below W.heap.size W w') := by
    intro W hW
    have := implGetNum_any (⟨#[120]⟩ ++ p) 1 W (by unfold maxLen; omega) hW
    rw [k1] at this
    exact this
  have hat : (0 : Int) = 0 → 0 ≤ a ∧ a ≤ ((⟨#[120]⟩ ++ p : ByteArray).size : Int) ∧ (⟨#[120]⟩ ++ p : ByteArray).size ≤ 8000 := by
    have := rdAll_at (⟨#[120]⟩ ++ p) 1
    rw [k1] at this
    exact this
  generalize (⟨#[120]⟩ ++ p : ByteArray) = s at *
  generalize (u.size : Int) = n at *
  have := implGetText_in s 1 n a 0 W hI hat hW
  rw [k2, k3, k4] at this
  exact this
/-- .. and of the bytes without the last one -/
theorem getText_short {u p : ByteArray} (hu : u.size ≤ 19) (hE : p = (⟨(numBytes 10 (zig u.size)).toArray⟩ ++ u : ByteArray)) (hq : (p.extract 0 (p.size - 1)).size ≤ 8000) :
    ∃ (t2 : ByteArray) (a2 : Int), Hid (∀ W : World, W.cell? ⟨0, 0, none⟩ = some (.iface 70 (.agg #[.pointer (some ⟨1, 41, none⟩)])) → Calls Tryd.prog 11 #[.string (p.extract 0 (p.size - 1)), .int .i64 0] W fun e w' => e = .returned (.agg #[.string t2, .int .i64 a2, .int .i64 4]) ∧ Below W.heap.size W w') := by
  have k5 := text_short hu hE
  have hI : Hid (∀ W : World, W.cell? ⟨0, 0, none⟩ = some (.iface 70 (.agg #[.pointer (some ⟨1, 41, none⟩)])) → Calls Tryd.prog 7 #[.string (p.extract 0 (p.size - 1)), .int .i64 0] W fun e w' => e = .returned (.agg #[.int .i64 (rdAll (p.extract 0 (p.size - 1)) 0).1, .int .i64 (rdAll (p.extract 0 (p.size - 1)) 0).2.1, .int .i64 (rdAll (p.extract 0 (p.size - 1)) 0).2.2]) ∧ Below W.heap.size W w') := by
    intro W hW
    exact implGetNum_any (p.extract 0 (p.size - 1)) 0 W (by unfold maxLen; omega) hW
  have hat := rdAll_at (p.extract 0 (p.size - 1)) 0
  generalize rdAll (p.extract 0 (p.size - 1)) 0 = r at *
  obtain ⟨n, a, c⟩ := r
  generalize p.extract 0 (p.size - 1) = s at *
  refine ⟨gtT s n a c, gtA s n a c, fun W hW => ?_⟩
  have k6 : gtC s n a c = 4 := k5
  have := implGetText_in s 0 n a c W hI hat hW
  rw [k6] at this
  exact this

set_option maxRecDepth 100000 in
set_option maxHeartbeats 4000000 in
theorem nums_in (a0 : Option Addr) (len0 cap0 : Nat) (a1 : Option Addr) (len1 cap1 : Nat) (w : World) (h0 : RowAt w.heap.size a0 len0 w) (h1 : RowAt w.heap.size a1 len1 w) (hl0 : len0 ≤ 1048576) (hl1 : len1 ≤ 1048576)
    (hg : w.cell? ⟨0, 0, none⟩ = some (.iface 70 (.agg #[.pointer (some ⟨1, 41, none⟩)]))) :
    Calls Tryd.prog 3 #[.slice a0 len0 cap0, .slice a1 len1 cap1] w fun e w' => e = .returned (.bool true) ∧ Below w.heap.size w w' := by
  have g0 : ¬ ((1048576 : Int) < (len0 : Int)) := by omega
  have g1 : ¬ ((1048576 : Int) < (len1 : Int)) := by omega
  have hlt : 0 < w.heap.size := by
    rcases Nat.eq_zero_or_pos w.heap.size with h0 | h
    · simp [World.cell?, h0] at hg
    · exact h
  have HG : Hid (∀ W : World, Below w.heap.size w W → W.cell? ⟨0, 0, none⟩ = some (.iface 70 (.agg #[.pointer (some ⟨1, 41, none⟩)]))) := fun W hW => (hW.cell (p := ⟨0, 0, none⟩) hlt).trans hg
  clear hg
  go_enter Tryd.func3, Tryd.ntmps3
  go_wp2_with fail
  refine (drawPutNum_any a0 len0 cap0 w h0 hl0).mono ?_
  rintro e w1 ⟨n, rfl, hn1, hn2, hb1⟩
  obtain ⟨t, ht⟩ : ∃ t : ByteArray, t = ⟨(numBytes 10 (zig n)).toArray⟩ := ⟨_, rfl⟩
  have hts : t.size = (numBytes 10 (zig n)).length := by rw [ht]; rfl
  have htl := num_len hn1 hn2
  have htp := numBytes_pos 10 (zig n)
  have hm1 := num_mid hn1 hn2 ht
  have hm2 := num_short hn1 hn2 ht
  have HP := hidF fun W => implPutNum_any n W hn1 hn2
  have HQ := hidF fun W => specPutNum_any n W hn1 hn2
  have HX := hidF fun W hW => implGetNum_any ((⟨#[120, 121]⟩ ++ t) ++ ⟨#[122]⟩) 2 W (by simp only [ByteArray.size_append]; show 2 + t.size + 1 ≤ 2 ^ 63 - 1; omega) hW
  have HY := hidF fun W hW => implGetNum_any (t.extract 0 (t.size - 1)) 0 W (by simp only [ByteArray.size_extract]; unfold maxLen; omega) hW
  rw [hm1] at HX
  rw [hm2] at HY
  rw [← ht] at HP HQ
  have hN1 : (1 : Int) ≤ (t.size : Int) := by omega
  have hN2 : (t.size : Int) ≤ 10 := by omega
  have HN := hidF (And.intro hn1 hn2)
  clear hm1 hm2 ht hts htl htp hn1 hn2
  go_wp2_with fail
  refine (HP.out _).mono ?_
  rintro e w2 ⟨rfl, hb2⟩
  go_wp2_with fail
  refine (HQ.out _).mono ?_
  rintro e w3 ⟨rfl, hb3⟩
  have hb4 : Below w.heap.size w w3 := (hb1.trans (hb2.mono hb1.size)).trans (hb3.mono (Nat.le_trans hb1.size hb2.size))
  have h1' := hidF (h1.later hb4)
  clear h0 h1 hb1 hb2 hb3 HP HQ
  go_wp2_with fail
  refine (HX.out _ (HG.out _ hb4)).mono ?_
  rintro e w4 ⟨rfl, hb5⟩
  have hb6 := hb4.trans (hb5.mono hb4.size)
  have h2' := hidF (RowAt.later h1'.out hb5)
  clear hb4 hb5 h1' HX
  go_wp2_with fail
  have hb7 : Below w.heap.size w (w4.alloc (.cells #[.int .i64 n, .int .i64 ((t.size : Int) + 2), .int .i64 0] 26)) := hb6.alloc hb6.size _
  have h3' := hidF (RowAt.later h2'.out ((Below.refl w4.heap.size w4).alloc (Nat.le_refl _) (.cells #[.int .i64 n, .int .i64 ((t.size : Int) + 2), .int .i64 0] 26)))
  refine (HY.out _ (HG.out _ hb7)).mono ?_
  rintro e w5 ⟨rfl, hb8⟩
  have hb9 := hb7.trans (hb8.mono hb7.size)
  have h4' := RowAt.later h3'.out hb8
  clear hb6 hb7 hb8 h2' h3' HY
  have hfd : ∀ W : World, (Instr.field 26 (.agg #[.int .i64 0, .int .i64 0, .int .i64 4]) 2).run Tryd.prog W = .ok (.int .i64 4) W := fun _ => by kernel_rfl
  go_wp2_with fail
  refine (drawPutText_any a1 len1 cap1 w5 h4' hl1).mono ?_
  rintro e w6 ⟨u, rfl, hu1, hu2, hb10⟩
  have hb11 := hb9.trans (hb10.mono hb9.size)
  clear hb9 hb10 h4' hfd
  have hum : u.size ≤ maxLen := by unfold maxLen; omega
  go_wp2_with fail
  refine (implPutText_any u _ hum).mono ?_
  rintro e w7 ⟨rfl, hb12⟩
  go_wp2_with fail
  refine (specPutText_any u _ hum).mono ?_
  rintro e w8 ⟨rfl, hb13⟩
  have hb14 := (hb11.trans (hb12.mono hb11.size)).trans (hb13.mono (Nat.le_trans hb11.size hb12.size))
  clear hb11 hb12 hb13
  by_cases hbig : 8000 < u.size
  · have hE : textBytes u = ⟨#[]⟩ := if_pos hbig
    have HS := hidF fun W => specPutText_any u W hum
    rw [hE] at HS ⊢
    clear hE
    go_wp2_with fail
    refine (HS.out _).mono ?_
    rintro e w9 ⟨rfl, hb15⟩
    have hB := hb14.trans (hb15.mono hb14.size)
    go_wp2
    go_ret
    exact ⟨rfl, hB⟩
  · have hu3 : u.size ≤ 19 := by omega
    have hE : textBytes u = (⟨(numBytes 10 (zig u.size)).toArray⟩ ++ u : ByteArray) := if_neg hbig
    generalize textBytes u = p at *
    have hl := num_len (n := (u.size : Int)) (by omega) (by omega)
    have hpp := numBytes_pos 10 (zig (u.size : Int))
    have hps : p.size = (numBytes 10 (zig u.size)).length + u.size := by rw [hE, ByteArray.size_append]; rfl
    have hq1 : (⟨#[120]⟩ ++ p : ByteArray).size ≤ 8000 := by rw [ByteArray.size_append]; show 1 + p.size ≤ 8000; omega
    have hq2 : (p.extract 0 (p.size - 1)).size ≤ 8000 := by simp only [ByteArray.size_extract]; omega
    have HX := hidF fun W hW => getText_mid hu3 hE hq1 W hW
    obtain ⟨t2, a2, HY⟩ := getText_short hu3 hE hq2
    have hP1 : (1 : Int) ≤ (p.size : Int) := by omega
    have hP2 : (p.size : Int) ≤ 40 := by omega
    have hne : p.toList.isEmpty = false := by
      rw [ByteArray.toList_eq]
      have : p.data.toList.length = p.size := by simp
      cases hq : p.data.toList with
      | nil => rw [hq] at this; simp at this; omega
      | cons x y => rfl
    clear hE hl hpp hps hq1 hq2 hu1 hu2
    go_wp2_with fail
    refine (HX.out _ (HG.out _ hb14)).mono ?_
    rintro e w9 ⟨rfl, hb15⟩
    have hb16 := hb14.trans (hb15.mono hb14.size)
    have hu4 : (u.toList == u.toList) = true := by simp
    clear hb14 hb15 HX
    go_wp2_with fail
    refine (HY.out _ (HG.out _ hb16)).mono ?_
    rintro e w10 ⟨rfl, hb17⟩
    have hB := hb16.trans (hb17.mono hb16.size)
    have hfd : ∀ W : World, (Instr.field 31 (.agg #[.string t2, .int .i64 a2, .int .i64 4]) 2).run Tryd.prog W = .ok (.int .i64 4) W := fun _ => by kernel_rfl
    clear hb16 hb17 HY
    go_wp2
    go_ret
    exact ⟨rfl, hB⟩

theorem nums_walk (a0 : Option Addr) (len0 cap0 : Nat) (z0 : List Int) (a1 : Option Addr) (len1 cap1 : Nat) (z1 : List Int) (w : World) (w0 : IsRow .u8 w a0 len0 cap0 z0) (w1 : IsRow .u8 w a1 len1 cap1 z1)
    (hg : w.cell? ⟨0, 0, none⟩ = some (.iface 70 (.agg #[.pointer (some ⟨1, 41, none⟩)]))) :
    Calls Tryd.prog 3 #[.slice a0 len0 cap0, .slice a1 len1 cap1] w fun e w' => e = .returned (.bool true) ∧ Below w.heap.size w w' := by
  by_cases h0 : len0 ≤ 1048576
  · by_cases h1 : len1 ≤ 1048576
    · exact nums_in a0 len0 cap0 a1 len1 cap1 w (rowAt_of w0) (rowAt_of w1) h0 h1 hg
    · have g0 : ¬ ((1048576 : Int) < (len0 : Int)) := by omega
      have g1 : (1048576 : Int) < (len1 : Int) := by omega
      clear w0 w1 h0 h1 hg
      go_enter Tryd.func3, Tryd.ntmps3
      go_wp2
      go_ret
      exact ⟨rfl, Below.refl _ _⟩
  · have g0 : (1048576 : Int) < (len0 : Int) := by omega
    clear w0 w1 h0 hg
    go_enter Tryd.func3, Tryd.ntmps3
    go_wp2
    go_ret
    exact ⟨rfl, Below.refl _ _⟩

theorem laidOut_fnNums : laidOutB Tryd.prog = true := by kernel_rfl
theorem own_fnNums : ownKnob Tryd.prog.godebug = none := by kernel_rfl
theorem et_fnNums : Tryd.prog.globalNamed "errors.errorType" = some 0 := by kernel_rfl
theorem rt_fnNums : (Tryd.prog.cutTypes.find? (·.1 == "internal/reflectlite.rtype")).map (·.2) = some 70 := by kernel_rfl
theorem oneRow_fnNums : ((List.range 113).filter fun t => Tryd.prog.rowNamed t [101, 114, 114, 111, 114]) = [41] := by kernel_rfl
theorem size_fnNums : Tryd.prog.types.size = 113 := by kernel_rfl

/-- what the row's list gives the walk: the variable's one cell -/
theorem handle_fnNums {W : World} (h : laidMetH Tryd.prog Rows.fnNumsRow.laid W) : W.cell? ⟨0, 0, none⟩ = some (.iface 70 (.agg #[.pointer (some ⟨1, 41, none⟩)])) := by
  have h' : laidMet Tryd.prog [] W ∧ handlesMet Tryd.prog Rows.fnNumsRow.laid W := h
  obtain ⟨name, u, ty, e1, e2, e3, e4, e5⟩ := h'.2 _ (List.mem_singleton.2 rfl)
  have en : name = [101, 114, 114, 111, 114] := (Option.some.inj e1).symm
  subst en
  obtain rfl := Option.some.inj (rt_fnNums.symm.trans e2)
  have hm : ty ∈ (List.range 113).filter fun t => Tryd.prog.rowNamed t [101, 114, 114, 111, 114] := List.mem_filter.2 ⟨List.mem_range.2 (by rw [← size_fnNums]; exact e3), e4⟩
  rw [oneRow_fnNums] at hm
  obtain rfl := List.mem_singleton.1 hm
  have hh : typeHandle Tryd.prog 41 = .pointer (some ⟨1, 41, none⟩) := by kernel_rfl
  rw [hh] at e5
  simpa using World.var?_cell et_fnNums e5 0

set_option maxRecDepth 100000 in
theorem lifted_fnNums (os : Os) (started : os.Started) (H : Type) (enc : TypeId × Value → H) :
    ReturnsInHanded {} Tryd.checked os 3 .any (fun w args => (Rows.fnNumsSpec.pre enc Tryd.prog Tryd.f3 [] false w args ∧ laidMetH Tryd.prog Rows.fnNumsRow.laid w) ∧ sizedMet enc Tryd.prog Tryd.f3 (OpenSpec.ofChange Rows.fnNumsSpec) false w args)
      (Rows.fnNumsSpec.post enc Tryd.prog Tryd.f3 false true false false) := by
  refine returnsInHanded_of_change_and (C := Tryd.checked) (X := fun w _ => laidMetH Tryd.prog Rows.fnNumsRow.laid w) (fun _ _ _ hh h => h.of_heap hh) own_fnNums started (by kernel_rfl) Tryd.func3
    (ChangeSpec.witness_at (enc := enc) (C := Tryd.checked) (os := os) (X := fun w _ => laidMetH Tryd.prog Rows.fnNumsRow.laid w) false ({ World.holding Tryd.prog os ⟨#[], #[], []⟩ with heap := (World.holding Tryd.prog os ⟨#[], #[], []⟩).heap.modify 0 fun
      | .cells _ t frozen => .cells #[.iface 70 (.agg #[.pointer (some ⟨1, 41, none⟩)])] t frozen
      | o => o }) #[.slice none 0 0, .slice none 0 0] 8 rfl (by kernel_rfl) (by kernel_rfl) (by kernel_rfl) (by kernel_rfl) (by kernel_rfl) (laidMetH_of_parts (laidMet_nil _ _) (by kernel_rfl))) ?_
  intro W base args ds gs before hval0 hW _ _ hL _
  have hval : ∀ (j : Nat) t v, Tryd.f3.params[j]? = some t → args[j]? = some v → Value.okWide Tryd.prog W .any base t v := hval0
  have hW' := hW
  obtain ⟨p, q, hA0, hV0, rfl, hfz, hnd⟩ := hW
  have hA : DataW.TrodAll enc Tryd.prog W 0 (fun _ => true) true Tryd.f3.params.toList args.toList ds p := hA0
  have hV : DataW.TrodVars enc Tryd.prog W (fun _ => true) [] gs q := hV0
  rw [Tryd.params3] at hA hval
  obtain ⟨v0, vs0, d0, ds0, p0, q0, hargs, rfl, rfl, h0, r0⟩ := trodAll_cons hA
  obtain ⟨v1, vs1, d1, ds1, p1, q1, rfl, rfl, rfl, h1, r1⟩ := trodAll_cons r0
  obtain ⟨rfl, rfl, rfl⟩ := trodAll_nil r1
  obtain rfl : args = #[v0, v1] := by cases args; simp_all
  obtain ⟨rfl, rfl⟩ : gs = [] ∧ q = [] := by
    cases gs with
    | nil => exact ⟨rfl, hV⟩
    | cons g r => exact absurd hV (by intro h; cases h)
  have hg := handle_fnNums hL
  obtain ⟨a0, len0, cap0, rfl⟩ := okWide_slice Tryd.underlying22 (hval 0 22 v0 rfl rfl)
  have k0 := h0
  have lt0 : ∀ x ∈ p0, x.block < W.heap.size := by obtain ⟨m, hm⟩ := k0; exact DataW.trod_lt m _ _ _ hm
  obtain ⟨z0, w0⟩ : ∃ zs, IsRow .u8 W a0 len0 cap0 zs := by
    obtain ⟨fuel, hf⟩ := h0
    rcases open_ints Tryd.underlying22 Tryd.underlying5 (by kernel_rfl) hf with ⟨hcs, _⟩ | ⟨x, l, c, zs, hcs, _, hl, hm, hz, _, hcell, hwz⟩
    · simp [Value.cells] at hcs
      obtain ⟨rfl, rfl, rfl⟩ := hcs
      exact ⟨[], .inl ⟨rfl, rfl, rfl, rfl⟩⟩
    · simp [Value.cells] at hcs
      obtain ⟨rfl, rfl, rfl⟩ := hcs
      exact ⟨zs, .inr ⟨_, rfl, hl, hm, by simpa using hz, hcell, hwz⟩⟩
  obtain ⟨a1, len1, cap1, rfl⟩ := okWide_slice Tryd.underlying22 (hval 1 22 v1 rfl rfl)
  have k1 := h1
  have lt1 : ∀ x ∈ p1, x.block < W.heap.size := by obtain ⟨m, hm⟩ := k1; exact DataW.trod_lt m _ _ _ hm
  obtain ⟨z1, w1⟩ : ∃ zs, IsRow .u8 W a1 len1 cap1 zs := by
    obtain ⟨fuel, hf⟩ := h1
    rcases open_ints Tryd.underlying22 Tryd.underlying5 (by kernel_rfl) hf with ⟨hcs, _⟩ | ⟨x, l, c, zs, hcs, _, hl, hm, hz, _, hcell, hwz⟩
    · simp [Value.cells] at hcs
      obtain ⟨rfl, rfl, rfl⟩ := hcs
      exact ⟨[], .inl ⟨rfl, rfl, rfl, rfl⟩⟩
    · simp [Value.cells] at hcs
      obtain ⟨rfl, rfl, rfl⟩ := hcs
      exact ⟨zs, .inr ⟨_, rfl, hl, hm, by simpa using hz, hcell, hwz⟩⟩
  clear hA0 hval0
  refine (nums_walk a0 len0 cap0 z0 a1 len1 cap1 z1 W w0 w1 hg).mono fun e W' ⟨he, bel⟩ => ?_
  subst he
  exact ⟨_, rfl, _, _, _, [], _, [], hW', trodAll_mk1 (shut_bool Tryd.underlying4 _), (trodAll_cons_mk (Below.trod laidOut_fnNums (by kernel_rfl) (of_decide_eq_true (by kernel_rfl)) k0 bel lt0) (trodAll_cons_mk (Below.trod laidOut_fnNums (by kernel_rfl) (of_decide_eq_true (by kernel_rfl)) k1 bel lt1) trodAll_mk0)), rfl, bel.frame _, fun h => by cases h⟩

theorem said_fnNums : Rows.FnNumsSaid :=
  OpenClaim.holds_of_wide 3 Tryd.f3 rfl rfl rfl rfl rfl rfl rfl ⟨rfl, rfl, rfl, rfl, rfl⟩ rfl rfl rfl rfl rfl (by kernel_rfl) Tryd.func3 (by kernel_rfl)
    (of_decide_eq_true (by kernel_rfl)) (by unfold Func.isWrapper; first | (rw [if_pos (by decide +kernel)]; kernel_rfl) | (rw [if_neg (by decide +kernel)]; exact ⟨rfl, rfl⟩))
    (fun os started H enc _ => lifted_fnNums os started H enc)

theorem plain_fnNums (f : FuncId) (fn : Func) (hf : Tryd.pinned.checked.prog.funcNamed "loop.example/g00542/laws.FnNums" = some f) (hfn : Tryd.pinned.checked.prog.funcs[f]? = some fn) :
    true = Tryd.pinned.checked.prog.looks [] ∧ ∀ (j : Nat) t, fn.params[j]? = some t → Tryd.pinned.checked.prog.wantsStandIn t = false := by
  obtain rfl : f = 3 := Option.some.inj ((show Tryd.prog.funcNamed "loop.example/g00542/laws.FnNums" = some 3 by kernel_rfl).symm.trans hf) |>.symm
  obtain rfl : fn = Tryd.f3 := (Option.some.inj (Tryd.func3.symm.trans hfn)).symm
  refine ⟨by kernel_rfl, fun j t ht => ?_⟩
  rw [Tryd.params3] at ht
  obtain rfl : t = 22 := by simpa using Array.mem_of_getElem? ht
  exact (show Tryd.prog.wantsStandIn 22 = false by kernel_rfl)

theorem nums_holds : Rows.FnNumsCardSaid :=
  Claim7.holds_tied_plain_at .later [] _ _ _ _ said_fnNums (fun _ h => by cases h) (by kernel_rfl) (fun _ h => by cases h) fnNums_row_tie rfl ⟨rfl, rfl⟩ (by kernel_rfl) rfl plain_fnNums (by kernel_rfl)
#print axioms nums_holds
end Go.Proofs.YtldaebdioljnlaaDoor
