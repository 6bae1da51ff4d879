/- Proved here: laws.FnExactNameRight returns true at every string, and its argument reads afterwards as before (no conditions). Below it: contracts of spec.NameRight and impl.NameRight: each answers whether the text is a name. -/
import Derived.Test.YtldaebdioljnladRows
import Derived.WalkKit
import Derived.WalkSpells
import Derived.ProofKit
import Derived.OpenShut
import Derived.ShutString
import Derived.Handy
import Derived.Below
namespace Go.Proofs.Ytldaebdioljnlad
open Go.ChangeShapes Go.WideShapes Go.ChangeAt Go.RowKit
open Go.ChangeMaps (open_string shut_string)
set_option linter.unusedVariables false

/-- a small letter -/
def letB (c : Int) : Bool := decide (97 ≤ c) && decide (c ≤ 122)
/-- a digit -/
def digB (c : Int) : Bool := decide (48 ≤ c) && decide (c ≤ 57)
/-- the byte c may stand at place i of a name -/
def nameAt (i : Nat) (c : Int) : Prop := (97 ≤ c ∧ c ≤ 122) ∨ (i ≠ 0 ∧ ((48 ≤ c ∧ c ≤ 57) ∨ c = 95))
/-- the text is a name -/
def IsName (s : ByteArray) : Prop := 1 ≤ s.size ∧ s.size ≤ 20 ∧ ∀ i, (h : i < s.size) → nameAt i (s[i].toNat : Int)

theorem isLetter_any (c : Int) (w : World) : Calls Try.prog 18 #[.int .u8 c] w fun e w' => e = .returned (.bool (letB c)) ∧ w' = w := by
  by_cases h1 : 97 ≤ c
  · by_cases h2 : c ≤ 122
    · go_enter Try.func18, Try.ntmps18
      go_wp2
      go_ret
      exact ⟨by simp [letB, h1, h2], rfl⟩
    · go_enter Try.func18, Try.ntmps18
      go_wp2
      go_ret
      exact ⟨by simp [letB, h1, h2], rfl⟩
  · go_enter Try.func18, Try.ntmps18
    go_wp2
    go_ret
    exact ⟨by simp [letB]; omega, rfl⟩

theorem isDigit_any (c : Int) (w : World) : Calls Try.prog 19 #[.int .u8 c] w fun e w' => e = .returned (.bool (digB c)) ∧ w' = w := by
  by_cases h1 : 48 ≤ c
  · by_cases h2 : c ≤ 57
    · go_enter Try.func19, Try.ntmps19
      go_wp2
      go_ret
      exact ⟨by simp [digB, h1, h2], rfl⟩
    · go_enter Try.func19, Try.ntmps19
      go_wp2
      go_ret
      exact ⟨by simp [digB, h1, h2], rfl⟩
  · go_enter Try.func19, Try.ntmps19
    go_wp2
    go_ret
    exact ⟨by simp [digB]; omega, rfl⟩

/-- what NameRight is to answer -/
def NamePost (s : ByteArray) (e : Ending) : Prop := ∃ b, e = .returned (.bool b) ∧ (b = true ↔ IsName s)

theorem namePost_no {s : ByteArray} {b : Bool} (hb : b = false) (h : ¬ IsName s) : NamePost s (.returned (.bool b)) := ⟨b, rfl, by subst hb; simpa using h⟩
theorem namePost_yes {s : ByteArray} {b : Bool} (hb : b = true) (h : IsName s) : NamePost s (.returned (.bool b)) := ⟨b, rfl, by subst hb; simpa using h⟩

theorem not_name {s : ByteArray} {k : Nat} (hk : k < s.size) (h : ¬ nameAt k (s[k].toNat : Int)) : ¬ IsName s := fun g => h (g.2.2 k hk)
theorem ext_all {s : ByteArray} {k : Nat} (hk : k < s.size) (h : ∀ j, (hj : j < s.size) → j < k → nameAt j (s[j].toNat : Int)) (hn : nameAt k (s[k].toNat : Int)) :
    Hid (∀ j, (hj : j < s.size) → j < k + 1 → nameAt j (s[j].toNat : Int)) := by
  intro j hj hlt
  by_cases e : j = k
  · subst e; exact hn
  · exact h j hj (by omega)

set_option maxHeartbeats 400000 in
theorem specName_any (s : ByteArray) (w : World) (hs : s.size ≤ maxLen) :
    Calls Try.prog 9 #[.string s] w fun e w' => NamePost s e ∧ w' = w := by
  unfold maxLen at hs
  by_cases h1 : s.size < 1
  · go_enter Try.func9, Try.ntmps9
    go_wp2
    go_ret
    exact ⟨namePost_no rfl (by unfold IsName; omega), rfl⟩
  by_cases h2 : 20 < s.size
  · go_enter Try.func9, Try.ntmps9
    go_wp2
    go_ret
    exact ⟨namePost_no rfl (by unfold IsName; omega), rfl⟩
  have d1 : decide ((s.size : Int) < 1) = false := by simp; omega
  have d2 : decide (20 < (s.size : Int)) = false := by simp; omega
  go_enter Try.func9, Try.ntmps9
  go_wp2
  go_loop [3] (fun i => ∃ k : Nat, k ≤ s.size ∧ i = .int .i64 k ∧ Hid (∀ j, (h : j < s.size) → j < k → nameAt j (s[j].toNat : Int))) (fun i => s.size - (intOf i).toNat)
  case atStart => exact ⟨0, Nat.zero_le _, rfl, fun j _ h => absurd h (by omega)⟩
  case round =>
    obtain ⟨k, hk, rfl, hall⟩ := hrel
    by_cases hlt : k < s.size
    · by_cases hL : 97 ≤ (s[k].toNat : Int) ∧ (s[k].toNat : Int) ≤ 122
      · obtain ⟨l1, l2⟩ := hL
        have hn := ext_all hlt hall.out (Or.inl ⟨l1, l2⟩)
        go_wp2
        go_round
        case rel => exact ⟨k + 1, by omega, by go_num, hn⟩
        case measure => simp [intOf]; omega
      · by_cases hz : k = 0
        · subst hz
          have hno : ¬ IsName s := not_name hlt (by unfold nameAt; omega)
          rcases (by omega : (s[0].toNat : Int) < 97 ∨ (122 : Int) < (s[0].toNat : Int)) with l1 | l1
          · clear hL hall
            go_wp2
            go_ret
            exact ⟨namePost_no rfl hno, rfl⟩
          · have b1 : decide ((s[0].toNat : Int) ≤ 122) = false := by simp; omega
            clear hL hall
            go_wp2
            go_ret
            exact ⟨namePost_no rfl hno, rfl⟩
        · have hz' : ((k : Int) == 0) = false := by simp; omega
          by_cases hD : 48 ≤ (s[k].toNat : Int) ∧ (s[k].toNat : Int) ≤ 57
          · obtain ⟨d1, d2⟩ := hD
            have hn := ext_all hlt hall.out (Or.inr ⟨hz, Or.inl ⟨d1, d2⟩⟩)
            have l1 : (s[k].toNat : Int) < 97 := by omega
            · clear hL hall
              go_wp2
              go_round
              case rel => exact ⟨k + 1, by omega, by go_num, hn⟩
              case measure => simp [intOf]; omega
          · by_cases h5 : (s[k].toNat : Int) = 95
            · have h5' : ((s[k].toNat : Int) != 95) = false := by simp; omega
              have hn := ext_all hlt hall.out (Or.inr ⟨hz, Or.inr h5⟩)
              have l1 : (s[k].toNat : Int) < 97 := by omega
              have l2 : 57 < (s[k].toNat : Int) := by omega
              clear hL hall hD h5
              go_wp2
              go_round
              case rel => exact ⟨k + 1, by omega, by go_num, hn⟩
              case measure => simp [intOf]; omega
            · have h5' : ((s[k].toNat : Int) != 95) = true := by simp; omega
              have hno : ¬ IsName s := not_name hlt (by unfold nameAt; omega)
              rcases (by omega : (s[k].toNat : Int) < 97 ∨ (122 : Int) < (s[k].toNat : Int)) with l1 | l1
              all_goals
                rcases (by omega : (s[k].toNat : Int) < 48 ∨ (57 : Int) < (s[k].toNat : Int)) with l2 | l2
                all_goals
                  by_cases b1 : decide ((s[k].toNat : Int) ≤ 122) = true
                  all_goals
                    by_cases b2 : decide ((s[k].toNat : Int) ≤ 57) = true
                    all_goals
                      first
                      | (exfalso; simp at b1 b2; omega)
                      | (clear hL hall hD h5
                         try simp only [Bool.not_eq_true] at b1
                         try simp only [Bool.not_eq_true] at b2
                         go_wp2
                         go_ret
                         exact ⟨namePost_no rfl hno, rfl⟩)
    · go_wp2
      go_ret
      exact ⟨namePost_yes rfl ⟨by omega, by omega, fun j h => hall.out j h (by omega)⟩, rfl⟩

set_option maxHeartbeats 800000 in
theorem implName_any (s : ByteArray) (w : World) (hs : s.size ≤ maxLen) :
    Calls Try.prog 10 #[.string s] w fun e w' => NamePost s e ∧ w' = w := by
  unfold maxLen at hs
  by_cases h1 : s.size < 1
  · go_enter Try.func10, Try.ntmps10
    go_wp2
    go_ret
    exact ⟨namePost_no rfl (by unfold IsName; omega), rfl⟩
  by_cases h2 : 20 < s.size
  · go_enter Try.func10, Try.ntmps10
    go_wp2
    go_ret
    exact ⟨namePost_no rfl (by unfold IsName; omega), rfl⟩
  have d1 : decide ((s.size : Int) < 1) = false := by simp; omega
  have d2 : decide (20 < (s.size : Int)) = false := by simp; omega
  have h0 : 0 < s.size := by omega
  by_cases hL : letB (s[0].toNat : Int) = true
  · go_enter Try.func10, Try.ntmps10
    go_wp2_with (go_at_call 18; refine (isLetter_any _ _).mono ?_; rintro e w' ⟨rfl, rfl⟩)
    go_loop [21] (fun i => ∃ k : Nat, k ≤ s.size ∧ i = .int .i64 k ∧ Hid (∀ j, (h : j < s.size) → j < k → nameAt j (s[j].toNat : Int))) (fun i => s.size - (intOf i).toNat)
    case atStart => exact ⟨0, Nat.zero_le _, rfl, fun j _ h => absurd h (by omega)⟩
    case round =>
      obtain ⟨k, hk, rfl, hall⟩ := hrel
      by_cases hlt : k < s.size
      · have hz : k = 0 → letB (s[k].toNat : Int) = true := by rintro rfl; exact hL
        have HZ : Hid (k = 0 → letB (s[k].toNat : Int) = true) := hz
        clear hz
        cases hl : letB (s[k].toNat : Int)
        · have hl' : ¬ (97 ≤ (s[k].toNat : Int) ∧ (s[k].toNat : Int) ≤ 122) := fun g => by simp [letB, g.1, g.2] at hl
          have hne : k ≠ 0 := fun g => by have := HZ.out g; rw [hl] at this; cases this
          cases hd : digB (s[k].toNat : Int)
          · have hd' : ¬ (48 ≤ (s[k].toNat : Int) ∧ (s[k].toNat : Int) ≤ 57) := fun g => by simp [digB, g.1, g.2] at hd
            cases h5 : ((s[k].toNat : Int) != 95)
            · have hn := ext_all hlt hall.out (Or.inr ⟨hne, Or.inr (by simpa using h5)⟩)
              clear hall hl' hd' hne
              go_wp2_with (first | (go_at_call 18; refine (isLetter_any _ _).mono ?_; rintro e w' ⟨rfl, rfl⟩) | (go_at_call 19; refine (isDigit_any _ _).mono ?_; rintro e w' ⟨rfl, rfl⟩))
              go_round
              case rel => exact ⟨k + 1, by omega, by go_num, hn⟩
              case measure => simp [intOf]; omega
            · have hno : ¬ IsName s := not_name hlt (by unfold nameAt; simp at h5; omega)
              clear hall hl' hd' hne
              go_wp2_with (first | (go_at_call 18; refine (isLetter_any _ _).mono ?_; rintro e w' ⟨rfl, rfl⟩) | (go_at_call 19; refine (isDigit_any _ _).mono ?_; rintro e w' ⟨rfl, rfl⟩))
              go_ret
              exact ⟨namePost_no rfl hno, rfl⟩
          · have hn := ext_all hlt hall.out (Or.inr ⟨hne, Or.inl (by simpa [digB] using hd)⟩)
            clear hall hl' hne
            go_wp2_with (first | (go_at_call 18; refine (isLetter_any _ _).mono ?_; rintro e w' ⟨rfl, rfl⟩) | (go_at_call 19; refine (isDigit_any _ _).mono ?_; rintro e w' ⟨rfl, rfl⟩))
            go_round
            case rel => exact ⟨k + 1, by omega, by go_num, hn⟩
            case measure => simp [intOf]; omega
        · have hn := ext_all hlt hall.out (Or.inl (by simpa [letB] using hl))
          clear hall
          go_wp2_with (first | (go_at_call 18; refine (isLetter_any _ _).mono ?_; rintro e w' ⟨rfl, rfl⟩) | (go_at_call 19; refine (isDigit_any _ _).mono ?_; rintro e w' ⟨rfl, rfl⟩))
          go_round
          case rel => exact ⟨k + 1, by omega, by go_num, hn⟩
          case measure => simp [intOf]; omega
      · go_wp2
        go_ret
        exact ⟨namePost_yes rfl ⟨by omega, by omega, fun j h => hall.out j h (by omega)⟩, rfl⟩
  · have hno : ¬ IsName s := not_name h0 (by intro g; apply hL; unfold nameAt at g; simp [letB]; omega)
    simp only [Bool.not_eq_true] at hL
    go_enter Try.func10, Try.ntmps10
    go_wp2_with (go_at_call 18; refine (isLetter_any _ _).mono ?_; rintro e w' ⟨rfl, rfl⟩)
    go_ret
    exact ⟨namePost_no rfl hno, rfl⟩

theorem namePost_eq {s : ByteArray} {e1 e2 : Ending} (h1 : NamePost s e1) (h2 : NamePost s e2) : ∃ b, e1 = .returned (.bool b) ∧ e2 = .returned (.bool b) := by
  obtain ⟨b1, r1, q1⟩ := h1
  obtain ⟨b2, r2, q2⟩ := h2
  have : b1 = b2 := by cases b1 <;> cases b2 <;> simp_all
  subst this
  exact ⟨b1, r1, r2⟩

theorem nameLaw_walk (a0 : ByteArray) (w0 : a0.size ≤ maxLen) (w : World) :
    Calls Try.prog 4 #[.string a0] w fun e w' => e = .returned (.bool true) ∧ Below w.heap.size w w' := by
  have hm : a0.size ≤ 2 ^ 63 - 1 := w0
  by_cases hb : a0.size ≤ 1048576
  · have hb' : decide ((1048576 : Int) < (a0.size : Int)) = false := by simp; omega
    go_enter Try.func4, Try.ntmps4
    go_wp2_with fail
    refine (specName_any _ _ w0).mono ?_
    rintro e w1 ⟨h1, rfl⟩
    obtain ⟨b1, rfl, q1⟩ := h1
    have Q1 : Hid (b1 = true ↔ IsName a0) := q1
    clear q1
    go_wp2_with fail
    refine (implName_any _ _ w0).mono ?_
    rintro e w2 ⟨h2, rfl⟩
    obtain ⟨b2, rfl, q2⟩ := h2
    obtain rfl : b2 = b1 := by have := Q1.out; cases b1 <;> cases b2 <;> simp_all
    go_wp2
    go_ret
    exact ⟨rfl, Below.refl _ _⟩
  · go_enter Try.func4, Try.ntmps4
    go_wp2
    go_ret
    exact ⟨rfl, Below.refl _ _⟩

theorem own_fnExactNameRight : ownKnob Try.prog.godebug = none := by kernel_rfl
set_option maxRecDepth 100000 in
theorem lifted_fnExactNameRight (os : Os) (started : os.Started) (H : Type) (enc : TypeId × Value → H) :
    ReturnsInHanded {} Try.checked os 4 .any (Rows.fnExactNameRightSpec.pre6 enc Try.prog Try.f4 Rows.fnExactNameRightRow.domain false) (Rows.fnExactNameRightSpec.post enc Try.prog Try.f4 false true false false) := by
  refine returnsInHanded_of_change (C := Try.checked) own_fnExactNameRight started (by kernel_rfl) Try.func4
    (ChangeSpec.witness6 (enc := enc) (C := Try.checked) false ⟨#[], #[.string ByteArray.empty], []⟩ 8 (by kernel_rfl) (by kernel_rfl) (by kernel_rfl) (by kernel_rfl)) ?_
  intro W base args ds gs before hval0 hW hcnd _
  have hval : ∀ (j : Nat) t v, Try.f4.params[j]? = some t → args[j]? = some v → Value.okWide Try.prog W .any base t v := hval0
  have hW' := hW
  obtain ⟨p, q, hA0, hV, rfl, hfz, hnd⟩ := hW
  have hA : DataW.TrodAll enc Try.prog W 0 (fun _ => true) true Try.f4.params.toList args.toList ds p := hA0
  rw [Try.params4] at hA hval
  obtain ⟨v0, vs0, d0, ds0, p0, q0, hargs, rfl, rfl, h0, r0⟩ := trodAll_cons hA
  obtain ⟨rfl, rfl, rfl⟩ := trodAll_nil r0
  obtain rfl : args = #[v0] := by cases args; simp_all
  obtain ⟨rfl, rfl⟩ := trodVars_none hV
  obtain ⟨a0, rfl, rfl, rfl, w0⟩ := open_string Try.underlying9 (hval 0 9 v0 rfl rfl) h0
  clear hA0 hval0
  simp only [List.append_nil] at hW'
  refine (nameLaw_walk a0 w0 W).mono fun e W' ⟨he, bel⟩ => ?_
  subst he
  exact ⟨_, rfl, _, _, _, [], [], [], hW', trodAll_mk1 (shut_bool Try.underlying4 _), (trodAll_cons_mk (shut_string Try.underlying9 w0) trodAll_mk0), rfl, bel.frame _, fun h => by cases h⟩

theorem nameRight_holds : Rows.FnExactNameRightSaid :=
  OpenClaim.holds_of_wide 4 Try.f4 rfl rfl rfl rfl rfl rfl rfl ⟨rfl, rfl, rfl, rfl, rfl⟩ rfl rfl rfl rfl rfl (by kernel_rfl) Try.func4 (by kernel_rfl)
    (of_decide_eq_true (by kernel_rfl)) (by unfold Func.isWrapper; first | (rw [if_pos (by decide +kernel)]; kernel_rfl) | (rw [if_neg (by decide +kernel)]; exact ⟨rfl, rfl⟩))
    (fun os started H enc _ => lifted_fnExactNameRight os started H enc)
#print axioms nameRight_holds
end Go.Proofs.Ytldaebdioljnlad
