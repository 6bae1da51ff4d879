/- Proved here: slices.IndexFunc over slots with isFree gives the first free slot, or -1; all old memory stays (conditions: the slots can be read; a few; no Refs below 0). -/
import Derived.Test.YtcopfejonbbmnaaSlabI1
import Derived.Test.YtcopfejonbbmnaaSlabAddS
namespace Go.Proofs.Ytcopfejonbbmnaa
open Go.ChangeShapes Go.WideShapes Go.ChangeAt Go.RowKit
set_option linter.unusedVariables false
set_option linter.unusedSimpArgs false
set_option maxRecDepth 100000

/-- the first free slot, or -1 -/
def freeI (ss : List Slt) : Int := if freeK ss < ss.length then (freeK ss : Int) else -1
set_option maxHeartbeats 2000000 in
theorem indexFree_any (bS oS cS : Nat) (ss : List Slt) (w : World) (hR : RowZ (some ⟨bS, oS, none⟩) (flat ss) w) (hl : ss.length ≤ 1000) (hp : ∀ i, i < ss.length → 0 ≤ (ss.getD i zeroSlt).refs) :
    Calls Try.prog 32 #[.slice (some ⟨bS, oS, none⟩) ss.length cS, .func (.func 33) #[] #[]] w fun e w' => e = .returned (.int .i64 (freeI ss)) ∧ Below w.heap.size w w' := by
  have HR := hidS hR
  have HP := hidS hp
  clear hR hp
  have hL0 := hidS (Below.refl w.heap.size w)
  go_enter Try.func32, Try.ntmps32
  go_wp2_with fail
  go_loopw [8] (fun i wr => ∃ k : Nat, i = .int .i64 (k : Int) ∧ k ≤ ss.length ∧ freeK ss = k + freeK (ss.drop k) ∧ Below w.heap.size w wr) (fun i _ => (ss.length - (intOf i).toNat))
  case atStart => exact ⟨0, rfl, Nat.zero_le _, by simp, hL0.out⟩
  case round =>
    obtain ⟨k, rfl, hk, hfk, hb⟩ := hrel
    have HB := hidS hb
    have HFK := hidS hfk
    clear hL0 hb hfk
    by_cases hlt : ¬ k < ss.length
    · have e : k = ss.length := by omega
      subst e
      have EF : Hid (freeI ss = -1) := by
        show _ = _
        have := HFK.out
        rw [List.drop_length] at this
        have e : freeK ss = ss.length := by simpa [freeK] using this
        unfold freeI
        rw [e, if_neg (by omega)]
      have hge : ¬ (ss.length : Int) < (ss.length : Int) := by omega
      clear hlt
      go_wp2_with fail
      go_ret
      exact ⟨by rw [EF.out]; rfl, HB.out⟩
    have hlt := Classical.not_not.1 hlt
    have hkk : (0 : Int) ≤ (k : Int) ∧ (k : Int) < (ss.length : Int) := by omega
    obtain ⟨b', o', eS, lS, c0, c1, c2, c3⟩ := (HR.out.later HB.out).slot hlt
    injection eS with eS; injection eS with eS1 eS2
    subst eS1 eS2
    have hp := HP.out k hlt
    obtain ⟨x, hx⟩ : ∃ x, ss.getD k zeroSlt = x := ⟨_, rfl⟩
    rw [hx] at c0 c1 c2 c3 hp
    have HX := hidS hx
    clear hx
    have HF := hidS (fun W => isFree_any x W)
    by_cases h0 : x.refs = 0
    · rw [decide_eq_true h0] at HF
      have EF : Hid (freeI ss = (k : Int)) := by
        show _ = _
        have := HFK.out
        rw [free_free hlt (by rw [HX.out]; omega)] at this
        unfold freeI
        rw [if_pos (by omega)]
        omega
      clear h0
      go_wp2_with fail
      refine (HF.out _).mono ?_
      rintro _ w2 ⟨rfl, hb2⟩
      have hB2 := hidS (HB.out.trans (hb2.mono HB.out.size))
      clear hb2
      go_wp2_with fail
      go_ret
      exact ⟨by rw [EF.out]; rfl, hB2.out⟩
    · rw [decide_eq_false h0] at HF
      have HFN : Hid (freeK ss = k + 1 + freeK (ss.drop (k + 1))) := by
        show _ = _
        have := HFK.out
        rw [free_held hlt (by rw [HX.out]; omega)] at this
        omega
      clear h0
      go_wp2_with fail
      refine (HF.out _).mono ?_
      rintro _ w2 ⟨rfl, hb2⟩
      have hB2 := hidS (HB.out.trans (hb2.mono HB.out.size))
      clear hb2
      go_wp2_with fail
      go_roundw
      case rel => exact ⟨k + 1, by simp, by omega, HFN.out, hB2.out⟩
      case measure => simp [intOf]; omega
end Go.Proofs.Ytcopfejonbbmnaa
