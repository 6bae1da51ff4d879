/- Proved here: spec.l01Dec answers a number's digits; all old memory stays (condition: it is not below 0, and at most 2^40). -/
import Derived.Test.YtbhemimhmkgfiaaDoorByteRow
import Derived.Test.YtbhemimhmkgfiaaDoorWordsH
namespace Go.Proofs.YtbhemimhmkgfiaaDoor
open Go.ChangeShapes Go.WideShapes Go.ChangeAt Go.RowKit
set_option linter.unusedVariables false
set_option maxRecDepth 100000

/-- the digits of a number above 0 -/
def decR : Nat → Nat → List UInt8
  | 0, _ => []
  | f + 1, n => if n = 0 then [] else decR f (n / 10) ++ [UInt8.ofNat (48 + n % 10)]
/-- a number in digits -/
def decL (n : Nat) : List UInt8 := if n = 0 then [48] else decR 20 n
def decT (n : Nat) : ByteArray := ⟨(decL n).toArray⟩
theorem decR_succ {f n : Nat} (h : n ≠ 0) : decR (f + 1) n = decR f (n / 10) ++ [UInt8.ofNat (48 + n % 10)] := by rw [decR, if_neg h]
theorem decR_len (f n : Nat) : (decR f n).length ≤ f := by
  induction f generalizing n with
  | zero => simp [decR]
  | succ f ih => unfold decR; split; simp; have := ih (n / 10); simp; omega

set_option maxHeartbeats 2000000 in
theorem l01Dec_any (n : Nat) (w : World) (hn : n ≤ 1099511627776) :
    Calls Tryd.prog 46 #[.int .i64 (n : Int)] w fun e w' => e = .returned (.string (decT n)) ∧ Below w.heap.size w w' := by
  by_cases h0 : n = 0
  · subst h0
    go_enter Tryd.func46, Tryd.ntmps46
    go_wp2
    go_ret
    exact ⟨rfl, Below.refl _ _⟩
  · have h0' : ((n : Int) == 0) = false := beq_eq_false_iff_ne.2 (by omega)
    go_enter Tryd.func46, Tryd.ntmps46
    go_wp2
    go_loopw [4, 0] (fun v t wr => ∃ (m : Nat) (acc : List UInt8) (f : Nat), t = .int .i64 (m : Int) ∧ v = .string ⟨acc.toArray⟩ ∧ acc.length + f = 20 ∧ m ≤ 1099511627776 ∧ Hid (m < 10 ^ f ∧ decR f m ++ acc = decR 20 n) ∧ Below w.heap.size w wr) (fun _ t _ => (intOf t).toNat)
    case atStart => exact ⟨n, [], 20, rfl, rfl, rfl, hn, ⟨by omega, by simp⟩, Below.refl _ _⟩
    case round =>
      obtain ⟨m, acc, f, rfl, rfl, hf, hm, hI, hb⟩ := hrel
      have hsz : (⟨acc.toArray⟩ : ByteArray).size ≤ 20 := by show acc.toArray.size ≤ 20; simp; omega
      by_cases hm0 : m = 0
      · have hm0' : ((m : Int) != 0) = false := by rw [hm0]; rfl
        have hE : Hid (decT n = ⟨acc.toArray⟩) := by
          have h2 := hI.out.2
          rw [hm0] at h2
          have e : decR f 0 = [] := by cases f <;> simp [decR]
          rw [e, List.nil_append] at h2
          unfold decT decL
          rw [if_neg h0, h2]
          rfl
        have hneg : ¬ ((n : Int) < 0) := by omega
        have hneg' : decide ((n : Int) < 0) = false := by simp
        clear hI hm0
        go_wp2
        go_ret
        exact ⟨by rw [hE.out]; rfl, hb⟩
      · have hm0' : ((m : Int) != 0) = true := by simp; omega
        obtain ⟨g, rfl⟩ : ∃ g, f = g + 1 := by
          cases f with
          | zero => exact absurd hI.out.1 (by simp; omega)
          | succ g => exact ⟨g, rfl⟩
        have hI2 : Hid (m / 10 < 10 ^ g ∧ decR g (m / 10) ++ (UInt8.ofNat (48 + m % 10) :: acc) = decR 20 n) := by
          obtain ⟨h1, h2⟩ := hI
          refine ⟨?_, ?_⟩
          · rw [Nat.pow_succ] at h1; omega
          · rw [← h2, decR_succ hm0]; simp
        have hcv : (convert 73 9 (.slice (some ⟨wr.heap.size, 0, none⟩) 1 1)).run Tryd.prog (wr.alloc (.cells #[.int .u8 (48 + (m : Int) % 10)] 5)) = .ok (.string (rowT [48 + (m : Int) % 10])) (wr.alloc (.cells #[.int .u8 (48 + (m : Int) % 10)] 5)) := BytesAt.conv 1 (row_at [48 + (m : Int) % 10] (by simp; omega))
        have hz : (rowT [48 + (m : Int) % 10]).size = 1 := rowT_size _
        have hadd : Hid (rowT [48 + (m : Int) % 10] ++ (⟨acc.toArray⟩ : ByteArray) = ⟨(UInt8.ofNat (48 + m % 10) :: acc).toArray⟩) := by
          have e : (48 + (m : Int) % 10).toNat = 48 + m % 10 := by omega
          apply ByteArray.ext
          simp [rowT, rowL, e]
        have hlt : m / 10 < m := by omega
        have hbb := hidS (hb.alloc hb.size (.cells #[.int .u8 (48 + (m : Int) % 10)] 5))
        clear hI hb
        go_wp2
        go_roundw
        case rel => exact ⟨m / 10, UInt8.ofNat (48 + m % 10) :: acc, g, by go_num, by rw [hadd.out], by simp; omega, by omega, hI2, hbb.out⟩
        case measure => simp [intOf]; omega
end Go.Proofs.YtbhemimhmkgfiaaDoor
