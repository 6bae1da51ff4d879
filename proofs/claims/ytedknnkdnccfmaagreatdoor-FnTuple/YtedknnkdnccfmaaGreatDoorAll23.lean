/- Proved here: spec.l01Dec answers a number's digits; all old memory stays (condition: it is not below 0, and at most 2^40). · Proved here: spec.AddrText answers the text of an address (else the empty text); all old memory stays (condition: a number that fits int64). · Proved here: nothing of a program: a tuple's text, as a plain function. -/
import Derived.Test.YtedknnkdnccfmaaGreatDoorAll7
import Derived.Test.YtedknnkdnccfmaaGreatDoorAll1
import Derived.Test.YtedknnkdnccfmaaGreatDoorRightSpec
import Derived.Test.YtedknnkdnccfmaaGreatDoorTupMath
section
namespace Go.Proofs.YtedknnkdnccfmaaGreatDoor
open Go.ChangeShapes Go.WideShapes Go.ChangeAt Go.RowKit
set_option linter.unusedVariables false
set_option maxRecDepth 100000

/-- the digits of a number above 0 -/
def decR : Nat → Nat → List UInt8
  | 0, _ => []
  | f + 1, n => if n = 0 then [] else decR f (n / 10) ++ [UInt8.ofNat (48 + n % 10)]
/-- a number in digits -/
def decL (n : Nat) : List UInt8 := if n = 0 then [48] else decR 20 n
def decT (n : Nat) : ByteArray := ⟨(decL n).toArray⟩
theorem decR_succ {f n : Nat} (h : n ≠ 0) : decR (f + 1) n = decR f (n / 10) ++ [UInt8.ofNat (48 + n % 10)] := by rw [decR, if_neg h]
theorem decR_len (f n : Nat) : (decR f n).length ≤ f := by
  induction f generalizing n with
  | zero => simp [decR]
  | succ f ih => unfold decR; split; simp; have := ih (n / 10); simp; omega

set_option maxHeartbeats 2000000 in
theorem l01Dec_any (n : Nat) (w : World) (hn : n ≤ 1099511627776) :
    Calls Tryz.prog 64 #[.int .i64 (n : Int)] w fun e w' => e = .returned (.string (decT n)) ∧ Below w.heap.size w w' := by
  by_cases h0 : n = 0
  · subst h0
    go_enter Tryz.func64, Tryz.ntmps64
    go_wp2
    go_ret
    exact ⟨rfl, Below.refl _ _⟩
  · have h0' : ((n : Int) == 0) = false := beq_eq_false_iff_ne.2 (by omega)
    go_enter Tryz.func64, Tryz.ntmps64
    go_wp2
    go_loopw [4, 0] (fun v t wr => ∃ (m : Nat) (acc : List UInt8) (f : Nat), t = .int .i64 (m : Int) ∧ v = .string ⟨acc.toArray⟩ ∧ acc.length + f = 20 ∧ m ≤ 1099511627776 ∧ Hid (m < 10 ^ f ∧ decR f m ++ acc = decR 20 n) ∧ Below w.heap.size w wr) (fun _ t _ => (intOf t).toNat)
    case atStart => exact ⟨n, [], 20, rfl, rfl, rfl, hn, ⟨by omega, by simp⟩, Below.refl _ _⟩
    case round =>
      obtain ⟨m, acc, f, rfl, rfl, hf, hm, hI, hb⟩ := hrel
      have hsz : (⟨acc.toArray⟩ : ByteArray).size ≤ 20 := by show acc.toArray.size ≤ 20; simp; omega
      by_cases hm0 : m = 0
      · have hm0' : ((m : Int) != 0) = false := by rw [hm0]; rfl
        have hE : Hid (decT n = ⟨acc.toArray⟩) := by
          have h2 := hI.out.2
          rw [hm0] at h2
          have e : decR f 0 = [] := by cases f <;> simp [decR]
          rw [e, List.nil_append] at h2
          unfold decT decL
          rw [if_neg h0, h2]
          rfl
        have hneg : ¬ ((n : Int) < 0) := by omega
        have hneg' : decide ((n : Int) < 0) = false := by simp
        clear hI hm0
        go_wp2
        go_ret
        exact ⟨by rw [hE.out]; rfl, hb⟩
      · have hm0' : ((m : Int) != 0) = true := by simp; omega
        obtain ⟨g, rfl⟩ : ∃ g, f = g + 1 := by
          cases f with
          | zero => exact absurd hI.out.1 (by simp; omega)
          | succ g => exact ⟨g, rfl⟩
        have hI2 : Hid (m / 10 < 10 ^ g ∧ decR g (m / 10) ++ (UInt8.ofNat (48 + m % 10) :: acc) = decR 20 n) := by
          obtain ⟨h1, h2⟩ := hI
          refine ⟨?_, ?_⟩
          · rw [Nat.pow_succ] at h1; omega
          · rw [← h2, decR_succ hm0]; simp
        have hcv : (convert 22 9 (.slice (some ⟨wr.heap.size, 0, none⟩) 1 1)).run Tryz.prog (wr.alloc (.cells #[.int .u8 (48 + (m : Int) % 10)] 5)) = .ok (.string (rowT [48 + (m : Int) % 10])) (wr.alloc (.cells #[.int .u8 (48 + (m : Int) % 10)] 5)) := BytesAt.conv 1 (row_at [48 + (m : Int) % 10] (by simp; omega))
        have hz : (rowT [48 + (m : Int) % 10]).size = 1 := rowT_size _
        have hadd : Hid (rowT [48 + (m : Int) % 10] ++ (⟨acc.toArray⟩ : ByteArray) = ⟨(UInt8.ofNat (48 + m % 10) :: acc).toArray⟩) := by
          have e : (48 + (m : Int) % 10).toNat = 48 + m % 10 := by omega
          apply ByteArray.ext
          simp [rowT, rowL, e]
        have hlt : m / 10 < m := by omega
        have hbb := hidS (hb.alloc hb.size (.cells #[.int .u8 (48 + (m : Int) % 10)] 5))
        clear hI hb
        go_wp2
        go_roundw
        case rel => exact ⟨m / 10, UInt8.ofNat (48 + m % 10) :: acc, g, by go_num, by rw [hadd.out], by simp; omega, by omega, hI2, hbb.out⟩
        case measure => simp [intOf]; omega
end Go.Proofs.YtedknnkdnccfmaaGreatDoor
end

section
namespace Go.Proofs.YtedknnkdnccfmaaGreatDoor
open Go.ChangeShapes Go.WideShapes Go.ChangeAt Go.RowKit
set_option linter.unusedVariables false
set_option maxRecDepth 100000

theorem l01Dec_of {x : Int} (n : Nat) (w : World) (hx : x = (n : Int)) (hn : n ≤ 1099511627776) :
    Calls Tryz.prog 64 #[.int .i64 x] w fun e w' => e = .returned (.string (decT n)) ∧ Below w.heap.size w w' := by
  subst hx; exact l01Dec_any n w hn
theorem decT_size (n : Nat) : (decT n).size ≤ 20 := by
  show (decL n).toArray.size ≤ 20
  unfold decL
  split
  · simp
  · have := decR_len 20 n; simpa using this
/-- the text of an address -/
def dotT : ByteArray := ⟨#[46]⟩
def addrT (n : Nat) : ByteArray := decT (n / 16777216) ++ dotT ++ decT (n / 65536 % 256) ++ dotT ++ decT (n / 256 % 256) ++ dotT ++ decT (n % 256)
def addrAns (n : Int) : ByteArray := if addrB n = true then addrT n.toNat else ⟨#[]⟩

set_option maxHeartbeats 1000000 in
theorem specAddrText_any (n : Int) (w : World) :
    Calls Tryz.prog 17 #[.int .i64 n] w fun e w' => e = .returned (.string (addrAns n)) ∧ Below w.heap.size w w' := by
  cases h : addrB n
  · have e : Hid (addrAns n = ⟨#[]⟩) := if_neg (by rw [h]; simp)
    go_enter Tryz.func17, Tryz.ntmps17
    go_wp2_with fail
    refine (l02Addr_any _ _).mono ?_
    rintro _ w1 ⟨rfl, rfl⟩
    rw [h]
    go_wp2
    go_ret
    exact ⟨by rw [e.out]; rfl, Below.refl _ _⟩
  · obtain ⟨m, rfl⟩ : ∃ m : Nat, n = m := ⟨n.toNat, by have := addrB_iff.1 h; omega⟩
    have e : Hid (addrAns (m : Int) = addrT m) := if_pos h
    have hm := (addrB_iff.1 h).2
    have z1 := decT_size (m / 16777216)
    have z2 := decT_size (m / 65536 % 256)
    have z3 := decT_size (m / 256 % 256)
    have z4 := decT_size (m % 256)
    go_enter Tryz.func17, Tryz.ntmps17
    go_wp2_with fail
    refine (l02Addr_any _ _).mono ?_
    rintro _ w1 ⟨rfl, rfl⟩
    rw [h]
    go_wp2_with fail
    refine (l01Dec_of (m / 16777216) _ (by omega) (by omega)).mono ?_
    rintro _ w2 ⟨rfl, hb2⟩
    go_wp2_with fail
    refine (l01Dec_of (m / 65536 % 256) _ (by omega) (by omega)).mono ?_
    rintro _ w3 ⟨rfl, hb3⟩
    have hB3 := hidS (hb2.trans (hb3.mono hb2.size))
    clear hb2 hb3
    go_wp2_with fail
    refine (l01Dec_of (m / 256 % 256) _ (by omega) (by omega)).mono ?_
    rintro _ w4 ⟨rfl, hb4⟩
    have hB4 := hidS (hB3.out.trans (hb4.mono hB3.out.size))
    clear hB3 hb4
    go_wp2_with fail
    refine (l01Dec_of (m % 256) _ (by omega) (by omega)).mono ?_
    rintro _ w5 ⟨rfl, hb5⟩
    have hB5 := hidS (hB4.out.trans (hb5.mono hB4.out.size))
    clear hB4 hb5
    go_wp2
    go_ret
    exact ⟨by rw [e.out]; rfl, hB5.out⟩
end Go.Proofs.YtedknnkdnccfmaaGreatDoor
end

section
namespace Go.Proofs.YtedknnkdnccfmaaGreatDoor
open Go.ChangeShapes Go.WideShapes Go.ChangeAt Go.RowKit
set_option linter.unusedVariables false
set_option maxRecDepth 100000
set_option linter.unusedSimpArgs false

def nameL (t : Tp) : ByteArray := if t.proto = 17 then ⟨#[117, 100, 112]⟩ else if t.proto = 1 then ⟨#[112, 105, 110, 103]⟩ else ⟨#[116, 99, 112]⟩
def nameS (t : Tp) : ByteArray := if t.proto = 17 then ⟨#[117, 100, 112, 32]⟩ else if t.proto = 1 then ⟨#[112, 105, 110, 103, 32]⟩ else ⟨#[116, 99, 112, 32]⟩
def markL (t : Tp) : ByteArray := if t.proto = 1 then (if t.kind = 8 then ⟨#[63]⟩ else ⟨#[33]⟩) else ⟨#[]⟩
/-- the text of a right tuple -/
def tupT (t : Tp) : ByteArray := nameS t ++ addrAns t.src ++ ⟨#[58]⟩ ++ decT t.sport.toNat ++ ⟨#[62]⟩ ++ addrAns t.dst ++ ⟨#[58]⟩ ++ decT t.dport.toNat ++ markL t
def textAns (t : Tp) : ByteArray := if rightT t = true then tupT t else ⟨#[]⟩
theorem nameS_name (t : Tp) : nameS t = nameL t ++ ⟨#[32]⟩ := by
  unfold nameS nameL
  by_cases h17 : t.proto = 17
  · rw [if_pos h17, if_pos h17]; rfl
  · by_cases h1 : t.proto = 1
    · rw [if_neg h17, if_neg h17, if_pos h1, if_pos h1]; rfl
    · rw [if_neg h17, if_neg h17, if_neg h1, if_neg h1]; rfl
theorem addrAns_size (n : Int) : (addrAns n).size ≤ 83 := by
  unfold addrAns
  split
  · unfold addrT dotT
    have z1 := decT_size (n.toNat / 16777216)
    have z2 := decT_size (n.toNat / 65536 % 256)
    have z3 := decT_size (n.toNat / 256 % 256)
    have z4 := decT_size (n.toNat % 256)
    simp only [ByteArray.size_append]
    have : (⟨#[46]⟩ : ByteArray).size = 1 := rfl
    omega
  · show 0 ≤ 83; omega
theorem nameS_size (t : Tp) : (nameS t).size ≤ 5 := by unfold nameS; split; decide; split <;> decide
theorem nameL_size (t : Tp) : (nameL t).size ≤ 5 := by unfold nameL; split; decide; split <;> decide
theorem markL_size (t : Tp) : (markL t).size ≤ 1 := by unfold markL; split; split <;> decide; decide
theorem tupT_size (t : Tp) : (tupT t).size ≤ 300 := by
  unfold tupT
  simp only [ByteArray.size_append]
  have h1 := nameS_size t
  have h2 := addrAns_size t.src
  have h3 := addrAns_size t.dst
  have h4 := decT_size t.sport.toNat
  have h5 := decT_size t.dport.toNat
  have h6 := markL_size t
  have : (⟨#[58]⟩ : ByteArray).size = 1 := rfl
  have : (⟨#[62]⟩ : ByteArray).size = 1 := rfl
  omega
theorem right_ports {t : Tp} (h : rightT t = true) : (0 ≤ t.sport ∧ t.sport ≤ 65535) ∧ (0 ≤ t.dport ∧ t.dport ≤ 65535) := by
  unfold rightT at h
  simp only [Bool.and_eq_true] at h
  exact ⟨wordB_iff.1 h.1.1.2, wordB_iff.1 h.1.2⟩
end Go.Proofs.YtedknnkdnccfmaaGreatDoor
end
