/- Proved here: spec's draws of a packet, of a packet's bytes (spoilt or cut, now and then) and of an address answer such; all old memory stays (condition: the bytes that are drawn from can be read, at most 2^20). · Proved here: spec.l01Dec answers a number's digits; all old memory stays (condition: it is not below 0, and at most 2^40). · Proved here: spec.AddrText answers the text of an address (else the empty text); all old memory stays (condition: a number that fits int64). · Proved here: spec's source picks one of a row of texts; spec.DrawAddrRead draws a text of at most 101 bytes; all old memory stays (condition: the bytes that are drawn from can be read, at most 2^20). -/
import Derived.Test.YtedknnkdnccfmaaGreatDoorAll14
import Derived.Test.YtedknnkdnccfmaaGreatDoorAll15
import Derived.Test.YtedknnkdnccfmaaGreatDoorAll17
import Derived.Test.YtedknnkdnccfmaaGreatDoorAll6
import Derived.Test.YtedknnkdnccfmaaGreatDoorAll1
import Derived.Test.YtedknnkdnccfmaaGreatDoorRightSpec
section
namespace Go.Proofs.YtedknnkdnccfmaaGreatDoor
open Go.ChangeShapes Go.WideShapes Go.ChangeAt Go.RowKit
set_option linter.unusedVariables false
set_option linter.unusedSimpArgs false
set_option maxRecDepth 100000

theorem bytesAns_small (p : Pk) : (bytesAns p).size ≤ 140 := by
  unfold bytesAns
  split
  · rename_i h; exact bytesOf_small (fine_of h)
  · show 0 ≤ 140; omega
theorem drawAddrText_any (a : Option Addr) (len cap : Nat) (w : World) (hR : RowAt w.heap.size a len w) (hl : len ≤ 1048576) :
    Calls Tryz.prog 9 #[.slice a len cap] w fun e w' => ∃ n : Int, e = .returned (.int .i64 n) ∧ Below w.heap.size w w' := by
  go_enter Tryz.func9, Tryz.ntmps9
  go_wp2_with fail
  refine (source_any a len cap w hR hl).mono ?_
  rintro _ w2 ⟨rfl, hS2, hb2⟩
  have hL2 := hidS hb2
  clear hb2
  go_wp2_with fail
  refine (srcAddr_any w.heap.size a len cap w2 hS2).mono ?_
  rintro _ w3 ⟨n, rfl, _, _, hS3, hg3⟩
  have hL3 := hidS (hL2.out.grown hg3 hL2.out.size (fun k e => by cases e; exact Nat.le_refl _))
  clear hg3 hL2 hS3 hS2
  go_wp2_with fail
  go_ret
  exact ⟨n, rfl, hL3.out⟩
set_option maxHeartbeats 2000000 in
theorem drawPacketRead_any (a : Option Addr) (len cap : Nat) (w : World) (hR : RowAt w.heap.size a len w) (hl : len ≤ 1048576) :
    Calls Tryz.prog 7 #[.slice a len cap] w fun e w' => ∃ s : ByteArray, e = .returned (.string s) ∧ s.size ≤ 141 ∧ Below w.heap.size w w' := by
  go_enter Tryz.func7, Tryz.ntmps7
  go_wp2_with fail
  refine (source_any a len cap w hR hl).mono ?_
  rintro _ w2 ⟨rfl, hS2, hb2⟩
  have hL2 := hidS hb2
  clear hb2 hR
  go_wp2_with fail
  refine (srcSome_any w.heap.size a len cap w2 hS2).mono ?_
  rintro _ w3 ⟨p, rfl, hp, hS3, hg3⟩
  have hL3 := hidS (hL2.out.grown hg3 hL2.out.size (fun k e => by cases e; exact Nat.le_refl _))
  clear hg3 hL2 hS2
  go_wp2_with fail
  refine (specBytes_any p w3 (by unfold maxLen; omega)).mono ?_
  rintro _ w4 ⟨rfl, hb4⟩
  have hts := bytesAns_small p
  generalize bytesAns p = t at *
  have HS4 := hidS (src_below hS3 hb4)
  have hL4 := hidS (hL3.out.trans (hb4.mono hL3.out.size))
  clear hS3 hb4 hL3 hp
  go_wp2_with fail
  refine (srcN_any w.heap.size a len cap 4 w4 HS4.out (by omega)).mono ?_
  rintro _ w5 ⟨c, rfl, hc1, hc2, hS5, hO5⟩
  have HS5 := hidS hS5
  have hL5 := hidS (hL4.out.grown hO5.grown hL4.out.size (fun k e => by cases e; exact Nat.le_refl _))
  clear hS5 hO5 hL4 HS4
  by_cases c0 : c = 0
  · subst c0
    clear hc1 hc2
    go_wp2_with fail
    refine (srcSpoil_any w.heap.size a len cap t w5 HS5.out (by omega)).mono ?_
    rintro _ w6 ⟨u, rfl, hu, hS6, hg6⟩
    have hL6 := hidS (hL5.out.grown hg6 hL5.out.size (fun k e => by cases e; exact Nat.le_refl _))
    have hus : u.size ≤ 141 := by omega
    clear hS6 hg6 hL5 HS5
    go_wp2_with fail
    go_ret
    exact ⟨u, rfl, hus, hL6.out⟩
  have c0' : (c == 0) = false := beq_eq_false_iff_ne.2 c0
  by_cases c1 : c = 1
  · subst c1
    clear hc1 hc2 c0 c0'
    go_wp2_with fail
    refine (srcN_any w.heap.size a len cap ((t.size : Int) + 1) w5 HS5.out (by omega)).mono ?_
    rintro _ w6 ⟨k0, rfl, hk1, hk2, hS6, hO6⟩
    obtain ⟨k, rfl⟩ : ∃ k : Nat, k0 = k := ⟨k0.toNat, by omega⟩
    have hk : k ≤ t.size := by omega
    have hki : (k : Int) ≤ (t.size : Int) := by omega
    have hL6 := hidS (hL5.out.grown hO6.grown hL5.out.size (fun k e => by cases e; exact Nat.le_refl _))
    clear hS6 hO6 hL5 HS5 hk1 hk2
    go_wp2_with fail
    go_ret
    exact ⟨_, rfl, by rw [ByteArray.size_extract]; omega, hL6.out⟩
  have c1' : (c == 1) = false := beq_eq_false_iff_ne.2 c1
  clear c0 c1 hc1 hc2 HS5
  go_wp2_with fail
  go_ret
  exact ⟨t, rfl, by omega, hL5.out⟩
set_option maxHeartbeats 2000000 in
theorem drawPacketBytes_any (a : Option Addr) (len cap : Nat) (w : World) (hR : RowAt w.heap.size a len w) (hl : len ≤ 1048576) :
    Calls Tryz.prog 5 #[.slice a len cap] w fun e w' => ∃ p : Pk, e = .returned (.agg #[.int .i64 p.src, .int .i64 p.dst, .int .i64 p.proto, .int .i64 p.a, .int .i64 p.b, .int .i64 p.kind, .int .i64 p.flags, .int .i64 p.seq, .int .i64 p.ack, .string p.body]) ∧ p.body.size ≤ 101 ∧ Below w.heap.size w w' := by
  have hL0 := hidS ((Below.refl w.heap.size w).alloc (Nat.le_refl _) (.cells #[.int .i64 0, .int .i64 0, .int .i64 0, .int .i64 0, .int .i64 0, .int .i64 0, .int .i64 0, .int .i64 0, .int .i64 0, .string ⟨#[]⟩] 24))
  have hR0 := hidS (hR.later hL0.out)
  have hG0 := hidS (heap_newG w (.cells #[.int .i64 0, .int .i64 0, .int .i64 0, .int .i64 0, .int .i64 0, .int .i64 0, .int .i64 0, .int .i64 0, .int .i64 0, .string ⟨#[]⟩] 24))
  clear hR
  go_enter Tryz.func5, Tryz.ntmps5
  go_wp2_with fail
  generalize w.alloc (.cells #[.int .i64 0, .int .i64 0, .int .i64 0, .int .i64 0, .int .i64 0, .int .i64 0, .int .i64 0, .int .i64 0, .int .i64 0, .string ⟨#[]⟩] 24) = w1 at hL0 hR0 hG0 ⊢
  refine (source_any a len cap w1 hR0.out hl).mono ?_
  rintro _ w2 ⟨rfl, hS2, hb2⟩
  have hRB : w.heap.size < w1.heap.size := blk_lt hG0.out
  have hL2 := hidS (hL0.out.trans (hb2.mono hL0.out.size))
  have hG2 := hidS (blk_later hG0.out hb2)
  have HS2 := hidS hS2
  clear hb2 hL0 hR0 hG0 hS2
  generalize w1.heap.size = B at *
  go_wp2_with fail
  refine (srcSome_any B a len cap w2 HS2.out).mono ?_
  rintro _ w3 ⟨p, rfl, hp, hS3, hg3⟩
  have hL3 := hidS (hL2.out.grown hg3 hL2.out.size (fun k e => by cases e; omega))
  have hG3 := hidS ((hg3.block _ (blk_lt hG2.out) (fun e => by injection e with e; omega)).trans hG2.out)
  have kR := blk_cell hG3.out
  have fR := blk_free hG3.out
  have hbd := hidS hp
  clear hg3 hL2 hG2 HS2 hS3 hp hG3
  go_wp2_with fail
  refine bodyPost_ret (v := .agg #[.int .i64 p.src, .int .i64 p.dst, .int .i64 p.proto, .int .i64 p.a, .int .i64 p.b, .int .i64 p.kind, .int .i64 p.flags, .int .i64 p.seq, .int .i64 p.ack, .string p.body]) (by simp [results, Tryz.results5, go_sem, *]) rfl ⟨p, rfl, hbd.out, ?_⟩
  iterate 10 (refine below_at ?_ (Nat.le_refl _))
  exact hL3.out
end Go.Proofs.YtedknnkdnccfmaaGreatDoor
end

section
namespace Go.Proofs.YtedknnkdnccfmaaGreatDoor
open Go.ChangeShapes Go.WideShapes Go.ChangeAt Go.RowKit
set_option linter.unusedVariables false
set_option maxRecDepth 100000

/-- the digits of a number above 0 -/
def decR : Nat → Nat → List UInt8
  | 0, _ => []
  | f + 1, n => if n = 0 then [] else decR f (n / 10) ++ [UInt8.ofNat (48 + n % 10)]
/-- a number in digits -/
def decL (n : Nat) : List UInt8 := if n = 0 then [48] else decR 20 n
def decT (n : Nat) : ByteArray := ⟨(decL n).toArray⟩
theorem decR_succ {f n : Nat} (h : n ≠ 0) : decR (f + 1) n = decR f (n / 10) ++ [UInt8.ofNat (48 + n % 10)] := by rw [decR, if_neg h]
theorem decR_len (f n : Nat) : (decR f n).length ≤ f := by
  induction f generalizing n with
  | zero => simp [decR]
  | succ f ih => unfold decR; split; simp; have := ih (n / 10); simp; omega

set_option maxHeartbeats 2000000 in
theorem l01Dec_any (n : Nat) (w : World) (hn : n ≤ 1099511627776) :
    Calls Tryz.prog 64 #[.int .i64 (n : Int)] w fun e w' => e = .returned (.string (decT n)) ∧ Below w.heap.size w w' := by
  by_cases h0 : n = 0
  · subst h0
    go_enter Tryz.func64, Tryz.ntmps64
    go_wp2
    go_ret
    exact ⟨rfl, Below.refl _ _⟩
  · have h0' : ((n : Int) == 0) = false := beq_eq_false_iff_ne.2 (by omega)
    go_enter Tryz.func64, Tryz.ntmps64
    go_wp2
    go_loopw [4, 0] (fun v t wr => ∃ (m : Nat) (acc : List UInt8) (f : Nat), t = .int .i64 (m : Int) ∧ v = .string ⟨acc.toArray⟩ ∧ acc.length + f = 20 ∧ m ≤ 1099511627776 ∧ Hid (m < 10 ^ f ∧ decR f m ++ acc = decR 20 n) ∧ Below w.heap.size w wr) (fun _ t _ => (intOf t).toNat)
    case atStart => exact ⟨n, [], 20, rfl, rfl, rfl, hn, ⟨by omega, by simp⟩, Below.refl _ _⟩
    case round =>
      obtain ⟨m, acc, f, rfl, rfl, hf, hm, hI, hb⟩ := hrel
      have hsz : (⟨acc.toArray⟩ : ByteArray).size ≤ 20 := by show acc.toArray.size ≤ 20; simp; omega
      by_cases hm0 : m = 0
      · have hm0' : ((m : Int) != 0) = false := by rw [hm0]; rfl
        have hE : Hid (decT n = ⟨acc.toArray⟩) := by
          have h2 := hI.out.2
          rw [hm0] at h2
          have e : decR f 0 = [] := by cases f <;> simp [decR]
          rw [e, List.nil_append] at h2
          unfold decT decL
          rw [if_neg h0, h2]
          rfl
        have hneg : ¬ ((n : Int) < 0) := by omega
        have hneg' : decide ((n : Int) < 0) = false := by simp
        clear hI hm0
        go_wp2
        go_ret
        exact ⟨by rw [hE.out]; rfl, hb⟩
      · have hm0' : ((m : Int) != 0) = true := by simp; omega
        obtain ⟨g, rfl⟩ : ∃ g, f = g + 1 := by
          cases f with
          | zero => exact absurd hI.out.1 (by simp; omega)
          | succ g => exact ⟨g, rfl⟩
        have hI2 : Hid (m / 10 < 10 ^ g ∧ decR g (m / 10) ++ (UInt8.ofNat (48 + m % 10) :: acc) = decR 20 n) := by
          obtain ⟨h1, h2⟩ := hI
          refine ⟨?_, ?_⟩
          · rw [Nat.pow_succ] at h1; omega
          · rw [← h2, decR_succ hm0]; simp
        have hcv : (convert 22 9 (.slice (some ⟨wr.heap.size, 0, none⟩) 1 1)).run Tryz.prog (wr.alloc (.cells #[.int .u8 (48 + (m : Int) % 10)] 5)) = .ok (.string (rowT [48 + (m : Int) % 10])) (wr.alloc (.cells #[.int .u8 (48 + (m : Int) % 10)] 5)) := BytesAt.conv 1 (row_at [48 + (m : Int) % 10] (by simp; omega))
        have hz : (rowT [48 + (m : Int) % 10]).size = 1 := rowT_size _
        have hadd : Hid (rowT [48 + (m : Int) % 10] ++ (⟨acc.toArray⟩ : ByteArray) = ⟨(UInt8.ofNat (48 + m % 10) :: acc).toArray⟩) := by
          have e : (48 + (m : Int) % 10).toNat = 48 + m % 10 := by omega
          apply ByteArray.ext
          simp [rowT, rowL, e]
        have hlt : m / 10 < m := by omega
        have hbb := hidS (hb.alloc hb.size (.cells #[.int .u8 (48 + (m : Int) % 10)] 5))
        clear hI hb
        go_wp2
        go_roundw
        case rel => exact ⟨m / 10, UInt8.ofNat (48 + m % 10) :: acc, g, by go_num, by rw [hadd.out], by simp; omega, by omega, hI2, hbb.out⟩
        case measure => simp [intOf]; omega
end Go.Proofs.YtedknnkdnccfmaaGreatDoor
end

section
namespace Go.Proofs.YtedknnkdnccfmaaGreatDoor
open Go.ChangeShapes Go.WideShapes Go.ChangeAt Go.RowKit
set_option linter.unusedVariables false
set_option maxRecDepth 100000

theorem l01Dec_of {x : Int} (n : Nat) (w : World) (hx : x = (n : Int)) (hn : n ≤ 1099511627776) :
    Calls Tryz.prog 64 #[.int .i64 x] w fun e w' => e = .returned (.string (decT n)) ∧ Below w.heap.size w w' := by
  subst hx; exact l01Dec_any n w hn
theorem decT_size (n : Nat) : (decT n).size ≤ 20 := by
  show (decL n).toArray.size ≤ 20
  unfold decL
  split
  · simp
  · have := decR_len 20 n; simpa using this
/-- the text of an address -/
def dotT : ByteArray := ⟨#[46]⟩
def addrT (n : Nat) : ByteArray := decT (n / 16777216) ++ dotT ++ decT (n / 65536 % 256) ++ dotT ++ decT (n / 256 % 256) ++ dotT ++ decT (n % 256)
def addrAns (n : Int) : ByteArray := if addrB n = true then addrT n.toNat else ⟨#[]⟩

set_option maxHeartbeats 1000000 in
theorem specAddrText_any (n : Int) (w : World) :
    Calls Tryz.prog 17 #[.int .i64 n] w fun e w' => e = .returned (.string (addrAns n)) ∧ Below w.heap.size w w' := by
  cases h : addrB n
  · have e : Hid (addrAns n = ⟨#[]⟩) := if_neg (by rw [h]; simp)
    go_enter Tryz.func17, Tryz.ntmps17
    go_wp2_with fail
    refine (l02Addr_any _ _).mono ?_
    rintro _ w1 ⟨rfl, rfl⟩
    rw [h]
    go_wp2
    go_ret
    exact ⟨by rw [e.out]; rfl, Below.refl _ _⟩
  · obtain ⟨m, rfl⟩ : ∃ m : Nat, n = m := ⟨n.toNat, by have := addrB_iff.1 h; omega⟩
    have e : Hid (addrAns (m : Int) = addrT m) := if_pos h
    have hm := (addrB_iff.1 h).2
    have z1 := decT_size (m / 16777216)
    have z2 := decT_size (m / 65536 % 256)
    have z3 := decT_size (m / 256 % 256)
    have z4 := decT_size (m % 256)
    go_enter Tryz.func17, Tryz.ntmps17
    go_wp2_with fail
    refine (l02Addr_any _ _).mono ?_
    rintro _ w1 ⟨rfl, rfl⟩
    rw [h]
    go_wp2_with fail
    refine (l01Dec_of (m / 16777216) _ (by omega) (by omega)).mono ?_
    rintro _ w2 ⟨rfl, hb2⟩
    go_wp2_with fail
    refine (l01Dec_of (m / 65536 % 256) _ (by omega) (by omega)).mono ?_
    rintro _ w3 ⟨rfl, hb3⟩
    have hB3 := hidS (hb2.trans (hb3.mono hb2.size))
    clear hb2 hb3
    go_wp2_with fail
    refine (l01Dec_of (m / 256 % 256) _ (by omega) (by omega)).mono ?_
    rintro _ w4 ⟨rfl, hb4⟩
    have hB4 := hidS (hB3.out.trans (hb4.mono hB3.out.size))
    clear hB3 hb4
    go_wp2_with fail
    refine (l01Dec_of (m % 256) _ (by omega) (by omega)).mono ?_
    rintro _ w5 ⟨rfl, hb5⟩
    have hB5 := hidS (hB4.out.trans (hb5.mono hB4.out.size))
    clear hB4 hb5
    go_wp2
    go_ret
    exact ⟨by rw [e.out]; rfl, hB5.out⟩
end Go.Proofs.YtedknnkdnccfmaaGreatDoor
end

section
namespace Go.Proofs.YtedknnkdnccfmaaGreatDoor
open Go.ChangeShapes Go.WideShapes Go.ChangeAt Go.RowKit
set_option linter.unusedVariables false
set_option linter.unusedSimpArgs false
set_option maxRecDepth 100000

theorem srcPick_any (B : Nat) (a : Option Addr) (len cap g n M : Nat) (cs : Array Value) (w : World) (hS : Src B a len cap w) (hgB : g ≠ B) (hg : w.heap[g]? = some (.cells cs 9)) (h0 : 0 < n) (h1 : n ≤ 100) (hc : ∀ j, j < n → ∃ s : ByteArray, cs[j]? = some (.string s) ∧ s.size ≤ M) :
    Calls Tryz.prog 55 #[.pointer (some ⟨B, 0, none⟩), .slice (some ⟨g, 0, none⟩) n n] w fun e w' => ∃ s : ByteArray, e = .returned (.string s) ∧ s.size ≤ M ∧ Src B a len cap w' ∧ w.grownBy w' (some B) := by
  go_enter Tryz.func55, Tryz.ntmps55
  go_wp2_with fail
  refine (srcN_any B a len cap (n : Int) w hS (by omega)).mono ?_
  rintro _ w1 ⟨r, rfl, hr1, hr2, hS1, hO1⟩
  obtain ⟨j, rfl⟩ : ∃ j : Nat, r = j := ⟨r.toNat, by omega⟩
  have hj : j < n := by omega
  have hji : (j : Int) < (n : Int) := by omega
  obtain ⟨s, hs, hM⟩ := hc j hj
  have hcell : w1.cell? ⟨g, j, none⟩ = some (.string s) := by rw [blk_cell ((hO1.block g hgB).trans hg) j, hs]
  have hgr := hidS hO1.grown
  clear hr1 hr2 hO1 hc hs
  go_wp2_with fail
  go_ret
  exact ⟨s, rfl, hM, hS1, hgr.out⟩
theorem addrAns_sm (n : Int) : (addrAns n).size ≤ 100 := by
  unfold addrAns
  split
  · have h1 := decT_size (n.toNat / 16777216)
    have h2 := decT_size (n.toNat / 65536 % 256)
    have h3 := decT_size (n.toNat / 256 % 256)
    have h4 := decT_size (n.toNat % 256)
    have h5 : dotT.size = 1 := rfl
    unfold addrT
    simp only [ByteArray.size_append]
    omega
  · show 0 ≤ 100; omega
set_option maxHeartbeats 2000000 in
theorem drawAddrRead_any (a : Option Addr) (len cap : Nat) (w : World) (hR : RowAt w.heap.size a len w) (hl : len ≤ 1048576) :
    Calls Tryz.prog 11 #[.slice a len cap] w fun e w' => ∃ s : ByteArray, e = .returned (.string s) ∧ s.size ≤ 101 ∧ Below w.heap.size w w' := by
  go_enter Tryz.func11, Tryz.ntmps11
  go_wp2_with fail
  refine (source_any a len cap w hR hl).mono ?_
  rintro _ w2 ⟨rfl, hS2, hb2⟩
  have hL2 := hidS hb2
  clear hb2 hR
  go_wp2_with fail
  refine (srcAddr_any w.heap.size a len cap w2 hS2).mono ?_
  rintro _ w3 ⟨n, rfl, _, _, hS3, hg3⟩
  have hL3 := hidS (hL2.out.grown hg3 hL2.out.size (fun k e => by cases e; exact Nat.le_refl _))
  clear hg3 hL2 hS2
  go_wp2_with fail
  refine (specAddrText_any n w3).mono ?_
  rintro _ w4 ⟨rfl, hb4⟩
  have hts := addrAns_sm n
  generalize addrAns n = t at *
  have HS4 := hidS (src_below hS3 hb4)
  have hL4 := hidS (hL3.out.trans (hb4.mono hL3.out.size))
  clear hS3 hb4 hL3
  go_wp2_with fail
  refine (srcN_any w.heap.size a len cap 4 w4 HS4.out (by omega)).mono ?_
  rintro _ w5 ⟨c, rfl, hc1, hc2, hS5, hO5⟩
  have HS5 := hidS hS5
  have hL5 := hidS (hL4.out.grown hO5.grown hL4.out.size (fun k e => by cases e; exact Nat.le_refl _))
  clear hS5 hO5 hL4 HS4
  by_cases c0 : c = 0
  · subst c0
    clear hc1 hc2
    go_wp2_with fail
    refine (srcSpoil_any w.heap.size a len cap t w5 HS5.out (by omega)).mono ?_
    rintro _ w6 ⟨u, rfl, hu, hS6, hg6⟩
    have hL6 := hidS (hL5.out.grown hg6 hL5.out.size (fun k e => by cases e; exact Nat.le_refl _))
    have hus : u.size ≤ 101 := by omega
    clear hS6 hg6 hL5 HS5
    go_wp2_with fail
    go_ret
    exact ⟨u, rfl, hus, hL6.out⟩
  have c0' : (c == 0) = false := beq_eq_false_iff_ne.2 c0
  by_cases c1 : c = 1
  · subst c1
    clear hc1 hc2 c0 c0'
    go_wp2_with fail
    refine (srcPick_any w.heap.size a len cap w5.heap.size 7 20 _ _ (src_alloc HS5.out _) (by have := HS5.out.lt; omega) (heap_newG w5 _) (by omega) (by omega) (fun j hj => ?_)).mono ?_
    · rcases (by omega : j = 0 ∨ j = 1 ∨ j = 2 ∨ j = 3 ∨ j = 4 ∨ j = 5 ∨ j = 6) with rfl | rfl | rfl | rfl | rfl | rfl | rfl
      all_goals exact ⟨_, rfl, by decide⟩
    rintro _ w6 ⟨u, rfl, hu, hS6, hg6⟩
    have hL6 := hidS ((hL5.out.alloc hL5.out.size _).grown hg6 (hL5.out.alloc hL5.out.size _).size (fun k e => by cases e; exact Nat.le_refl _))
    have hus : u.size ≤ 101 := by omega
    clear hS6 hg6 hL5 HS5
    go_wp2_with fail
    go_ret
    exact ⟨u, rfl, hus, hL6.out⟩
  have c1' : (c == 1) = false := beq_eq_false_iff_ne.2 c1
  clear c0 c1 hc1 hc2 HS5
  go_wp2_with fail
  go_ret
  exact ⟨t, rfl, by omega, hL5.out⟩
end Go.Proofs.YtedknnkdnccfmaaGreatDoor
end
