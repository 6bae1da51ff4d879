/- Proved here: nothing of a program: a right packet is read back from its bytes; what is read is told by just these bytes. · Proved here: what CheckGood answers, of impl alone; all old memory stays (condition: a string is one). · Proved here: nothing of a program: the head of a packet's bytes has a good check. -/
import Derived.Test.YtedknnkdnccfmaaGreatDoorAll17
import Derived.Test.YtedknnkdnccfmaaGreatDoorAll23
import Derived.Test.YtedknnkdnccfmaaGreatDoorHeadI
import Derived.Test.YtedknnkdnccfmaaGreatDoorAll9
section
namespace Go.Proofs.YtedknnkdnccfmaaGreatDoor
set_option linter.unusedVariables false
set_option linter.unusedSimpArgs false
set_option maxRecDepth 100000

theorem two_back (n : Nat) (h : n ≤ 65535) : 256 * (UInt8.ofNat (n / 256)).toNat + (UInt8.ofNat (n % 256)).toNat = n := by
  have e0 : (UInt8.ofNat (n / 256)).toNat = n / 256 := by simp; omega
  have e1 : (UInt8.ofNat (n % 256)).toNat = n % 256 := by simp
  rw [e0, e1]; omega
theorem four_back (n : Nat) (h : n ≤ 4294967295) : 65536 * (256 * (UInt8.ofNat (n / 65536 / 256)).toNat + (UInt8.ofNat (n / 65536 % 256)).toNat) + (256 * (UInt8.ofNat (n % 65536 / 256)).toNat + (UInt8.ofNat (n % 65536 % 256)).toNat) = n := by
  rw [two_back _ (by omega), two_back _ (by omega)]; omega
theorem one_back (z : Int) (h0 : 0 ≤ z) (h1 : z ≤ 255) : (UInt8.ofNat z.toNat).toNat = z.toNat := by simp; omega
/-- the bytes of a packet, behind one another -/
theorem whole_lists (p : Pk) : ∃ h1 h2 c1 c2 : UInt8, ∃ k, (bytesOf p).data.toList = [69, 0, h1, h2, 0, 0, 0, 0, 64, UInt8.ofNat p.proto.toNat, c1, c2] ++ (fourT p.src.toNat).data.toList ++ (fourT p.dst.toNat).data.toList ++ (tailT p k).data.toList := by
  unfold bytesOf
  rw [ByteArray.data_append, Array.toList_append, head_list, two_list, two_list]
  exact ⟨_, _, _, _, _, rfl⟩
theorem of_list {s t : ByteArray} (h : s.data.toList = t.data.toList) : s = t := by
  obtain ⟨⟨s⟩⟩ := s; obtain ⟨⟨t⟩⟩ := t; simp at h; rw [h]
theorem drop_list (s : ByteArray) (k : Nat) (h : k ≤ s.size) : (s.extract k s.size).data.toList = s.data.toList.drop k := by
  rw [ext_list, List.take_of_length_le]
  have : s.data.toList.length = s.size := by simp
  simp

/-- a right packet comes back from its bytes -/
theorem read_back (p : Pk) (hr : rightB p = true) : readPk (bytesOf p) = p := by
  obtain ⟨h1, h2, c1, c2, k, e⟩ := whole_lists p
  rw [four_list, four_list] at e
  have hsz : (bytesOf p).size = (bytesOf p).data.toList.length := by simp
  have hr' := hr
  unfold rightB at hr'
  simp only [Bool.and_eq_true] at hr'
  have s1 := addrB_iff.1 hr'.1.1.1
  have s2 := addrB_iff.1 hr'.1.1.2
  have ht := hr'.2
  have e12 : word4 (bytesOf p) 12 = p.src.toNat := by unfold word4 word2; simp only [byteN_list, e]; exact four_back _ (by omega)
  have e16 : word4 (bytesOf p) 16 = p.dst.toNat := by unfold word4 word2; simp only [byteN_list, e]; exact four_back _ (by omega)
  have e9 : 0 ≤ p.proto → p.proto ≤ 255 → byteN (bytesOf p) 9 = p.proto.toNat := fun a b => by simp only [byteN_list, e]; exact one_back _ a b
  by_cases p6 : p.proto = 6
  · rw [if_pos p6] at ht
    unfold tcpB at ht
    simp only [Bool.and_eq_true, decide_eq_true_eq] at ht
    obtain ⟨⟨⟨⟨⟨ha, hb⟩, hkd⟩, hf⟩, hs⟩, hc⟩ := ht
    have ha := wordB_iff.1 ha
    have hb := wordB_iff.1 hb
    have hs := addrB_iff.1 hs
    have hc := addrB_iff.1 hc
    have hf := flagB_iff.1 hf
    have ta : ∃ x1 x2 : UInt8, (tailT p k).data.toList = [UInt8.ofNat (p.a.toNat / 256), UInt8.ofNat (p.a.toNat % 256), UInt8.ofNat (p.b.toNat / 256), UInt8.ofNat (p.b.toNat % 256)] ++ [UInt8.ofNat (p.seq.toNat / 65536 / 256), UInt8.ofNat (p.seq.toNat / 65536 % 256), UInt8.ofNat (p.seq.toNat % 65536 / 256), UInt8.ofNat (p.seq.toNat % 65536 % 256)] ++ [UInt8.ofNat (p.ack.toNat / 65536 / 256), UInt8.ofNat (p.ack.toNat / 65536 % 256), UInt8.ofNat (p.ack.toNat % 65536 / 256), UInt8.ofNat (p.ack.toNat % 65536 % 256)] ++ [80, UInt8.ofNat p.flags.toNat, 32, 0, x1, x2, 0, 0] ++ p.body.data.toList := by
      unfold tailT
      rw [if_pos p6]
      have hrow : (rowT [80, p.flags, 32, 0]).data.toList = [80, UInt8.ofNat p.flags.toNat, 32, 0] := rfl
      exact ⟨_, _, by simp only [ByteArray.data_append, Array.toList_append, two_list, four_list, hrow]; rfl⟩
    obtain ⟨x1, x2, ta⟩ := ta
    rw [ta] at e
    have e9' := e9 (by omega) (by omega)
    have e20 : word2 (bytesOf p) 20 = p.a.toNat := by unfold word2; simp only [byteN_list, e]; exact two_back _ (by omega)
    have e22 : word2 (bytesOf p) 22 = p.b.toNat := by unfold word2; simp only [byteN_list, e]; exact two_back _ (by omega)
    have e24 : word4 (bytesOf p) 24 = p.seq.toNat := by unfold word4 word2; simp only [byteN_list, e]; exact four_back _ (by omega)
    have e28 : word4 (bytesOf p) 28 = p.ack.toNat := by unfold word4 word2; simp only [byteN_list, e]; exact four_back _ (by omega)
    have e33 : byteN (bytesOf p) 33 = p.flags.toNat := by simp only [byteN_list, e]; exact one_back _ (by omega) (by omega)
    have hlen : 40 ≤ (bytesOf p).size := by rw [hsz, e]; simp
    have hbody : (bytesOf p).extract 40 (bytesOf p).size = p.body := of_list (by rw [drop_list _ _ hlen, e]; rfl)
    unfold readPk
    rw [if_pos (by rw [e9', p6]; rfl), if_neg (by omega), e9', e12, e16, e20, e22, e24, e28, e33, hbody]
    obtain ⟨xs, xd, xp, xa, xb, xk, xf, xq, xc, xy⟩ := p
    simp at *
    omega
  · rw [if_neg p6] at ht
    by_cases p17 : p.proto = 17
    · rw [if_pos p17] at ht
      unfold udpB at ht
      simp only [Bool.and_eq_true, decide_eq_true_eq] at ht
      obtain ⟨⟨⟨⟨⟨ha, hb⟩, hkd⟩, hf⟩, hs⟩, hc⟩ := ht
      have ha := wordB_iff.1 ha
      have hb := wordB_iff.1 hb
      have ta : ∃ x1 x2 x3 x4, (tailT p k).data.toList = [UInt8.ofNat (p.a.toNat / 256), UInt8.ofNat (p.a.toNat % 256), UInt8.ofNat (p.b.toNat / 256), UInt8.ofNat (p.b.toNat % 256), x1, x2, x3, x4] ++ p.body.data.toList := by
        unfold tailT
        rw [if_neg p6, if_pos p17]
        exact ⟨_, _, _, _, by simp only [ByteArray.data_append, Array.toList_append, two_list]; rfl⟩
      obtain ⟨x1, x2, x3, x4, ta⟩ := ta
      rw [ta] at e
      have e9' := e9 (by omega) (by omega)
      have e20 : word2 (bytesOf p) 20 = p.a.toNat := by unfold word2; simp only [byteN_list, e]; exact two_back _ (by omega)
      have e22 : word2 (bytesOf p) 22 = p.b.toNat := by unfold word2; simp only [byteN_list, e]; exact two_back _ (by omega)
      have hlen : 28 ≤ (bytesOf p).size := by rw [hsz, e]; simp
      have hbody : (bytesOf p).extract 28 (bytesOf p).size = p.body := of_list (by rw [drop_list _ _ hlen, e]; rfl)
      unfold readPk
      rw [if_neg (by rw [e9']; omega), if_pos (by rw [e9']; omega), e9', e12, e16, e20, e22, hbody]
      obtain ⟨xs, xd, xp, xa, xb, xk, xf, xq, xc, xy⟩ := p
      simp at *
      omega
    · rw [if_neg p17] at ht
      by_cases p1 : p.proto = 1
      · rw [if_pos p1] at ht
        unfold pingB at ht
        simp only [Bool.and_eq_true, decide_eq_true_eq] at ht
        obtain ⟨⟨⟨hb, hf⟩, hc⟩, hd⟩ := ht
        have hq : (0 ≤ p.kind ∧ p.kind ≤ 255) ∧ (0 ≤ p.a ∧ p.a ≤ 65535) ∧ 0 ≤ p.seq ∧ p.seq ≤ 65535 := by
          by_cases h3 : p.kind = 3
          · rw [if_pos h3] at hd
            simp only [Bool.and_eq_true, decide_eq_true_eq] at hd
            omega
          · rw [if_neg h3] at hd
            simp only [Bool.and_eq_true, Bool.or_eq_true, decide_eq_true_eq] at hd
            have := wordB_iff.1 hd.1.2
            have := wordB_iff.1 hd.2
            omega
        obtain ⟨hk, ha, hs⟩ := hq
        have ta : ∃ x0 x1 x2, (tailT p k).data.toList = [UInt8.ofNat p.kind.toNat, x0, x1, x2, UInt8.ofNat (p.a.toNat / 256), UInt8.ofNat (p.a.toNat % 256), UInt8.ofNat (p.seq.toNat / 256), UInt8.ofNat (p.seq.toNat % 256)] ++ p.body.data.toList := by
          unfold tailT
          rw [if_neg p6, if_neg p17]
          have hrow : ∀ z : Int, (rowT [p.kind, z]).data.toList = [UInt8.ofNat p.kind.toNat, UInt8.ofNat z.toNat] := fun _ => rfl
          split
          · exact ⟨_, _, _, by simp only [ByteArray.data_append, Array.toList_append, two_list, hrow]; rfl⟩
          · exact ⟨_, _, _, by simp only [ByteArray.data_append, Array.toList_append, two_list, hrow]; rfl⟩
        obtain ⟨x0, x1, x2, ta⟩ := ta
        rw [ta] at e
        have e9' := e9 (by omega) (by omega)
        have e20 : byteN (bytesOf p) 20 = p.kind.toNat := by simp only [byteN_list, e]; exact one_back _ (by omega) (by omega)
        have e24 : word2 (bytesOf p) 24 = p.a.toNat := by unfold word2; simp only [byteN_list, e]; exact two_back _ (by omega)
        have e26 : word2 (bytesOf p) 26 = p.seq.toNat := by unfold word2; simp only [byteN_list, e]; exact two_back _ (by omega)
        have hlen : 28 ≤ (bytesOf p).size := by rw [hsz, e]; simp
        have hbody : (bytesOf p).extract 28 (bytesOf p).size = p.body := of_list (by rw [drop_list _ _ hlen, e]; rfl)
        unfold readPk
        rw [if_neg (by rw [e9']; omega), if_neg (by rw [e9']; omega), e9', e12, e16, e20, e24, e26, hbody]
        obtain ⟨xs, xd, xp, xa, xb, xk, xf, xq, xc, xy⟩ := p
        simp at *
        omega
      · rw [if_neg p1] at ht
        cases ht
theorem bytes_least {p : Pk} (h : Fine p) : 28 ≤ (bytesOf p).size := by
  have hz : (bytesOf p).size = 20 + (tailT p (checkT p).toNat).size := by unfold bytesOf; rw [ByteArray.size_append, headT_size]
  rw [hz]
  generalize (checkT p).toNat = c
  have h2 : (⟨#[0, 0]⟩ : ByteArray).size = 2 := rfl
  unfold tailT
  split
  · simp only [ByteArray.size_append, twoT_size, fourT_size, rowT_size, List.length_cons, List.length_nil, h2]; omega
  · split
    · simp only [ByteArray.size_append, twoT_size]; omega
    · split <;> simp only [ByteArray.size_append, twoT_size, rowT_size, List.length_cons, List.length_nil] <;> omega
/-- PacketRead of a right packet's bytes answers it -/
theorem read_bytes {p : Pk} (hr : rightB p = true) : readC (bytesOf p) = 0 ∧ readP (bytesOf p) = p := by
  have h28 := bytes_least (fine_of hr)
  have hsm := bytesOf_small (fine_of hr)
  have hc : codeOf p (bytesOf p) = 0 := by unfold codeOf; simp [hr]
  refine ⟨?_, ?_⟩
  · unfold readC; rw [if_neg (by omega), if_neg (by omega), read_back p hr, hc]
  · unfold readP pkOf; rw [if_neg (by omega), read_back p hr, if_pos hc]
/-- what is read is told by just these bytes -/
theorem read_told {s : ByteArray} (h : readC s = 0) : bytesAns (readP s) = s := by
  unfold readC at h
  split at h
  · cases h
  · split at h
    · cases h
    · rename_i h1 h2
      unfold readP pkOf
      rw [if_neg (by omega), if_pos h]
      unfold codeOf at h
      split at h
      · cases h
      · rename_i hr
        split at h
        · cases h
        · split at h
          · cases h
          · rename_i he
            unfold bytesAns
            rw [if_pos (by simpa using hr)]
            have : ((bytesOf (readPk s)).toList == s.toList) = true := by simpa using he
            exact of_list (by simpa [ByteArray.toList_eq] using this)
end Go.Proofs.YtedknnkdnccfmaaGreatDoor
end

section
namespace Go.Proofs.YtedknnkdnccfmaaGreatDoor
open Go.ChangeShapes Go.WideShapes Go.ChangeAt Go.RowKit
open Go.ChangeMaps (open_string shut_string)
set_option linter.unusedVariables false

/-- what CheckGood is to answer -/
def goodAns (s : ByteArray) : Bool := (sumAns s : Int) == 65535
theorem goodAns_big {s : ByteArray} (h : 8000 < s.size) : goodAns s = false := by unfold goodAns sumAns; rw [if_pos h]; rfl
theorem implCheckGood_any (s : ByteArray) (w : World) (hs : s.size ≤ maxLen) :
    Calls Tryz.prog 19 #[.string s] w fun e w' => e = .returned (.bool (goodAns s)) ∧ Below w.heap.size w w' := by
  have hl := sumAns_le s
  go_enter Tryz.func19, Tryz.ntmps19
  go_wp2_with fail
  refine (implSumOf_any s _ hs).mono ?_
  rintro e w1 ⟨rfl, hb⟩
  go_wp2
  go_ret
  exact ⟨rfl, hb⟩
end Go.Proofs.YtedknnkdnccfmaaGreatDoor
end

section
namespace Go.Proofs.YtedknnkdnccfmaaGreatDoor
set_option linter.unusedVariables false
set_option linter.unusedSimpArgs false
set_option maxRecDepth 100000

theorem head_sum (p : Pk) (n : Nat) (c : Int) (hc : c.toNat ≤ 65535) : rawSum (headT p n c).data.toList = rawSum (headT p n 0).data.toList + c.toNat := by
  have hb := two_back c.toNat hc
  rw [head_list, head_list, two_list, two_list, two_list, four_list, four_list]
  simp only [List.cons_append, List.nil_append, rawSum_two]
  have z1 : (UInt8.ofNat ((0 : Int).toNat / 256)).toNat = 0 := rfl
  have z2 : (UInt8.ofNat ((0 : Int).toNat % 256)).toNat = 0 := rfl
  rw [z1, z2]
  omega
theorem cut_head20 (p : Pk) : ∃ n : Nat, (bytesOf p).extract 0 20 = headT p n (checkAns (headT p n 0)) := by
  refine ⟨(tailT p (checkT p).toNat).size, of_list ?_⟩
  rw [ext_list]
  unfold bytesOf
  rw [ByteArray.data_append, Array.toList_append, List.drop_zero, List.take_append, head_len, List.take_of_length_le (by rw [head_len]; omega)]
  simp
theorem head_good (p : Pk) : goodAns ((bytesOf p).extract 0 20) = true := by
  obtain ⟨n, e⟩ := cut_head20 p
  rw [e]
  have hs : ∀ c, ¬ 8000 < (headT p n c).size := fun c => by rw [headT_size]; omega
  have hle := foldN_le (rawSum (headT p n 0).data.toList)
  have hc : checkAns (headT p n 0) = 65535 - (foldN (rawSum (headT p n 0).data.toList) : Int) := by unfold checkAns sumAns; rw [if_neg (hs 0), if_neg (hs 0)]
  unfold goodAns sumAns
  rw [if_neg (hs _), head_sum _ _ _ (by rw [hc]; omega), hc]
  have ht : (65535 - (foldN (rawSum (headT p n 0).data.toList) : Int)).toNat = 65535 - foldN (rawSum (headT p n 0).data.toList) := by omega
  rw [ht, foldN_good]
  rfl
end Go.Proofs.YtedknnkdnccfmaaGreatDoor
end
