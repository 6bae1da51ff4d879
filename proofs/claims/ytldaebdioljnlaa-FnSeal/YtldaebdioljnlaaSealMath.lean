/- Proved here: plain facts on the CRC: it differs where one byte differs, and goes on from text to text; a sealed text is one, and is none with one byte turned (functions on lists of bytes; no program). -/
import Derived.Test.YtldaebdioljnlaaUnsealCore
namespace Go.Proofs.Ytldaebdioljnlaa
open Go.RowKit

theorem crcBit_inj {a b : Nat} (ha : a < 4294967296) (hb : b < 4294967296) (h : crcBit a = crcBit b) : a = b := by
  have key : ∀ {x y : Nat}, x < 4294967296 → y < 4294967296 → x / 2 ^^^ 3988292384 = y / 2 → False := by
    intro x y hx hy e
    have h1 : x / 2 ^^^ y / 2 = 3988292384 := by rw [← e, ← Nat.xor_assoc, Nat.xor_self, Nat.zero_xor]
    have h2 : x / 2 ^^^ y / 2 < 2 ^ 31 := Nat.xor_lt_two_pow (by omega) (by omega)
    omega
  unfold crcBit at h
  by_cases h1 : a % 2 = 1
  · by_cases h2 : b % 2 = 1
    · rw [if_pos h1, if_pos h2] at h
      have h3 : a / 2 = b / 2 := by
        have := congrArg (· ^^^ 3988292384) h
        simpa [Nat.xor_assoc] using this
      omega
    · rw [if_pos h1, if_neg h2] at h
      exact (key ha hb h).elim
  · by_cases h2 : b % 2 = 1
    · rw [if_neg h1, if_pos h2] at h
      exact (key hb ha h.symm).elim
    · rw [if_neg h1, if_neg h2] at h
      omega
theorem crcBits_inj (n : Nat) {a b : Nat} (ha : a < 4294967296) (hb : b < 4294967296) (h : crcBits n a = crcBits n b) : a = b := by
  induction n with
  | zero => exact h
  | succ n ih => exact ih (crcBit_inj (crcBits_lt n ha) (crcBits_lt n hb) h)
theorem xor_cancel_right {a b c : Nat} (h : a ^^^ c = b ^^^ c) : a = b := by
  have := congrArg (· ^^^ c) h
  simpa [Nat.xor_assoc] using this
theorem xor_cancel_left {a b c : Nat} (h : c ^^^ a = c ^^^ b) : a = b := by
  rw [Nat.xor_comm c a, Nat.xor_comm c b] at h
  exact xor_cancel_right h
theorem crcB_inj {r r' c c' : Nat} (hr : r < 4294967296) (hr' : r' < 4294967296) (hc : c < 256) (hc' : c' < 256) (h : crcB r c = crcB r' c') : r ^^^ c = r' ^^^ c' :=
  crcBits_inj 8 (Nat.xor_lt_two_pow (n := 32) (by omega) (by omega)) (Nat.xor_lt_two_pow (n := 32) (by omega) (by omega)) h
theorem crcRun_inj (l : List UInt8) {r r' : Nat} (hr : r < 4294967296) (hr' : r' < 4294967296) (h : crcRun r l = crcRun r' l) : r = r' := by
  induction l generalizing r r' with
  | nil => exact h
  | cons c l ih =>
    have hc : c.toNat < 256 := c.toNat_lt
    have := ih (crcB_lt hr hc) (crcB_lt hr' hc) h
    exact xor_cancel_right (crcB_inj hr hr' hc hc this)
theorem crcRun_append (r : Nat) (l m : List UInt8) : crcRun r (l ++ m) = crcRun (crcRun r l) m := by simp [crcRun]
theorem crcRun_one {r : Nat} (hr : r < 4294967296) (l m : List UInt8) (c d : UInt8) (h : crcRun r (l ++ c :: m) = crcRun r (l ++ d :: m)) : c = d := by
  rw [crcRun_append, crcRun_append] at h
  have hl := crcRun_lt l hr
  have hc : c.toNat < 256 := c.toNat_lt
  have hd : d.toNat < 256 := d.toNat_lt
  have h2 := crcRun_inj m (crcB_lt hl hc) (crcB_lt hl hd) h
  have h3 := xor_cancel_left (crcB_inj hl hl hc hd h2)
  exact UInt8.toNat_inj.1 h3
theorem crcOf_one (l m : List UInt8) (c d : UInt8) (h : crcOf 0 (l ++ c :: m) = crcOf 0 (l ++ d :: m)) : c = d :=
  crcRun_one (by rw [Nat.zero_xor]; omega) l m c d (xor_cancel_right h)
theorem crcOf_on (l m : List UInt8) : crcOf (crcOf 0 l) m = crcOf 0 (l ++ m) := by
  unfold crcOf
  rw [Nat.xor_assoc, Nat.xor_self, Nat.xor_zero, crcRun_append]
theorem four_inj {a b : Nat} (ha : a < 4294967296) (hb : b < 4294967296) (h : four a = four b) : a = b := by
  unfold four at h
  simp only [List.cons.injEq, and_true] at h
  obtain ⟨h1, h2, h3, h4⟩ := h
  have e1 := congrArg UInt8.toNat h1
  have e2 := congrArg UInt8.toNat h2
  have e3 := congrArg UInt8.toNat h3
  have e4 := congrArg UInt8.toNat h4
  simp at e1 e2 e3 e4
  omega
theorem four_len (n : Nat) : (four n).length = 4 := rfl

/-- a text that begins with h and ends in the four bytes f -/
theorem sealed_of {s : ByteArray} {h f : List UInt8} (hs : s.data.toList = h ++ f) (hf : f.length = 4) : sealedB s = (four (crcOf 0 h) == f) := by
  have hsz : s.size = h.length + 4 := by have := congrArg List.length hs; simpa [hf] using this
  unfold sealedB
  have e1 : (s.extract 0 (s.size - 4)).data.toList = h := by
    rw [Lib.extract_data, hs, hsz]
    simp
  have e2 : (s.extract (s.size - 4) s.size).toList = f := by
    rw [Lib.extract_toList, hs, hsz]
    simp
    exact List.take_of_length_le (by omega)
  rw [e1, e2]
theorem seal_good {t : ByteArray} (h : ¬ 7996 < t.size) : sealedB (sealB t) = true ∧ (sealB t).size = t.size + 4 ∧ (sealB t).extract 0 ((sealB t).size - 4) = t := by
  have e : sealB t = t ++ ⟨(four (crcOf 0 t.data.toList)).toArray⟩ := if_neg h
  have hl : (sealB t).data.toList = t.data.toList ++ four (crcOf 0 t.data.toList) := by rw [e, app_data]
  have hsz : (sealB t).size = t.size + 4 := by have := congrArg List.length hl; simpa [four_len] using this
  refine ⟨by rw [sealed_of hl (four_len _)]; simp, hsz, ?_⟩
  apply ByteArray.ext
  apply Array.toList_inj.1
  rw [Lib.extract_data, hl, hsz]
  have : t.data.toList.length = t.size := by simp
  simp [this]
/-- one byte turned: no seal -/
theorem turned_bad {t s' : ByteArray} (h : ¬ 7996 < t.size) {l m : List UInt8} {c d : UInt8} (hs : (sealB t).data.toList = l ++ c :: m) (hs' : s'.data.toList = l ++ d :: m) (hne : c ≠ d) : sealedB s' = false := by
  have e : sealB t = t ++ ⟨(four (crcOf 0 t.data.toList)).toArray⟩ := if_neg h
  have hl : (sealB t).data.toList = t.data.toList ++ four (crcOf 0 t.data.toList) := by rw [e, app_data]
  rw [hl] at hs
  generalize t.data.toList = x at hs
  rcases List.append_eq_append_iff.1 hs with ⟨y, h1, h2⟩ | ⟨y, h1, h2⟩
  · -- the turned byte is one of the last four
    have hf : (y ++ d :: m).length = 4 := by have := congrArg List.length h2; simp [four_len] at this ⊢; omega
    have hs2 : s'.data.toList = x ++ (y ++ d :: m) := by rw [hs', h1, List.append_assoc]
    rw [sealed_of hs2 hf, h2]
    refine beq_eq_false_iff_ne.2 (fun e => hne ?_)
    have := List.append_cancel_left e
    simpa using congrArg List.head? this
  · cases y with
    | nil =>
      simp at h1 h2
      have hf : (d :: m).length = 4 := by have := congrArg List.length h2; simp [four_len] at this ⊢; omega
      have hs2 : s'.data.toList = x ++ (d :: m) := by rw [hs', h1]
      rw [sealed_of hs2 hf, ← h2]
      exact beq_eq_false_iff_ne.2 (fun e => hne (by simpa using congrArg List.head? e))
    | cons c' y' =>
      simp at h2
      obtain ⟨rfl, h3⟩ := h2
      have hs2 : s'.data.toList = (l ++ d :: y') ++ four (crcOf 0 x) := by rw [hs', h3]; simp
      rw [sealed_of hs2 (four_len _)]
      refine beq_eq_false_iff_ne.2 (fun e => hne ?_)
      have hx : x = l ++ c :: y' := h1
      have h5 := four_inj (crcOf_lt 0 _ (by omega)) (crcOf_lt 0 _ (by omega)) e
      rw [hx] at h5
      exact (crcOf_one l y' d c h5).symm
end Go.Proofs.Ytldaebdioljnlaa
