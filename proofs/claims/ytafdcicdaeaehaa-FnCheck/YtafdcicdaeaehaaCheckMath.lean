/- Proved here: plain facts on sums and checks of texts: a text of whole words with its check behind it is good; the sum of two texts together is that of their sums; a check turns with a word (no program of its own). -/
import Derived.Test.YtafdcicdaeaehaaCheckGood
import Derived.Test.YtafdcicdaeaehaaWordText
import Derived.Test.YtafdcicdaeaehaaCheckOf
import Derived.Test.YtafdcicdaeaehaaSumAdd
import Derived.Test.YtafdcicdaeaehaaCheckTurn
namespace Go.Proofs.Ytafdcicdaeaehaa
set_option linter.unusedVariables false

theorem app_dataS (a b : ByteArray) : (a ++ b).data.toList = a.data.toList ++ b.data.toList := by simp
theorem rawSum_wordT {n : Nat} (h : n ≤ 65535) : rawSum (wordT (n : Int)).data.toList = n := by
  have e : wordT (n : Int) = ⟨#[UInt8.ofNat ((n : Int).toNat / 256), UInt8.ofNat ((n : Int).toNat % 256)]⟩ := if_pos (wordB_iff.2 ⟨by omega, by omega⟩)
  have e0 : (UInt8.ofNat ((n : Int).toNat / 256)).toNat = n / 256 := by simp; omega
  have e1 : (UInt8.ofNat ((n : Int).toNat % 256)).toNat = n % 256 := by simp
  rw [e]
  show 256 * (UInt8.ofNat ((n : Int).toNat / 256)).toNat + (UInt8.ofNat ((n : Int).toNat % 256)).toNat + 0 = n
  rw [e0, e1]
  omega
theorem wordT_size (n : Int) : (wordT n).size ≤ 2 := by
  unfold wordT
  split
  · exact Nat.le_refl _
  · exact Nat.zero_le _
theorem wordT_empty {n : Int} (h : wordB n = false) : wordT n = ⟨#[]⟩ := if_neg (by rw [h]; simp)
theorem wordT_full {n : Int} (h : wordB n = true) : (wordT n).toList.isEmpty = false := by
  have : (wordT n).data.toList.length = 2 := by unfold wordT; rw [if_pos h]; rfl
  rw [ByteArray.toList_eq]
  cases hq : (wordT n).data.toList with
  | nil => rw [hq] at this; simp at this
  | cons x y => rfl

theorem sum_app {t u : ByteArray} (ht : t.size % 2 = 0) (hs : t.size + u.size ≤ 8000) : sumAns (t ++ u) = foldN (rawSum t.data.toList + rawSum u.data.toList) := by
  unfold sumAns
  rw [if_neg (by rw [ByteArray.size_append]; omega), app_dataS, rawSum_app (t.size / 2) _ _ (by simp; omega)]
theorem sum_one {t : ByteArray} (hs : t.size ≤ 8000) : sumAns t = foldN (rawSum t.data.toList) := if_neg (by omega)

theorem good_fact {t : ByteArray} (ht : t.size % 2 = 0) (hs : t.size ≤ 100) : goodAns (t ++ wordT (checkAns t)) = true := by
  have h1 := sum_one (t := t) (by omega)
  have h2 := foldN_le (rawSum t.data.toList)
  have e : checkAns t = ((65535 - foldN (rawSum t.data.toList) : Nat) : Int) := by unfold checkAns; rw [if_neg (by omega), h1]; omega
  have h3 := wordT_size (checkAns t)
  unfold goodAns
  rw [sum_app ht (by omega), e, rawSum_wordT (by omega), foldN_good]
  rfl
theorem add_fact {t u : ByteArray} (ht : t.size % 2 = 0) (hs : t.size + u.size ≤ 8000) : addAns (sumAns t : Nat) (sumAns u : Nat) = (sumAns (t ++ u) : Nat) := by
  have h1 := sumAns_le t
  have h2 := sumAns_le u
  unfold addAns
  rw [if_pos ⟨wordB_iff.2 ⟨by omega, by omega⟩, wordB_iff.2 ⟨by omega, by omega⟩⟩, sum_app ht hs, ← foldN_add, ← sum_one (t := t) (by omega), ← sum_one (t := u) (by omega)]
  congr 1
theorem turn_fact {t : ByteArray} {y z : Int} (ht : t.size % 2 = 0) (hs : t.size ≤ 100) (h0 : sumAns t ≠ 0) (hy : wordB y = true) (hz : wordB z = true) : turnAns (checkAns (t ++ wordT y)) y z = checkAns (t ++ wordT z) := by
  obtain ⟨n, rfl⟩ : ∃ n : Nat, y = n := ⟨y.toNat, by have := wordB_iff.1 hy; omega⟩
  obtain ⟨m, rfl⟩ : ∃ m : Nat, z = m := ⟨z.toNat, by have := wordB_iff.1 hz; omega⟩
  have hn := (wordB_iff.1 hy).2
  have hm := (wordB_iff.1 hz).2
  have k1 := wordT_size (n : Int)
  have k2 := wordT_size (m : Int)
  have h1 := sum_one (t := t) (by omega)
  have ha : rawSum t.data.toList ≠ 0 := fun e => h0 (by rw [h1, e]; rfl)
  have s1 := sum_app (t := t) (u := wordT (n : Int)) ht (by omega)
  have s2 := sum_app (t := t) (u := wordT (m : Int)) ht (by omega)
  rw [rawSum_wordT (by omega)] at s1 s2
  have c1 : checkAns (t ++ wordT (n : Int)) = 65535 - (foldN (rawSum t.data.toList + n) : Int) := by unfold checkAns; rw [if_neg (by rw [ByteArray.size_append]; omega), s1]
  have c2 : checkAns (t ++ wordT (m : Int)) = 65535 - (foldN (rawSum t.data.toList + m) : Int) := by unfold checkAns; rw [if_neg (by rw [ByteArray.size_append]; omega), s2]
  have l1 := foldN_le (rawSum t.data.toList + n)
  have key := foldN_turn (a := rawSum t.data.toList) (y := n) (z := m) ha (by omega)
  rw [c1, c2]
  unfold turnAns
  rw [if_pos ⟨wordB_iff.2 ⟨by omega, by omega⟩, hy, hz⟩, ← key]
  congr 3
  omega
end Go.Proofs.Ytafdcicdaeaehaa
