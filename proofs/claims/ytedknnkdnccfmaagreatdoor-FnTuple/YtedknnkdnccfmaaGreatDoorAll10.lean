/- Proved here: spec.l02Fold and impl.foldSum answer a sum folded into a word, and leave memory alone (condition: it is at most 2^62). · Proved here: what SumOf answers, of impl and of spec, and of impl.sumTexts of several texts: the words added up and folded; all old memory stays (conditions: a string is one; of sumTexts: at most 1000 texts of at most 100000 bytes). · Proved here: what CheckOf answers, of impl and of spec; all old memory stays (condition: a string is one). -/
import Derived.Test.YtedknnkdnccfmaaGreatDoorAll1
section
namespace Go.Proofs.YtedknnkdnccfmaaGreatDoor
open Go.ChangeShapes Go.WideShapes Go.ChangeAt Go.RowKit
open Go.ChangeMaps (open_string shut_string)
set_option linter.unusedVariables false

theorem l02Fold_any (n : Nat) (w : World) (hn : n ≤ 4611686018427387904) :
    Calls Tryz.prog 155 #[.int .i64 n] w fun e w' => e = .returned (.int .i64 (foldN n : Nat)) ∧ w' = w := by
  go_enter Tryz.func155, Tryz.ntmps155
  go_wp2
  go_loop [0] (fun v => ∃ x : Nat, v = .int .i64 x ∧ (x : Int) ≤ 4611686018427387904 ∧ Hid (foldN x = foldN n)) (fun v => (intOf v).toNat)
  case atStart => exact ⟨n, rfl, by omega, rfl⟩
  case round =>
    obtain ⟨x, rfl, hx, hX⟩ := hrel
    by_cases h : 65535 < x
    · have hX' : Hid (foldN (x % 65536 + x / 65536) = foldN n) := by rw [foldN_step h]; exact hX
      clear hX
      go_wp2
      go_round
      case rel => exact ⟨x % 65536 + x / 65536, by go_num, by omega, hX'⟩
      case measure => simp [intOf]; omega
    · have hE : Hid (x = foldN n) := by rw [← hX.out, foldN_word (by omega)]; rfl
      clear hX
      go_wp2
      go_ret
      exact ⟨ret_intS (by rw [← hE.out]), rfl⟩
theorem foldSum_any (n : Nat) (w : World) (hn : n ≤ 4611686018427387904) :
    Calls Tryz.prog 138 #[.int .i64 n] w fun e w' => e = .returned (.int .i64 (foldN n : Nat)) ∧ w' = w := by
  go_enter Tryz.func138, Tryz.ntmps138
  go_wp2
  go_loop [0] (fun v => ∃ x : Nat, v = .int .i64 x ∧ (x : Int) ≤ 4611686018427387904 ∧ Hid (foldN x = foldN n)) (fun v => (intOf v).toNat)
  case atStart => exact ⟨n, rfl, by omega, rfl⟩
  case round =>
    obtain ⟨x, rfl, hx, hX⟩ := hrel
    by_cases h : 65535 < x
    · have hX' : Hid (foldN (x % 65536 + x / 65536) = foldN n) := by rw [foldN_step h]; exact hX
      have hb := i64_low16 x (by omega)
      clear hX
      go_wp2
      go_round
      case rel => exact ⟨x % 65536 + x / 65536, by go_num, by omega, hX'⟩
      case measure => simp [intOf]; omega
    · have hE : Hid (x = foldN n) := by rw [← hX.out, foldN_word (by omega)]; rfl
      clear hX
      go_wp2
      go_ret
      exact ⟨ret_intS (by rw [← hE.out]), rfl⟩
end Go.Proofs.YtedknnkdnccfmaaGreatDoor
end

section
namespace Go.Proofs.YtedknnkdnccfmaaGreatDoor
open Go.ChangeShapes Go.WideShapes Go.ChangeAt Go.RowKit
open Go.ChangeMaps (open_string shut_string)
set_option linter.unusedVariables false

theorem wordAt_any (s : ByteArray) (k : Nat) (w : World) (hk : 2 * k < s.size) (hs : s.size ≤ 100000) :
    Calls Tryz.prog 137 #[.string s, .int .i64 k] w fun e w' => e = .returned (.int .i64 (wordN s.data.toList k : Nat)) ∧ w' = w := by
  have hk' : 2 * (k : Int) < (s.size : Int) := by omega
  have hs' : (s.size : Int) ≤ 100000 := by omega
  have b1 : s[2 * k].toNat < 256 := s[2 * k].toNat_lt
  by_cases h : 2 * k + 1 < s.size
  · have hw : Hid (bits BinOp.or IntKind.i64 ((s[2 * k].toNat : Int) * 256) (s[2 * k + 1].toNat : Int) = ((wordN s.data.toList k : Nat) : Int)) := by
      rw [i64_join8 _ _ b1 s[2 * k + 1].toNat_lt, wordN_two _ _ (by simpa using h)]; rfl
    have h' : 2 * (k : Int) + 1 < (s.size : Int) := by omega
    go_enter Tryz.func137, Tryz.ntmps137
    go_wp2
    go_ret
    exact ⟨ret_intS (by rw [w64_small s[2 * k + 1].toNat_lt]; exact hw.out), rfl⟩
  · have hw : Hid ((s[2 * k].toNat : Int) * 256 = ((wordN s.data.toList k : Nat) : Int)) := by
      rw [wordN_one _ _ (by simp; omega)]; show _ = ((256 * s[2 * k].toNat : Nat) : Int); omega
    have h' : ¬ 2 * (k : Int) + 1 < (s.size : Int) := by omega
    go_enter Tryz.func137, Tryz.ntmps137
    go_wp2
    go_ret
    exact ⟨ret_intS hw.out, rfl⟩
theorem rawSum_take_le (l : List UInt8) (k : Nat) : rawSum (l.take (2 * k)) ≤ rawSum l := by
  by_cases h : 2 * k ≤ l.length
  · have := rawSum_app k (l.take (2 * k)) (l.drop (2 * k)) (by simp; omega)
    rw [List.take_append_drop] at this
    omega
  · rw [List.take_of_length_le (by omega)]; exact Nat.le_refl _
/-- the words of several texts added up -/
def rawAll (ts : List ByteArray) : Nat := (ts.map fun t => rawSum t.data.toList).sum
theorem rawAll_snoc (ts : List ByteArray) (t : ByteArray) : rawAll (ts ++ [t]) = rawAll ts + rawSum t.data.toList := by simp [rawAll]
theorem rawAll_le (n : Nat) (ts : List ByteArray) (h : ∀ t ∈ ts, t.size ≤ 100000) (hl : ts.length ≤ n) : rawAll ts ≤ 6553500000 * n := by
  induction ts generalizing n with
  | nil => simp [rawAll]
  | cons t ts ih =>
    cases n with
    | zero => simp at hl
    | succ n =>
      have h1 := ih n (fun x hx => h x (List.mem_cons_of_mem _ hx)) (by simpa using hl)
      have h2 := rawSum_le t.data.toList.length t.data.toList (Nat.le_refl _)
      have h3 := h t List.mem_cons_self
      have h4 : t.data.toList.length = t.size := by simp
      have e : rawAll (t :: ts) = rawSum t.data.toList + rawAll ts := by simp [rawAll]
      rw [e]
      omega
set_option maxHeartbeats 1000000 in
theorem sumTexts_any (g : Nat) (ts : List ByteArray) (w : World) (hc : ∀ j, (h : j < ts.length) → w.cell? ⟨g, j, none⟩ = some (.string ts[j])) (hl : ts.length ≤ 1000) (hs : ∀ t ∈ ts, t.size ≤ 100000) :
    Calls Tryz.prog 110 #[.slice (some ⟨g, 0, none⟩) ts.length ts.length] w fun e w' => e = .returned (.int .i64 (foldN (rawAll ts) : Nat)) ∧ w' = w := by
  have HC := hidS hc
  have HS := hidS hs
  clear hc hs
  go_enter Tryz.func110, Tryz.ntmps110
  go_wp2
  go_loop [3, 9] (fun v i => ∃ k x : Nat, k ≤ ts.length ∧ i = .int .i64 k ∧ v = .int .i64 x ∧ (x : Int) ≤ 6553500000000 ∧ Hid (x = rawAll (ts.take k))) (fun _ i => ts.length - (intOf i).toNat)
  case atStart => exact ⟨0, 0, by omega, rfl, rfl, by omega, rfl⟩
  case round =>
    obtain ⟨k, x, hk, rfl, rfl, hx, hX⟩ := hrel
    by_cases h : k < ts.length
    · have h' : (k : Int) < (ts.length : Int) := by omega
      have hck := HC.out k h
      have hsz := HS.out _ (List.getElem_mem h)
      have hE : Hid (x + rawSum ts[k].data.toList = rawAll (ts.take (k + 1))) := by rw [List.take_succ_eq_append_getElem h, rawAll_snoc, ← hX.out]; rfl
      have hL : rawAll (ts.take (k + 1)) ≤ 6553500000000 := rawAll_le 1000 _ (fun t ht => HS.out t (List.mem_of_mem_take ht)) (by simp; omega)
      have hL' : x + rawSum ts[k].data.toList ≤ 6553500000000 := by rw [hE.out]; exact hL
      generalize ts[k] = t at *
      clear hX hL
      have hm : ((t.size : Int) + 1) / 2 = (((t.size + 1) / 2 : Nat) : Int) := by omega
      obtain ⟨M, hM⟩ : ∃ M, M = (t.size + 1) / 2 := ⟨_, rfl⟩
      rw [← hM] at hm
      have HM := hidS hM
      clear hM
      go_wp2
      go_loop [3, 17] (fun v i => ∃ j y : Nat, j ≤ M ∧ i = .int .i64 j ∧ v = .int .i64 y ∧ (y : Int) ≤ 6553500000000 ∧ Hid (y = x + rawSum (t.data.toList.take (2 * j)))) (fun _ i => M - (intOf i).toNat)
      case atStart => exact ⟨0, x, by omega, rfl, rfl, by omega, rfl⟩
      case round =>
        obtain ⟨j, y, hj, rfl, rfl, hy, hY⟩ := hrel
        by_cases hlt : j < M
        · have hlt' : (j : Int) < (M : Int) := by omega
          have h2 : 2 * j < t.size := by have := HM.out; omega
          have hY2 := rawSum_word t.data.toList j (by simpa using h2)
          have hw := wordN_le t.data.toList j
          have hle := rawSum_take_le t.data.toList (j + 1)
          have hYE : Hid (y + wordN t.data.toList j = x + rawSum (t.data.toList.take (2 * (j + 1)))) := by rw [hY2, hY.out]; exact Nat.add_assoc _ _ _
          have hyl : y + wordN t.data.toList j ≤ 6553500000000 := by rw [hYE.out]; omega
          clear hY hY2 hle
          go_wp2_with (go_at_call 137; refine (wordAt_any t j _ h2 hsz).mono ?_; rintro e w' ⟨rfl, rfl⟩)
          go_round
          case rel => exact ⟨j + 1, y + wordN t.data.toList j, by omega, by go_num, by go_num, by omega, hYE⟩
          case measure => simp [intOf]; omega
        · have hE2 : Hid (y = x + rawSum t.data.toList) := by have := hY.out; rw [List.take_of_length_le (by have := HM.out; simp; omega)] at this; exact this
          have hlt' : ¬ (j : Int) < (M : Int) := by omega
          clear hY
          go_wp2
          go_round
          case rel => exact ⟨k + 1, y, by omega, by go_num, rfl, by omega, by rw [hE2.out]; exact hE⟩
          case measure => simp [intOf]; omega
    · have hE : Hid (x = rawAll ts) := by have := hX.out; rw [List.take_of_length_le (by omega)] at this; exact this
      have h' : ¬ (k : Int) < (ts.length : Int) := by omega
      clear hX
      go_wp2_with (go_at_call 138; refine (foldSum_any x _ (by omega)).mono ?_; rintro e w' ⟨rfl, rfl⟩)
      go_ret
      exact ⟨ret_intS (by rw [hE.out]), rfl⟩
set_option maxHeartbeats 1000000 in
theorem specSumOf_any (s : ByteArray) (w : World) (hs : s.size ≤ maxLen) :
    Calls Tryz.prog 136 #[.string s] w fun e w' => e = .returned (.int .i64 (sumAns s : Nat)) ∧ w' = w := by
  have hs' : s.size ≤ 2 ^ 63 - 1 := hs
  by_cases h1 : 8000 < s.size
  · have e : sumAns s = 0 := if_pos h1
    rw [e]
    go_enter Tryz.func136, Tryz.ntmps136
    go_wp2
    go_ret
    exact ⟨rfl, rfl⟩
  · have e : sumAns s = foldN (rawSum s.data.toList) := if_neg h1
    rw [e]
    clear e
    go_enter Tryz.func136, Tryz.ntmps136
    go_wp2
    go_loop [3, 4] (fun v i => ∃ k x : Nat, 2 * k ≤ s.size + 1 ∧ i = .int .i64 (2 * k : Nat) ∧ v = .int .i64 x ∧ (x : Int) ≤ 65535 * 8000 ∧ Hid (x = rawSum (s.data.toList.take (2 * k)))) (fun _ i => s.size + 1 - (intOf i).toNat)
    case atStart => exact ⟨0, 0, by omega, rfl, rfl, by omega, rfl⟩
    case round =>
      obtain ⟨k, x, hk, rfl, rfl, hx, hX⟩ := hrel
      by_cases h : 2 * k < s.size
      · have h' : ((2 * k : Nat) : Int) < (s.size : Int) := by omega
        have hY2 := rawSum_word s.data.toList k (by simpa using h)
        have hle := rawSum_take_le s.data.toList (k + 1)
        have hle2 := rawSum_le s.data.toList.length s.data.toList (Nat.le_refl _)
        have hle3 : s.data.toList.length = s.size := by simp
        have hYE : Hid (x + wordN s.data.toList k = rawSum (s.data.toList.take (2 * (k + 1)))) := by rw [hY2, hX.out]; rfl
        have hyl : x + wordN s.data.toList k ≤ 65535 * 8000 := by rw [hYE.out]; omega
        have b1 : s[2 * k].toNat < 256 := s[2 * k].toNat_lt
        clear hX hY2 hle hle2 hle3
        by_cases h2 : 2 * k + 1 < s.size
        · have h2' : ((2 * k : Nat) : Int) + 1 < (s.size : Int) := by omega
          have hw : Hid (wordN s.data.toList k = 256 * s[2 * k].toNat + s[2 * k + 1].toNat) := wordN_two _ _ (by simpa using h2)
          have b2 : s[2 * k + 1].toNat < 256 := s[2 * k + 1].toNat_lt
          go_wp2
          go_round
          case rel => exact ⟨k + 1, x + wordN s.data.toList k, by omega, by go_num, by rw [hw.out]; go_num, by omega, hYE⟩
          case measure => simp [intOf]; omega
        · have h2' : ¬ ((2 * k : Nat) : Int) + 1 < (s.size : Int) := by omega
          have hw : Hid (wordN s.data.toList k = 256 * s[2 * k].toNat) := wordN_one _ _ (by simp; omega)
          go_wp2
          go_round
          case rel => exact ⟨k + 1, x + wordN s.data.toList k, by omega, by go_num, by rw [hw.out]; go_num, by omega, hYE⟩
          case measure => simp [intOf]; omega
      · have h' : ¬ ((2 * k : Nat) : Int) < (s.size : Int) := by omega
        have hE : Hid (x = rawSum s.data.toList) := by have := hX.out; rw [List.take_of_length_le (by simp; omega)] at this; exact this
        clear hX
        go_wp2_with (go_at_call 155; refine (l02Fold_any x _ (by omega)).mono ?_; rintro e w' ⟨rfl, rfl⟩)
        go_ret
        exact ⟨ret_intS (by rw [hE.out]), rfl⟩
theorem implSumOf_any (s : ByteArray) (w : World) (hs : s.size ≤ maxLen) :
    Calls Tryz.prog 66 #[.string s] w fun e w' => e = .returned (.int .i64 (sumAns s : Nat)) ∧ Below w.heap.size w w' := by
  have hs' : s.size ≤ 2 ^ 63 - 1 := hs
  by_cases h1 : 8000 < s.size
  · have e : sumAns s = 0 := if_pos h1
    rw [e]
    go_enter Tryz.func66, Tryz.ntmps66
    go_wp2
    go_ret
    exact ⟨rfl, Below.refl _ _⟩
  · have e : sumAns s = foldN (rawSum s.data.toList) := if_neg h1
    rw [e]
    clear e
    go_enter Tryz.func66, Tryz.ntmps66
    go_wp2_with fail
    refine (sumTexts_any w.heap.size [s] _ ?c (by simp) (by simp; omega)).mono ?_
    case c => intro j hj; obtain rfl : j = 0 := by simp at hj; omega
              simp
    rintro e w1 ⟨rfl, rfl⟩
    go_wp2
    go_ret
    exact ⟨ret_intS (by simp [rawAll]), (Below.refl _ _).alloc (Nat.le_refl _) _⟩
end Go.Proofs.YtedknnkdnccfmaaGreatDoor
end

section
namespace Go.Proofs.YtedknnkdnccfmaaGreatDoor
open Go.ChangeShapes Go.WideShapes Go.ChangeAt Go.RowKit
open Go.ChangeMaps (open_string shut_string)
set_option linter.unusedVariables false

theorem implCheckOf_any (s : ByteArray) (w : World) (hs : s.size ≤ maxLen) :
    Calls Tryz.prog 92 #[.string s] w fun e w' => e = .returned (.int .i64 (checkAns s)) ∧ Below w.heap.size w w' := by
  have hs' : s.size ≤ 2 ^ 63 - 1 := hs
  by_cases h1 : 8000 < s.size
  · have e : checkAns s = 0 := if_pos h1
    rw [e]
    go_enter Tryz.func92, Tryz.ntmps92
    go_wp2
    go_ret
    exact ⟨rfl, Below.refl _ _⟩
  · have e : checkAns s = 65535 - (sumAns s : Int) := if_neg h1
    rw [e]
    clear e
    have hl := sumAns_le s
    go_enter Tryz.func92, Tryz.ntmps92
    go_wp2_with fail
    refine (implSumOf_any s _ hs).mono ?_
    rintro e w1 ⟨rfl, hb⟩
    go_wp2
    go_ret
    exact ⟨rfl, hb⟩
theorem specCheckOf_any (s : ByteArray) (w : World) (hs : s.size ≤ maxLen) :
    Calls Tryz.prog 106 #[.string s] w fun e w' => e = .returned (.int .i64 (checkAns s)) ∧ w' = w := by
  have hs' : s.size ≤ 2 ^ 63 - 1 := hs
  by_cases h1 : 8000 < s.size
  · have e : checkAns s = 0 := if_pos h1
    rw [e]
    go_enter Tryz.func106, Tryz.ntmps106
    go_wp2
    go_ret
    exact ⟨rfl, rfl⟩
  · have e : checkAns s = 65535 - (sumAns s : Int) := if_neg h1
    rw [e]
    clear e
    have hl := sumAns_le s
    go_enter Tryz.func106, Tryz.ntmps106
    go_wp2_with fail
    refine (specSumOf_any s _ hs).mono ?_
    rintro e w1 ⟨rfl, rfl⟩
    go_wp2
    go_ret
    exact ⟨rfl, rfl⟩
end Go.Proofs.YtedknnkdnccfmaaGreatDoor
end
