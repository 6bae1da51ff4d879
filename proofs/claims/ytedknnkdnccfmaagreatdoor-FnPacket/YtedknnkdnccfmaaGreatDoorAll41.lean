/- Proved here: nothing of a program: what is scanned of a text is what is read of it, and two texts without their checks are the same just where they are so with these words as 0. · Proved here: impl.packetAnswer answers the packet with the code of the error; all old memory stays (condition: what codeOf answers is told). -/
import Derived.Test.YtedknnkdnccfmaaGreatDoorAll23
import Derived.Test.YtedknnkdnccfmaaGreatDoorAll33
import Derived.Test.YtedknnkdnccfmaaGreatDoorAll17
import Derived.Test.YtedknnkdnccfmaaGreatDoorAll38
import Derived.Test.YtedknnkdnccfmaaGreatDoorSents
import Derived.Test.YtedknnkdnccfmaaGreatDoorAll6
section
namespace Go.Proofs.YtedknnkdnccfmaaGreatDoor
open Go.ChangeShapes Go.WideShapes Go.ChangeAt Go.RowKit
set_option linter.unusedVariables false

theorem scan_read (s : ByteArray) (h1 : 28 ≤ s.size) (hp : byteN s 9 = 6 ∧ 40 ≤ s.size ∨ byteN s 9 = 17 ∨ byteN s 9 = 1) : scanPk s = readPk s := by
  unfold scanPk scanOf readPk
  simp only [numN_one, numN_two, numN_four, byteN_ext, word2_ext, word4_ext]
  rcases hp with ⟨h6, h40⟩ | h17 | h1'
  · rw [if_pos h6, if_pos h6, if_neg (by omega), body_ext s 20 20 h40, h6]; rfl
  · rw [if_neg (by omega), if_pos h17, if_neg (by omega), if_pos h17, body_ext s 20 8 h1, h17]; rfl
  · rw [if_neg (by omega), if_neg (by omega), if_pos h1', if_neg (by omega), if_neg (by omega), body_ext s 20 8 h1, h1']; rfl
theorem scan_short (s : ByteArray) (h : s.size < 40) (h6 : byteN s 9 = 6) : (scanPk s).body.size = 0 := by
  unfold scanPk scanOf
  rw [numN_one, if_pos h6]
  simp; omega

theorem putAt_fit (m l : List UInt8) (k : Nat) (h : k < l.length) (h2 : m.length ≤ l.length - k) : putAt m l k = over l k m := by
  unfold putAt; rw [if_pos h, List.take_of_length_le h2]
/-- a text with two words as 0 -/
theorem put_two (l : List UInt8) (k : Nat) (h12 : 12 ≤ k) (hk : k + 2 ≤ l.length) :
    putAll (twoT 0).data.toList l [10, k] = l.take 10 ++ [0, 0] ++ (l.drop 12).take (k - 12) ++ [0, 0] ++ l.drop (k + 2) := by
  have z : (twoT 0).data.toList = [0, 0] := rfl
  have e1 : putAt [0, 0] l 10 = l.take 10 ++ [0, 0] ++ l.drop 12 := putAt_fit [0, 0] l 10 (by omega) (by show 2 ≤ _; omega)
  have hl : (putAt [0, 0] l 10).length = l.length := putAt_length _ _ _
  show putAt (twoT 0).data.toList (putAt (twoT 0).data.toList l 10) k = _
  rw [z]
  have e2 : putAt [0, 0] (putAt [0, 0] l 10) k = (putAt [0, 0] l 10).take k ++ [0, 0] ++ (putAt [0, 0] l 10).drop (k + 2) := putAt_fit [0, 0] _ k (by omega) (by show 2 ≤ _; omega)
  rw [e2, e1]
  have hA : (l.take 10 ++ [0, 0]).length = 12 := by simp; omega
  have t1 : (l.take 10 ++ [0, 0] ++ l.drop 12).take k = l.take 10 ++ [0, 0] ++ (l.drop 12).take (k - 12) := by
    rw [List.take_append, hA, List.take_of_length_le (by omega)]
  have t2 : (l.take 10 ++ [0, 0] ++ l.drop 12).drop (k + 2) = l.drop (k + 2) := by
    rw [List.drop_append, hA, List.drop_eq_nil_of_le (by omega), List.nil_append, List.drop_drop]
    congr 1; omega
  rw [t1, t2]
theorem blank_list (s : ByteArray) (k : Nat) (h12 : 12 ≤ k) (hk : k + 2 ≤ s.size) : (blankT s k).toList = s.data.toList.take 10 ++ (s.data.toList.drop 12).take (k - 12) ++ s.data.toList.drop (k + 2) := by
  rw [ByteArray.toList_eq]
  unfold blankT
  rw [ByteArray.data_append, ByteArray.data_append, Array.toList_append, Array.toList_append, ext_list, ext_list, ext_list]
  congr 1
  exact List.take_of_length_le (by simp)
theorem put_blank (a s : ByteArray) (k : Nat) (h12 : 12 ≤ k) (hk : k + 2 ≤ a.size) :
    putAll (twoT 0).data.toList a.data.toList [10, k] = putAll (twoT 0).data.toList s.data.toList [10, k] ↔ a.size = s.size ∧ (blankT a k).toList = (blankT s k).toList := by
  have ha : a.data.toList.length = a.size := by simp
  have hs : s.data.toList.length = s.size := by simp
  constructor
  · intro h
    have hl : a.size = s.size := by
      have := congrArg List.length h
      rw [putAll_length, putAll_length, ha, hs] at this
      exact this
    refine ⟨hl, ?_⟩
    rw [put_two _ k h12 (by omega), put_two _ k h12 (by omega)] at h
    rw [blank_list a k h12 (by omega), blank_list s k h12 (by omega)]
    obtain ⟨h, h5⟩ := List.append_inj h (by simp; omega)
    obtain ⟨h, _⟩ := List.append_inj h (by simp; omega)
    obtain ⟨h, h3⟩ := List.append_inj h (by simp; omega)
    obtain ⟨h, _⟩ := List.append_inj h (by simp; omega)
    rw [h, h3, h5]
  · rintro ⟨hl, h⟩
    rw [blank_list a k h12 (by omega), blank_list s k h12 (by omega)] at h
    rw [put_two _ k h12 (by omega), put_two _ k h12 (by omega)]
    obtain ⟨h, h5⟩ := List.append_inj h (by simp; omega)
    obtain ⟨h, h3⟩ := List.append_inj h (by simp; omega)
    rw [h, h3, h5]
theorem put_length_ne (a s : ByteArray) (ks : List Nat) (h : a.size ≠ s.size) : (putAll (twoT 0).data.toList a.data.toList ks == putAll (twoT 0).data.toList s.data.toList ks) = false := by
  rw [beq_eq_false_iff_ne]
  intro e
  have := congrArg List.length e
  rw [putAll_length, putAll_length] at this
  exact h (by simpa using this)
theorem place_ge (n : Int) : 12 ≤ placeN n := by unfold placeN; split; omega; split <;> omega
theorem place_le (n : Int) : placeN n ≤ 100 := by unfold placeN; split; omega; split <;> omega
theorem bytesAns_no {p : Pk} (h : rightB p = false) : bytesAns p = ⟨#[]⟩ := if_neg (by rw [h]; simp)
theorem bytesAns_yes {p : Pk} (h : rightB p = true) : bytesAns p = bytesOf p := if_pos h
theorem codeOf_no {p : Pk} {s : ByteArray} (h : rightB p = false) : codeOf p s = 3 := if_pos h

/-- what readPacket finds is what is to be answered -/
theorem read_eq (s : ByteArray) (h1 : 28 ≤ s.size) (hs : s.size ≤ 8000) (b1 b2 : Bool)
    (hb1 : (putAll (twoT 0).data.toList (bytesAns (scanPk s)).data.toList [10, placeN (scanPk s).proto] == putAll (twoT 0).data.toList s.data.toList [10, placeN (scanPk s).proto]) = b1)
    (hb2 : ((bytesAns (scanPk s)).toList == s.toList) = b2) :
    (b1 = false → readC s = 3 ∧ readP s = zeroPk) ∧ (b1 = true → b2 = false → readC s = 5 ∧ readP s = zeroPk) ∧ (b1 = true → b2 = true → readC s = 0 ∧ readP s = scanPk s) := by
  have eC : readC s = codeOf (readPk s) s := by unfold readC; rw [if_neg (by omega), if_neg (by omega)]
  have eP : readP s = pkOf (readPk s) s := if_neg (by omega)
  rw [eC, eP]
  have hz : ∀ c, c ≠ 0 → codeOf (readPk s) s = c → pkOf (readPk s) s = zeroPk := fun c hc h => if_neg (by rw [h]; exact hc)
  -- where the two answers are both 'syntax'
  have bad : codeOf (readPk s) s = 3 → (bytesAns (scanPk s)).size ≠ s.size → (b1 = false → codeOf (readPk s) s = 3 ∧ pkOf (readPk s) s = zeroPk) ∧ (b1 = true → b2 = false → codeOf (readPk s) s = 5 ∧ pkOf (readPk s) s = zeroPk) ∧ (b1 = true → b2 = true → codeOf (readPk s) s = 0 ∧ pkOf (readPk s) s = scanPk s) := by
    intro h3 hne
    rw [put_length_ne _ _ _ hne] at hb1
    subst hb1
    exact ⟨fun _ => ⟨h3, hz 3 (by decide) h3⟩, fun h _ => absurd h (by decide), fun h _ => absurd h (by decide)⟩
  have e0 : (⟨#[]⟩ : ByteArray).size = 0 := rfl
  by_cases hp : byteN s 9 = 6 ∧ 40 ≤ s.size ∨ byteN s 9 = 17 ∨ byteN s 9 = 1
  · have e := scan_read s h1 hp
    rw [e] at hb1 hb2 bad ⊢
    cases hr : rightB (readPk s)
    · exact bad (codeOf_no hr) (by rw [bytesAns_no hr, e0]; omega)
    · rw [bytesAns_yes hr] at hb1 hb2 bad
      have hpl := bytesOf_place (fine_of hr)
      have hiff := put_blank (bytesOf (readPk s)) s (placeN (readPk s).proto) (place_ge _) hpl
      have hcode : codeOf (readPk s) s = if (bytesOf (readPk s)).size ≠ s.size ∨ ((blankT (bytesOf (readPk s)) (placeN (readPk s).proto)).toList == (blankT s (placeN (readPk s).proto)).toList) = false then 3 else if ((bytesOf (readPk s)).toList == s.toList) = false then 5 else 0 := if_neg (by rw [hr]; simp)
      cases b1
      · have hno := beq_eq_false_iff_ne.1 hb1
        have h3 : codeOf (readPk s) s = 3 := by
          rw [hcode]
          refine if_pos ?_
          by_cases hsz : (bytesOf (readPk s)).size = s.size
          · right
            rw [beq_eq_false_iff_ne]
            exact fun e => hno (hiff.2 ⟨hsz, e⟩)
          · exact .inl hsz
        exact ⟨fun _ => ⟨h3, hz 3 (by decide) h3⟩, fun h _ => absurd h (by decide), fun h _ => absurd h (by decide)⟩
      · obtain ⟨hsz, hbl⟩ := hiff.1 (beq_iff_eq.1 hb1)
        rw [if_neg (by rw [hbl]; simp [hsz]), hb2] at hcode
        refine ⟨fun h => absurd h (by decide), fun _ h2 => ?_, fun _ h2 => ?_⟩
        · subst h2
          have h5 : codeOf (readPk s) s = 5 := by rw [hcode]; rfl
          exact ⟨h5, hz 5 (by decide) h5⟩
        · subst h2
          have h0 : codeOf (readPk s) s = 0 := by rw [hcode]; rfl
          exact ⟨h0, if_pos h0⟩
  · by_cases h6 : byteN s 9 = 6
    · have hlt : s.size < 40 := by omega
      have hrz : rightB (readPk s) = false := by
        have : readPk s = ⟨0, 0, 0, 0, 0, 0, 0, 0, 0, ⟨#[]⟩⟩ := by unfold readPk; rw [if_pos h6, if_pos hlt]
        rw [this]; rfl
      refine bad (codeOf_no hrz) ?_
      cases hr : rightB (scanPk s)
      · rw [bytesAns_no hr, e0]; omega
      · rw [bytesAns_yes hr]
        have := bytesOf_place (fine_of hr)
        have hpr := scan_proto s
        rw [hpr, h6] at this
        have hpl : placeN ((6 : Nat) : Int) = 36 := rfl
        have hB : 40 ≤ (bytesOf (scanPk s)).size := by
          unfold bytesOf
          rw [ByteArray.size_append, headT_size]
          have h2 : 20 ≤ (tailT (scanPk s) (checkT (scanPk s)).toNat).size := by
            unfold tailT
            rw [if_pos (by rw [hpr, h6]; rfl)]
            simp only [ByteArray.size_append, twoT_size, fourT_size, rowT_size, List.length_cons, List.length_nil]
            have : (⟨#[0, 0]⟩ : ByteArray).size = 2 := rfl
            omega
          omega
        omega
    · have h17 : byteN s 9 ≠ 17 := fun h => hp (.inr (.inl h))
      have h1' : byteN s 9 ≠ 1 := fun h => hp (.inr (.inr h))
      have hr : rightB (scanPk s) = false := right_none _ (by rw [scan_proto]; omega) (by rw [scan_proto]; omega) (by rw [scan_proto]; omega)
      have hr2 : rightB (readPk s) = false := by
        have : (readPk s).proto = (byteN s 9 : Int) := by unfold readPk; rw [if_neg h6, if_neg h17]
        exact right_none _ (by rw [this]; omega) (by rw [this]; omega) (by rw [this]; omega)
      exact bad (codeOf_no hr2) (by rw [bytesAns_no hr, e0]; omega)
end Go.Proofs.YtedknnkdnccfmaaGreatDoor
end

section
namespace Go.Proofs.YtedknnkdnccfmaaGreatDoor
open Go.ChangeShapes Go.WideShapes Go.ChangeAt Go.RowKit
set_option linter.unusedVariables false
set_option linter.unusedSimpArgs false

set_option maxHeartbeats 2000000 in
theorem packAns_x (p : Pk) (err : Value) (c : Int) (w : World) (hCO : ∀ W, Below w.heap.size w W → Calls Tryz.prog 94 #[err] W fun e w' => e = .returned (.int .i64 c) ∧ Below W.heap.size W w') :
    Calls Tryz.prog 49 #[.agg #[.int .i64 p.src, .int .i64 p.dst, .int .i64 p.proto, .int .i64 p.a, .int .i64 p.b, .int .i64 p.kind, .int .i64 p.flags, .int .i64 p.seq, .int .i64 p.ack, .string p.body], err] w fun e w' => e = .returned (.agg #[.int .i64 p.src, .int .i64 p.dst, .int .i64 p.proto, .int .i64 p.a, .int .i64 p.b, .int .i64 p.kind, .int .i64 p.flags, .int .i64 p.seq, .int .i64 p.ack, .string p.body, .int .i64 (c)]) ∧ Below w.heap.size w w' := by
  have HCO := hidS hCO
  clear hCO
  have HP : Hid (PkAt w.heap.size p ((w.alloc (.cells #[.int .i64 p.src, .int .i64 p.dst, .int .i64 p.proto, .int .i64 p.a, .int .i64 p.b, .int .i64 p.kind, .int .i64 p.flags, .int .i64 p.seq, .int .i64 p.ack, .string p.body] 24)).alloc (.cells #[.int .i64 0, .int .i64 0, .int .i64 0, .int .i64 0, .int .i64 0, .int .i64 0, .int .i64 0, .int .i64 0, .int .i64 0, .string ⟨#[]⟩, .int .i64 0] 29))) := (PkAt.new p w).later ((Below.refl _ _).alloc (Nat.le_refl _) _)
  have hG : ((w.alloc (.cells #[.int .i64 p.src, .int .i64 p.dst, .int .i64 p.proto, .int .i64 p.a, .int .i64 p.b, .int .i64 p.kind, .int .i64 p.flags, .int .i64 p.seq, .int .i64 p.ack, .string p.body] 24)).alloc (.cells #[.int .i64 0, .int .i64 0, .int .i64 0, .int .i64 0, .int .i64 0, .int .i64 0, .int .i64 0, .int .i64 0, .int .i64 0, .string ⟨#[]⟩, .int .i64 0] 29)).heap[w.heap.size + 1]? = some (.cells #[.int .i64 0, .int .i64 0, .int .i64 0, .int .i64 0, .int .i64 0, .int .i64 0, .int .i64 0, .int .i64 0, .int .i64 0, .string ⟨#[]⟩, .int .i64 0] 29) := by
    have := heap_newG (w.alloc (.cells #[.int .i64 p.src, .int .i64 p.dst, .int .i64 p.proto, .int .i64 p.a, .int .i64 p.b, .int .i64 p.kind, .int .i64 p.flags, .int .i64 p.seq, .int .i64 p.ack, .string p.body] 24)) (.cells #[.int .i64 0, .int .i64 0, .int .i64 0, .int .i64 0, .int .i64 0, .int .i64 0, .int .i64 0, .int .i64 0, .int .i64 0, .string ⟨#[]⟩, .int .i64 0] 29)
    simpa using this
  have hB1 := hidS (((Below.refl w.heap.size w).alloc (Nat.le_refl _) (.cells #[.int .i64 p.src, .int .i64 p.dst, .int .i64 p.proto, .int .i64 p.a, .int .i64 p.b, .int .i64 p.kind, .int .i64 p.flags, .int .i64 p.seq, .int .i64 p.ack, .string p.body] 24)).alloc (by simp) (.cells #[.int .i64 0, .int .i64 0, .int .i64 0, .int .i64 0, .int .i64 0, .int .i64 0, .int .i64 0, .int .i64 0, .int .i64 0, .string ⟨#[]⟩, .int .i64 0] 29))
  have HG := hidS hG
  clear hG
  go_enter Tryz.func49, Tryz.ntmps49
  go_wp2_with fail
  generalize (w.alloc (.cells #[.int .i64 p.src, .int .i64 p.dst, .int .i64 p.proto, .int .i64 p.a, .int .i64 p.b, .int .i64 p.kind, .int .i64 p.flags, .int .i64 p.seq, .int .i64 p.ack, .string p.body] 24)).alloc (.cells #[.int .i64 0, .int .i64 0, .int .i64 0, .int .i64 0, .int .i64 0, .int .i64 0, .int .i64 0, .int .i64 0, .int .i64 0, .string ⟨#[]⟩, .int .i64 0] 29) = w1 at HP hB1 HG ⊢
  refine grow_into 4 _ [.is (.agg #[.int .i64 p.src, .int .i64 p.dst, .int .i64 p.proto, .int .i64 p.a, .int .i64 p.b, .int .i64 p.kind, .int .i64 p.flags, .int .i64 p.seq, .int .i64 p.ack, .string p.body]), .is (err), .is (.int .i64 (c)), .is (.agg #[.int .i64 p.src, .int .i64 p.dst, .int .i64 p.proto, .int .i64 p.a, .int .i64 p.b, .int .i64 p.kind, .int .i64 p.flags, .int .i64 p.seq, .int .i64 p.ack, .string p.body, .int .i64 (c)])] 3 4 8 29 29 ((w.heap.size + 1)) #[.int .i64 0, .int .i64 0, .int .i64 0, .int .i64 0, .int .i64 0, .int .i64 0, .int .i64 0, .int .i64 0, .int .i64 0, .string ⟨#[]⟩, .int .i64 0] #[.int .i64 p.src, .int .i64 p.dst, .int .i64 p.proto, .int .i64 p.a, .int .i64 p.b, .int .i64 p.kind, .int .i64 p.flags, .int .i64 p.seq, .int .i64 p.ack, .string p.body, .int .i64 (c)] rfl rfl rfl (by kernel_rfl) (by kernel_rfl) (by kernel_rfl) rfl rfl (by decide) (by kernel_rfl) (by kernel_rfl) (by decide) HG.out (by kernel_rfl) (by kernel_rfl) (by first | kernel_rfl | simp [Value.oneCell']) (by kernel_rfl) ?steps ?fin
  case steps =>
    refine ⟨?_, ?_, ?_, ?_, trivial⟩
    · refine ⟨rfl, fun v W ρ hC kc kf ks ki kd => ?_⟩
      have t2 : ρ (.tmp 2) = .pointer (some ⟨w.heap.size, 0, none⟩) := ki 2 (by decide)
      have hp := HP.out.later hC
      obtain ⟨c0, c1, c2, c3, c4, c5, c6, c7, c8, c9⟩ := hp
      simp [execOp, go_sem, t2, c0, c1, c2, c3, c4, c5, c6, c7, c8, c9]
      exact ⟨hC, Below.refl _ _, rfl⟩
    · refine ⟨rfl, fun v W ρ hC kc kf ks ki kd => ?_⟩
      have t1 : ρ (.tmp 1) = err := ki 1 (by decide)
      simp [execOp, go_sem, t1]
      exact ⟨hC, Below.refl _ _, rfl⟩
    · refine ⟨rfl, fun v W ρ hC kc kf ks ki kd => ?_⟩
      have d1 : v 1 = err := kd _ (Array.mem_of_getElem? (i := 0) rfl) rfl
      have t6 : ρ (.tmp 6) = v 1 := ks 1 6 (by decide) rfl
      rw [d1] at t6
      simp [execOp, go_sem, t6, kf]
      exact Calls.mono (HCO.out _ (hB1.out.trans (hC.mono hB1.out.size))) (fun e x h => ⟨_, h.1, hC.trans (h.2.mono hC.size), h.2, rfl⟩)
    · refine ⟨rfl, fun v W ρ hC kc kf ks ki kd => ?_⟩
      have d0 : v 0 = .agg #[.int .i64 p.src, .int .i64 p.dst, .int .i64 p.proto, .int .i64 p.a, .int .i64 p.b, .int .i64 p.kind, .int .i64 p.flags, .int .i64 p.seq, .int .i64 p.ack, .string p.body] := kd _ (Array.mem_of_getElem? (i := 0) rfl) rfl
      have t5 : ρ (.tmp 5) = v 0 := ks 0 5 (by decide) rfl
      rw [d0] at t5
      have d2 : v 2 = .int .i64 (c) := kd _ (Array.mem_of_getElem? (i := 1) rfl) rfl
      have t7 : ρ (.tmp 7) = v 2 := ks 2 7 (by decide) rfl
      rw [d2] at t7
      simp [execOp, go_sem, t5, t7]
      exact ⟨hC, Below.refl _ _, rfl⟩
  case fin =>
    intro v W hLW hgW hall
    simp [upto, Act.put]
    clear hall
    have hE := hidS (hB1.out.trans (hLW w.heap.size (by omega)))
    have hc := blk_cell hgW
    clear hLW hgW HG HP hB1 HCO
    go_wp2_with fail
    exact bodyPost_ret (v := .agg #[.int .i64 p.src, .int .i64 p.dst, .int .i64 p.proto, .int .i64 p.a, .int .i64 p.b, .int .i64 p.kind, .int .i64 p.flags, .int .i64 p.seq, .int .i64 p.ack, .string p.body, .int .i64 (c)]) (by simp [results, Tryz.results49, go_sem, hc]) rfl ⟨rfl, hE.out⟩
end Go.Proofs.YtedknnkdnccfmaaGreatDoor
end
