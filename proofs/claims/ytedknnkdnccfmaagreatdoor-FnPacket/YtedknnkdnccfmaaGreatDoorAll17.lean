/- Proved here: spec.l03Place answers the place of a check, spec.l03Blank a packet's text without both checks; memory stays (conditions: the text reaches behind the second check, at most 8000 bytes). · Proved here: spec.PacketRead answers the packet whose bytes a text is, or why it is none; all old memory stays (condition: the text is a string). -/
import Derived.Test.YtedknnkdnccfmaaGreatDoorAll15
import Derived.Test.YtedknnkdnccfmaaGreatDoorRead3
import Derived.Test.YtedknnkdnccfmaaGreatDoorAll11
import Derived.Test.YtedknnkdnccfmaaGreatDoorRightSpec
import Derived.Deep.RegionHeld3
section
namespace Go.Proofs.YtedknnkdnccfmaaGreatDoor
open Go.ChangeShapes Go.WideShapes Go.ChangeAt Go.RowKit
set_option linter.unusedVariables false

/-- the place of the check behind the head -/
def placeN (proto : Int) : Nat := if proto = 6 then 36 else if proto = 17 then 26 else 22
theorem l03Place_any (n : Int) (w : World) :
    Calls Tryz.prog 109 #[.int .i64 n] w fun e w' => e = .returned (.int .i64 (placeN n : Nat)) ∧ w' = w := by
  by_cases h6 : n = 6
  · subst h6
    go_enter Tryz.func109, Tryz.ntmps109
    go_wp2
    go_ret
    exact ⟨rfl, rfl⟩
  by_cases h17 : n = 17
  · subst h17
    go_enter Tryz.func109, Tryz.ntmps109
    go_wp2
    go_ret
    exact ⟨rfl, rfl⟩
  · have e : Hid (placeN n = 22) := by unfold placeN; rw [if_neg h6, if_neg h17]; rfl
    have h6' : (n == 6) = false := beq_eq_false_iff_ne.2 h6
    have h17' : (n == 17) = false := beq_eq_false_iff_ne.2 h17
    clear h6 h17
    go_enter Tryz.func109, Tryz.ntmps109
    go_wp2
    go_ret
    exact ⟨by rw [e.out]; rfl, rfl⟩

/-- a packet's text without both checks -/
def blankT (s : ByteArray) (k : Nat) : ByteArray := s.extract 0 10 ++ s.extract 12 k ++ s.extract (k + 2) s.size
theorem l03Blank_any (s : ByteArray) (n : Int) (w : World) (hk : placeN n + 2 ≤ s.size) (hs : s.size ≤ 8000) :
    Calls Tryz.prog 63 #[.string s, .int .i64 n] w fun e w' => e = .returned (.string (blankT s (placeN n))) ∧ Below w.heap.size w w' := by
  have hs' : (s.size : Int) ≤ 8000 := by omega
  have e1 : (s.extract 0 10).size ≤ 8000 := by simp; omega
  rcases (by unfold placeN; split; simp; split <;> simp : placeN n = 36 ∨ placeN n = 26 ∨ placeN n = 22) with hp | hp | hp
  all_goals
    have HE := hidS hp
    have hP := hidS (fun W => l03Place_any n W)
    rw [hp] at hk hP
    have hk' : (24 : Int) ≤ (s.size : Int) := by omega
    have hk1 : 10 ≤ s.size := by omega
    have hk2 := hk
    clear hp
    go_enter Tryz.func63, Tryz.ntmps63
    go_wp2_with fail
    refine (hP.out _).mono ?_
    rintro _ w1 ⟨rfl, rfl⟩
    clear hP
    go_wp2_with fail
    go_region
    go_wp2
    go_ret
    exact ⟨by rw [HE.out]; rfl, (Below.refl _ _).drew⟩
end Go.Proofs.YtedknnkdnccfmaaGreatDoor
end

section
namespace Go.Proofs.YtedknnkdnccfmaaGreatDoor
open Go.ChangeShapes Go.WideShapes Go.ChangeAt Go.RowKit
set_option linter.unusedVariables false
set_option maxRecDepth 100000

theorem bytesOf_place {p : Pk} (h : Fine p) : placeN p.proto + 2 ≤ (bytesOf p).size := by
  have hz : (bytesOf p).size = 20 + (tailT p (checkT p).toNat).size := by unfold bytesOf; rw [ByteArray.size_append, headT_size]
  rw [hz]
  generalize (checkT p).toNat = c
  have h2 : (⟨#[0, 0]⟩ : ByteArray).size = 2 := rfl
  rcases h.proto with q | q | q
  · have e : placeN p.proto = 36 := by unfold placeN; rw [if_pos q]
    have e2 : (tailT p c).size = 20 + p.body.size := by
      unfold tailT; rw [if_pos q]
      simp only [ByteArray.size_append, twoT_size, fourT_size, rowT_size, List.length_cons, List.length_nil, h2]
    omega
  · have e : placeN p.proto = 26 := by unfold placeN; rw [if_neg (by omega), if_pos q]
    have e2 : (tailT p c).size = 8 + p.body.size := by
      unfold tailT; rw [if_neg (by omega), if_pos q]
      simp only [ByteArray.size_append, twoT_size]
    omega
  · have e : placeN p.proto = 22 := by unfold placeN; rw [if_neg (by omega), if_neg (by omega)]
    have e2 : (tailT p c).size = 8 + p.body.size := by
      unfold tailT; rw [if_neg (by omega), if_neg (by omega)]
      split <;> simp only [ByteArray.size_append, twoT_size, rowT_size, List.length_cons, List.length_nil]
    omega
theorem bytesOf_small {p : Pk} (h : Fine p) : (bytesOf p).size ≤ 140 := by
  have hz : (bytesOf p).size = 20 + (tailT p (checkT p).toNat).size := by unfold bytesOf; rw [ByteArray.size_append, headT_size]
  have := h.small (checkT p).toNat
  omega
theorem readPk_body (s : ByteArray) : (readPk s).body.size ≤ s.size := by
  unfold readPk
  split
  · split
    · exact Nat.zero_le _
    · simp
  · split <;> simp

/-- the code that PacketRead is to answer for a text of 28 to 8000 bytes -/
def codeOf (p : Pk) (s : ByteArray) : Int :=
  if rightB p = false then 3
  else if (bytesOf p).size ≠ s.size ∨ ((blankT (bytesOf p) (placeN p.proto)).toList == (blankT s (placeN p.proto)).toList) = false then 3
  else if ((bytesOf p).toList == s.toList) = false then 5 else 0
/-- .. and the packet beside it -/
def pkOf (p : Pk) (s : ByteArray) : Pk := if codeOf p s = 0 then p else zeroPk
/-- what PacketRead is to answer -/
def readC (s : ByteArray) : Int := if 8000 < s.size then 2 else if s.size < 28 then 4 else codeOf (readPk s) s
def readP (s : ByteArray) : Pk := if 8000 < s.size ∨ s.size < 28 then zeroPk else pkOf (readPk s) s

theorem Two3.later {g k : Nat} {v : Value} {W0 W W' : World} (h : W.cell? ⟨g, k, none⟩ = some v ∧ Below W0.heap.size W0 W) (hb : Below W.heap.size W W') : W'.cell? ⟨g, k, none⟩ = some v ∧ Below W0.heap.size W0 W' :=
  ⟨(hb.cell (p := ⟨g, k, none⟩) (World.block_lt_of_cell? W ⟨g, k, none⟩ h.1)).trans h.1, h.2.trans (hb.mono h.2.size)⟩

set_option maxHeartbeats 2000000 in
theorem specRead_in (s : ByteArray) (w : World) (h1 : 28 ≤ s.size) (hs : s.size ≤ 8000) :
    Calls Tryz.prog 16 #[.string s] w fun e w' => e = .returned (.agg #[.int .i64 (pkOf (readPk s) s).src, .int .i64 (pkOf (readPk s) s).dst, .int .i64 (pkOf (readPk s) s).proto, .int .i64 (pkOf (readPk s) s).a, .int .i64 (pkOf (readPk s) s).b, .int .i64 (pkOf (readPk s) s).kind, .int .i64 (pkOf (readPk s) s).flags, .int .i64 (pkOf (readPk s) s).seq, .int .i64 (pkOf (readPk s) s).ack, .string (pkOf (readPk s) s).body, .int .i64 (codeOf (readPk s) s)]) ∧ Below w.heap.size w w' := by
  have hpb : (readPk s).body.size ≤ maxLen := by have := readPk_body s; unfold maxLen; omega
  have hR := hidS (fun W => l03Read_any s W h1 hs)
  generalize readPk s = p at hpb hR ⊢
  have hG := heap_newG w (.cells #[.int .i64 0, .int .i64 0, .int .i64 0, .int .i64 0, .int .i64 0, .int .i64 0, .int .i64 0, .int .i64 0, .int .i64 0, .string ⟨#[]⟩, .int .i64 0] 29)
  have hL := hidS ((Below.refl w.heap.size w).alloc (Nat.le_refl _) (.cells #[.int .i64 0, .int .i64 0, .int .i64 0, .int .i64 0, .int .i64 0, .int .i64 0, .int .i64 0, .int .i64 0, .int .i64 0, .string ⟨#[]⟩, .int .i64 0] 29))
  go_enter Tryz.func16, Tryz.ntmps16
  go_wp2_with fail
  generalize w.alloc (.cells #[.int .i64 0, .int .i64 0, .int .i64 0, .int .i64 0, .int .i64 0, .int .i64 0, .int .i64 0, .int .i64 0, .int .i64 0, .string ⟨#[]⟩, .int .i64 0] 29) = w1 at hG hL ⊢
  refine (hR.out _).mono ?_
  rintro _ w2 ⟨rfl, hb2⟩
  have hG2 := blk_later hG hb2
  have hL2 := hidS (hL.out.trans (hb2.mono hL.out.size))
  have hgl := blk_lt hG2
  clear hG hL hb2
  go_wp2_with fail
  have hP3 := PkAt.new p w2
  have hG3 := blk_alloc hG2 (.cells #[.int .i64 p.src, .int .i64 p.dst, .int .i64 p.proto, .int .i64 p.a, .int .i64 p.b, .int .i64 p.kind, .int .i64 p.flags, .int .i64 p.seq, .int .i64 p.ack, .string p.body] 24)
  have hL3 := hidS (hL2.out.alloc (Nat.le_of_lt hgl) (.cells #[.int .i64 p.src, .int .i64 p.dst, .int .i64 p.proto, .int .i64 p.a, .int .i64 p.b, .int .i64 p.kind, .int .i64 p.flags, .int .i64 p.seq, .int .i64 p.ack, .string p.body] 24))
  generalize w2.alloc (.cells #[.int .i64 p.src, .int .i64 p.dst, .int .i64 p.proto, .int .i64 p.a, .int .i64 p.b, .int .i64 p.kind, .int .i64 p.flags, .int .i64 p.seq, .int .i64 p.ack, .string p.body] 24) = w3 at hP3 hG3 hL3 ⊢
  clear hG2 hL2
  refine (specRight_any p _ hpb).mono ?_
  rintro _ w4 ⟨rfl, hb4⟩
  have hP4 := hP3.later hb4
  have hG4 := blk_later hG3 hb4
  have hL4 := hidS (hL3.out.trans (hb4.mono hL3.out.size))
  clear hP3 hG3 hL3 hb4
  cases hr : rightB p
  · have e1 : Hid (codeOf p s = 3) := if_pos hr
    have e2 : Hid (pkOf p s = zeroPk) := if_neg (by rw [e1.out]; decide)
    have g0 := blk_cell hG4
    have gf := blk_free hG4
    clear hP4
    go_wp2
    refine bodyPost_ret (v := .agg #[.int .i64 0, .int .i64 0, .int .i64 0, .int .i64 0, .int .i64 0, .int .i64 0, .int .i64 0, .int .i64 0, .int .i64 0, .string ⟨#[]⟩, .int .i64 3]) (by simp [results, Tryz.results16, go_sem, g0]) rfl ⟨by rw [e1.out, e2.out]; rfl, ?_⟩
    iterate 11 (refine below_at ?_ (Nat.le_refl _))
    exact hL4.out
  · have HP4 := hidS hP4
    obtain ⟨c0, c1, c2, c3, c4, c5, c6, c7, c8, c9⟩ := hP4
    have hF := hidS (fine_of hr)
    go_wp2_with fail
    refine (l03Bytes_any p _ hF.out).mono ?_
    have hC1 : Hid (∀ u, bytesOf p = u → codeOf p s = if u.size ≠ s.size ∨ ((blankT u (placeN p.proto)).toList == (blankT s (placeN p.proto)).toList) = false then 3 else if (u.toList == s.toList) = false then 5 else 0) := fun u hu => by subst hu; unfold codeOf; rw [if_neg (by rw [hr]; decide)]
    have hpl := bytesOf_place hF.out
    have hsm := bytesOf_small hF.out
    generalize hbt : bytesOf p = t at hpl hsm ⊢
    have hC2 := hidS (hC1.out t hbt)
    clear hC1 hbt
    rintro _ w5 ⟨rfl, hb5⟩
    have hP5 := HP4.out.later hb5
    have hG5 := blk_later hG4 hb5
    have hL5 := hidS (hL4.out.trans (hb5.mono hL4.out.size))
    clear HP4 hG4 hL4 hb5 c0 c1 c2 c3 c4 c5 c6 c7 c8 c9
    have HP5 := hidS hP5
    obtain ⟨c0, c1, c2, c3, c4, c5, c6, c7, c8, c9⟩ := hP5
    by_cases hz : t.size = s.size
    · have hz1 : ((t.size : Int) != (s.size : Int)) = false := by rw [hz]; simp
      have hst : t.size ≤ 8000 := by omega
      have hps : placeN p.proto + 2 ≤ s.size := by omega
      clear c0 c1 c3 c4 c5 c6 c7 c8 c9
      go_wp2_with fail
      go_region_held3 (fun W => W.cell? ⟨w2.heap.size, 2, none⟩ = some (.int .i64 p.proto) ∧ Below w5.heap.size w5 W) (first | assumption | exact ⟨c2, (Below.refl _ _).drew⟩) (first | (go_at_call 63; refine (l03Blank_any _ _ _ (by assumption) (by assumption)).mono ?_; rintro _ x ⟨rfl, hx⟩; have hS := Two3.later (by assumption) hx; clear hx))
      have hP6 := HP5.out.later hS.2
      have hG6 := blk_later hG5 hS.2
      have hL6 := hidS (hL5.out.trans (hS.2.mono hL5.out.size))
      clear hS c2 HP5 hG5 hL5 hpl hps hst hsm
      generalize hbe : ((blankT t (placeN p.proto)).toList == (blankT s (placeN p.proto)).toList) = be at hC2 ⊢
      clear hbe
      cases be
      · have e1 : Hid (codeOf p s = 3) := by rw [hC2.out, if_pos (.inr rfl)]; rfl
        have e2 : Hid (pkOf p s = zeroPk) := if_neg (by rw [e1.out]; decide)
        have g0 := blk_cell hG6
        have gf := blk_free hG6
        go_wp2
        refine bodyPost_ret (v := .agg #[.int .i64 0, .int .i64 0, .int .i64 0, .int .i64 0, .int .i64 0, .int .i64 0, .int .i64 0, .int .i64 0, .int .i64 0, .string ⟨#[]⟩, .int .i64 3]) (by simp [results, Tryz.results16, go_sem, g0]) rfl ⟨by rw [e1.out, e2.out]; rfl, ?_⟩
        iterate 11 (refine below_at ?_ (Nat.le_refl _))
        exact hL6.out
      · have e0 : Hid (codeOf p s = if (t.toList == s.toList) = false then 5 else 0) := by rw [hC2.out, if_neg (by rw [hz]; simp)]; rfl
        clear hC2
        cases hts : (t.toList == s.toList)
        · have e1 : Hid (codeOf p s = 5) := by rw [e0.out, hts]; rfl
          have e2 : Hid (pkOf p s = zeroPk) := if_neg (by rw [e1.out]; decide)
          have g0 := blk_cell hG6
          have gf := blk_free hG6
          clear e0
          go_wp2
          refine bodyPost_ret (v := .agg #[.int .i64 0, .int .i64 0, .int .i64 0, .int .i64 0, .int .i64 0, .int .i64 0, .int .i64 0, .int .i64 0, .int .i64 0, .string ⟨#[]⟩, .int .i64 5]) (by simp [results, Tryz.results16, go_sem, g0]) rfl ⟨by rw [e1.out, e2.out]; rfl, ?_⟩
          iterate 11 (refine below_at ?_ (Nat.le_refl _))
          exact hL6.out
        · have e1 : Hid (codeOf p s = 0) := by rw [e0.out, hts]; rfl
          have e2 : Hid (pkOf p s = p) := if_pos e1.out
          have g0 := blk_cell hG6
          have gf := blk_free hG6
          clear e0
          obtain ⟨c0, c1, c2, c3, c4, c5, c6, c7, c8, c9⟩ := hP6
          go_wp2
          refine bodyPost_ret (v := .agg #[.int .i64 p.src, .int .i64 p.dst, .int .i64 p.proto, .int .i64 p.a, .int .i64 p.b, .int .i64 p.kind, .int .i64 p.flags, .int .i64 p.seq, .int .i64 p.ack, .string p.body, .int .i64 (0)]) (by simp [results, Tryz.results16, go_sem, g0]) rfl ⟨by rw [e1.out, e2.out], ?_⟩
          iterate 11 (refine below_at ?_ (Nat.le_refl _))
          exact hL6.out
    · have hz1 : ((t.size : Int) != (s.size : Int)) = true := by simp; omega
      have e1 : Hid (codeOf p s = 3) := by rw [hC2.out, if_pos (.inl hz)]; rfl
      have e2 : Hid (pkOf p s = zeroPk) := if_neg (by rw [e1.out]; decide)
      have g0 := blk_cell hG5
      have gf := blk_free hG5
      clear c0 c1 c3 c4 c5 c6 c7 c8 c9 hC2 hz hpl hsm
      go_wp2_with fail
      go_quiet (fail)
      go_wp2
      refine bodyPost_ret (v := .agg #[.int .i64 0, .int .i64 0, .int .i64 0, .int .i64 0, .int .i64 0, .int .i64 0, .int .i64 0, .int .i64 0, .int .i64 0, .string ⟨#[]⟩, .int .i64 3]) (by simp [results, Tryz.results16, go_sem, g0]) rfl ⟨by rw [e1.out, e2.out]; rfl, ?_⟩
      iterate 11 (refine below_at ?_ (Nat.le_refl _))
      exact hL5.out.trans ⟨rfl, rfl, rfl, Nat.le_refl _, fun _ _ => rfl⟩

theorem specRead_any (s : ByteArray) (w : World) (hs : s.size ≤ maxLen) :
    Calls Tryz.prog 16 #[.string s] w fun e w' => e = .returned (.agg #[.int .i64 (readP s).src, .int .i64 (readP s).dst, .int .i64 (readP s).proto, .int .i64 (readP s).a, .int .i64 (readP s).b, .int .i64 (readP s).kind, .int .i64 (readP s).flags, .int .i64 (readP s).seq, .int .i64 (readP s).ack, .string (readP s).body, .int .i64 (readC s)]) ∧ Below w.heap.size w w' := by
  have hs' : s.size ≤ 2 ^ 63 - 1 := hs
  by_cases h1 : 8000 < s.size
  · have e1 : readC s = 2 := if_pos h1
    have e2 : readP s = zeroPk := if_pos (.inl h1)
    rw [e1, e2]
    clear e1 e2
    go_enter Tryz.func16, Tryz.ntmps16
    go_wp2
    go_returns
    exact ⟨rfl, by go_grown⟩
  by_cases h2 : s.size < 28
  · have e1 : readC s = 4 := by unfold readC; rw [if_neg h1, if_pos h2]
    have e2 : readP s = zeroPk := if_pos (.inr h2)
    rw [e1, e2]
    clear e1 e2
    go_enter Tryz.func16, Tryz.ntmps16
    go_wp2
    go_returns
    exact ⟨rfl, by go_grown⟩
  · have e1 : readC s = codeOf (readPk s) s := by unfold readC; rw [if_neg h1, if_neg h2]
    have e2 : readP s = pkOf (readPk s) s := if_neg (by omega)
    rw [e1, e2]
    exact specRead_in s w (by omega) (by omega)
end Go.Proofs.YtedknnkdnccfmaaGreatDoor
end
