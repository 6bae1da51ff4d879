/- Proved here: impl.InnerOf answers the packet and the code of what impl.readInner answers; all old memory stays (condition: what these answer is told). -/
import Derived.Test.YtokjhfgbnpdfnaaDoorInnerI
import Derived.Test.YtokjhfgbnpdfnaaDoorInnerMath
namespace Go.Proofs.YtokjhfgbnpdfnaaDoor
open Go.ChangeShapes Go.WideShapes Go.ChangeAt Go.RowKit
open Go.ChangeMaps (open_string shut_string)
set_option linter.unusedVariables false
set_option maxRecDepth 100000

set_option maxHeartbeats 1000000 in
theorem implInner_gen (p : Pk) (w : World) (q : Pk) (err : Value) (c : Int)
    (hR : ∀ W, Below w.heap.size w W → Calls Tryd.prog 40 #[.agg #[.int .i64 p.src, .int .i64 p.dst, .int .i64 p.proto, .int .i64 p.a, .int .i64 p.b, .int .i64 p.kind, .int .i64 p.flags, .int .i64 p.seq, .int .i64 p.ack, .string p.body]] W fun e w' => e = .returned (.tuple #[.agg #[.int .i64 q.src, .int .i64 q.dst, .int .i64 q.proto, .int .i64 q.a, .int .i64 q.b, .int .i64 q.kind, .int .i64 q.flags, .int .i64 q.seq, .int .i64 q.ack, .string q.body], err]) ∧ Below W.heap.size W w')
    (hCO : ∀ W, Below w.heap.size w W → Calls Tryd.prog 54 #[err] W fun e w' => e = .returned (.int .i64 c) ∧ Below W.heap.size W w') :
    Calls Tryd.prog 17 #[.agg #[.int .i64 p.src, .int .i64 p.dst, .int .i64 p.proto, .int .i64 p.a, .int .i64 p.b, .int .i64 p.kind, .int .i64 p.flags, .int .i64 p.seq, .int .i64 p.ack, .string p.body]] w fun e w' => e = .returned (.agg #[.int .i64 q.src, .int .i64 q.dst, .int .i64 q.proto, .int .i64 q.a, .int .i64 q.b, .int .i64 q.kind, .int .i64 q.flags, .int .i64 q.seq, .int .i64 q.ack, .string q.body, .int .i64 (c)]) ∧ Below w.heap.size w w' := by
  have HR := hidS hR
  have HCO := hidS hCO
  have hG0 : ((w.alloc (.cells #[.int .i64 p.src, .int .i64 p.dst, .int .i64 p.proto, .int .i64 p.a, .int .i64 p.b, .int .i64 p.kind, .int .i64 p.flags, .int .i64 p.seq, .int .i64 p.ack, .string p.body] 35)).alloc (.cells #[.int .i64 0, .int .i64 0, .int .i64 0, .int .i64 0, .int .i64 0, .int .i64 0, .int .i64 0, .int .i64 0, .int .i64 0, .string ⟨#[]⟩, .int .i64 0] 39)).heap[w.heap.size + 1]? = some (.cells #[.int .i64 0, .int .i64 0, .int .i64 0, .int .i64 0, .int .i64 0, .int .i64 0, .int .i64 0, .int .i64 0, .int .i64 0, .string ⟨#[]⟩, .int .i64 0] 39) := by
    have := heap_newG (w.alloc (.cells #[.int .i64 p.src, .int .i64 p.dst, .int .i64 p.proto, .int .i64 p.a, .int .i64 p.b, .int .i64 p.kind, .int .i64 p.flags, .int .i64 p.seq, .int .i64 p.ack, .string p.body] 35)) (.cells #[.int .i64 0, .int .i64 0, .int .i64 0, .int .i64 0, .int .i64 0, .int .i64 0, .int .i64 0, .int .i64 0, .int .i64 0, .string ⟨#[]⟩, .int .i64 0] 39)
    simpa using this
  have HG := hidS hG0
  have hL := hidS (((Below.refl w.heap.size w).alloc (Nat.le_refl _) (.cells #[.int .i64 p.src, .int .i64 p.dst, .int .i64 p.proto, .int .i64 p.a, .int .i64 p.b, .int .i64 p.kind, .int .i64 p.flags, .int .i64 p.seq, .int .i64 p.ack, .string p.body] 35)).alloc (by simp) (.cells #[.int .i64 0, .int .i64 0, .int .i64 0, .int .i64 0, .int .i64 0, .int .i64 0, .int .i64 0, .int .i64 0, .int .i64 0, .string ⟨#[]⟩, .int .i64 0] 39))
  clear hR hCO hG0
  go_enter Tryd.func17, Tryd.ntmps17
  go_wp2_with fail
  refine (HR.out _ hL.out).mono ?_
  rintro _ w1 ⟨rfl, hb1⟩
  have hL1 := hidS (hL.out.trans (hb1.mono hL.out.size))
  have hG1 := hidS (blk_later HG.out hb1)
  clear hb1 hL HG HR
  go_wp2_with fail
  refine (packAns_x q err c _ (fun W hW => HCO.out W (hL1.out.trans (hW.mono hL1.out.size)))).mono ?_
  rintro _ w2 ⟨rfl, hb2⟩
  have hL2 := hidS (hL1.out.trans (hb2.mono hL1.out.size))
  have hG2 := blk_later hG1.out hb2
  clear hb2 hL1 hG1 HCO
  have c0 := blk_cell hG2
  have f0 := blk_free hG2
  clear hG2
  go_wp2_with fail
  refine bodyPost_ret (v := .agg #[.int .i64 q.src, .int .i64 q.dst, .int .i64 q.proto, .int .i64 q.a, .int .i64 q.b, .int .i64 q.kind, .int .i64 q.flags, .int .i64 q.seq, .int .i64 q.ack, .string q.body, .int .i64 (c)]) (by simp [results, Tryd.results17, go_sem, *]) rfl ⟨rfl, ?_⟩
  repeat (refine below_at ?_ (by omega))
  exact hL2.out

/-- the place of a part's check, and of its counts -/
def placeK (proto : Int) : Nat := if proto = 6 then 36 else if proto = 17 then 26 else 22
def placeL (proto : Int) : List Nat := if proto = 17 then [2, 24] else [2]
theorem partAll (p : Pk) : ∃ v, (∀ W, Calls Tryd.prog 62 #[.agg #[.int .i64 p.src, .int .i64 p.dst, .int .i64 p.proto, .int .i64 p.a, .int .i64 p.b, .int .i64 p.kind, .int .i64 p.flags, .int .i64 p.seq, .int .i64 p.ack, .string p.body]] W fun e w' => e = .returned v ∧ Below W.heap.size W w') ∧ (∀ W, Calls Tryd.prog 63 #[v] W fun e w' => Counts W.heap.size (placeL p.proto) e w' ∧ Below W.heap.size W w') ∧ (∀ W, Calls Tryd.prog 64 #[v] W fun e w' => e = .returned (.int .i64 (placeK p.proto : Int)) ∧ Below W.heap.size W w') := by
  by_cases h6 : p.proto = 6
  · have e : placeK p.proto = 36 := by unfold placeK; rw [if_pos h6]
    have e2 : placeL p.proto = [2] := by unfold placeL; rw [if_neg (by omega)]
    rw [e, e2]; exact ⟨_, fun W => partOf_tcp p W h6, fun W => countsAt_tcp _ W, fun W => checkAt_tcp _ W⟩
  by_cases h17 : p.proto = 17
  · have e : placeK p.proto = 26 := by unfold placeK; rw [if_neg h6, if_pos h17]
    have e2 : placeL p.proto = [2, 24] := by unfold placeL; rw [if_pos h17]
    rw [e, e2]; exact ⟨_, fun W => partOf_udp p W h17, fun W => countsAt_udp _ W, fun W => checkAt_udp _ W⟩
  have e : placeK p.proto = 22 := by unfold placeK; rw [if_neg h6, if_neg h17]
  have e2 : placeL p.proto = [2] := by unfold placeL; rw [if_neg h17]
  rw [e, e2]
  by_cases h1 : p.proto = 1
  · by_cases h3 : p.kind = 3
    · exact ⟨_, fun W => partOf_err p W h1 h3, fun W => countsAt_err _ W, fun W => checkAt_err _ W⟩
    · exact ⟨_, fun W => partOf_echo p W h1 h3, fun W => countsAt_echo _ W, fun W => checkAt_echo _ W⟩
  · exact ⟨_, fun W => partOf_none p W h6 h17 h1, fun W => countsAt_none W, fun W => checkAt_none W⟩
theorem err_body {p : Pk} (h : rightB p = true) (h1 : p.proto = 1) (h3 : p.kind = 3) : 28 ≤ p.body.size := by
  unfold rightB pingB at h
  rw [if_neg (by omega), if_neg (by omega), if_pos h1, if_pos h3] at h
  simp only [Bool.and_eq_true, decide_eq_true_eq] at h
  exact h.2.2.2
theorem placeK_le (n : Int) : placeK n ≤ 100 := by unfold placeK; split; omega; split <;> omega
theorem placeL_le (n : Int) : (placeL n).length ≤ 2 ∧ ∀ j ∈ placeL n, j ≤ 100 := by unfold placeL; split <;> simp
theorem scan_bodyI (s : ByteArray) : (scanPk s).body.size ≤ s.size := by
  unfold scanPk scanOf
  split
  · simp; omega
  · split
    · simp; omega
    · split
      · simp; omega
      · exact Nat.zero_le _

theorem implInner_any {aF aS aY aM : Addr} (p : Pk) (w : World) (hs : p.body.size ≤ maxLen) (hS : Sent aF aS aY aM w) :
    Calls Tryd.prog 17 #[.agg #[.int .i64 p.src, .int .i64 p.dst, .int .i64 p.proto, .int .i64 p.a, .int .i64 p.b, .int .i64 p.kind, .int .i64 p.flags, .int .i64 p.seq, .int .i64 p.ack, .string p.body]] w fun e w' => e = .returned (.agg #[.int .i64 (innerP p).src, .int .i64 (innerP p).dst, .int .i64 (innerP p).proto, .int .i64 (innerP p).a, .int .i64 (innerP p).b, .int .i64 (innerP p).kind, .int .i64 (innerP p).flags, .int .i64 (innerP p).seq, .int .i64 (innerP p).ack, .string (innerP p).body, .int .i64 (innerC p)]) ∧ Below w.heap.size w w' := by
  cases hE : errK p
  · have e1 : innerC p = 1 := if_pos hE
    have e2 : innerP p = zeroPk := if_neg (by rw [e1]; decide)
    rw [e1, e2]
    have hE' : (rightB p && (p.proto == 1 && p.kind == 3)) = false := by rw [← Bool.and_assoc]; exact hE
    exact implInner_gen p w zeroPk _ 1 (fun W hW => innerI_form p W hs (hS.later hW) hE') (fun W hW => codeOf_errForm W (hS.later hW))
  have hE0 := hE
  unfold errK at hE0
  rw [Bool.and_assoc, Bool.and_eq_true] at hE0
  obtain ⟨hr, hi⟩ := hE0
  have hi' := hi
  rw [Bool.and_eq_true, beq_iff_eq, beq_iff_eq] at hi'
  have h28 := err_body hr hi'.1 hi'.2
  obtain ⟨t, ht⟩ : ∃ t, t = p.body.extract 0 28 := ⟨_, rfl⟩
  have htz : t.size = 28 := by rw [ht, ByteArray.size_extract]; omega
  have eC : innerC p = if okI t (innerPk t) = false then 3 else 0 := by unfold innerC; rw [if_neg (by rw [hE]; simp), ← ht]
  have eP : innerP p = if innerC p = 0 then innerPk t else zeroPk := by unfold innerP; rw [← ht]
  obtain ⟨v, hPT, hCN, hCA⟩ := partAll (scanPk t)
  have hsb := scan_bodyI t
  have hbd : (scanPk t).body.size ≤ maxLen := by unfold maxLen; omega
  obtain ⟨hl1, hl2⟩ := placeL_le (scanPk t).proto
  have e0 : (⟨#[]⟩ : ByteArray).size = 0 := rfl
  have hba : (bytesAns (scanPk t)).size ≤ 8000 := by
    cases hr : rightB (scanPk t)
    · have : bytesAns (scanPk t) = ⟨#[]⟩ := if_neg (by rw [hr]; simp)
      rw [this, e0]; omega
    · rw [bytesAns_of hr]; have := bytesOf_sm (fine_of hr); omega
  have short : rightB (scanPk t) = false → okI t (innerPk t) = false → Calls Tryd.prog 17 #[.agg #[.int .i64 p.src, .int .i64 p.dst, .int .i64 p.proto, .int .i64 p.a, .int .i64 p.b, .int .i64 p.kind, .int .i64 p.flags, .int .i64 p.seq, .int .i64 p.ack, .string p.body]] w fun e w' => e = .returned (.agg #[.int .i64 (innerP p).src, .int .i64 (innerP p).dst, .int .i64 (innerP p).proto, .int .i64 (innerP p).a, .int .i64 (innerP p).b, .int .i64 (innerP p).kind, .int .i64 (innerP p).flags, .int .i64 (innerP p).seq, .int .i64 (innerP p).ack, .string (innerP p).body, .int .i64 (innerC p)]) ∧ Below w.heap.size w w' := by
    intro hn ho
    have e1 : innerC p = 3 := by rw [eC, if_pos ho]
    have e2 : innerP p = zeroPk := by rw [eP, if_neg (by rw [e1]; decide)]
    rw [e1, e2]
    have hz : bytesAns (scanPk t) = ⟨#[]⟩ := if_neg (by rw [hn]; simp)
    exact implInner_gen p w zeroPk _ 3 (fun W hW => innerI_short p (scanPk t) t v _ _ W hs (hS.later hW) hr hi h28 ht htz rfl (placeK_le _) hl1 hl2 hba hbd hPT hCN hCA (by rw [hz, e0]; omega)) (fun W hW => codeOf_errSyntax W (hS.later hW))
  have okno : ∀ y : Pk, rightB y = false → okI t y = false := fun y hy => by unfold okI; rw [hy]; rfl
  by_cases hp : byteN t 9 = 6 ∨ byteN t 9 = 17 ∨ byteN t 9 = 1
  · have hsc := scan_inner t htz hp
    cases hrx : rightB (innerPk t)
    · exact short (by rw [hsc]; exact hrx) (okno _ hrx)
    · have hpr := (inner_src t).2.2
      have hEQ : (putAll (twoT 0).data.toList ((bytesAns (scanPk t)).extract 0 28).data.toList (placeL (scanPk t).proto ++ [10, placeK (scanPk t).proto]) == putAll (twoT 0).data.toList t.data.toList (placeL (scanPk t).proto ++ [10, placeK (scanPk t).proto])) = okI t (innerPk t) := by
        rw [hsc, bytesAns_of hrx, hpr]
        rcases hp with h6 | h17 | h1
        · rw [h6]; exact inner_tcp t htz h6 hrx
        · rw [h17]; exact inner_udp t htz h17 hrx
        · rw [h1]; exact inner_echo t htz h1 hrx
      have hu : 28 ≤ (bytesAns (scanPk t)).size := by rw [hsc, bytesAns_of hrx]; exact bytesOf_28 (fine_of hrx)
      cases ho : okI t (innerPk t)
      · have e1 : innerC p = 3 := by rw [eC, if_pos ho]
        have e2 : innerP p = zeroPk := by rw [eP, if_neg (by rw [e1]; decide)]
        rw [e1, e2]
        exact implInner_gen p w zeroPk _ 3 (fun W hW => innerI_syntax p (scanPk t) t v _ _ W hs (hS.later hW) hr hi h28 ht htz rfl (placeK_le _) hl1 hl2 hba hbd hPT hCN hCA hu (hEQ.trans ho)) (fun W hW => codeOf_errSyntax W (hS.later hW))
      · have e1 : innerC p = 0 := by rw [eC, if_neg (by rw [ho]; simp)]
        have e2 : innerP p = scanPk t := by rw [eP, if_pos e1, hsc]
        rw [e1, e2]
        exact implInner_gen p w (scanPk t) _ 0 (fun W hW => innerI_ok p (scanPk t) t v _ _ W hs (hS.later hW) hr hi h28 ht htz rfl (placeK_le _) hl1 hl2 hba hbd hPT hCN hCA hu (hEQ.trans ho)) (fun W hW => codeOf_nil W (hS.later hW))
  · have g6 : byteN t 9 ≠ 6 := fun h => hp (.inl h)
    have g17 : byteN t 9 ≠ 17 := fun h => hp (.inr (.inl h))
    have g1 : byteN t 9 ≠ 1 := fun h => hp (.inr (.inr h))
    have hpr := (inner_src t).2.2
    exact short (right_none _ (by rw [scan_proto]; omega) (by rw [scan_proto]; omega) (by rw [scan_proto]; omega)) (okno _ (right_none _ (by rw [hpr]; omega) (by rw [hpr]; omega) (by rw [hpr]; omega)))
end Go.Proofs.YtokjhfgbnpdfnaaDoor
