/- Proved here: impl.WithTuple answers the packet with a tuple's ends, or ErrForm; all old memory stays (conditions: the body is a string; the four package variables hold four errors). -/
import Derived.Test.YtbhemimhmkgfiaaDoorTWithI
namespace Go.Proofs.YtbhemimhmkgfiaaDoor
open Go.ChangeShapes Go.WideShapes Go.ChangeAt Go.RowKit
set_option linter.unusedVariables false
set_option maxRecDepth 100000

set_option maxHeartbeats 2000000 in
theorem implWith_gen (p : Pk) (t : Tp) (w : World) (q : Pk) (err : Value) (c : Int)
    (hR : ∀ W, Below w.heap.size w W → Calls Tryd.prog 43 #[.agg #[.int .i64 p.src, .int .i64 p.dst, .int .i64 p.proto, .int .i64 p.a, .int .i64 p.b, .int .i64 p.kind, .int .i64 p.flags, .int .i64 p.seq, .int .i64 p.ack, .string p.body], .agg #[.int .i64 t.proto, .int .i64 t.src, .int .i64 t.sport, .int .i64 t.dst, .int .i64 t.dport, .int .i64 t.kind]] W fun e w' => e = .returned (.tuple #[.agg #[.int .i64 q.src, .int .i64 q.dst, .int .i64 q.proto, .int .i64 q.a, .int .i64 q.b, .int .i64 q.kind, .int .i64 q.flags, .int .i64 q.seq, .int .i64 q.ack, .string q.body], err]) ∧ Below W.heap.size W w')
    (hCO : ∀ W, Below w.heap.size w W → Calls Tryd.prog 57 #[err] W fun e w' => e = .returned (.int .i64 c) ∧ Below W.heap.size W w') :
    Calls Tryd.prog 23 #[.agg #[.int .i64 p.src, .int .i64 p.dst, .int .i64 p.proto, .int .i64 p.a, .int .i64 p.b, .int .i64 p.kind, .int .i64 p.flags, .int .i64 p.seq, .int .i64 p.ack, .string p.body], .agg #[.int .i64 t.proto, .int .i64 t.src, .int .i64 t.sport, .int .i64 t.dst, .int .i64 t.dport, .int .i64 t.kind]] w fun e w' => e = .returned (.agg #[.int .i64 q.src, .int .i64 q.dst, .int .i64 q.proto, .int .i64 q.a, .int .i64 q.b, .int .i64 q.kind, .int .i64 q.flags, .int .i64 q.seq, .int .i64 q.ack, .string q.body, .int .i64 (c)]) ∧ Below w.heap.size w w' := by
  have HR := hidS hR
  have HCO := hidS hCO
  clear hR hCO
  have hGP0 : Hid ((((w.alloc (.cells #[.int .i64 p.src, .int .i64 p.dst, .int .i64 p.proto, .int .i64 p.a, .int .i64 p.b, .int .i64 p.kind, .int .i64 p.flags, .int .i64 p.seq, .int .i64 p.ack, .string p.body] 29)).alloc (.cells #[.int .i64 t.proto, .int .i64 t.src, .int .i64 t.sport, .int .i64 t.dst, .int .i64 t.dport, .int .i64 t.kind] 33)).alloc (.cells #[.int .i64 0, .int .i64 0, .int .i64 0, .int .i64 0, .int .i64 0, .int .i64 0, .int .i64 0, .int .i64 0, .int .i64 0, .string ⟨#[]⟩, .int .i64 0] 31)).heap[w.heap.size]? = some (.cells #[.int .i64 p.src, .int .i64 p.dst, .int .i64 p.proto, .int .i64 p.a, .int .i64 p.b, .int .i64 p.kind, .int .i64 p.flags, .int .i64 p.seq, .int .i64 p.ack, .string p.body] 29)) := by
    show _ = _
    have := blk_alloc (blk_alloc (heap_newG w (.cells #[.int .i64 p.src, .int .i64 p.dst, .int .i64 p.proto, .int .i64 p.a, .int .i64 p.b, .int .i64 p.kind, .int .i64 p.flags, .int .i64 p.seq, .int .i64 p.ack, .string p.body] 29)) (.cells #[.int .i64 t.proto, .int .i64 t.src, .int .i64 t.sport, .int .i64 t.dst, .int .i64 t.dport, .int .i64 t.kind] 33)) (.cells #[.int .i64 0, .int .i64 0, .int .i64 0, .int .i64 0, .int .i64 0, .int .i64 0, .int .i64 0, .int .i64 0, .int .i64 0, .string ⟨#[]⟩, .int .i64 0] 31)
    simpa using this
  have hGT0 : Hid ((((w.alloc (.cells #[.int .i64 p.src, .int .i64 p.dst, .int .i64 p.proto, .int .i64 p.a, .int .i64 p.b, .int .i64 p.kind, .int .i64 p.flags, .int .i64 p.seq, .int .i64 p.ack, .string p.body] 29)).alloc (.cells #[.int .i64 t.proto, .int .i64 t.src, .int .i64 t.sport, .int .i64 t.dst, .int .i64 t.dport, .int .i64 t.kind] 33)).alloc (.cells #[.int .i64 0, .int .i64 0, .int .i64 0, .int .i64 0, .int .i64 0, .int .i64 0, .int .i64 0, .int .i64 0, .int .i64 0, .string ⟨#[]⟩, .int .i64 0] 31)).heap[w.heap.size + 1]? = some (.cells #[.int .i64 t.proto, .int .i64 t.src, .int .i64 t.sport, .int .i64 t.dst, .int .i64 t.dport, .int .i64 t.kind] 33)) := by
    show _ = _
    have := blk_alloc (heap_newG (w.alloc (.cells #[.int .i64 p.src, .int .i64 p.dst, .int .i64 p.proto, .int .i64 p.a, .int .i64 p.b, .int .i64 p.kind, .int .i64 p.flags, .int .i64 p.seq, .int .i64 p.ack, .string p.body] 29)) (.cells #[.int .i64 t.proto, .int .i64 t.src, .int .i64 t.sport, .int .i64 t.dst, .int .i64 t.dport, .int .i64 t.kind] 33)) (.cells #[.int .i64 0, .int .i64 0, .int .i64 0, .int .i64 0, .int .i64 0, .int .i64 0, .int .i64 0, .int .i64 0, .int .i64 0, .string ⟨#[]⟩, .int .i64 0] 31)
    simpa using this
  have hGR0 : Hid ((((w.alloc (.cells #[.int .i64 p.src, .int .i64 p.dst, .int .i64 p.proto, .int .i64 p.a, .int .i64 p.b, .int .i64 p.kind, .int .i64 p.flags, .int .i64 p.seq, .int .i64 p.ack, .string p.body] 29)).alloc (.cells #[.int .i64 t.proto, .int .i64 t.src, .int .i64 t.sport, .int .i64 t.dst, .int .i64 t.dport, .int .i64 t.kind] 33)).alloc (.cells #[.int .i64 0, .int .i64 0, .int .i64 0, .int .i64 0, .int .i64 0, .int .i64 0, .int .i64 0, .int .i64 0, .int .i64 0, .string ⟨#[]⟩, .int .i64 0] 31)).heap[w.heap.size + 2]? = some (.cells #[.int .i64 0, .int .i64 0, .int .i64 0, .int .i64 0, .int .i64 0, .int .i64 0, .int .i64 0, .int .i64 0, .int .i64 0, .string ⟨#[]⟩, .int .i64 0] 31)) := by
    show _ = _
    have := heap_newG ((w.alloc (.cells #[.int .i64 p.src, .int .i64 p.dst, .int .i64 p.proto, .int .i64 p.a, .int .i64 p.b, .int .i64 p.kind, .int .i64 p.flags, .int .i64 p.seq, .int .i64 p.ack, .string p.body] 29)).alloc (.cells #[.int .i64 t.proto, .int .i64 t.src, .int .i64 t.sport, .int .i64 t.dst, .int .i64 t.dport, .int .i64 t.kind] 33)) (.cells #[.int .i64 0, .int .i64 0, .int .i64 0, .int .i64 0, .int .i64 0, .int .i64 0, .int .i64 0, .int .i64 0, .int .i64 0, .string ⟨#[]⟩, .int .i64 0] 31)
    simpa using this
  have hL0 := hidS ((((Below.refl w.heap.size w).alloc (Nat.le_refl _) (.cells #[.int .i64 p.src, .int .i64 p.dst, .int .i64 p.proto, .int .i64 p.a, .int .i64 p.b, .int .i64 p.kind, .int .i64 p.flags, .int .i64 p.seq, .int .i64 p.ack, .string p.body] 29)).alloc (by simp) (.cells #[.int .i64 t.proto, .int .i64 t.src, .int .i64 t.sport, .int .i64 t.dst, .int .i64 t.dport, .int .i64 t.kind] 33)).alloc (by simp; omega) (.cells #[.int .i64 0, .int .i64 0, .int .i64 0, .int .i64 0, .int .i64 0, .int .i64 0, .int .i64 0, .int .i64 0, .int .i64 0, .string ⟨#[]⟩, .int .i64 0] 31))
  go_enter Tryd.func23, Tryd.ntmps23
  go_wp2_with fail
  refine (HR.out _ hL0.out).mono ?_
  rintro _ w1 ⟨rfl, hb1⟩
  have hGP1 := hidS (blk_later hGP0.out hb1)
  have hGT1 := hidS (blk_later hGT0.out hb1)
  have hGR1 := hidS (blk_later hGR0.out hb1)
  have hL1 := hidS (hL0.out.trans (hb1.mono hL0.out.size))
  clear hb1 hL0 hGP0 hGT0 hGR0
  go_wp2_with fail
  refine (packAns_x q err c _ (fun W hW => HCO.out W (hL1.out.trans (hW.mono hL1.out.size)))).mono ?_
  rintro _ w2 ⟨rfl, hb2⟩
  have hGP2 := hidS (blk_later hGP1.out hb2)
  have hGT2 := hidS (blk_later hGT1.out hb2)
  have hGR2 := hidS (blk_later hGR1.out hb2)
  have hL2 := hidS (hL1.out.trans (hb2.mono hL1.out.size))
  clear hb2 hL1 hGP1 hGT1 hGR1
  have kR := blk_cell hGR2.out
  have fR := blk_free hGR2.out
  go_wp2_with fail
  refine bodyPost_ret (v := .agg #[.int .i64 q.src, .int .i64 q.dst, .int .i64 q.proto, .int .i64 q.a, .int .i64 q.b, .int .i64 q.kind, .int .i64 q.flags, .int .i64 q.seq, .int .i64 q.ack, .string q.body, .int .i64 (c)]) (by simp [results, Tryd.results23, go_sem, *]) rfl ⟨rfl, ?_⟩
  repeat (refine below_at ?_ (by omega))
  exact hL2.out

theorem same_no {p : Pk} {t : Tp} (ht : rightT t = true) (h : ¬ (t.proto = p.proto ∧ t.kind = p.kind)) : sameT (given p t) t = false := by
  cases hs : sameT (given p t) t
  · rfl
  · have e := sameT_iff.1 hs
    exact absurd ⟨by have := congrArg Tp.proto e; exact this.symm, by have := congrArg Tp.kind e; exact this.symm⟩ h
theorem implWith_any {aF aS aY aM : Addr} (p : Pk) (t : Tp) (w : World) (hs : p.body.size ≤ maxLen) (hS : Sent aF aS aY aM w) :
    Calls Tryd.prog 23 #[.agg #[.int .i64 p.src, .int .i64 p.dst, .int .i64 p.proto, .int .i64 p.a, .int .i64 p.b, .int .i64 p.kind, .int .i64 p.flags, .int .i64 p.seq, .int .i64 p.ack, .string p.body], .agg #[.int .i64 t.proto, .int .i64 t.src, .int .i64 t.sport, .int .i64 t.dst, .int .i64 t.dport, .int .i64 t.kind]] w fun e w' => e = .returned (.agg #[.int .i64 (withP p t).src, .int .i64 (withP p t).dst, .int .i64 (withP p t).proto, .int .i64 (withP p t).a, .int .i64 (withP p t).b, .int .i64 (withP p t).kind, .int .i64 (withP p t).flags, .int .i64 (withP p t).seq, .int .i64 (withP p t).ack, .string (withP p t).body, .int .i64 (withC p t)]) ∧ Below w.heap.size w w' := by
  have no : withB p t = false → (∀ W, Below w.heap.size w W → Calls Tryd.prog 43 #[.agg #[.int .i64 p.src, .int .i64 p.dst, .int .i64 p.proto, .int .i64 p.a, .int .i64 p.b, .int .i64 p.kind, .int .i64 p.flags, .int .i64 p.seq, .int .i64 p.ack, .string p.body], .agg #[.int .i64 t.proto, .int .i64 t.src, .int .i64 t.sport, .int .i64 t.dst, .int .i64 t.dport, .int .i64 t.kind]] W fun e w' => e = .returned (.tuple #[.agg #[.int .i64 zeroPk.src, .int .i64 zeroPk.dst, .int .i64 zeroPk.proto, .int .i64 zeroPk.a, .int .i64 zeroPk.b, .int .i64 zeroPk.kind, .int .i64 zeroPk.flags, .int .i64 zeroPk.seq, .int .i64 zeroPk.ack, .string zeroPk.body], .iface 139 (.pointer (some aF))]) ∧ Below W.heap.size W w') →
      Calls Tryd.prog 23 #[.agg #[.int .i64 p.src, .int .i64 p.dst, .int .i64 p.proto, .int .i64 p.a, .int .i64 p.b, .int .i64 p.kind, .int .i64 p.flags, .int .i64 p.seq, .int .i64 p.ack, .string p.body], .agg #[.int .i64 t.proto, .int .i64 t.src, .int .i64 t.sport, .int .i64 t.dst, .int .i64 t.dport, .int .i64 t.kind]] w fun e w' => e = .returned (.agg #[.int .i64 (withP p t).src, .int .i64 (withP p t).dst, .int .i64 (withP p t).proto, .int .i64 (withP p t).a, .int .i64 (withP p t).b, .int .i64 (withP p t).kind, .int .i64 (withP p t).flags, .int .i64 (withP p t).seq, .int .i64 (withP p t).ack, .string (withP p t).body, .int .i64 (withC p t)]) ∧ Below w.heap.size w w' := fun hB hG => by
    rw [withP_no hB, withC_no hB]
    exact implWith_gen p t w zeroPk _ 1 hG (fun W hW => codeOf_errForm W (hS.later hW))
  cases hr : rightB p
  · exact no (by unfold withB; rw [hr]; rfl) (fun W hW => give_1 p t W hs (hS.later hW) hr)
  cases he : errorB p
  case true => exact no (by unfold withB; rw [hr, he]; rfl) (fun W hW => give_2 p t W hs (hS.later hW) hr he)
  cases ht : rightT t
  · exact no (by unfold withB; rw [hr, he, ht]; rfl) (fun W hW => give_3 p t W hs (hS.later hW) hr he ht)
  by_cases hpk : t.proto = p.proto ∧ t.kind = p.kind
  · have hB : withB p t = true := by unfold withB; rw [hr, he, ht, decide_eq_true hpk.1, decide_eq_true hpk.2]; rfl
    have hd : sameT (given p t) t = true := sameT_iff.2 (given_yes ht hpk.1 hpk.2)
    rw [withP_yes hB, withC_yes hB]
    have hN : ∀ W, Below w.heap.size w W → Calls Tryd.prog 57 #[.nilIface] W fun e w' => e = .returned (.int .i64 0) ∧ Below W.heap.size W w' := fun W hW => codeOf_nil W (hS.later hW)
    by_cases h1 : p.proto = 1
    · have e : withT p t = ⟨t.src, t.dst, p.proto, t.sport, p.b, p.kind, p.flags, p.seq, p.ack, p.body⟩ := by unfold withT; rw [if_pos h1]
      rw [e]
      exact implWith_gen p t w ⟨t.src, t.dst, p.proto, t.sport, p.b, p.kind, p.flags, p.seq, p.ack, p.body⟩ .nilIface 0 (fun W hW => give_yes_ping p t W hs (hS.later hW) hr he ht h1 hd) hN
    · have e : withT p t = ⟨t.src, t.dst, p.proto, t.sport, t.dport, p.kind, p.flags, p.seq, p.ack, p.body⟩ := by unfold withT; rw [if_neg h1]
      rw [e]
      exact implWith_gen p t w ⟨t.src, t.dst, p.proto, t.sport, t.dport, p.kind, p.flags, p.seq, p.ack, p.body⟩ .nilIface 0 (fun W hW => give_yes_other p t W hs (hS.later hW) hr he ht h1 hd) hN
  · have hd := same_no ht hpk
    have hB : withB p t = false := by
      unfold withB
      by_cases hp : t.proto = p.proto
      · rw [decide_eq_false (fun hk => hpk ⟨hp, hk⟩)]; simp
      · rw [decide_eq_false hp]; simp
    by_cases h1 : p.proto = 1
    · exact no hB (fun W hW => give_no_ping p t W hs (hS.later hW) hr he ht h1 hd)
    · exact no hB (fun W hW => give_no_other p t W hs (hS.later hW) hr he ht h1 hd)
end Go.Proofs.YtbhemimhmkgfiaaDoor
