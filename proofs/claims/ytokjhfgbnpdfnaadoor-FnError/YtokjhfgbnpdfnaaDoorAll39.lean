/- Proved here: impl.ErrorOf answers the packet and the code of what impl.tellError answers; all old memory stays (condition: what these answer is told). · Proved here: impl.countsAt answers a new list of places; all old memory stays (no conditions). -/
import Derived.Test.YtokjhfgbnpdfnaaDoorErrI
import Derived.Test.YtokjhfgbnpdfnaaDoorAll29
import Derived.Test.YtokjhfgbnpdfnaaDoorAll0
import Derived.Test.YtokjhfgbnpdfnaaDoorAll4
section
namespace Go.Proofs.YtokjhfgbnpdfnaaDoor
open Go.ChangeShapes Go.WideShapes Go.ChangeAt Go.RowKit
open Go.ChangeMaps (open_string shut_string)
set_option linter.unusedVariables false
set_option maxRecDepth 100000

set_option maxHeartbeats 1000000 in
theorem implError_gen (p : Pk) (f0 : Int) (w : World) (q : Pk) (err : Value) (c : Int)
    (hR : ∀ W, Below w.heap.size w W → Calls Tryd.prog 35 #[.agg #[.int .i64 p.src, .int .i64 p.dst, .int .i64 p.proto, .int .i64 p.a, .int .i64 p.b, .int .i64 p.kind, .int .i64 p.flags, .int .i64 p.seq, .int .i64 p.ack, .string p.body], .int .i64 f0] W fun e w' => e = .returned (.tuple #[.agg #[.int .i64 q.src, .int .i64 q.dst, .int .i64 q.proto, .int .i64 q.a, .int .i64 q.b, .int .i64 q.kind, .int .i64 q.flags, .int .i64 q.seq, .int .i64 q.ack, .string q.body], err]) ∧ Below W.heap.size W w')
    (hCO : ∀ W, Below w.heap.size w W → Calls Tryd.prog 54 #[err] W fun e w' => e = .returned (.int .i64 c) ∧ Below W.heap.size W w') :
    Calls Tryd.prog 14 #[.agg #[.int .i64 p.src, .int .i64 p.dst, .int .i64 p.proto, .int .i64 p.a, .int .i64 p.b, .int .i64 p.kind, .int .i64 p.flags, .int .i64 p.seq, .int .i64 p.ack, .string p.body], .int .i64 f0] w fun e w' => e = .returned (.agg #[.int .i64 q.src, .int .i64 q.dst, .int .i64 q.proto, .int .i64 q.a, .int .i64 q.b, .int .i64 q.kind, .int .i64 q.flags, .int .i64 q.seq, .int .i64 q.ack, .string q.body, .int .i64 (c)]) ∧ Below w.heap.size w w' := by
  have HR := hidS hR
  have HCO := hidS hCO
  have hG0 : ((w.alloc (.cells #[.int .i64 p.src, .int .i64 p.dst, .int .i64 p.proto, .int .i64 p.a, .int .i64 p.b, .int .i64 p.kind, .int .i64 p.flags, .int .i64 p.seq, .int .i64 p.ack, .string p.body] 35)).alloc (.cells #[.int .i64 0, .int .i64 0, .int .i64 0, .int .i64 0, .int .i64 0, .int .i64 0, .int .i64 0, .int .i64 0, .int .i64 0, .string ⟨#[]⟩, .int .i64 0] 39)).heap[w.heap.size + 1]? = some (.cells #[.int .i64 0, .int .i64 0, .int .i64 0, .int .i64 0, .int .i64 0, .int .i64 0, .int .i64 0, .int .i64 0, .int .i64 0, .string ⟨#[]⟩, .int .i64 0] 39) := by
    have := heap_newG (w.alloc (.cells #[.int .i64 p.src, .int .i64 p.dst, .int .i64 p.proto, .int .i64 p.a, .int .i64 p.b, .int .i64 p.kind, .int .i64 p.flags, .int .i64 p.seq, .int .i64 p.ack, .string p.body] 35)) (.cells #[.int .i64 0, .int .i64 0, .int .i64 0, .int .i64 0, .int .i64 0, .int .i64 0, .int .i64 0, .int .i64 0, .int .i64 0, .string ⟨#[]⟩, .int .i64 0] 39)
    simpa using this
  have HG := hidS hG0
  have hL := hidS (((Below.refl w.heap.size w).alloc (Nat.le_refl _) (.cells #[.int .i64 p.src, .int .i64 p.dst, .int .i64 p.proto, .int .i64 p.a, .int .i64 p.b, .int .i64 p.kind, .int .i64 p.flags, .int .i64 p.seq, .int .i64 p.ack, .string p.body] 35)).alloc (by simp) (.cells #[.int .i64 0, .int .i64 0, .int .i64 0, .int .i64 0, .int .i64 0, .int .i64 0, .int .i64 0, .int .i64 0, .int .i64 0, .string ⟨#[]⟩, .int .i64 0] 39))
  clear hR hCO hG0
  go_enter Tryd.func14, Tryd.ntmps14
  go_wp2_with fail
  refine (HR.out _ hL.out).mono ?_
  rintro _ w1 ⟨rfl, hb1⟩
  have hL1 := hidS (hL.out.trans (hb1.mono hL.out.size))
  have hG1 := hidS (blk_later HG.out hb1)
  clear hb1 hL HG HR
  go_wp2_with fail
  refine (packAns_x q err c _ (fun W hW => HCO.out W (hL1.out.trans (hW.mono hL1.out.size)))).mono ?_
  rintro _ w2 ⟨rfl, hb2⟩
  have hL2 := hidS (hL1.out.trans (hb2.mono hL1.out.size))
  have hG2 := blk_later hG1.out hb2
  clear hb2 hL1 hG1 HCO
  have c0 := blk_cell hG2
  have f0 := blk_free hG2
  clear hG2
  go_wp2_with fail
  refine bodyPost_ret (v := .agg #[.int .i64 q.src, .int .i64 q.dst, .int .i64 q.proto, .int .i64 q.a, .int .i64 q.b, .int .i64 q.kind, .int .i64 q.flags, .int .i64 q.seq, .int .i64 q.ack, .string q.body, .int .i64 (c)]) (by simp [results, Tryd.results14, go_sem, *]) rfl ⟨rfl, ?_⟩
  repeat (refine below_at ?_ (by omega))
  exact hL2.out

theorem implError_any {aF aS aY aM : Addr} (p : Pk) (f : Int) (w : World) (hs : p.body.size ≤ maxLen) (hS : Sent aF aS aY aM w) :
    Calls Tryd.prog 14 #[.agg #[.int .i64 p.src, .int .i64 p.dst, .int .i64 p.proto, .int .i64 p.a, .int .i64 p.b, .int .i64 p.kind, .int .i64 p.flags, .int .i64 p.seq, .int .i64 p.ack, .string p.body], .int .i64 f] w fun e w' => e = .returned (.agg #[.int .i64 (errP p f).src, .int .i64 (errP p f).dst, .int .i64 (errP p f).proto, .int .i64 (errP p f).a, .int .i64 (errP p f).b, .int .i64 (errP p f).kind, .int .i64 (errP p f).flags, .int .i64 (errP p f).seq, .int .i64 (errP p f).ack, .string (errP p f).body, .int .i64 (errC p f)]) ∧ Below w.heap.size w w' := by
  cases h : errB p f
  · have e1 : errC p f = 1 := if_neg (by rw [h]; simp)
    have e2 : errP p f = zeroPk := if_neg (by rw [h]; simp)
    rw [e1, e2]
    exact implError_gen p f w zeroPk _ 1 (fun W hW => tell_no p f W hs (hS.later hW) h) (fun W hW => codeOf_errForm W (hS.later hW))
  · have e1 : errC p f = 0 := if_pos h
    rw [e1]
    exact implError_gen p f w (errP p f) _ 0 (fun W hW => tell_yes p f W h) (fun W hW => codeOf_nil W (hS.later hW))
end Go.Proofs.YtokjhfgbnpdfnaaDoor
end

section
namespace Go.Proofs.YtokjhfgbnpdfnaaDoor
open Go.ChangeShapes Go.WideShapes Go.ChangeAt Go.RowKit
set_option linter.unusedVariables false
set_option maxRecDepth 100000

def intsV (l : List Nat) : List Value := l.map fun n : Nat => Value.int .i64 (n : Int)
theorem Tryd.infoInt : (Tryd.prog.info? 3).map (fun i => (i.zero, i.size, i.bytes)) = some (some (.int .i64 0), 1, 8) := by kernel_rfl
/-- what countsAt answers -/
def Counts (B : Nat) (l : List Nat) (e : Ending) (w' : World) : Prop := ∃ v, e = .returned v ∧ w'.ownsRow B 3 1 v l.length (intsV l)
theorem own_new (w : World) (vs : List Value) (h : vs.length ≤ 1000) : (w.alloc (.cells vs.toArray 3)).ownsRow w.heap.size 3 1 (.slice (some ⟨w.heap.size, 0, none⟩) vs.length vs.length) vs.length vs :=
  ⟨by simp, Or.inr ⟨w.heap.size, vs.length, vs.toArray, rfl, Nat.le_refl _, heap_new _ _, Nat.le_refl _, by unfold maxLen; omega, by simp, by simp⟩⟩

theorem countsAt_udp (v : Value) (w : World) :
    Calls Tryd.prog 63 #[.iface 130 v] w fun e w' => Counts w.heap.size [2, 24] e w' ∧ Below w.heap.size w w' := by
  have h2 := as_udp_udp v
  have ho := hidS (own_new w (intsV [2, 24]) (by decide))
  have hB := hidS ((Below.refl w.heap.size w).alloc (Nat.le_refl _) (.cells (intsV [2, 24]).toArray 3))
  go_enter Tryd.func63, Tryd.ntmps63
  go_wp2
  go_ret
  exact ⟨⟨_, rfl, ho.out⟩, hB.out⟩
theorem countsAt_tcp (v : Value) (w : World) :
    Calls Tryd.prog 63 #[.iface 128 v] w fun e w' => Counts w.heap.size [2] e w' ∧ Below w.heap.size w w' := by
  have h2 := as_tcp_udp v
  have ho := hidS (own_new w (intsV [2]) (by decide))
  have hB := hidS ((Below.refl w.heap.size w).alloc (Nat.le_refl _) (.cells (intsV [2]).toArray 3))
  go_enter Tryd.func63, Tryd.ntmps63
  go_wp2
  go_ret
  exact ⟨⟨_, rfl, ho.out⟩, hB.out⟩
theorem countsAt_err (v : Value) (w : World) :
    Calls Tryd.prog 63 #[.iface 132 v] w fun e w' => Counts w.heap.size [2] e w' ∧ Below w.heap.size w w' := by
  have h2 := as_err_udp v
  have ho := hidS (own_new w (intsV [2]) (by decide))
  have hB := hidS ((Below.refl w.heap.size w).alloc (Nat.le_refl _) (.cells (intsV [2]).toArray 3))
  go_enter Tryd.func63, Tryd.ntmps63
  go_wp2
  go_ret
  exact ⟨⟨_, rfl, ho.out⟩, hB.out⟩
theorem countsAt_echo (v : Value) (w : World) :
    Calls Tryd.prog 63 #[.iface 134 v] w fun e w' => Counts w.heap.size [2] e w' ∧ Below w.heap.size w w' := by
  have h2 := as_echo_udp v
  have ho := hidS (own_new w (intsV [2]) (by decide))
  have hB := hidS ((Below.refl w.heap.size w).alloc (Nat.le_refl _) (.cells (intsV [2]).toArray 3))
  go_enter Tryd.func63, Tryd.ntmps63
  go_wp2
  go_ret
  exact ⟨⟨_, rfl, ho.out⟩, hB.out⟩
theorem countsAt_none (w : World) :
    Calls Tryd.prog 63 #[.nilIface] w fun e w' => Counts w.heap.size [2] e w' ∧ Below w.heap.size w w' := by
  have h2 := as_none_udp
  have ho := hidS (own_new w (intsV [2]) (by decide))
  have hB := hidS ((Below.refl w.heap.size w).alloc (Nat.le_refl _) (.cells (intsV [2]).toArray 3))
  go_enter Tryd.func63, Tryd.ntmps63
  go_wp2
  go_ret
  exact ⟨⟨_, rfl, ho.out⟩, hB.out⟩
end Go.Proofs.YtokjhfgbnpdfnaaDoor
end
