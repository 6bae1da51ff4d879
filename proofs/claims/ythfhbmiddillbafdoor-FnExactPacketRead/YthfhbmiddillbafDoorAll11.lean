/- Proved here: impl.PacketRead answers as it is to; all old memory stays (conditions: the text is a string; the four package variables hold four errors). · Proved here: where the four package variables read as four errors of errors.New's make with four texts, they hold four different ones (no program walked). · Proved here: the laws' own helpers on packets: eqPacket, eqPacketOut of two that are the same; all old memory stays (condition: the body is a string). -/
import Derived.Test.YthfhbmiddillbafDoorAll9
import Derived.Test.YthfhbmiddillbafDoorAll10
import Derived.Test.YthfhbmiddillbafDoorAll8
import Derived.LaidLaws
import Derived.Stop.LaidErr
import Derived.ChangeVars
import Derived.Test.YthfhbmiddillbafDoorAll0
import Derived.Test.YthfhbmiddillbafDoorAll1
section
namespace Go.Proofs.YthfhbmiddillbafDoor
open Go.ChangeShapes Go.WideShapes Go.ChangeAt Go.RowKit
open Go.ChangeMaps (open_string shut_string)
set_option linter.unusedVariables false
set_option maxRecDepth 100000

set_option maxHeartbeats 1000000 in
theorem implRead_gen (s : ByteArray) (w : World) (q : Pk) (err : Value) (c : Int) (hs : s.size ≤ 8000)
    (hR : ∀ W, Below w.heap.size w W → Calls Tryd.prog 15 #[.string s] W fun e w' => e = .returned (.tuple #[.agg #[.int .i64 q.src, .int .i64 q.dst, .int .i64 q.proto, .int .i64 q.a, .int .i64 q.b, .int .i64 q.kind, .int .i64 q.flags, .int .i64 q.seq, .int .i64 q.ack, .string q.body], err]) ∧ Below W.heap.size W w')
    (hCO : ∀ W, Below w.heap.size w W → Calls Tryd.prog 31 #[err] W fun e w' => e = .returned (.int .i64 c) ∧ Below W.heap.size W w') :
    Calls Tryd.prog 6 #[.string s] w fun e w' => e = .returned (.agg #[.int .i64 q.src, .int .i64 q.dst, .int .i64 q.proto, .int .i64 q.a, .int .i64 q.b, .int .i64 q.kind, .int .i64 q.flags, .int .i64 q.seq, .int .i64 q.ack, .string q.body, .int .i64 (c)]) ∧ Below w.heap.size w w' := by
  have h' : ¬ (8000 : Int) < (s.size : Int) := by omega
  have HR := hidS hR
  have HCO := hidS hCO
  have HG := hidS (heap_newG w (.cells #[.int .i64 0, .int .i64 0, .int .i64 0, .int .i64 0, .int .i64 0, .int .i64 0, .int .i64 0, .int .i64 0, .int .i64 0, .string ⟨#[]⟩, .int .i64 0] 25))
  have hL := hidS ((Below.refl w.heap.size w).alloc (Nat.le_refl _) (.cells #[.int .i64 0, .int .i64 0, .int .i64 0, .int .i64 0, .int .i64 0, .int .i64 0, .int .i64 0, .int .i64 0, .int .i64 0, .string ⟨#[]⟩, .int .i64 0] 25))
  clear hR hCO
  go_enter Tryd.func6, Tryd.ntmps6
  go_wp2_with fail
  refine (HR.out _ hL.out).mono ?_
  rintro _ w1 ⟨rfl, hb1⟩
  have hL1 := hidS (hL.out.trans (hb1.mono hL.out.size))
  have hG1 := hidS (blk_later HG.out hb1)
  clear hb1 hL HG HR
  go_wp2_with fail
  refine (packAns_x q err c _ (fun W hW => HCO.out W (hL1.out.trans (hW.mono hL1.out.size)))).mono ?_
  rintro _ w2 ⟨rfl, hb2⟩
  have hL2 := hidS (hL1.out.trans (hb2.mono hL1.out.size))
  have hG2 := blk_later hG1.out hb2
  clear hb2 hL1 hG1 HCO
  have c0 := blk_cell hG2
  have f0 := blk_free hG2
  clear hG2
  go_wp2_with fail
  refine bodyPost_ret (v := .agg #[.int .i64 q.src, .int .i64 q.dst, .int .i64 q.proto, .int .i64 q.a, .int .i64 q.b, .int .i64 q.kind, .int .i64 q.flags, .int .i64 q.seq, .int .i64 q.ack, .string q.body, .int .i64 (c)]) (by simp [results, Tryd.results6, go_sem, *]) rfl ⟨rfl, ?_⟩
  repeat (refine below_at ?_ (Nat.le_refl _))
  exact hL2.out

theorem implRead_big (s : ByteArray) (w : World) (hs : s.size ≤ maxLen) (h : 8000 < s.size) :
    Calls Tryd.prog 6 #[.string s] w fun e w' => e = .returned (.agg #[.int .i64 zeroPk.src, .int .i64 zeroPk.dst, .int .i64 zeroPk.proto, .int .i64 zeroPk.a, .int .i64 zeroPk.b, .int .i64 zeroPk.kind, .int .i64 zeroPk.flags, .int .i64 zeroPk.seq, .int .i64 zeroPk.ack, .string zeroPk.body, .int .i64 (2)]) ∧ Below w.heap.size w w' := by
  have hs' : s.size ≤ 2 ^ 63 - 1 := hs
  go_enter Tryd.func6, Tryd.ntmps6
  go_wp2
  go_returns
  exact ⟨rfl, by go_grown⟩

/-- checkAt of partOf -/
theorem partAt (p : Pk) : ∃ v, (∀ W, Calls Tryd.prog 35 #[.agg #[.int .i64 p.src, .int .i64 p.dst, .int .i64 p.proto, .int .i64 p.a, .int .i64 p.b, .int .i64 p.kind, .int .i64 p.flags, .int .i64 p.seq, .int .i64 p.ack, .string p.body]] W fun e w' => e = .returned v ∧ Below W.heap.size W w') ∧ (∀ W, Calls Tryd.prog 34 #[v] W fun e w' => e = .returned (.int .i64 (placeN p.proto : Int)) ∧ Below W.heap.size W w') := by
  by_cases h6 : p.proto = 6
  · have e : placeN p.proto = 36 := by unfold placeN; rw [if_pos h6]
    rw [e]; exact ⟨_, fun W => partOf_tcp p W h6, fun W => checkAt_tcp _ W⟩
  by_cases h17 : p.proto = 17
  · have e : placeN p.proto = 26 := by unfold placeN; rw [if_neg h6, if_pos h17]
    rw [e]; exact ⟨_, fun W => partOf_udp p W h17, fun W => checkAt_udp _ W⟩
  have e : placeN p.proto = 22 := by unfold placeN; rw [if_neg h6, if_neg h17]
  rw [e]
  by_cases h1 : p.proto = 1
  · by_cases h3 : p.kind = 3
    · exact ⟨_, fun W => partOf_err p W h1 h3, fun W => checkAt_err _ W⟩
    · exact ⟨_, fun W => partOf_echo p W h1 h3, fun W => checkAt_echo _ W⟩
  · exact ⟨_, fun W => partOf_none p W h6 h17 h1, fun W => checkAt_none W⟩

theorem scan_body (s : ByteArray) : (scanPk s).body.size ≤ s.size := by
  unfold scanPk scanOf
  split
  · simp; omega
  · split
    · simp; omega
    · split
      · simp; omega
      · exact Nat.zero_le _

theorem implRead_any {aF aS aY aM : Addr} (s : ByteArray) (w : World) (hs : s.size ≤ maxLen) (hS : Sent aF aS aY aM w) :
    Calls Tryd.prog 6 #[.string s] w fun e w' => e = .returned (.agg #[.int .i64 (readP s).src, .int .i64 (readP s).dst, .int .i64 (readP s).proto, .int .i64 (readP s).a, .int .i64 (readP s).b, .int .i64 (readP s).kind, .int .i64 (readP s).flags, .int .i64 (readP s).seq, .int .i64 (readP s).ack, .string (readP s).body, .int .i64 (readC s)]) ∧ Below w.heap.size w w' := by
  by_cases h1 : 8000 < s.size
  · have e1 : readC s = 2 := if_pos h1
    have e2 : readP s = zeroPk := if_pos (.inl h1)
    rw [e1, e2]; exact implRead_big s w hs h1
  by_cases h2 : s.size < 28
  · have e1 : readC s = 4 := by unfold readC; rw [if_neg h1, if_pos h2]
    have e2 : readP s = zeroPk := if_pos (.inr h2)
    rw [e1, e2]
    exact implRead_gen s w zeroPk _ 4 (by omega) (fun W hW => readI_short s W (hS.later hW) h2) (fun W hW => codeOf_errShort W (hS.later hW))
  obtain ⟨v, hPT, hCA⟩ := partAt (scanPk s)
  have hsb := scan_body s
  have hba : (bytesAns (scanPk s)).size ≤ 8000 := by
    cases hr : rightB (scanPk s)
    · rw [bytesAns_no hr]; exact Nat.zero_le _
    · rw [bytesAns_yes hr]; have := bytesOf_small (fine_of hr); omega
  have hbd : (scanPk s).body.size ≤ maxLen := by unfold maxLen; omega
  have key := read_eq s (by omega) (by omega) _ _ rfl rfl
  cases hb1 : (putAll (twoT 0).data.toList (bytesAns (scanPk s)).data.toList [10, placeN (scanPk s).proto] == putAll (twoT 0).data.toList s.data.toList [10, placeN (scanPk s).proto])
  · obtain ⟨e1, e2⟩ := key.1 hb1
    rw [e1, e2]
    exact implRead_gen s w zeroPk _ 3 (by omega) (fun W hW => readI_syntax s (scanPk s) v _ W (hS.later hW) (by omega) (by omega) (place_le _) rfl hba hbd hPT hCA hb1) (fun W hW => codeOf_errSyntax W (hS.later hW))
  cases hb2 : ((bytesAns (scanPk s)).toList == s.toList)
  · obtain ⟨e1, e2⟩ := key.2.1 hb1 hb2
    rw [e1, e2]
    exact implRead_gen s w zeroPk _ 5 (by omega) (fun W hW => readI_sum s (scanPk s) v _ W (hS.later hW) (by omega) (by omega) (place_le _) rfl hba hbd hPT hCA hb1 hb2) (fun W hW => codeOf_errSum W (hS.later hW))
  · obtain ⟨e1, e2⟩ := key.2.2 hb1 hb2
    rw [e1, e2]
    exact implRead_gen s w (scanPk s) _ 0 (by omega) (fun W hW => readI_ok s (scanPk s) v _ W (hS.later hW) (by omega) (by omega) (place_le _) rfl hba hbd hPT hCA hb1 hb2) (fun W hW => codeOf_nil W (hS.later hW))
end Go.Proofs.YthfhbmiddillbafDoor
end

section
namespace Go.Proofs.YthfhbmiddillbafDoor
open Go.ChangeShapes Go.WideShapes Go.ChangeAt Go.RowKit
set_option linter.unusedVariables false

theorem sent_one {P : Program} {n nm : String} {text : List UInt8} {r : List (String × DataW Unit)} {W : World} {g : Nat} {ti tp te ts : TypeId} {ms : Array (String × TypeId)} {f : Field}
    (h : laidMet P ((n, .iface nm (.ptr (.agg [.lit (.string text)]))) :: r) W)
    (hg : P.globalNamed n = some g) (ht : (P.globals[g]?).map (·.type) = some ti) (hi : P.underlying ti = some (.interface ms)) (hrow : ∀ u, P.typeName? 3 u = some nm → u = tp)
    (hp : P.underlying tp = some (.pointer te)) (he : P.underlying te = some (.struct #[f])) (hft : f.type = ts) (hfo : f.offset = 0) (hs : P.underlying ts = some .string) (hc : P.cellsOf te = 1) (hcs : P.cellsOf ts = 1) :
    ∃ (a : Addr) (s : ByteArray), W.cell? ⟨g, 0, none⟩ = some (.iface tp (.pointer (some a))) ∧ W.cell? a = some (.string s) ∧ s.data.toList = text ∧ ErrAt a W := by
  obtain ⟨ps, ⟨g0, t0, cs0, f0, p0, q0, hg0, ht0, hv0, hd0, _, e0⟩, _, hrows⟩ := h
  obtain rfl := Option.some.inj (hg.symm.trans hg0)
  obtain rfl := Option.some.inj (ht.symm.trans ht0)
  subst e0
  obtain ⟨l0⟩ := cs0
  have ok0 : ∀ u v, l0 = [.iface u v] → Value.okWide P W .any 0 u v := fun u v e => by
    subst e
    exact (hrows g 0 (by simp [MemPlace.row])).2 u v (by simpa using World.var?_cell hg0 hv0 0)
  obtain ⟨a0, s0, rfl, hc0, hs0, hz0, hp0⟩ := errorString_of_trod hi hrow hp he hft hfo hs hc hcs hd0 ok0
  subst hp0
  exact ⟨a0, s0, by simpa using World.var?_cell hg0 hv0 0, hc0, hs0, (hrows a0.block a0.off (by simp [MemPlace.row])).1⟩
theorem sent_ne {W : World} {a b : Addr} {s t : ByteArray} {l m : List UInt8} (ha : W.cell? a = some (.string s)) (hs : s.data.toList = l) (hb : W.cell? b = some (.string t)) (ht : t.data.toList = m) (h : l ≠ m) : a ≠ b := by
  rintro rfl
  rw [ha] at hb
  injection hb with hb
  injection hb with hb
  subst hb
  exact h (hs.symm.trans ht)
theorem star_err : "*" ++ "errors.errorString" = "*errors.errorString" := by decide
theorem row_err (u : TypeId) (h : Tryd.prog.typeName? 3 u = some "*errors.errorString") : u = 128 :=
  typeName_ptr_named (nm := "errors.errorString") (by rw [star_err]; kernel_rfl) (by kernel_rfl) (by decide) u (by rw [star_err]; exact h)
theorem cells_es : Tryd.prog.cellsOf 151 = 1 := by kernel_rfl
theorem cells_st : Tryd.prog.cellsOf 9 = 1 := by kernel_rfl

theorem sents_of {W : World} (h : laidMet Tryd.prog [("loop.example/g00542/impl.errForm", Rows.laid_loop_example_g00542_impl_errForm), ("loop.example/g00542/impl.errShort", Rows.laid_loop_example_g00542_impl_errShort), ("loop.example/g00542/impl.errSyntax", Rows.laid_loop_example_g00542_impl_errSyntax), ("loop.example/g00542/impl.errSum", Rows.laid_loop_example_g00542_impl_errSum)] W) :
    ∃ aF aS aY aM, Sent aF aS aY aM W := by
  have h2 := h.tail
  have h3 := h2.tail
  have h4 := h3.tail
  obtain ⟨aF, sF, cF, dF, tF, bF⟩ := sent_one h (show Tryd.prog.globalNamed "loop.example/g00542/impl.errForm" = some 3 by kernel_rfl) (show (Tryd.prog.globals[3]?).map (·.type) = some 37 by kernel_rfl) Tryd.underlying37 row_err Tryd.underlying128 Tryd.underlying151 rfl rfl Tryd.underlying9 cells_es cells_st
  obtain ⟨aS, sS, cS, dS, tS, bS⟩ := sent_one h2 (show Tryd.prog.globalNamed "loop.example/g00542/impl.errShort" = some 0 by kernel_rfl) (show (Tryd.prog.globals[0]?).map (·.type) = some 37 by kernel_rfl) Tryd.underlying37 row_err Tryd.underlying128 Tryd.underlying151 rfl rfl Tryd.underlying9 cells_es cells_st
  obtain ⟨aY, sY, cY, dY, tY, bY⟩ := sent_one h3 (show Tryd.prog.globalNamed "loop.example/g00542/impl.errSyntax" = some 1 by kernel_rfl) (show (Tryd.prog.globals[1]?).map (·.type) = some 37 by kernel_rfl) Tryd.underlying37 row_err Tryd.underlying128 Tryd.underlying151 rfl rfl Tryd.underlying9 cells_es cells_st
  obtain ⟨aM, sM, cM, dM, tM, bM⟩ := sent_one h4 (show Tryd.prog.globalNamed "loop.example/g00542/impl.errSum" = some 2 by kernel_rfl) (show (Tryd.prog.globals[2]?).map (·.type) = some 37 by kernel_rfl) Tryd.underlying37 row_err Tryd.underlying128 Tryd.underlying151 rfl rfl Tryd.underlying9 cells_es cells_st
  exact ⟨aF, aS, aY, aM, cF, cS, cY, cM, bF, bS, bY, bM, sent_ne dF tF dS tS (by decide), sent_ne dF tF dY tY (by decide), sent_ne dF tF dM tM (by decide), sent_ne dS tS dY tY (by decide), sent_ne dS tS dM tM (by decide), sent_ne dY tY dM tM (by decide)⟩
end Go.Proofs.YthfhbmiddillbafDoor
end

section
namespace Go.Proofs.YthfhbmiddillbafDoor
open Go.ChangeShapes Go.WideShapes Go.ChangeAt Go.RowKit
set_option linter.unusedVariables false

set_option maxHeartbeats 1000000 in
theorem eqPacket_same (p : Pk) (w : World) :
    Calls Tryd.prog 16 #[.agg #[.int .i64 p.src, .int .i64 p.dst, .int .i64 p.proto, .int .i64 p.a, .int .i64 p.b, .int .i64 p.kind, .int .i64 p.flags, .int .i64 p.seq, .int .i64 p.ack, .string p.body], .agg #[.int .i64 p.src, .int .i64 p.dst, .int .i64 p.proto, .int .i64 p.a, .int .i64 p.b, .int .i64 p.kind, .int .i64 p.flags, .int .i64 p.seq, .int .i64 p.ack, .string p.body]] w fun e w' => e = .returned (.bool true) ∧ Below w.heap.size w w' := by
  go_enter Tryd.func16, Tryd.ntmps16
  go_wp2
  go_ret
  exact ⟨rfl, by go_grown⟩
set_option maxHeartbeats 1000000 in
theorem eqPacketOut_same (p : Pk) (c : Int) (w : World) :
    Calls Tryd.prog 7 #[.agg #[.int .i64 p.src, .int .i64 p.dst, .int .i64 p.proto, .int .i64 p.a, .int .i64 p.b, .int .i64 p.kind, .int .i64 p.flags, .int .i64 p.seq, .int .i64 p.ack, .string p.body, .int .i64 (c)], .agg #[.int .i64 p.src, .int .i64 p.dst, .int .i64 p.proto, .int .i64 p.a, .int .i64 p.b, .int .i64 p.kind, .int .i64 p.flags, .int .i64 p.seq, .int .i64 p.ack, .string p.body, .int .i64 (c)]] w fun e w' => e = .returned (.bool true) ∧ Below w.heap.size w w' := by
  have h1 : ((w.alloc (.cells #[.int .i64 p.src, .int .i64 p.dst, .int .i64 p.proto, .int .i64 p.a, .int .i64 p.b, .int .i64 p.kind, .int .i64 p.flags, .int .i64 p.seq, .int .i64 p.ack, .string p.body, .int .i64 c] 25)).alloc (.cells #[.int .i64 p.src, .int .i64 p.dst, .int .i64 p.proto, .int .i64 p.a, .int .i64 p.b, .int .i64 p.kind, .int .i64 p.flags, .int .i64 p.seq, .int .i64 p.ack, .string p.body, .int .i64 c] 25)).heap[w.heap.size]? = some (.cells #[.int .i64 p.src, .int .i64 p.dst, .int .i64 p.proto, .int .i64 p.a, .int .i64 p.b, .int .i64 p.kind, .int .i64 p.flags, .int .i64 p.seq, .int .i64 p.ack, .string p.body, .int .i64 c] 25) := blk_alloc (heap_newG w (.cells #[.int .i64 p.src, .int .i64 p.dst, .int .i64 p.proto, .int .i64 p.a, .int .i64 p.b, .int .i64 p.kind, .int .i64 p.flags, .int .i64 p.seq, .int .i64 p.ack, .string p.body, .int .i64 c] 25)) (.cells #[.int .i64 p.src, .int .i64 p.dst, .int .i64 p.proto, .int .i64 p.a, .int .i64 p.b, .int .i64 p.kind, .int .i64 p.flags, .int .i64 p.seq, .int .i64 p.ack, .string p.body, .int .i64 c] 25)
  have h2 : ((w.alloc (.cells #[.int .i64 p.src, .int .i64 p.dst, .int .i64 p.proto, .int .i64 p.a, .int .i64 p.b, .int .i64 p.kind, .int .i64 p.flags, .int .i64 p.seq, .int .i64 p.ack, .string p.body, .int .i64 c] 25)).alloc (.cells #[.int .i64 p.src, .int .i64 p.dst, .int .i64 p.proto, .int .i64 p.a, .int .i64 p.b, .int .i64 p.kind, .int .i64 p.flags, .int .i64 p.seq, .int .i64 p.ack, .string p.body, .int .i64 c] 25)).heap[w.heap.size + 1]? = some (.cells #[.int .i64 p.src, .int .i64 p.dst, .int .i64 p.proto, .int .i64 p.a, .int .i64 p.b, .int .i64 p.kind, .int .i64 p.flags, .int .i64 p.seq, .int .i64 p.ack, .string p.body, .int .i64 c] 25) := by
    have := heap_newG (w.alloc (.cells #[.int .i64 p.src, .int .i64 p.dst, .int .i64 p.proto, .int .i64 p.a, .int .i64 p.b, .int .i64 p.kind, .int .i64 p.flags, .int .i64 p.seq, .int .i64 p.ack, .string p.body, .int .i64 c] 25)) (.cells #[.int .i64 p.src, .int .i64 p.dst, .int .i64 p.proto, .int .i64 p.a, .int .i64 p.b, .int .i64 p.kind, .int .i64 p.flags, .int .i64 p.seq, .int .i64 p.ack, .string p.body, .int .i64 c] 25)
    simpa using this
  have hL := hidS (((Below.refl w.heap.size w).alloc (Nat.le_refl _) (.cells #[.int .i64 p.src, .int .i64 p.dst, .int .i64 p.proto, .int .i64 p.a, .int .i64 p.b, .int .i64 p.kind, .int .i64 p.flags, .int .i64 p.seq, .int .i64 p.ack, .string p.body, .int .i64 c] 25)).alloc (by simp) (.cells #[.int .i64 p.src, .int .i64 p.dst, .int .i64 p.proto, .int .i64 p.a, .int .i64 p.b, .int .i64 p.kind, .int .i64 p.flags, .int .i64 p.seq, .int .i64 p.ack, .string p.body, .int .i64 c] 25))
  go_enter Tryd.func7, Tryd.ntmps7
  go_wp2_with fail
  generalize (w.alloc (.cells #[.int .i64 p.src, .int .i64 p.dst, .int .i64 p.proto, .int .i64 p.a, .int .i64 p.b, .int .i64 p.kind, .int .i64 p.flags, .int .i64 p.seq, .int .i64 p.ack, .string p.body, .int .i64 c] 25)).alloc (.cells #[.int .i64 p.src, .int .i64 p.dst, .int .i64 p.proto, .int .i64 p.a, .int .i64 p.b, .int .i64 p.kind, .int .i64 p.flags, .int .i64 p.seq, .int .i64 p.ack, .string p.body, .int .i64 c] 25) = w1 at h1 h2 hL ⊢
  refine (eqPacket_same p _).mono ?_
  rintro _ w2 ⟨rfl, hb2⟩
  have k1 := blk_cell (blk_later h1 hb2) 10
  have k2 := blk_cell (blk_later h2 hb2) 10
  simp at k1 k2
  have hE := hidS (hL.out.trans (hb2.mono hL.out.size))
  clear h1 h2 hL hb2
  go_wp2
  go_ret
  exact ⟨rfl, hE.out⟩
end Go.Proofs.YthfhbmiddillbafDoor
end
