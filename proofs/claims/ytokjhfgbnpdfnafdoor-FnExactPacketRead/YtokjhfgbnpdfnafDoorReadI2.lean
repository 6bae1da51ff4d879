/- Proved here: impl.PacketRead answers as it is to; all old memory stays (conditions: the text is a string; the four package variables hold four errors). -/
import Derived.Test.YtokjhfgbnpdfnafDoorReadI
import Derived.Test.YtokjhfgbnpdfnafDoorReadMath
import Derived.Test.YtokjhfgbnpdfnafDoorPackAns
namespace Go.Proofs.YtokjhfgbnpdfnafDoor
open Go.ChangeShapes Go.WideShapes Go.ChangeAt Go.RowKit
open Go.ChangeMaps (open_string shut_string)
set_option linter.unusedVariables false
set_option maxRecDepth 100000

set_option maxHeartbeats 1000000 in
theorem implRead_gen (s : ByteArray) (w : World) (q : Pk) (err : Value) (c : Int) (hs : s.size ≤ 8000)
    (hR : ∀ W, Below w.heap.size w W → Calls Tryd.prog 15 #[.string s] W fun e w' => e = .returned (.tuple #[.agg #[.int .i64 q.src, .int .i64 q.dst, .int .i64 q.proto, .int .i64 q.a, .int .i64 q.b, .int .i64 q.kind, .int .i64 q.flags, .int .i64 q.seq, .int .i64 q.ack, .string q.body], err]) ∧ Below W.heap.size W w')
    (hCO : ∀ W, Below w.heap.size w W → Calls Tryd.prog 31 #[err] W fun e w' => e = .returned (.int .i64 c) ∧ Below W.heap.size W w') :
    Calls Tryd.prog 6 #[.string s] w fun e w' => e = .returned (.agg #[.int .i64 q.src, .int .i64 q.dst, .int .i64 q.proto, .int .i64 q.a, .int .i64 q.b, .int .i64 q.kind, .int .i64 q.flags, .int .i64 q.seq, .int .i64 q.ack, .string q.body, .int .i64 (c)]) ∧ Below w.heap.size w w' := by
  have h' : ¬ (8000 : Int) < (s.size : Int) := by omega
  have HR := hidS hR
  have HCO := hidS hCO
  have HG := hidS (heap_newG w (.cells #[.int .i64 0, .int .i64 0, .int .i64 0, .int .i64 0, .int .i64 0, .int .i64 0, .int .i64 0, .int .i64 0, .int .i64 0, .string ⟨#[]⟩, .int .i64 0] 25))
  have hL := hidS ((Below.refl w.heap.size w).alloc (Nat.le_refl _) (.cells #[.int .i64 0, .int .i64 0, .int .i64 0, .int .i64 0, .int .i64 0, .int .i64 0, .int .i64 0, .int .i64 0, .int .i64 0, .string ⟨#[]⟩, .int .i64 0] 25))
  clear hR hCO
  go_enter Tryd.func6, Tryd.ntmps6
  go_wp2_with fail
  refine (HR.out _ hL.out).mono ?_
  rintro _ w1 ⟨rfl, hb1⟩
  have hL1 := hidS (hL.out.trans (hb1.mono hL.out.size))
  have hG1 := hidS (blk_later HG.out hb1)
  clear hb1 hL HG HR
  go_wp2_with fail
  refine (packAns_x q err c _ (fun W hW => HCO.out W (hL1.out.trans (hW.mono hL1.out.size)))).mono ?_
  rintro _ w2 ⟨rfl, hb2⟩
  have hL2 := hidS (hL1.out.trans (hb2.mono hL1.out.size))
  have hG2 := blk_later hG1.out hb2
  clear hb2 hL1 hG1 HCO
  have c0 := blk_cell hG2
  have f0 := blk_free hG2
  clear hG2
  go_wp2_with fail
  refine bodyPost_ret (v := .agg #[.int .i64 q.src, .int .i64 q.dst, .int .i64 q.proto, .int .i64 q.a, .int .i64 q.b, .int .i64 q.kind, .int .i64 q.flags, .int .i64 q.seq, .int .i64 q.ack, .string q.body, .int .i64 (c)]) (by simp [results, Tryd.results6, go_sem, *]) rfl ⟨rfl, ?_⟩
  repeat (refine below_at ?_ (Nat.le_refl _))
  exact hL2.out

theorem implRead_big (s : ByteArray) (w : World) (hs : s.size ≤ maxLen) (h : 8000 < s.size) :
    Calls Tryd.prog 6 #[.string s] w fun e w' => e = .returned (.agg #[.int .i64 zeroPk.src, .int .i64 zeroPk.dst, .int .i64 zeroPk.proto, .int .i64 zeroPk.a, .int .i64 zeroPk.b, .int .i64 zeroPk.kind, .int .i64 zeroPk.flags, .int .i64 zeroPk.seq, .int .i64 zeroPk.ack, .string zeroPk.body, .int .i64 (2)]) ∧ Below w.heap.size w w' := by
  have hs' : s.size ≤ 2 ^ 63 - 1 := hs
  go_enter Tryd.func6, Tryd.ntmps6
  go_wp2
  go_returns
  exact ⟨rfl, by go_grown⟩

/-- checkAt of partOf -/
theorem partAt (p : Pk) : ∃ v, (∀ W, Calls Tryd.prog 35 #[.agg #[.int .i64 p.src, .int .i64 p.dst, .int .i64 p.proto, .int .i64 p.a, .int .i64 p.b, .int .i64 p.kind, .int .i64 p.flags, .int .i64 p.seq, .int .i64 p.ack, .string p.body]] W fun e w' => e = .returned v ∧ Below W.heap.size W w') ∧ (∀ W, Calls Tryd.prog 34 #[v] W fun e w' => e = .returned (.int .i64 (placeN p.proto : Int)) ∧ Below W.heap.size W w') := by
  by_cases h6 : p.proto = 6
  · have e : placeN p.proto = 36 := by unfold placeN; rw [if_pos h6]
    rw [e]; exact ⟨_, fun W => partOf_tcp p W h6, fun W => checkAt_tcp _ W⟩
  by_cases h17 : p.proto = 17
  · have e : placeN p.proto = 26 := by unfold placeN; rw [if_neg h6, if_pos h17]
    rw [e]; exact ⟨_, fun W => partOf_udp p W h17, fun W => checkAt_udp _ W⟩
  have e : placeN p.proto = 22 := by unfold placeN; rw [if_neg h6, if_neg h17]
  rw [e]
  by_cases h1 : p.proto = 1
  · by_cases h3 : p.kind = 3
    · exact ⟨_, fun W => partOf_err p W h1 h3, fun W => checkAt_err _ W⟩
    · exact ⟨_, fun W => partOf_echo p W h1 h3, fun W => checkAt_echo _ W⟩
  · exact ⟨_, fun W => partOf_none p W h6 h17 h1, fun W => checkAt_none W⟩

theorem scan_body (s : ByteArray) : (scanPk s).body.size ≤ s.size := by
  unfold scanPk scanOf
  split
  · simp; omega
  · split
    · simp; omega
    · split
      · simp; omega
      · exact Nat.zero_le _

theorem implRead_any {aF aS aY aM : Addr} (s : ByteArray) (w : World) (hs : s.size ≤ maxLen) (hS : Sent aF aS aY aM w) :
    Calls Tryd.prog 6 #[.string s] w fun e w' => e = .returned (.agg #[.int .i64 (readP s).src, .int .i64 (readP s).dst, .int .i64 (readP s).proto, .int .i64 (readP s).a, .int .i64 (readP s).b, .int .i64 (readP s).kind, .int .i64 (readP s).flags, .int .i64 (readP s).seq, .int .i64 (readP s).ack, .string (readP s).body, .int .i64 (readC s)]) ∧ Below w.heap.size w w' := by
  by_cases h1 : 8000 < s.size
  · have e1 : readC s = 2 := if_pos h1
    have e2 : readP s = zeroPk := if_pos (.inl h1)
    rw [e1, e2]; exact implRead_big s w hs h1
  by_cases h2 : s.size < 28
  · have e1 : readC s = 4 := by unfold readC; rw [if_neg h1, if_pos h2]
    have e2 : readP s = zeroPk := if_pos (.inr h2)
    rw [e1, e2]
    exact implRead_gen s w zeroPk _ 4 (by omega) (fun W hW => readI_short s W (hS.later hW) h2) (fun W hW => codeOf_errShort W (hS.later hW))
  obtain ⟨v, hPT, hCA⟩ := partAt (scanPk s)
  have hsb := scan_body s
  have hba : (bytesAns (scanPk s)).size ≤ 8000 := by
    cases hr : rightB (scanPk s)
    · rw [bytesAns_no hr]; exact Nat.zero_le _
    · rw [bytesAns_yes hr]; have := bytesOf_small (fine_of hr); omega
  have hbd : (scanPk s).body.size ≤ maxLen := by unfold maxLen; omega
  have key := read_eq s (by omega) (by omega) _ _ rfl rfl
  cases hb1 : (putAll (twoT 0).data.toList (bytesAns (scanPk s)).data.toList [10, placeN (scanPk s).proto] == putAll (twoT 0).data.toList s.data.toList [10, placeN (scanPk s).proto])
  · obtain ⟨e1, e2⟩ := key.1 hb1
    rw [e1, e2]
    exact implRead_gen s w zeroPk _ 3 (by omega) (fun W hW => readI_syntax s (scanPk s) v _ W (hS.later hW) (by omega) (by omega) (place_le _) rfl hba hbd hPT hCA hb1) (fun W hW => codeOf_errSyntax W (hS.later hW))
  cases hb2 : ((bytesAns (scanPk s)).toList == s.toList)
  · obtain ⟨e1, e2⟩ := key.2.1 hb1 hb2
    rw [e1, e2]
    exact implRead_gen s w zeroPk _ 5 (by omega) (fun W hW => readI_sum s (scanPk s) v _ W (hS.later hW) (by omega) (by omega) (place_le _) rfl hba hbd hPT hCA hb1 hb2) (fun W hW => codeOf_errSum W (hS.later hW))
  · obtain ⟨e1, e2⟩ := key.2.2 hb1 hb2
    rw [e1, e2]
    exact implRead_gen s w (scanPk s) _ 0 (by omega) (fun W hW => readI_ok s (scanPk s) v _ W (hS.later hW) (by omega) (by omega) (place_le _) rfl hba hbd hPT hCA hb1 hb2) (fun W hW => codeOf_nil W (hS.later hW))
end Go.Proofs.YtokjhfgbnpdfnafDoor
