/- Proved here: impl.PacketRead answers as it is to; all old memory stays (conditions: the text is a string; the four package variables hold four errors). · Proved here: impl.AddrRead answers the address whose text this is, or why it is none; all old memory stays (conditions: the text is a string; the library's variables that it reads hold what they are to). -/
import Derived.Test.YtedknnkdnccfmaaGreatDoorReadI
import Derived.Test.YtedknnkdnccfmaaGreatDoorAll41
import Derived.Test.YtedknnkdnccfmaaGreatDoorAll30
import Derived.Deep.Cut
section
namespace Go.Proofs.YtedknnkdnccfmaaGreatDoor
open Go.ChangeShapes Go.WideShapes Go.ChangeAt Go.RowKit
open Go.ChangeMaps (open_string shut_string)
set_option linter.unusedVariables false
set_option maxRecDepth 100000

set_option maxHeartbeats 1000000 in
theorem implRead_gen (s : ByteArray) (w : World) (q : Pk) (err : Value) (c : Int) (hs : s.size ≤ 8000)
    (hR : ∀ W, Below w.heap.size w W → Calls Tryz.prog 50 #[.string s] W fun e w' => e = .returned (.tuple #[.agg #[.int .i64 q.src, .int .i64 q.dst, .int .i64 q.proto, .int .i64 q.a, .int .i64 q.b, .int .i64 q.kind, .int .i64 q.flags, .int .i64 q.seq, .int .i64 q.ack, .string q.body], err]) ∧ Below W.heap.size W w')
    (hCO : ∀ W, Below w.heap.size w W → Calls Tryz.prog 94 #[err] W fun e w' => e = .returned (.int .i64 c) ∧ Below W.heap.size W w') :
    Calls Tryz.prog 8 #[.string s] w fun e w' => e = .returned (.agg #[.int .i64 q.src, .int .i64 q.dst, .int .i64 q.proto, .int .i64 q.a, .int .i64 q.b, .int .i64 q.kind, .int .i64 q.flags, .int .i64 q.seq, .int .i64 q.ack, .string q.body, .int .i64 (c)]) ∧ Below w.heap.size w w' := by
  have h' : ¬ (8000 : Int) < (s.size : Int) := by omega
  have HR := hidS hR
  have HCO := hidS hCO
  have HG := hidS (heap_newG w (.cells #[.int .i64 0, .int .i64 0, .int .i64 0, .int .i64 0, .int .i64 0, .int .i64 0, .int .i64 0, .int .i64 0, .int .i64 0, .string ⟨#[]⟩, .int .i64 0] 29))
  have hL := hidS ((Below.refl w.heap.size w).alloc (Nat.le_refl _) (.cells #[.int .i64 0, .int .i64 0, .int .i64 0, .int .i64 0, .int .i64 0, .int .i64 0, .int .i64 0, .int .i64 0, .int .i64 0, .string ⟨#[]⟩, .int .i64 0] 29))
  clear hR hCO
  go_enter Tryz.func8, Tryz.ntmps8
  go_wp2_with fail
  refine (HR.out _ hL.out).mono ?_
  rintro _ w1 ⟨rfl, hb1⟩
  have hL1 := hidS (hL.out.trans (hb1.mono hL.out.size))
  have hG1 := hidS (blk_later HG.out hb1)
  clear hb1 hL HG HR
  go_wp2_with fail
  refine (packAns_x q err c _ (fun W hW => HCO.out W (hL1.out.trans (hW.mono hL1.out.size)))).mono ?_
  rintro _ w2 ⟨rfl, hb2⟩
  have hL2 := hidS (hL1.out.trans (hb2.mono hL1.out.size))
  have hG2 := blk_later hG1.out hb2
  clear hb2 hL1 hG1 HCO
  have c0 := blk_cell hG2
  have f0 := blk_free hG2
  clear hG2
  go_wp2_with fail
  refine bodyPost_ret (v := .agg #[.int .i64 q.src, .int .i64 q.dst, .int .i64 q.proto, .int .i64 q.a, .int .i64 q.b, .int .i64 q.kind, .int .i64 q.flags, .int .i64 q.seq, .int .i64 q.ack, .string q.body, .int .i64 (c)]) (by simp [results, Tryz.results8, go_sem, *]) rfl ⟨rfl, ?_⟩
  repeat (refine below_at ?_ (Nat.le_refl _))
  exact hL2.out

theorem implRead_big (s : ByteArray) (w : World) (hs : s.size ≤ maxLen) (h : 8000 < s.size) :
    Calls Tryz.prog 8 #[.string s] w fun e w' => e = .returned (.agg #[.int .i64 zeroPk.src, .int .i64 zeroPk.dst, .int .i64 zeroPk.proto, .int .i64 zeroPk.a, .int .i64 zeroPk.b, .int .i64 zeroPk.kind, .int .i64 zeroPk.flags, .int .i64 zeroPk.seq, .int .i64 zeroPk.ack, .string zeroPk.body, .int .i64 (2)]) ∧ Below w.heap.size w w' := by
  have hs' : s.size ≤ 2 ^ 63 - 1 := hs
  go_enter Tryz.func8, Tryz.ntmps8
  go_wp2
  go_returns
  exact ⟨rfl, by go_grown⟩

/-- checkAt of partOf -/
theorem partAt (p : Pk) : ∃ v, (∀ W, Calls Tryz.prog 41 #[.agg #[.int .i64 p.src, .int .i64 p.dst, .int .i64 p.proto, .int .i64 p.a, .int .i64 p.b, .int .i64 p.kind, .int .i64 p.flags, .int .i64 p.seq, .int .i64 p.ack, .string p.body]] W fun e w' => e = .returned v ∧ Below W.heap.size W w') ∧ (∀ W, Calls Tryz.prog 46 #[v] W fun e w' => e = .returned (.int .i64 (placeN p.proto : Int)) ∧ Below W.heap.size W w') := by
  by_cases h6 : p.proto = 6
  · have e : placeN p.proto = 36 := by unfold placeN; rw [if_pos h6]
    rw [e]; exact ⟨_, fun W => partOf_tcp p W h6, fun W => checkAt_tcp _ W⟩
  by_cases h17 : p.proto = 17
  · have e : placeN p.proto = 26 := by unfold placeN; rw [if_neg h6, if_pos h17]
    rw [e]; exact ⟨_, fun W => partOf_udp p W h17, fun W => checkAt_udp _ W⟩
  have e : placeN p.proto = 22 := by unfold placeN; rw [if_neg h6, if_neg h17]
  rw [e]
  by_cases h1 : p.proto = 1
  · by_cases h3 : p.kind = 3
    · exact ⟨_, fun W => partOf_err p W h1 h3, fun W => checkAt_err _ W⟩
    · exact ⟨_, fun W => partOf_echo p W h1 h3, fun W => checkAt_echo _ W⟩
  · exact ⟨_, fun W => partOf_none p W h6 h17 h1, fun W => checkAt_none W⟩

theorem scan_body (s : ByteArray) : (scanPk s).body.size ≤ s.size := by
  unfold scanPk scanOf
  split
  · simp; omega
  · split
    · simp; omega
    · split
      · simp; omega
      · exact Nat.zero_le _

theorem implRead_any {aF aS aY aM : Addr} (s : ByteArray) (w : World) (hs : s.size ≤ maxLen) (hS : Sent aF aS aY aM w) :
    Calls Tryz.prog 8 #[.string s] w fun e w' => e = .returned (.agg #[.int .i64 (readP s).src, .int .i64 (readP s).dst, .int .i64 (readP s).proto, .int .i64 (readP s).a, .int .i64 (readP s).b, .int .i64 (readP s).kind, .int .i64 (readP s).flags, .int .i64 (readP s).seq, .int .i64 (readP s).ack, .string (readP s).body, .int .i64 (readC s)]) ∧ Below w.heap.size w w' := by
  by_cases h1 : 8000 < s.size
  · have e1 : readC s = 2 := if_pos h1
    have e2 : readP s = zeroPk := if_pos (.inl h1)
    rw [e1, e2]; exact implRead_big s w hs h1
  by_cases h2 : s.size < 28
  · have e1 : readC s = 4 := by unfold readC; rw [if_neg h1, if_pos h2]
    have e2 : readP s = zeroPk := if_pos (.inr h2)
    rw [e1, e2]
    exact implRead_gen s w zeroPk _ 4 (by omega) (fun W hW => readI_short s W (hS.later hW) h2) (fun W hW => codeOf_errShort W (hS.later hW))
  obtain ⟨v, hPT, hCA⟩ := partAt (scanPk s)
  have hsb := scan_body s
  have hba : (bytesAns (scanPk s)).size ≤ 8000 := by
    cases hr : rightB (scanPk s)
    · rw [bytesAns_no hr]; exact Nat.zero_le _
    · rw [bytesAns_yes hr]; have := bytesOf_small (fine_of hr); omega
  have hbd : (scanPk s).body.size ≤ maxLen := by unfold maxLen; omega
  have key := read_eq s (by omega) (by omega) _ _ rfl rfl
  cases hb1 : (putAll (twoT 0).data.toList (bytesAns (scanPk s)).data.toList [10, placeN (scanPk s).proto] == putAll (twoT 0).data.toList s.data.toList [10, placeN (scanPk s).proto])
  · obtain ⟨e1, e2⟩ := key.1 hb1
    rw [e1, e2]
    exact implRead_gen s w zeroPk _ 3 (by omega) (fun W hW => readI_syntax s (scanPk s) v _ W (hS.later hW) (by omega) (by omega) (place_le _) rfl hba hbd hPT hCA hb1) (fun W hW => codeOf_errSyntax W (hS.later hW))
  cases hb2 : ((bytesAns (scanPk s)).toList == s.toList)
  · obtain ⟨e1, e2⟩ := key.2.1 hb1 hb2
    rw [e1, e2]
    exact implRead_gen s w zeroPk _ 5 (by omega) (fun W hW => readI_sum s (scanPk s) v _ W (hS.later hW) (by omega) (by omega) (place_le _) rfl hba hbd hPT hCA hb1 hb2) (fun W hW => codeOf_errSum W (hS.later hW))
  · obtain ⟨e1, e2⟩ := key.2.2 hb1 hb2
    rw [e1, e2]
    exact implRead_gen s w (scanPk s) _ 0 (by omega) (fun W hW => readI_ok s (scanPk s) v _ W (hS.later hW) (by omega) (by omega) (place_le _) rfl hba hbd hPT hCA hb1 hb2) (fun W hW => codeOf_nil W (hS.later hW))
end Go.Proofs.YtedknnkdnccfmaaGreatDoor
end

section
namespace Go.Proofs.YtedknnkdnccfmaaGreatDoor
open Go.ChangeShapes Go.WideShapes Go.ChangeAt Go.RowKit
set_option linter.unusedVariables false
set_option maxRecDepth 100000

theorem or_add (n u : Nat) (hn : n < 16777216) (hu : u < 256) : bits BinOp.or IntKind.i64 ((n : Int) * 256) (u : Int) = ((n * 256 + u : Nat) : Int) := by
  have h := i64_or_nat (n * 256) u (by omega) (by omega)
  rw [show (n * 256) ||| u = n * 256 + u from by rw [Nat.mul_comm, show 256 = 2 ^ 8 from rfl, Nat.two_pow_add_eq_or_of_lt (by omega)]] at h
  rw [← h]
  congr 1
/-- texts that lie there -/
def StrsAt (g : Nat) (ps : List ByteArray) (W : World) : Prop := g < W.heap.size ∧ ∀ j, (h : j < ps.length) → W.cell? ⟨g, j, none⟩ = some (.string ps[j])
theorem StrsAt.later {g : Nat} {ps : List ByteArray} {W W' : World} (h : StrsAt g ps W) (hb : Below W.heap.size W W') : StrsAt g ps W' := ⟨Nat.lt_of_lt_of_le h.1 hb.size, fun j hj => (hb.cell (p := ⟨g, j, none⟩) h.1).trans (h.2 j hj)⟩
theorem split_any (s : ByteArray) (w : World) (hs : s.size ≤ 8000) (hok : LibOk w) :
    Calls Tryz.prog 56 #[.string s, .string ⟨#[46]⟩] w fun e w' => e = .returned (.slice (some ⟨w.heap.size, 0, none⟩) (partsB s).length (partsB s).length) ∧ StrsAt w.heap.size (partsB s) w' ∧ Below w.heap.size w w' := by
  obtain ⟨m, hm⟩ := hok.max
  refine (Tryz.strings_Split s ⟨#[46]⟩ m w (by omega) hm (by decide)).mono ?_
  rintro e w' ⟨rfl, rfl⟩
  refine ⟨by rw [partsB_len], ⟨by simp, fun j hj => ?_⟩, (Below.refl _ _).alloc (Nat.le_refl _) _⟩
  show (w.alloc (.cells ((partsB s).map Value.string).toArray 9)).cell? _ = _
  have hg := heap_newG w (.cells ((partsB s).map Value.string).toArray 9)
  rw [blk_cell hg j]
  simp [hj]
theorem no_addr {s : ByteArray} (h : ∀ n, n ≤ 4294967295 → ¬ implOk s n) : codeA s = 3 ∧ numA s = 0 := code_no (fun n hn e => h n hn (e ▸ implOk_addr n hn))

set_option maxHeartbeats 4000000 in
theorem addrRead_in (s : ByteArray) (w : World) (hs : s.size ≤ 8000) (hok : LibOk w) :
    Calls Tryz.prog 12 #[.string s] w fun e w' => e = .returned (.agg #[.int .i64 (numA s), .int .i64 0, .int .i64 (codeA s)]) ∧ Below w.heap.size w w' := by
  have hs' : ¬ (8000 : Int) < (s.size : Int) := by omega
  have HK := hidS (fun W (h : Below w.heap.size w W) => hok.later h)
  have HSP := hidS (fun W (h : Below w.heap.size w W) => split_any s W hs (hok.later h))
  have HNO := hidS (@no_addr s)
  have HYES := hidS (fun n (hn : n ≤ 4294967295) (e : addrT n = s) => e ▸ code_yes n hn)
  have HPS : Hid (∀ p ∈ partsB s, p.size ≤ 8000) := partsB_sizes s hs
  clear hok
  have hGR0 : Hid ((w.alloc (.cells #[.int .i64 0, .int .i64 0, .int .i64 0] 34)).heap[w.heap.size]? = some (.cells #[.int .i64 0, .int .i64 0, .int .i64 0] 34)) := by
    show _ = _
    have := heap_newG w (.cells #[.int .i64 0, .int .i64 0, .int .i64 0] 34)
    simpa using this
  have hL0 := hidS ((Below.refl w.heap.size w).alloc (Nat.le_refl _) (.cells #[.int .i64 0, .int .i64 0, .int .i64 0] 34))
  unfold implOk at HNO
  generalize partsB s = ps at *
  go_enter Tryz.func12, Tryz.ntmps12
  go_wp2_with fail
  refine (HSP.out _ hL0.out).mono ?_
  rintro _ w1 ⟨rfl, hS1, hb1⟩
  have hGR1 := hidS (blk_later hGR0.out hb1)
  have hL1 := hidS (hL0.out.trans (hb1.mono hL0.out.size))
  have HS1 := hidS hS1
  have e1 : (w.alloc (.cells #[.int .i64 0, .int .i64 0, .int .i64 0] 34)).heap.size = w.heap.size + 1 := by simp
  rw [e1] at HS1 ⊢
  clear hb1 hL0 hGR0 HSP hS1 e1
  by_cases h4 : ps.length = 4
  · have HL4 := hidS h4
    simp only [h4]
    clear h4
    go_wp2_with fail
    go_loopw [4, 21] (fun v i wr => ∃ k n : Nat, k ≤ 4 ∧ i = .int .i64 k ∧ v = .int .i64 n ∧ Hid (n < 256 ^ k) ∧ Hid (accN ps k = some n) ∧ Hid (Below w1.heap.size w1 wr)) (fun _ i _ => 4 - (intOf i).toNat)
    case atStart => exact ⟨0, 0, by omega, rfl, rfl, (by decide : 0 < 256 ^ 0), rfl, Below.refl _ _⟩
    case round =>
      obtain ⟨k, n, hk, rfl, rfl, hN, hA, hB⟩ := hrel
      by_cases h : k < 4
      · have h' : (k : Int) < 4 := by omega
        have hn : n < 16777216 := Nat.lt_of_lt_of_le hN.out (Nat.pow_le_pow_right (n := 256) (by omega) (show k ≤ 3 by omega))
        have kx : k < ps.length := by rw [HL4.out]; exact h
        have cx := (HS1.out.later hB.out).2 k kx
        have hsz := hidS (HPS.out ps[k] (List.getElem_mem kx))
        have hA1 := accN_succ hA.out
        rw [show ps.getD k ⟨#[]⟩ = ps[k] from by simp [kx]] at hA1
        have HA1 := hidS hA1
        have HG := hidS (blk_later hGR1.out hB.out)
        have HL := hidS (hL1.out.trans (hB.out.mono hL1.out.size))
        have HOK := hidS (HK.out wr HL.out)
        generalize ps[k] = p at *
        clear hA1 kx hA
        cases hv : valB p with
        | none =>
          have HZ : Hid (accN ps 4 = none) := accN_stop (j := k + 1) (by omega) (by rw [HA1.out, hv]; rfl)
          obtain ⟨e1, e2⟩ := HNO.out (fun n hn h => by rw [HZ.out] at h; cases h.2.1)
          have E1 := hidS e1
          have E2 := hidS e2
          have HPR := hidS (parse_none p wr hsz.out HOK.out hv)
          clear e1 e2 HZ HNO HYES HPS HS1 HK HL4 hN HA1 hv HOK hsz hB hGR1 hL1
          go_wp2_with fail
          refine HPR.out.mono ?_
          rintro _ w2 ⟨⟨x, N, rfl⟩, hb2⟩
          have hG2 := blk_later HG.out hb2
          have hL2 := hidS (HL.out.trans (hb2.mono HL.out.size))
          have kR := blk_cell hG2
          have fR := blk_free hG2
          clear hG2 hb2 HG HL HPR cx
          go_wp2_with fail
          refine bodyPost_ret (v := .agg #[.int .i64 0, .int .i64 0, .int .i64 3]) (by simp [results, Tryz.results12, go_sem, *]) rfl ⟨by rw [E1.out, E2.out], ?_⟩
          repeat (refine below_at ?_ (by omega))
          exact hL2.out
        | some u =>
          have hu := valB_lt hv
          have HA2 : Hid (accN ps (k + 1) = some (n * 256 + u)) := by rw [HA1.out, hv]; rfl
          have HN2 : Hid (n * 256 + u < 256 ^ (k + 1)) := by show _ < _; rw [Nat.pow_succ]; have := hN.out; omega
          have HPR := hidS (parse_some p u wr hsz.out hv)
          have hor := or_add n u hn hu
          clear HA1 hv hsz HOK hN HG HL
          go_wp2_with fail
          refine HPR.out.mono ?_
          rintro _ w2 ⟨rfl, hb2⟩
          have HB2 := hidS (hB.out.trans (hb2.mono hB.out.size))
          clear hb2 HPR cx hB
          go_wp2_with fail
          go_roundw
          case rel => exact ⟨k + 1, n * 256 + u, by omega, by go_num, by go_num, HN2, HA2, HB2⟩
          case measure => simp [intOf]; omega
      · have h' : ¬ (k : Int) < 4 := by omega
        obtain rfl : k = 4 := by omega
        have hn : n ≤ 4294967295 := by have := hN.out; omega
        have HG := hidS (blk_later hGR1.out hB.out)
        have HL := hidS (hL1.out.trans (hB.out.mono hL1.out.size))
        have HAT := addrI_any (n : Int) wr (HK.out wr HL.out).tab
        rw [show addrAns (n : Int) = addrT n from if_pos (addrB_iff.2 (by omega))] at HAT
        have HAT' := hidS HAT
        clear HAT
        by_cases e : addrT n = s
        · obtain ⟨e1, e2⟩ := HYES.out n hn e
          rw [e] at HAT'
          have E1 := hidS e1
          have E2 := hidS e2
          clear e1 e2 e HNO HYES HPS HS1 HK HL4 hN hA hB hGR1 hL1
          go_wp2_with fail
          refine HAT'.out.mono ?_
          rintro _ w2 ⟨rfl, hb2⟩
          have hG2 := blk_later HG.out hb2
          have hL2 := hidS (HL.out.trans (hb2.mono HL.out.size))
          have kR := blk_cell hG2
          have fR := blk_free hG2
          clear hG2 hb2 HG HL HAT'
          go_wp2_with fail
          refine bodyPost_ret (v := .agg #[.int .i64 n, .int .i64 0, .int .i64 0]) (by simp [results, Tryz.results12, go_sem, *]) rfl ⟨by rw [E1.out, E2.out], ?_⟩
          repeat (refine below_at ?_ (by omega))
          exact hL2.out
        · obtain ⟨e1, e2⟩ := HNO.out (fun m hm h => e (by have := h.2.1; rw [hA.out] at this; injection this with this; rw [this]; exact h.2.2))
          have E1 := hidS e1
          have E2 := hidS e2
          have e' : (addrT n).toList ≠ s.toList := fun q => e (by rw [toList_data, toList_data] at q; exact ByteArray.ext (Array.toList_inj.1 q))
          have q1 : ((addrT n).toList == s.toList) = false := beq_eq_false_iff_ne.2 e'
          have q2 : ((addrT n).toList != s.toList) = true := by rw [bne, q1]; rfl
          clear e'
          generalize addrT n = A at *
          clear e1 e2 e HNO HYES HPS HS1 HK HL4 hN hA hB hGR1 hL1
          go_wp2_with fail
          refine HAT'.out.mono ?_
          rintro _ w2 ⟨rfl, hb2⟩
          have hG2 := blk_later HG.out hb2
          have hL2 := hidS (HL.out.trans (hb2.mono HL.out.size))
          have kR := blk_cell hG2
          have fR := blk_free hG2
          clear hG2 hb2 HG HL HAT'
          go_wp2_with fail
          refine bodyPost_ret (v := .agg #[.int .i64 0, .int .i64 0, .int .i64 3]) (by simp [results, Tryz.results12, go_sem, *]) rfl ⟨by rw [E1.out, E2.out], ?_⟩
          repeat (refine below_at ?_ (by omega))
          exact hL2.out
  · have h4i : ((ps.length : Int) != 4) = true := by simp; omega
    obtain ⟨e1, e2⟩ := HNO.out (fun n hn h => h4 h.1)
    have E1 := hidS e1
    have E2 := hidS e2
    clear e1 e2 HNO HYES HPS HS1 HK
    have kR := blk_cell hGR1.out
    have fR := blk_free hGR1.out
    go_wp2_with fail
    refine bodyPost_ret (v := .agg #[.int .i64 0, .int .i64 0, .int .i64 3]) (by simp [results, Tryz.results12, go_sem, *]) rfl ⟨by rw [E1.out, E2.out], ?_⟩
    repeat (refine below_at ?_ (by omega))
    exact hL1.out
end Go.Proofs.YtedknnkdnccfmaaGreatDoor
end
