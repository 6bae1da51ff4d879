/- Proved here: impl.PacketBytes answers the bytes of a packet, or the empty text of one that is not right; all old memory stays (condition: the body is a string). · Proved here: errors.Is of errors of errors.New's make: the same one, none, another one; nothing changes (conditions: both lie in memory as a new one does). · Proved here: impl.codeOf answers the code of each of the package's errors; nothing changes (condition: the four package variables hold four errors of errors.New's make). · Proved here: impl.packetAnswer answers the packet with the code of the error; all old memory stays (condition: what codeOf answers is told). · Proved here: strings.Clone returns its text, and leaves all old memory alone (condition: at most 2^40 bytes). · Proved here: impl.isError, impl.tellError and impl.ErrorOf answer as they are to; all old memory stays (conditions: the body is a string; the four package variables hold four errors). · Proved here: impl.ErrorOf answers the packet and the code of what impl.tellError answers; all old memory stays (condition: what these answer is told). · Proved here: where the four package variables read as four errors of errors.New's make with four texts, they hold four different ones (no program walked). -/
import Derived.Test.YthfhbmiddillbagDoorAll7
import Derived.Test.YthfhbmiddillbagDoorAll3
import Derived.Test.YthfhbmiddillbagDoorRows
import Derived.WalkKit
import Derived.WalkSpells
import Derived.ProofKit
import Derived.LaidEql
import Derived.Stop.Asserts
import Derived.RowKitTokens
import Derived.Test.YthfhbmiddillbagDoorAll0
import Derived.Test.YthfhbmiddillbagDoorAll4
import Derived.Test.YthfhbmiddillbagDoorAll2
import Derived.Test.YthfhbmiddillbagDoorAll5
import Derived.Lib.BufferWrite
import Derived.Laws.CopyOwn
import Derived.Deep.OwnRows
import Derived.LaidLaws
import Derived.Stop.LaidErr
import Derived.ChangeVars
section
namespace Go.Proofs.YthfhbmiddillbagDoor
open Go.ChangeShapes Go.WideShapes Go.ChangeAt Go.RowKit
open Go.ChangeMaps (open_string shut_string)
set_option linter.unusedVariables false
set_option maxRecDepth 100000

theorem over_mid (A B C m : List UInt8) (h : B.length = m.length) : over (A ++ B ++ C) A.length m = A ++ m ++ C := by
  unfold over
  rw [← h]
  congr 1
  · rw [List.append_assoc A B C, List.take_left]
  · have : A.length + B.length = (A ++ B).length := by simp
    rw [this, List.drop_left]
/-- what is around the check -/
def Around (p : Pk) (k : Nat) : Prop := ∃ A C : List UInt8, A.length + 20 = k ∧ ∀ c, (tailT p c).data.toList = A ++ (twoT c).data.toList ++ C
theorem Around.size {p : Pk} {k : Nat} (h : Around p k) (c : Nat) : (tailT p c).size = (tailT p 0).size := by
  obtain ⟨A, C, _, h⟩ := h
  have e : ∀ c, (tailT p c).size = (tailT p c).data.toList.length := fun c => by simp
  rw [e, e, h, h]; simp [two_list]
theorem around_tcp (p : Pk) (h6 : p.proto = 6) : Around p 36 := by
  refine ⟨(twoT p.a.toNat ++ twoT p.b.toNat ++ fourT p.seq.toNat ++ fourT p.ack.toNat ++ rowT [80, p.flags, 32, 0]).data.toList, (⟨#[0, 0]⟩ ++ p.body : ByteArray).data.toList, ?_, fun c => ?_⟩
  · have a1 := fourT_size p.seq.toNat
    have a2 := fourT_size p.ack.toNat
    have a3 := twoT_size p.a.toNat
    have a4 := twoT_size p.b.toNat
    have a5 : (rowT [80, p.flags, 32, 0]).size = 4 := rowT_size _
    simp [a1, a2, a3, a4, a5]
  · unfold tailT; rw [if_pos h6]; simp
theorem around_udp (p : Pk) (h17 : p.proto = 17) : Around p 26 := by
  refine ⟨(twoT p.a.toNat ++ twoT p.b.toNat ++ twoT (8 + (p.body.size : Int)).toNat).data.toList, p.body.data.toList, ?_, fun c => ?_⟩
  · have a3 := twoT_size p.a.toNat
    have a4 := twoT_size p.b.toNat
    have a5 := twoT_size (8 + (p.body.size : Int)).toNat
    simp [a3, a4, a5]
  · unfold tailT; rw [if_neg (by omega), if_pos h17]; simp
theorem around_ping (p : Pk) (h1 : p.proto = 1) : Around p 22 := by
  by_cases h3 : p.kind = 3
  · refine ⟨(rowT [p.kind, 1]).data.toList, (twoT p.a.toNat ++ twoT p.seq.toNat ++ p.body).data.toList, by have := rowT_size [p.kind, 1]; simpa using this, fun c => ?_⟩
    unfold tailT; rw [if_neg (by omega), if_neg (by omega), if_pos h3]; simp
  · refine ⟨(rowT [p.kind, 0]).data.toList, (twoT p.a.toNat ++ twoT p.seq.toNat ++ p.body).data.toList, by have := rowT_size [p.kind, 0]; simpa using this, fun c => ?_⟩
    unfold tailT; rw [if_neg (by omega), if_neg (by omega), if_neg h3]; simp
theorem bytes_put (p : Pk) (k : Nat) (h : Around p k) (hd : ByteArray) (h20 : hd.size = 20) (c : Nat) :
    (⟨(putAll (twoT c).data.toList (catT [hd, tailT p 0]).data.toList [k]).toArray⟩ : ByteArray) = hd ++ tailT p c := by
  obtain ⟨A, C, hA, hT⟩ := h
  have hh : hd.data.toList.length = 20 := by simpa using h20
  have e1 : (catT [hd, tailT p 0]).data.toList = (hd.data.toList ++ A) ++ (twoT 0).data.toList ++ C := by
    rw [cat2, ByteArray.data_append, Array.toList_append, hT 0]; simp
  have hk : k = (hd.data.toList ++ A).length := by simp [h20]; omega
  have hl : ((hd.data.toList ++ A) ++ (twoT 0).data.toList ++ C).length = k + 2 + C.length := by rw [List.length_append, List.length_append, ← hk]; rfl
  show (⟨(putAt (twoT c).data.toList (catT [hd, tailT p 0]).data.toList k).toArray⟩ : ByteArray) = _
  rw [e1]
  unfold putAt
  rw [if_pos (by omega), List.take_of_length_le (by rw [hl, two_list]; simp; omega), hk, over_mid _ _ _ _ (by simp [two_list])]
  refine ByteArray.ext ?_
  rw [ByteArray.data_append]
  apply Array.toList_inj.1
  rw [Array.toList_append, hT c]
  simp
theorem bytes_eq (p : Pk) (k : Nat) (h : Around p k) : headT p (tailT p 0).size (checkAns (headT p (tailT p 0).size 0)) ++ tailT p (checkT p).toNat = bytesOf p := by
  unfold bytesOf
  rw [h.size (checkT p).toNat]

theorem tail_tcp (p : Pk) (h6 : p.proto = 6) : catT [twoT p.a.toNat, twoT p.b.toNat, fourT p.seq.toNat, fourT p.ack.toNat, rowT [80, p.flags, 32, 0, 0, 0, 0, 0], p.body] = tailT p 0 := by
  unfold tailT; rw [if_pos h6]
  refine ByteArray.ext ?_
  apply Array.toList_inj.1
  have e : (rowT [80, p.flags, 32, 0, 0, 0, 0, 0]).data.toList = (rowT [80, p.flags, 32, 0]).data.toList ++ (twoT 0).data.toList ++ [0, 0] := rfl
  simp [catT, catL, e]
theorem tail_udp (p : Pk) (h17 : p.proto = 17) : catT [twoT p.a.toNat, twoT p.b.toNat, twoT (8 + (p.body.size : Int)).toNat, twoT 0, p.body] = tailT p 0 := by
  unfold tailT; rw [if_neg (by omega), if_pos h17]
  refine ByteArray.ext ?_
  apply Array.toList_inj.1
  simp [catT, catL]
theorem tail_err (p : Pk) (h1 : p.proto = 1) (h3 : p.kind = 3) (ha : p.a = 0) (hq : p.seq = 0) : catT [rowT [3, 1, 0, 0, 0, 0, 0, 0], p.body] = tailT p 0 := by
  unfold tailT; rw [if_neg (by omega), if_neg (by omega), if_pos h3, h3, ha, hq]
  refine ByteArray.ext ?_
  apply Array.toList_inj.1
  have e : (rowT [3, 1, 0, 0, 0, 0, 0, 0]).data.toList = (rowT [3, 1]).data.toList ++ (twoT 0).data.toList ++ (twoT 0).data.toList ++ (twoT 0).data.toList := rfl
  simp [catT, catL, e]
theorem tail_echo (p : Pk) (h1 : p.proto = 1) (h3 : p.kind ≠ 3) : catT [rowT [p.kind, 0, 0, 0], twoT p.a.toNat, twoT p.seq.toNat, p.body] = tailT p 0 := by
  unfold tailT; rw [if_neg (by omega), if_neg (by omega), if_neg h3]
  refine ByteArray.ext ?_
  apply Array.toList_inj.1
  have e : (rowT [p.kind, 0, 0, 0]).data.toList = (rowT [p.kind, 0]).data.toList ++ (twoT 0).data.toList := rfl
  simp [catT, catL, e]
theorem err_zero {p : Pk} (h : rightB p = true) (h1 : p.proto = 1) (h3 : p.kind = 3) : p.a = 0 ∧ p.seq = 0 := by
  unfold rightB pingB at h
  rw [if_neg (by omega), if_neg (by omega), if_pos h1, if_pos h3] at h
  simp only [Bool.and_eq_true, decide_eq_true_eq] at h
  exact ⟨h.2.2.1.1, h.2.2.1.2⟩

/-- a right packet's bytes, whatever its part -/
theorem implBytes_of (p : Pk) (T : TypeId) (val : Value) (fb : FuncId) (k : Nat) (w : World) (h : rightB p = true) (hA : Around p k) (hk : k ≤ 100)
    (hPT : ∀ W, Calls Tryd.prog 52 #[.agg #[.int .i64 p.src, .int .i64 p.dst, .int .i64 p.proto, .int .i64 p.a, .int .i64 p.b, .int .i64 p.kind, .int .i64 p.flags, .int .i64 p.seq, .int .i64 p.ack, .string p.body]] W fun e w' => e = .returned (.iface T val) ∧ Below W.heap.size W w')
    (hm1 : ∀ W, (method 297 T val "loop.example/g00542/impl.bytes").run Tryd.prog W = .ok (fb, val) W)
    (hc1 : ∀ W, (callFunc fb #[val]).run Tryd.prog W = .ok (.enter fb #[val]) W)
    (hB : ∀ W, Calls Tryd.prog fb #[val] W fun e w' => e = .returned (.string (tailT p 0)) ∧ Below W.heap.size W w')
    (hCP : ∀ W, Calls Tryd.prog 74 #[.agg #[.int .i64 p.src, .int .i64 p.dst, .int .i64 p.proto, .int .i64 p.a, .int .i64 p.b, .int .i64 p.kind, .int .i64 p.flags, .int .i64 p.seq, .int .i64 p.ack, .string p.body], .iface T val, .string (tailT p 0)] W fun e w' => e = .returned (.int .i64 (partC p (tailT p 0))) ∧ Below W.heap.size W w')
    (hCA : ∀ W, Calls Tryd.prog 54 #[.iface T val] W fun e w' => e = .returned (.int .i64 (k : Int)) ∧ Below W.heap.size W w') :
    Calls Tryd.prog 46 #[.agg #[.int .i64 p.src, .int .i64 p.dst, .int .i64 p.proto, .int .i64 p.a, .int .i64 p.b, .int .i64 p.kind, .int .i64 p.flags, .int .i64 p.seq, .int .i64 p.ack, .string p.body]] w fun e w' => e = .returned (.string (bytesOf p)) ∧ Below w.heap.size w w' := by
  have hs := (fine_of h).small 0
  have := implBytes_gen p T val fb (tailT p 0) k w h (by omega) hk hPT hm1 hc1 hB hCP hCA
  rw [bytes_put p k hA _ (headT_size _ _ _), partC_tail, bytes_eq p k hA] at this
  exact this

theorem implBytes_no (p : Pk) (w : World) (hs : p.body.size ≤ maxLen) (h : rightB p = false) :
    Calls Tryd.prog 46 #[.agg #[.int .i64 p.src, .int .i64 p.dst, .int .i64 p.proto, .int .i64 p.a, .int .i64 p.b, .int .i64 p.kind, .int .i64 p.flags, .int .i64 p.seq, .int .i64 p.ack, .string p.body]] w fun e w' => e = .returned (.string ⟨#[]⟩) ∧ Below w.heap.size w w' := by
  have hX := hidS (fun W => implRight_any p W hs)
  have hB1 := hidS ((Below.refl w.heap.size w).alloc (Nat.le_refl _) (.cells #[.int .i64 p.src, .int .i64 p.dst, .int .i64 p.proto, .int .i64 p.a, .int .i64 p.b, .int .i64 p.kind, .int .i64 p.flags, .int .i64 p.seq, .int .i64 p.ack, .string p.body] 30))
  go_enter Tryd.func46, Tryd.ntmps46
  go_wp2_with fail
  refine (hX.out _).mono ?_
  rintro _ w2 ⟨rfl, hb2⟩
  rw [h]
  have hL := hidS (hB1.out.trans (hb2.mono hB1.out.size))
  clear hB1 hb2 hX
  go_wp2_with fail
  go_ret
  exact ⟨rfl, hL.out⟩

theorem implBytes_any (p : Pk) (w : World) (hs : p.body.size ≤ maxLen) :
    Calls Tryd.prog 46 #[.agg #[.int .i64 p.src, .int .i64 p.dst, .int .i64 p.proto, .int .i64 p.a, .int .i64 p.b, .int .i64 p.kind, .int .i64 p.flags, .int .i64 p.seq, .int .i64 p.ack, .string p.body]] w fun e w' => e = .returned (.string (bytesAns p)) ∧ Below w.heap.size w w' := by
  cases h : rightB p
  · have e : bytesAns p = ⟨#[]⟩ := if_neg (by rw [h]; simp)
    rw [e]; exact implBytes_no p w hs h
  have e : bytesAns p = bytesOf p := if_pos h
  rw [e]
  have F := fine_of h
  have hb := F.body
  have hT := F.small 0
  have hf := flagB_iff.1 F.flags
  rcases F.proto with h6 | h17 | h1
  · exact implBytes_of p 106 _ 137 36 w h (around_tcp p h6) (by omega) (fun W => partOf_tcp p W h6) (meth_tcp_bytes _) (enter_tcp_bytes _)
      (fun W => by rw [← tail_tcp p h6]; exact tcpBytes_x p.a p.b p.seq p.ack p.flags p.body W F.a F.b F.seq F.ack (by omega) (by omega) (by omega)) (fun W => checkOfPart_tcp p _ _ W h6 F.src F.dst (by omega)) (fun W => checkAt_tcp _ W)
  · exact implBytes_of p 108 _ 140 26 w h (around_udp p h17) (by omega) (fun W => partOf_udp p W h17) (meth_udp_bytes _) (enter_udp_bytes _)
      (fun W => by rw [← tail_udp p h17]; exact udpBytes_x p.a p.b p.body W F.a F.b (by omega)) (fun W => checkOfPart_udp p _ _ W h17 F.src F.dst (by omega)) (fun W => checkAt_udp _ W)
  · by_cases h3 : p.kind = 3
    · obtain ⟨ha, hq⟩ := err_zero h h1 h3
      exact implBytes_of p 110 _ 143 22 w h (around_ping p h1) (by omega) (fun W => partOf_err p W h1 h3) (meth_err_bytes _) (enter_err_bytes _)
        (fun W => by rw [← tail_err p h1 h3 ha hq]; exact errBytes_x p.body W (by omega)) (fun W => checkOfPart_err p _ _ W h1 (by omega)) (fun W => checkAt_err _ W)
    · have k0 := F.kind0
      have k1 := F.kind1
      exact implBytes_of p 112 _ 146 22 w h (around_ping p h1) (by omega) (fun W => partOf_echo p W h1 h3) (meth_echo_bytes _) (enter_echo_bytes _)
        (fun W => by rw [← tail_echo p h1 h3]; exact echoBytes_x p.kind p.a p.seq p.body W F.a (F.seqW h1) (by omega) (by omega) (by omega)) (fun W => checkOfPart_echo p _ _ W h1 (by omega)) (fun W => checkAt_echo _ W)
end Go.Proofs.YthfhbmiddillbagDoor
end

section
namespace Go.Proofs.YthfhbmiddillbagDoor
open Go.RowKit Go.Extern.Stop Go.Stop Go.Extern
set_option linter.unusedVariables false

theorem isTypeOf (v : Value) (w : World) : (callFunc 91 #[.iface 134 v]).run Tryd.prog w = .ok (.value (.iface 147 (.agg #[typeHandle Tryd.prog 134]))) w := by kernel_rfl
theorem isComparable (w : World) : (callFunc 153 #[.agg #[typeHandle Tryd.prog 134]]).run Tryd.prog w = .ok (.value (.bool true)) w := by kernel_rfl
theorem isMethodComparable (v : Value) (w : World) : (Go.method 297 147 v "Comparable").run Tryd.prog w = .ok (153, v) w := by kernel_rfl
theorem isComp : (Tryd.prog.info? 134).map (·.comparable) = some true := by kernel_rfl
theorem isSize : (Tryd.prog.info? 136).map (·.size) = some 1 := by kernel_rfl
theorem noIsE (v : Value) (xT : TypeId) (w : World) : (Instr.typeAssert (.iface 134 v) xT 149 true).run Tryd.prog w = .ok (.tuple #[.nilIface, .bool false]) w := run_typeAssert_lacksB Tryd.underlying149 (by kernel_rfl) (by kernel_rfl) v xT w
theorem noUnwrapE (v : Value) (xT : TypeId) (w : World) : (Instr.typeAssert (.iface 134 v) xT 152 true).run Tryd.prog w = .ok (.tuple #[.nilIface, .bool false]) w := run_typeAssert_lacksB Tryd.underlying152 (by kernel_rfl) (by kernel_rfl) v xT w
theorem noUnwrapsE (v : Value) (xT : TypeId) (w : World) : (Instr.typeAssert (.iface 134 v) xT 154 true).run Tryd.prog w = .ok (.tuple #[.nilIface, .bool false]) w := run_typeAssert_lacksB Tryd.underlying154 (by kernel_rfl) (by kernel_rfl) v xT w

theorem is_same (a : Addr) (w : World) :
    Calls Tryd.prog 70 #[.iface 134 (.pointer (some a)), .iface 134 (.pointer (some a))] w fun e w' => e = .returned (.bool true) ∧ w' = w := by
  obtain ⟨i, hi, hcmp⟩ := Option.map_eq_some_iff.1 isComp
  obtain ⟨j, hj, hjs⟩ := Option.map_eq_some_iff.1 isSize
  have tT := isTypeOf
  have cT := isComparable
  have mR := isMethodComparable
  have heq := run_eql_iface_ptr_same (P := Tryd.prog) w a Tryd.underlying45 Tryd.underlying134 hi hcmp hj
  go_enter Tryd.func70, Tryd.ntmps70
  go_wp2
  refine wp_loop_rounds 1 ?_
  rw [rounds_succ]
  go_wp2
  go_ret
  exact ⟨rfl, rfl⟩

theorem is_nil (b : Addr) (w : World) :
    Calls Tryd.prog 70 #[.nilIface, .iface 134 (.pointer (some b))] w fun e w' => e = .returned (.bool false) ∧ w' = w := by
  have hn := run_eql_iface_nil_left (P := Tryd.prog) w 134 (.pointer (some b)) Tryd.underlying45
  go_enter Tryd.func70, Tryd.ntmps70
  go_wp2
  go_ret
  exact ⟨rfl, rfl⟩

theorem is_other (a b : Addr) (ca cb : Array Value) (ta tb : TypeId) (w : World) (hne : a ≠ b) (ha : w.heap[a.block]? = some (.cells ca ta (0, 0))) (hb : w.heap[b.block]? = some (.cells cb tb (0, 0))) :
    Calls Tryd.prog 70 #[.iface 134 (.pointer (some a)), .iface 134 (.pointer (some b))] w fun e w' => e = .returned (.bool false) ∧ w' = w := by
  obtain ⟨i, hi, hcmp⟩ := Option.map_eq_some_iff.1 isComp
  obtain ⟨j, hj, hjs⟩ := Option.map_eq_some_iff.1 isSize
  have tT := isTypeOf
  have cT := isComparable
  have mR := isMethodComparable
  have nE := noIsE
  have uE := noUnwrapE
  have vE := noUnwrapsE
  have heq := run_eql_iface_ptr_other (P := Tryd.prog) w Tryd.underlying45 Tryd.underlying134 hi hcmp hj (by rw [hjs]; decide) hne ha hb
  go_enter Tryd.func70, Tryd.ntmps70
  go_wp2
  refine wp_loop_rounds 1 ?_
  rw [rounds_succ]
  go_wp2
  go_ret
  exact ⟨rfl, rfl⟩
end Go.Proofs.YthfhbmiddillbagDoor
end

section
namespace Go.Proofs.YthfhbmiddillbagDoor
open Go.ChangeShapes Go.WideShapes Go.ChangeAt Go.RowKit
set_option linter.unusedVariables false
set_option maxRecDepth 100000

/-- an error of errors.New's make lies there -/
def ErrAt (a : Addr) (w : World) : Prop := ∃ c t, w.heap[a.block]? = some (.cells c t (0, 0))
theorem ErrAt.later {a : Addr} {w w' : World} (h : ErrAt a w) (hb : Below w.heap.size w w') : ErrAt a w' := by
  obtain ⟨c, t, h⟩ := h
  exact ⟨c, t, (hb.block a.block (Array.getElem?_eq_some_iff.1 h).1).trans h⟩
/-- the four package variables -/
structure Sent (aF aS aY aM : Addr) (w : World) : Prop where
  cF : w.cell? ⟨0, 0, none⟩ = some (.iface 134 (.pointer (some aF)))
  cS : w.cell? ⟨2, 0, none⟩ = some (.iface 134 (.pointer (some aS)))
  cY : w.cell? ⟨1, 0, none⟩ = some (.iface 134 (.pointer (some aY)))
  cM : w.cell? ⟨3, 0, none⟩ = some (.iface 134 (.pointer (some aM)))
  bF : ErrAt aF w
  bS : ErrAt aS w
  bY : ErrAt aY w
  bM : ErrAt aM w
  nFS : aF ≠ aS
  nFY : aF ≠ aY
  nFM : aF ≠ aM
  nSY : aS ≠ aY
  nSM : aS ≠ aM
  nYM : aY ≠ aM
theorem Sent.later {aF aS aY aM : Addr} {w w' : World} (h : Sent aF aS aY aM w) (hb : Below w.heap.size w w') : Sent aF aS aY aM w' :=
  ⟨(hb.cell (World.block_lt_of_cell? w _ h.cF)).trans h.cF, (hb.cell (World.block_lt_of_cell? w _ h.cS)).trans h.cS, (hb.cell (World.block_lt_of_cell? w _ h.cY)).trans h.cY, (hb.cell (World.block_lt_of_cell? w _ h.cM)).trans h.cM, h.bF.later hb, h.bS.later hb, h.bY.later hb, h.bM.later hb, h.nFS, h.nFY, h.nFM, h.nSY, h.nSM, h.nYM⟩
theorem codeOf_nil {aF aS aY aM : Addr} (w : World) (h : Sent aF aS aY aM w) :
    Calls Tryd.prog 42 #[.nilIface] w fun e w' => e = .returned (.int .i64 0) ∧ Below w.heap.size w w' := by
  have cF := h.cF
  have cS := h.cS
  have cY := h.cY
  have cM := h.cM
  obtain ⟨kF, tF, bF⟩ := h.bF
  obtain ⟨kS, tS, bS⟩ := h.bS
  obtain ⟨kY, tY, bY⟩ := h.bY
  obtain ⟨kM, tM, bM⟩ := h.bM
  clear h
  go_enter Tryd.func42, Tryd.ntmps42
  go_wp2_with fail
  refine (is_nil aF _).mono ?_
  rintro _ w1 ⟨rfl, rfl⟩
  go_wp2_with fail
  refine (is_nil aS _).mono ?_
  rintro _ w1 ⟨rfl, rfl⟩
  go_wp2_with fail
  refine (is_nil aY _).mono ?_
  rintro _ w1 ⟨rfl, rfl⟩
  go_wp2_with fail
  refine (is_nil aM _).mono ?_
  rintro _ w1 ⟨rfl, rfl⟩
  go_wp2_with fail
  go_ret
  exact ⟨rfl, Below.refl _ _⟩
theorem codeOf_errForm {aF aS aY aM : Addr} (w : World) (h : Sent aF aS aY aM w) :
    Calls Tryd.prog 42 #[.iface 134 (.pointer (some aF))] w fun e w' => e = .returned (.int .i64 1) ∧ Below w.heap.size w w' := by
  have cF := h.cF
  have cS := h.cS
  have cY := h.cY
  have cM := h.cM
  obtain ⟨kF, tF, bF⟩ := h.bF
  obtain ⟨kS, tS, bS⟩ := h.bS
  obtain ⟨kY, tY, bY⟩ := h.bY
  obtain ⟨kM, tM, bM⟩ := h.bM
  clear h
  go_enter Tryd.func42, Tryd.ntmps42
  go_wp2_with fail
  refine (is_same aF _).mono ?_
  rintro _ w1 ⟨rfl, rfl⟩
  go_wp2_with fail
  go_ret
  exact ⟨rfl, Below.refl _ _⟩
theorem codeOf_errShort {aF aS aY aM : Addr} (w : World) (h : Sent aF aS aY aM w) :
    Calls Tryd.prog 42 #[.iface 134 (.pointer (some aS))] w fun e w' => e = .returned (.int .i64 4) ∧ Below w.heap.size w w' := by
  have cF := h.cF
  have cS := h.cS
  have cY := h.cY
  have cM := h.cM
  obtain ⟨kF, tF, bF⟩ := h.bF
  obtain ⟨kS, tS, bS⟩ := h.bS
  obtain ⟨kY, tY, bY⟩ := h.bY
  obtain ⟨kM, tM, bM⟩ := h.bM
  have NF := hidS (h.nFS.symm)
  clear h
  go_enter Tryd.func42, Tryd.ntmps42
  go_wp2_with fail
  refine (is_other aS aF kS kF tS tF _ NF.out bS bF).mono ?_
  rintro _ w1 ⟨rfl, rfl⟩
  go_wp2_with fail
  refine (is_same aS _).mono ?_
  rintro _ w1 ⟨rfl, rfl⟩
  go_wp2_with fail
  go_ret
  exact ⟨rfl, Below.refl _ _⟩
theorem codeOf_errSyntax {aF aS aY aM : Addr} (w : World) (h : Sent aF aS aY aM w) :
    Calls Tryd.prog 42 #[.iface 134 (.pointer (some aY))] w fun e w' => e = .returned (.int .i64 3) ∧ Below w.heap.size w w' := by
  have cF := h.cF
  have cS := h.cS
  have cY := h.cY
  have cM := h.cM
  obtain ⟨kF, tF, bF⟩ := h.bF
  obtain ⟨kS, tS, bS⟩ := h.bS
  obtain ⟨kY, tY, bY⟩ := h.bY
  obtain ⟨kM, tM, bM⟩ := h.bM
  have NF := hidS (h.nFY.symm)
  have NS := hidS (h.nSY.symm)
  clear h
  go_enter Tryd.func42, Tryd.ntmps42
  go_wp2_with fail
  refine (is_other aY aF kY kF tY tF _ NF.out bY bF).mono ?_
  rintro _ w1 ⟨rfl, rfl⟩
  go_wp2_with fail
  refine (is_other aY aS kY kS tY tS _ NS.out bY bS).mono ?_
  rintro _ w1 ⟨rfl, rfl⟩
  go_wp2_with fail
  refine (is_same aY _).mono ?_
  rintro _ w1 ⟨rfl, rfl⟩
  go_wp2_with fail
  go_ret
  exact ⟨rfl, Below.refl _ _⟩
theorem codeOf_errSum {aF aS aY aM : Addr} (w : World) (h : Sent aF aS aY aM w) :
    Calls Tryd.prog 42 #[.iface 134 (.pointer (some aM))] w fun e w' => e = .returned (.int .i64 5) ∧ Below w.heap.size w w' := by
  have cF := h.cF
  have cS := h.cS
  have cY := h.cY
  have cM := h.cM
  obtain ⟨kF, tF, bF⟩ := h.bF
  obtain ⟨kS, tS, bS⟩ := h.bS
  obtain ⟨kY, tY, bY⟩ := h.bY
  obtain ⟨kM, tM, bM⟩ := h.bM
  have NF := hidS (h.nFM.symm)
  have NS := hidS (h.nSM.symm)
  have NY := hidS (h.nYM.symm)
  clear h
  go_enter Tryd.func42, Tryd.ntmps42
  go_wp2_with fail
  refine (is_other aM aF kM kF tM tF _ NF.out bM bF).mono ?_
  rintro _ w1 ⟨rfl, rfl⟩
  go_wp2_with fail
  refine (is_other aM aS kM kS tM tS _ NS.out bM bS).mono ?_
  rintro _ w1 ⟨rfl, rfl⟩
  go_wp2_with fail
  refine (is_other aM aY kM kY tM tY _ NY.out bM bY).mono ?_
  rintro _ w1 ⟨rfl, rfl⟩
  go_wp2_with fail
  refine (is_same aM _).mono ?_
  rintro _ w1 ⟨rfl, rfl⟩
  go_wp2_with fail
  go_ret
  exact ⟨rfl, Below.refl _ _⟩
end Go.Proofs.YthfhbmiddillbagDoor
end

section
namespace Go.Proofs.YthfhbmiddillbagDoor
open Go.ChangeShapes Go.WideShapes Go.ChangeAt Go.RowKit
set_option linter.unusedVariables false
set_option linter.unusedSimpArgs false

set_option maxHeartbeats 2000000 in
theorem packAns_x (p : Pk) (err : Value) (c : Int) (w : World) (hCO : ∀ W, Below w.heap.size w W → Calls Tryd.prog 42 #[err] W fun e w' => e = .returned (.int .i64 c) ∧ Below W.heap.size W w') :
    Calls Tryd.prog 24 #[.agg #[.int .i64 p.src, .int .i64 p.dst, .int .i64 p.proto, .int .i64 p.a, .int .i64 p.b, .int .i64 p.kind, .int .i64 p.flags, .int .i64 p.seq, .int .i64 p.ack, .string p.body], err] w fun e w' => e = .returned (.agg #[.int .i64 p.src, .int .i64 p.dst, .int .i64 p.proto, .int .i64 p.a, .int .i64 p.b, .int .i64 p.kind, .int .i64 p.flags, .int .i64 p.seq, .int .i64 p.ack, .string p.body, .int .i64 (c)]) ∧ Below w.heap.size w w' := by
  have HCO := hidS hCO
  clear hCO
  have HP : Hid (PkAt w.heap.size p ((w.alloc (.cells #[.int .i64 p.src, .int .i64 p.dst, .int .i64 p.proto, .int .i64 p.a, .int .i64 p.b, .int .i64 p.kind, .int .i64 p.flags, .int .i64 p.seq, .int .i64 p.ack, .string p.body] 30)).alloc (.cells #[.int .i64 0, .int .i64 0, .int .i64 0, .int .i64 0, .int .i64 0, .int .i64 0, .int .i64 0, .int .i64 0, .int .i64 0, .string ⟨#[]⟩, .int .i64 0] 32))) := (PkAt.new p w).later ((Below.refl _ _).alloc (Nat.le_refl _) _)
  have hG : ((w.alloc (.cells #[.int .i64 p.src, .int .i64 p.dst, .int .i64 p.proto, .int .i64 p.a, .int .i64 p.b, .int .i64 p.kind, .int .i64 p.flags, .int .i64 p.seq, .int .i64 p.ack, .string p.body] 30)).alloc (.cells #[.int .i64 0, .int .i64 0, .int .i64 0, .int .i64 0, .int .i64 0, .int .i64 0, .int .i64 0, .int .i64 0, .int .i64 0, .string ⟨#[]⟩, .int .i64 0] 32)).heap[w.heap.size + 1]? = some (.cells #[.int .i64 0, .int .i64 0, .int .i64 0, .int .i64 0, .int .i64 0, .int .i64 0, .int .i64 0, .int .i64 0, .int .i64 0, .string ⟨#[]⟩, .int .i64 0] 32) := by
    have := heap_newG (w.alloc (.cells #[.int .i64 p.src, .int .i64 p.dst, .int .i64 p.proto, .int .i64 p.a, .int .i64 p.b, .int .i64 p.kind, .int .i64 p.flags, .int .i64 p.seq, .int .i64 p.ack, .string p.body] 30)) (.cells #[.int .i64 0, .int .i64 0, .int .i64 0, .int .i64 0, .int .i64 0, .int .i64 0, .int .i64 0, .int .i64 0, .int .i64 0, .string ⟨#[]⟩, .int .i64 0] 32)
    simpa using this
  have hB1 := hidS (((Below.refl w.heap.size w).alloc (Nat.le_refl _) (.cells #[.int .i64 p.src, .int .i64 p.dst, .int .i64 p.proto, .int .i64 p.a, .int .i64 p.b, .int .i64 p.kind, .int .i64 p.flags, .int .i64 p.seq, .int .i64 p.ack, .string p.body] 30)).alloc (by simp) (.cells #[.int .i64 0, .int .i64 0, .int .i64 0, .int .i64 0, .int .i64 0, .int .i64 0, .int .i64 0, .int .i64 0, .int .i64 0, .string ⟨#[]⟩, .int .i64 0] 32))
  have HG := hidS hG
  clear hG
  go_enter Tryd.func24, Tryd.ntmps24
  go_wp2_with fail
  generalize (w.alloc (.cells #[.int .i64 p.src, .int .i64 p.dst, .int .i64 p.proto, .int .i64 p.a, .int .i64 p.b, .int .i64 p.kind, .int .i64 p.flags, .int .i64 p.seq, .int .i64 p.ack, .string p.body] 30)).alloc (.cells #[.int .i64 0, .int .i64 0, .int .i64 0, .int .i64 0, .int .i64 0, .int .i64 0, .int .i64 0, .int .i64 0, .int .i64 0, .string ⟨#[]⟩, .int .i64 0] 32) = w1 at HP hB1 HG ⊢
  refine grow_into 4 _ [.is (.agg #[.int .i64 p.src, .int .i64 p.dst, .int .i64 p.proto, .int .i64 p.a, .int .i64 p.b, .int .i64 p.kind, .int .i64 p.flags, .int .i64 p.seq, .int .i64 p.ack, .string p.body]), .is (err), .is (.int .i64 (c)), .is (.agg #[.int .i64 p.src, .int .i64 p.dst, .int .i64 p.proto, .int .i64 p.a, .int .i64 p.b, .int .i64 p.kind, .int .i64 p.flags, .int .i64 p.seq, .int .i64 p.ack, .string p.body, .int .i64 (c)])] 3 4 8 32 32 ((w.heap.size + 1)) #[.int .i64 0, .int .i64 0, .int .i64 0, .int .i64 0, .int .i64 0, .int .i64 0, .int .i64 0, .int .i64 0, .int .i64 0, .string ⟨#[]⟩, .int .i64 0] #[.int .i64 p.src, .int .i64 p.dst, .int .i64 p.proto, .int .i64 p.a, .int .i64 p.b, .int .i64 p.kind, .int .i64 p.flags, .int .i64 p.seq, .int .i64 p.ack, .string p.body, .int .i64 (c)] rfl rfl rfl (by kernel_rfl) (by kernel_rfl) (by kernel_rfl) rfl rfl (by decide) (by kernel_rfl) (by kernel_rfl) (by decide) HG.out (by kernel_rfl) (by kernel_rfl) (by first | kernel_rfl | simp [Value.oneCell']) (by kernel_rfl) ?steps ?fin
  case steps =>
    refine ⟨?_, ?_, ?_, ?_, trivial⟩
    · refine ⟨rfl, fun v W ρ hC kc kf ks ki kd => ?_⟩
      have t2 : ρ (.tmp 2) = .pointer (some ⟨w.heap.size, 0, none⟩) := ki 2 (by decide)
      have hp := HP.out.later hC
      obtain ⟨c0, c1, c2, c3, c4, c5, c6, c7, c8, c9⟩ := hp
      simp [execOp, go_sem, t2, c0, c1, c2, c3, c4, c5, c6, c7, c8, c9]
      exact ⟨hC, Below.refl _ _, rfl⟩
    · refine ⟨rfl, fun v W ρ hC kc kf ks ki kd => ?_⟩
      have t1 : ρ (.tmp 1) = err := ki 1 (by decide)
      simp [execOp, go_sem, t1]
      exact ⟨hC, Below.refl _ _, rfl⟩
    · refine ⟨rfl, fun v W ρ hC kc kf ks ki kd => ?_⟩
      have d1 : v 1 = err := kd _ (Array.mem_of_getElem? (i := 0) rfl) rfl
      have t6 : ρ (.tmp 6) = v 1 := ks 1 6 (by decide) rfl
      rw [d1] at t6
      simp [execOp, go_sem, t6, kf]
      exact Calls.mono (HCO.out _ (hB1.out.trans (hC.mono hB1.out.size))) (fun e x h => ⟨_, h.1, hC.trans (h.2.mono hC.size), h.2, rfl⟩)
    · refine ⟨rfl, fun v W ρ hC kc kf ks ki kd => ?_⟩
      have d0 : v 0 = .agg #[.int .i64 p.src, .int .i64 p.dst, .int .i64 p.proto, .int .i64 p.a, .int .i64 p.b, .int .i64 p.kind, .int .i64 p.flags, .int .i64 p.seq, .int .i64 p.ack, .string p.body] := kd _ (Array.mem_of_getElem? (i := 0) rfl) rfl
      have t5 : ρ (.tmp 5) = v 0 := ks 0 5 (by decide) rfl
      rw [d0] at t5
      have d2 : v 2 = .int .i64 (c) := kd _ (Array.mem_of_getElem? (i := 1) rfl) rfl
      have t7 : ρ (.tmp 7) = v 2 := ks 2 7 (by decide) rfl
      rw [d2] at t7
      simp [execOp, go_sem, t5, t7]
      exact ⟨hC, Below.refl _ _, rfl⟩
  case fin =>
    intro v W hLW hgW hall
    simp [upto, Act.put]
    clear hall
    have hE := hidS (hB1.out.trans (hLW w.heap.size (by omega)))
    have hc := blk_cell hgW
    clear hLW hgW HG HP hB1 HCO
    go_wp2_with fail
    exact bodyPost_ret (v := .agg #[.int .i64 p.src, .int .i64 p.dst, .int .i64 p.proto, .int .i64 p.a, .int .i64 p.b, .int .i64 p.kind, .int .i64 p.flags, .int .i64 p.seq, .int .i64 p.ack, .string p.body, .int .i64 (c)]) (by simp [results, Tryd.results24, go_sem, hc]) rfl ⟨rfl, hE.out⟩
end Go.Proofs.YthfhbmiddillbagDoor
end

section
namespace Go.Proofs.YthfhbmiddillbagDoor
open Go.ChangeShapes Go.WideShapes Go.ChangeAt Go.RowKit
open Go.ChangeMaps (open_string shut_string)
set_option linter.unusedVariables false

theorem cell_of_heap {w : World} {g : Nat} {cs : Array Value} {e : TypeId} {fr : Nat × Nat} (h : w.heap[g]? = some (.cells cs e fr)) (j : Nat) : w.cell? ⟨g, j, none⟩ = cs[j]? := by
  simp [World.cell?, h]
theorem shape_of_heap {w : World} {g : Nat} {cs : Array Value} {e : TypeId} {fr : Nat × Nat} (h : w.heap[g]? = some (.cells cs e fr)) : w.shape? g = some (e, cs.size) := by
  simp [World.shape?, h]

set_option maxRecDepth 100000 in
theorem cloneIn_any (s : ByteArray) (w : World) (hs : s.size ≤ 1099511627776) :
    Calls Tryd.prog 71 #[.string s] w fun e w' => e = .returned (.string s) ∧ Below w.heap.size w w' := by
  by_cases h : s.size = 0
  · have hE : s = ⟨#[]⟩ := ByteArray.ext (Array.eq_empty_of_size_eq_zero h)
    subst hE
    go_enter Tryd.func71, Tryd.ntmps71
    go_wp2
    go_ret
    exact ⟨rfl, Below.refl _ _⟩
  · have h' : ((s.size : Int) == 0) = false := beq_eq_false_iff_ne.2 (by omega)
    have hpos : 0 < s.size := by omega
    have hmk : ∀ W, (Instr.makeSlice 72 (.int .i64 (s.size : Int)) (.int .i64 (s.size : Int))).run Tryd.prog W = .ok (.slice (some ⟨W.heap.size, 0, none⟩) s.size s.size) (W.alloc (.cells (madeCells #[.int .u8 0] s.size) 5)) := fun W =>
      run_make_row' (P := Tryd.prog) 72 5 (.int .u8 0) 1 Tryd.underlying72 Tryd.infoU8 rfl .i64 .i64 s.size (by omega) (by omega) W
    have hsl : s.data.toList.length = s.size := by simp
    have hg0 := heap_new w (.cells (madeCells #[.int .u8 0] s.size) 5)
    have hr1 := Lib.run_copy_row_string (P := Tryd.prog) (w.alloc (.cells (madeCells #[.int .u8 0] s.size) 5)) 72 9 3 5 w.heap.size 0 s.size s.size s _ 5 Tryd.underlying72 (by kernel_rfl) hg0 (Nat.le_refl _) (by rw [size_madeCells]; omega)
    have hrow : ((madeCells #[Value.int .u8 0] s.size).toList.take 0 ++ Lib.byteCells s.data.toList ++ (madeCells #[Value.int .u8 0] s.size).toList.drop (0 + s.size)).toArray = (Lib.byteCells s.data.toList).toArray := by
      rw [List.drop_of_length_le (by rw [Array.length_toList, size_madeCells]; omega)]
      simp
    rw [hrow] at hr1
    have hg1 := setRow_heap _ w.heap.size _ (Lib.byteCells s.data.toList).toArray _ _ hg0
    have hbel1 : Below w.heap.size w ((w.alloc (.cells (madeCells #[.int .u8 0] s.size) 5)).setRow w.heap.size (Lib.byteCells s.data.toList).toArray) := below_setRow ((Below.refl _ _).alloc (Nat.le_refl _) _) (Nat.le_refl _) _
    generalize (w.alloc (.cells (madeCells #[.int .u8 0] s.size) 5)).setRow w.heap.size (Lib.byteCells s.data.toList).toArray = w1 at hr1 hg1 hbel1
    have hus := Lib.run_unsafeString_row (P := Tryd.prog) (w := w1) 126 3 9 5 Tryd.underlying126 (by kernel_rfl) w.heap.size _ (shape_of_heap hg1) s.data.toList (by intro e; rw [e] at hsl; simp at hsl; omega) (by simp [Lib.byteCells]) (by omega) (fun j x hx => by
      rw [Addr.add_lit, Nat.zero_add, cell_of_heap hg1]
      simp [Lib.byteCells, hx])
    rw [hsl] at hus
    have hbel2 := Lib.below_freeze hbel1 (p := ⟨w.heap.size, 0, none⟩) (Nat.le_refl _) s.size
    clear hg0 hg1 hrow hsl hbel1
    go_enter Tryd.func71, Tryd.ntmps71
    go_wp2
    go_ret
    exact ⟨rfl, hbel2⟩

theorem clone_any (s : ByteArray) (w : World) (hs : s.size ≤ 1099511627776) :
    Calls Tryd.prog 45 #[.string s] w fun e w' => e = .returned (.string s) ∧ Below w.heap.size w w' := by
  go_enter Tryd.func45, Tryd.ntmps45
  go_wp2_with (go_at_call 71; refine (cloneIn_any _ _ hs).mono ?_; rintro e w1 ⟨rfl, hb1⟩)
  go_ret
  exact ⟨rfl, hb1⟩
end Go.Proofs.YthfhbmiddillbagDoor
end

section
namespace Go.Proofs.YthfhbmiddillbagDoor
open Go.ChangeShapes Go.WideShapes Go.ChangeAt Go.RowKit
open Go.ChangeMaps (open_string shut_string)
set_option linter.unusedVariables false
set_option maxRecDepth 100000

theorem sent_allocE {aF aS aY aM : Addr} {w : World} (h : Sent aF aS aY aM w) (o : Obj) : Sent aF aS aY aM (w.alloc o) := h.later ((Below.refl _ _).alloc (Nat.le_refl _) o)
theorem bytesOf_sm {p : Pk} (h : Fine p) : (bytesOf p).size ≤ 140 := by
  unfold bytesOf
  rw [ByteArray.size_append, headT_size]
  have := h.small (checkT p).toNat
  omega
theorem bytesAns_of {p : Pk} (h : rightB p = true) : bytesAns p = bytesOf p := if_pos h
theorem isError_any (p : Pk) (w : World) :
    Calls Tryd.prog 44 #[.agg #[.int .i64 p.src, .int .i64 p.dst, .int .i64 p.proto, .int .i64 p.a, .int .i64 p.b, .int .i64 p.kind, .int .i64 p.flags, .int .i64 p.seq, .int .i64 p.ack, .string p.body]] w fun e w' => e = .returned (.bool (p.proto == 1 && p.kind == 3)) ∧ Below w.heap.size w w' := by
  have HB := fun o => hidS ((Below.refl w.heap.size w).alloc (Nat.le_refl _) o)
  cases h1 : (p.proto == 1)
  · go_enter Tryd.func44, Tryd.ntmps44
    go_wp2
    go_ret
    exact ⟨rfl, (HB _).out⟩
  · go_enter Tryd.func44, Tryd.ntmps44
    go_wp2
    go_ret
    exact ⟨rfl, (HB _).out⟩

set_option maxHeartbeats 2000000 in
theorem tell_no {aF aS aY aM : Addr} (p : Pk) (f : Int) (w : World) (hs : p.body.size ≤ maxLen) (hS : Sent aF aS aY aM w) (h : errB p f = false) :
    Calls Tryd.prog 25 #[.agg #[.int .i64 p.src, .int .i64 p.dst, .int .i64 p.proto, .int .i64 p.a, .int .i64 p.b, .int .i64 p.kind, .int .i64 p.flags, .int .i64 p.seq, .int .i64 p.ack, .string p.body], .int .i64 f] w fun e w' => e = .returned (.tuple #[.agg #[.int .i64 zeroPk.src, .int .i64 zeroPk.dst, .int .i64 zeroPk.proto, .int .i64 zeroPk.a, .int .i64 zeroPk.b, .int .i64 zeroPk.kind, .int .i64 zeroPk.flags, .int .i64 zeroPk.seq, .int .i64 zeroPk.ack, .string zeroPk.body], .iface 134 (.pointer (some aF))]) ∧ Below w.heap.size w w' := by
  have HR := hidS (fun W => implRight_any p W hs)
  have HI := hidS (fun W => isError_any p W)
  have hlt0 : 0 < w.heap.size := World.block_lt_of_cell? w _ hS.cF
  have hS0 := hidS (sent_allocE (sent_allocE hS (.cells #[.int .i64 p.src, .int .i64 p.dst, .int .i64 p.proto, .int .i64 p.a, .int .i64 p.b, .int .i64 p.kind, .int .i64 p.flags, .int .i64 p.seq, .int .i64 p.ack, .string p.body] 30)) (.cells #[.int .i64 0, .int .i64 0, .int .i64 0, .int .i64 0, .int .i64 0, .int .i64 0, .int .i64 0, .int .i64 0, .int .i64 0, .string ⟨#[]⟩] 30))
  have hP0 := hidS (blk_alloc (heap_newG w (.cells #[.int .i64 p.src, .int .i64 p.dst, .int .i64 p.proto, .int .i64 p.a, .int .i64 p.b, .int .i64 p.kind, .int .i64 p.flags, .int .i64 p.seq, .int .i64 p.ack, .string p.body] 30)) (.cells #[.int .i64 0, .int .i64 0, .int .i64 0, .int .i64 0, .int .i64 0, .int .i64 0, .int .i64 0, .int .i64 0, .int .i64 0, .string ⟨#[]⟩] 30))
  have hG0' : ((w.alloc (.cells #[.int .i64 p.src, .int .i64 p.dst, .int .i64 p.proto, .int .i64 p.a, .int .i64 p.b, .int .i64 p.kind, .int .i64 p.flags, .int .i64 p.seq, .int .i64 p.ack, .string p.body] 30)).alloc (.cells #[.int .i64 0, .int .i64 0, .int .i64 0, .int .i64 0, .int .i64 0, .int .i64 0, .int .i64 0, .int .i64 0, .int .i64 0, .string ⟨#[]⟩] 30)).heap[w.heap.size + 1]? = some (.cells #[.int .i64 0, .int .i64 0, .int .i64 0, .int .i64 0, .int .i64 0, .int .i64 0, .int .i64 0, .int .i64 0, .int .i64 0, .string ⟨#[]⟩] 30) := by
    have := heap_newG (w.alloc (.cells #[.int .i64 p.src, .int .i64 p.dst, .int .i64 p.proto, .int .i64 p.a, .int .i64 p.b, .int .i64 p.kind, .int .i64 p.flags, .int .i64 p.seq, .int .i64 p.ack, .string p.body] 30)) (.cells #[.int .i64 0, .int .i64 0, .int .i64 0, .int .i64 0, .int .i64 0, .int .i64 0, .int .i64 0, .int .i64 0, .int .i64 0, .string ⟨#[]⟩] 30)
    simpa using this
  have hG0 := hidS hG0'
  clear hG0'
  have hL0 := hidS (((Below.refl w.heap.size w).alloc (Nat.le_refl _) (.cells #[.int .i64 p.src, .int .i64 p.dst, .int .i64 p.proto, .int .i64 p.a, .int .i64 p.b, .int .i64 p.kind, .int .i64 p.flags, .int .i64 p.seq, .int .i64 p.ack, .string p.body] 30)).alloc (by simp) (.cells #[.int .i64 0, .int .i64 0, .int .i64 0, .int .i64 0, .int .i64 0, .int .i64 0, .int .i64 0, .int .i64 0, .int .i64 0, .string ⟨#[]⟩] 30))
  cases hr : rightB p
  · clear h hS
    go_enter Tryd.func25, Tryd.ntmps25
    go_wp2_with fail
    refine (HR.out _).mono ?_
    rintro _ w1 ⟨rfl, hb1⟩
    rw [hr]
    have hG6 := blk_later hG0.out hb1
    have hS6 := hidS (hS0.out.later hb1)
    have hL6 := hidS (hL0.out.trans (hb1.mono hL0.out.size))
    clear hb1 hG0 hS0 hL0
    have hg := hS6.out.cF
    have hne : w.heap.size + 1 ≠ 0 := by omega
    have cg := blk_cell hG6
    have fg := blk_free hG6
    clear hS6 hG6
    go_wp2_with fail
    go_region
    go_wp2_with fail
    refine bodyPost_ret (v := .tuple #[.agg #[.int .i64 zeroPk.src, .int .i64 zeroPk.dst, .int .i64 zeroPk.proto, .int .i64 zeroPk.a, .int .i64 zeroPk.b, .int .i64 zeroPk.kind, .int .i64 zeroPk.flags, .int .i64 zeroPk.seq, .int .i64 zeroPk.ack, .string zeroPk.body], .iface 134 (.pointer (some aF))]) (by simp [results, Tryd.results25, go_sem, zeroPk, *]) rfl ⟨rfl, ?_⟩
    refine Below.drew ?_
    repeat (refine below_at ?_ (by omega))
    exact hL6.out
  cases hi : (p.proto == 1 && p.kind == 3)
  · cases ha : addrB f
    · have hal : allA [f] = false := by simp [allA, ha]
      clear h hS ha
      go_enter Tryd.func25, Tryd.ntmps25
      go_wp2_with fail
      refine (HR.out _).mono ?_
      rintro _ w1 ⟨rfl, hb1⟩
      rw [hr]
      have hG1 := hidS (blk_later hG0.out hb1)
      have hP1 := blk_later hP0.out hb1
      have hS1 := hidS (hS0.out.later hb1)
      have hL1 := hidS (hL0.out.trans (hb1.mono hL0.out.size))
      clear hb1 hG0 hP0 hS0 hL0 HR
      have c0 := blk_cell hP1 0
      have c1 := blk_cell hP1 1
      have c2 := blk_cell hP1 2
      have c3 := blk_cell hP1 3
      have c4 := blk_cell hP1 4
      have c5 := blk_cell hP1 5
      have c6 := blk_cell hP1 6
      have c7 := blk_cell hP1 7
      have c8 := blk_cell hP1 8
      have c9 := blk_cell hP1 9
      simp at c0 c1 c2 c3 c4 c5 c6 c7 c8 c9
      have HP1 := hidS hP1
      clear hP1
      go_wp2_with fail
      refine (HI.out _).mono ?_
      rintro _ w2 ⟨rfl, hb2⟩
      rw [hi]
      have hG2 := hidS (blk_later hG1.out hb2)
      have hS2 := hidS (hS1.out.later hb2)
      have hL2 := hidS (hL1.out.trans (hb2.mono hL1.out.size))
      clear hb2 hG1 HP1 hS1 hL1 HI c0 c1 c2 c3 c4 c5 c6 c7 c8 c9
      have hv := vals_at (W := w2) [.int .i64 f] 2
      have HA := hidS (areAddrs_any w2.heap.size [f] _ (ValsAt.ints (ts := [f]) hv) (by simp))
      clear hv
      go_wp2_with fail
      refine HA.out.mono ?_
      rintro _ w3 ⟨rfl, rfl⟩
      rw [hal]
      have hG0 := hidS (blk_alloc hG2.out (.cells #[.int .i64 f] 2))
      have hS0 := hidS (sent_allocE hS2.out (.cells #[.int .i64 f] 2))
      have hL0 := hidS (hL2.out.alloc hL2.out.size (.cells #[.int .i64 f] 2))
      clear hG2 hS2 hL2 HA
      generalize w2.alloc (.cells #[.int .i64 f] 2) = w1 at hG0 hS0 hL0 ⊢
      have hb1 := Below.refl w1.heap.size w1
      have hG6 := blk_later hG0.out hb1
      have hS6 := hidS (hS0.out.later hb1)
      have hL6 := hidS (hL0.out.trans (hb1.mono hL0.out.size))
      clear hb1 hG0 hS0 hL0
      have hg := hS6.out.cF
      have hne : w.heap.size + 1 ≠ 0 := by omega
      have cg := blk_cell hG6
      have fg := blk_free hG6
      clear hS6 hG6
      go_wp2_with fail
      go_region
      go_wp2_with fail
      refine bodyPost_ret (v := .tuple #[.agg #[.int .i64 zeroPk.src, .int .i64 zeroPk.dst, .int .i64 zeroPk.proto, .int .i64 zeroPk.a, .int .i64 zeroPk.b, .int .i64 zeroPk.kind, .int .i64 zeroPk.flags, .int .i64 zeroPk.seq, .int .i64 zeroPk.ack, .string zeroPk.body], .iface 134 (.pointer (some aF))]) (by simp [results, Tryd.results25, go_sem, zeroPk, *]) rfl ⟨rfl, ?_⟩
      refine Below.drew ?_
      repeat (refine below_at ?_ (by omega))
      exact hL6.out
    · exfalso
      unfold errB at h
      rw [hr, hi, ha] at h
      cases h
  · clear h hS
    go_enter Tryd.func25, Tryd.ntmps25
    go_wp2_with fail
    refine (HR.out _).mono ?_
    rintro _ w1 ⟨rfl, hb1⟩
    rw [hr]
    have hG1 := hidS (blk_later hG0.out hb1)
    have hP1 := blk_later hP0.out hb1
    have hS1 := hidS (hS0.out.later hb1)
    have hL1 := hidS (hL0.out.trans (hb1.mono hL0.out.size))
    clear hb1 hG0 hP0 hS0 hL0 HR
    have c0 := blk_cell hP1 0
    have c1 := blk_cell hP1 1
    have c2 := blk_cell hP1 2
    have c3 := blk_cell hP1 3
    have c4 := blk_cell hP1 4
    have c5 := blk_cell hP1 5
    have c6 := blk_cell hP1 6
    have c7 := blk_cell hP1 7
    have c8 := blk_cell hP1 8
    have c9 := blk_cell hP1 9
    simp at c0 c1 c2 c3 c4 c5 c6 c7 c8 c9
    have HP1 := hidS hP1
    clear hP1
    go_wp2_with fail
    refine (HI.out _).mono ?_
    rintro _ w2 ⟨rfl, hb2⟩
    rw [hi]
    have hG0 := hidS (blk_later hG1.out hb2)
    have hS0 := hidS (hS1.out.later hb2)
    have hL0 := hidS (hL1.out.trans (hb2.mono hL1.out.size))
    clear hb2 hG1 HP1 hS1 hL1 HI c0 c1 c2 c3 c4 c5 c6 c7 c8 c9
    have hb1 := Below.refl w2.heap.size w2
    have hG6 := blk_later hG0.out hb1
    have hS6 := hidS (hS0.out.later hb1)
    have hL6 := hidS (hL0.out.trans (hb1.mono hL0.out.size))
    clear hb1 hG0 hS0 hL0
    have hg := hS6.out.cF
    have hne : w.heap.size + 1 ≠ 0 := by omega
    have cg := blk_cell hG6
    have fg := blk_free hG6
    clear hS6 hG6
    go_wp2_with fail
    go_region
    go_wp2_with fail
    refine bodyPost_ret (v := .tuple #[.agg #[.int .i64 zeroPk.src, .int .i64 zeroPk.dst, .int .i64 zeroPk.proto, .int .i64 zeroPk.a, .int .i64 zeroPk.b, .int .i64 zeroPk.kind, .int .i64 zeroPk.flags, .int .i64 zeroPk.seq, .int .i64 zeroPk.ack, .string zeroPk.body], .iface 134 (.pointer (some aF))]) (by simp [results, Tryd.results25, go_sem, zeroPk, *]) rfl ⟨rfl, ?_⟩
    refine Below.drew ?_
    repeat (refine below_at ?_ (by omega))
    exact hL6.out

set_option maxHeartbeats 2000000 in
theorem tell_yes (p : Pk) (f : Int) (w : World) (h : errB p f = true) :
    Calls Tryd.prog 25 #[.agg #[.int .i64 p.src, .int .i64 p.dst, .int .i64 p.proto, .int .i64 p.a, .int .i64 p.b, .int .i64 p.kind, .int .i64 p.flags, .int .i64 p.seq, .int .i64 p.ack, .string p.body], .int .i64 f] w fun e w' => e = .returned (.tuple #[.agg #[.int .i64 (errP p f).src, .int .i64 (errP p f).dst, .int .i64 (errP p f).proto, .int .i64 (errP p f).a, .int .i64 (errP p f).b, .int .i64 (errP p f).kind, .int .i64 (errP p f).flags, .int .i64 (errP p f).seq, .int .i64 (errP p f).ack, .string (errP p f).body], .nilIface]) ∧ Below w.heap.size w w' := by
  have e0 : Hid (errP p f = ⟨f, p.src, 1, 0, 0, 3, 0, 0, 0, (bytesOf p).extract 0 28⟩) := if_pos h
  unfold errB at h
  simp only [Bool.and_eq_true, Bool.not_eq_true'] at h
  obtain ⟨⟨hr, hi⟩, ha⟩ := h
  have hal : allA [f] = true := by simp [allA, ha]
  have hF := fine_of hr
  have hs : p.body.size ≤ maxLen := by have := hF.body; unfold maxLen; omega
  have h28 : 28 ≤ (bytesOf p).size := bytesOf_28 hF
  have HR := hidS (fun W => implRight_any p W hs)
  have HI := hidS (fun W => isError_any p W)
  have HB := hidS (fun W => implBytes_any p W hs)
  rw [bytesAns_of hr] at HB
  have hbs := bytesOf_sm hF
  clear hF ha
  have hP0 := hidS (blk_alloc (heap_newG w (.cells #[.int .i64 p.src, .int .i64 p.dst, .int .i64 p.proto, .int .i64 p.a, .int .i64 p.b, .int .i64 p.kind, .int .i64 p.flags, .int .i64 p.seq, .int .i64 p.ack, .string p.body] 30)) (.cells #[.int .i64 0, .int .i64 0, .int .i64 0, .int .i64 0, .int .i64 0, .int .i64 0, .int .i64 0, .int .i64 0, .int .i64 0, .string ⟨#[]⟩] 30))
  have hG0' : ((w.alloc (.cells #[.int .i64 p.src, .int .i64 p.dst, .int .i64 p.proto, .int .i64 p.a, .int .i64 p.b, .int .i64 p.kind, .int .i64 p.flags, .int .i64 p.seq, .int .i64 p.ack, .string p.body] 30)).alloc (.cells #[.int .i64 0, .int .i64 0, .int .i64 0, .int .i64 0, .int .i64 0, .int .i64 0, .int .i64 0, .int .i64 0, .int .i64 0, .string ⟨#[]⟩] 30)).heap[w.heap.size + 1]? = some (.cells #[.int .i64 0, .int .i64 0, .int .i64 0, .int .i64 0, .int .i64 0, .int .i64 0, .int .i64 0, .int .i64 0, .int .i64 0, .string ⟨#[]⟩] 30) := by
    have := heap_newG (w.alloc (.cells #[.int .i64 p.src, .int .i64 p.dst, .int .i64 p.proto, .int .i64 p.a, .int .i64 p.b, .int .i64 p.kind, .int .i64 p.flags, .int .i64 p.seq, .int .i64 p.ack, .string p.body] 30)) (.cells #[.int .i64 0, .int .i64 0, .int .i64 0, .int .i64 0, .int .i64 0, .int .i64 0, .int .i64 0, .int .i64 0, .int .i64 0, .string ⟨#[]⟩] 30)
    simpa using this
  have hG0 := hidS hG0'
  clear hG0'
  have hL0 := hidS (((Below.refl w.heap.size w).alloc (Nat.le_refl _) (.cells #[.int .i64 p.src, .int .i64 p.dst, .int .i64 p.proto, .int .i64 p.a, .int .i64 p.b, .int .i64 p.kind, .int .i64 p.flags, .int .i64 p.seq, .int .i64 p.ack, .string p.body] 30)).alloc (by simp) (.cells #[.int .i64 0, .int .i64 0, .int .i64 0, .int .i64 0, .int .i64 0, .int .i64 0, .int .i64 0, .int .i64 0, .int .i64 0, .string ⟨#[]⟩] 30))
  go_enter Tryd.func25, Tryd.ntmps25
  go_wp2_with fail
  refine (HR.out _).mono ?_
  rintro _ w1 ⟨rfl, hb1⟩
  rw [hr]
  have hG1 := hidS (blk_later hG0.out hb1)
  have hP1 := blk_later hP0.out hb1
  have hL1 := hidS (hL0.out.trans (hb1.mono hL0.out.size))
  clear hb1 hG0 hP0 hL0 HR
  have c0 := blk_cell hP1 0
  have c1 := blk_cell hP1 1
  have c2 := blk_cell hP1 2
  have c3 := blk_cell hP1 3
  have c4 := blk_cell hP1 4
  have c5 := blk_cell hP1 5
  have c6 := blk_cell hP1 6
  have c7 := blk_cell hP1 7
  have c8 := blk_cell hP1 8
  have c9 := blk_cell hP1 9
  simp at c0 c1 c2 c3 c4 c5 c6 c7 c8 c9
  have HP1 := hidS hP1
  clear hP1
  go_wp2_with fail
  refine (HI.out _).mono ?_
  rintro _ w2 ⟨rfl, hb2⟩
  rw [hi]
  have hG2 := hidS (blk_later hG1.out hb2)
  have HP2 := hidS (blk_later HP1.out hb2)
  have hL2 := hidS (hL1.out.trans (hb2.mono hL1.out.size))
  clear hb2 hG1 HP1 hL1 HI c0 c1 c2 c3 c4 c5 c6 c7 c8 c9
  have hv := vals_at (W := w2) [.int .i64 f] 2
  have HA := hidS (areAddrs_any w2.heap.size [f] _ (ValsAt.ints (ts := [f]) hv) (by simp))
  clear hv
  go_wp2_with fail
  refine HA.out.mono ?_
  rintro _ w3 ⟨rfl, rfl⟩
  rw [hal]
  have hG3 := hidS (blk_alloc hG2.out (.cells #[.int .i64 f] 2))
  have hP1 := blk_alloc HP2.out (.cells #[.int .i64 f] 2)
  have hL3 := hidS (hL2.out.alloc hL2.out.size (.cells #[.int .i64 f] 2))
  clear hG2 HP2 hL2 HA
  generalize w2.alloc (.cells #[.int .i64 f] 2) = w4 at hG3 hP1 hL3 ⊢
  have c0 := blk_cell hP1 0
  have c1 := blk_cell hP1 1
  have c2 := blk_cell hP1 2
  have c3 := blk_cell hP1 3
  have c4 := blk_cell hP1 4
  have c5 := blk_cell hP1 5
  have c6 := blk_cell hP1 6
  have c7 := blk_cell hP1 7
  have c8 := blk_cell hP1 8
  have c9 := blk_cell hP1 9
  simp at c0 c1 c2 c3 c4 c5 c6 c7 c8 c9
  have HP1 := hidS hP1
  clear hP1
  go_wp2_with fail
  refine (HB.out _).mono ?_
  rintro _ w5 ⟨rfl, hb5⟩
  have hG5 := hidS (blk_later hG3.out hb5)
  have HP5 := hidS (blk_later HP1.out hb5)
  have hL5 := hidS (hL3.out.trans (hb5.mono hL3.out.size))
  clear hb5 hG3 HP1 hL3 HB c0 c1 c2 c3 c4 c5 c6 c7 c8 c9
  have h28' : (28 : Int) ≤ ((bytesOf p).size : Int) := by omega
  generalize bytesOf p = t at *
  go_wp2_with fail
  refine (clone_any _ _ (by rw [ByteArray.size_extract]; omega)).mono ?_
  rintro _ w6 ⟨rfl, hb6⟩
  have hG6 := blk_later hG5.out hb6
  have hP1 := blk_later HP5.out hb6
  have hL6 := hidS (hL5.out.trans (hb6.mono hL5.out.size))
  clear hb6 hG5 HP5 hL5
  have d0 := blk_cell hP1 0
  have cg := blk_cell hG6
  have fg := blk_free hG6
  simp at d0
  clear hP1 hG6
  go_wp2_with fail
  refine bodyPost_ret (v := .tuple #[.agg #[.int .i64 f, .int .i64 p.src, .int .i64 1, .int .i64 0, .int .i64 0, .int .i64 3, .int .i64 0, .int .i64 0, .int .i64 0, .string (t.extract 0 28)], .nilIface]) (by simp [results, Tryd.results25, go_sem, *]) rfl ⟨by rw [e0.out], ?_⟩
  repeat (refine below_at ?_ (by omega))
  exact hL6.out
end Go.Proofs.YthfhbmiddillbagDoor
end

section
namespace Go.Proofs.YthfhbmiddillbagDoor
open Go.ChangeShapes Go.WideShapes Go.ChangeAt Go.RowKit
open Go.ChangeMaps (open_string shut_string)
set_option linter.unusedVariables false
set_option maxRecDepth 100000

set_option maxHeartbeats 1000000 in
theorem implError_gen (p : Pk) (f0 : Int) (w : World) (q : Pk) (err : Value) (c : Int)
    (hR : ∀ W, Below w.heap.size w W → Calls Tryd.prog 25 #[.agg #[.int .i64 p.src, .int .i64 p.dst, .int .i64 p.proto, .int .i64 p.a, .int .i64 p.b, .int .i64 p.kind, .int .i64 p.flags, .int .i64 p.seq, .int .i64 p.ack, .string p.body], .int .i64 f0] W fun e w' => e = .returned (.tuple #[.agg #[.int .i64 q.src, .int .i64 q.dst, .int .i64 q.proto, .int .i64 q.a, .int .i64 q.b, .int .i64 q.kind, .int .i64 q.flags, .int .i64 q.seq, .int .i64 q.ack, .string q.body], err]) ∧ Below W.heap.size W w')
    (hCO : ∀ W, Below w.heap.size w W → Calls Tryd.prog 42 #[err] W fun e w' => e = .returned (.int .i64 c) ∧ Below W.heap.size W w') :
    Calls Tryd.prog 12 #[.agg #[.int .i64 p.src, .int .i64 p.dst, .int .i64 p.proto, .int .i64 p.a, .int .i64 p.b, .int .i64 p.kind, .int .i64 p.flags, .int .i64 p.seq, .int .i64 p.ack, .string p.body], .int .i64 f0] w fun e w' => e = .returned (.agg #[.int .i64 q.src, .int .i64 q.dst, .int .i64 q.proto, .int .i64 q.a, .int .i64 q.b, .int .i64 q.kind, .int .i64 q.flags, .int .i64 q.seq, .int .i64 q.ack, .string q.body, .int .i64 (c)]) ∧ Below w.heap.size w w' := by
  have HR := hidS hR
  have HCO := hidS hCO
  have hG0 : ((w.alloc (.cells #[.int .i64 p.src, .int .i64 p.dst, .int .i64 p.proto, .int .i64 p.a, .int .i64 p.b, .int .i64 p.kind, .int .i64 p.flags, .int .i64 p.seq, .int .i64 p.ack, .string p.body] 30)).alloc (.cells #[.int .i64 0, .int .i64 0, .int .i64 0, .int .i64 0, .int .i64 0, .int .i64 0, .int .i64 0, .int .i64 0, .int .i64 0, .string ⟨#[]⟩, .int .i64 0] 32)).heap[w.heap.size + 1]? = some (.cells #[.int .i64 0, .int .i64 0, .int .i64 0, .int .i64 0, .int .i64 0, .int .i64 0, .int .i64 0, .int .i64 0, .int .i64 0, .string ⟨#[]⟩, .int .i64 0] 32) := by
    have := heap_newG (w.alloc (.cells #[.int .i64 p.src, .int .i64 p.dst, .int .i64 p.proto, .int .i64 p.a, .int .i64 p.b, .int .i64 p.kind, .int .i64 p.flags, .int .i64 p.seq, .int .i64 p.ack, .string p.body] 30)) (.cells #[.int .i64 0, .int .i64 0, .int .i64 0, .int .i64 0, .int .i64 0, .int .i64 0, .int .i64 0, .int .i64 0, .int .i64 0, .string ⟨#[]⟩, .int .i64 0] 32)
    simpa using this
  have HG := hidS hG0
  have hL := hidS (((Below.refl w.heap.size w).alloc (Nat.le_refl _) (.cells #[.int .i64 p.src, .int .i64 p.dst, .int .i64 p.proto, .int .i64 p.a, .int .i64 p.b, .int .i64 p.kind, .int .i64 p.flags, .int .i64 p.seq, .int .i64 p.ack, .string p.body] 30)).alloc (by simp) (.cells #[.int .i64 0, .int .i64 0, .int .i64 0, .int .i64 0, .int .i64 0, .int .i64 0, .int .i64 0, .int .i64 0, .int .i64 0, .string ⟨#[]⟩, .int .i64 0] 32))
  clear hR hCO hG0
  go_enter Tryd.func12, Tryd.ntmps12
  go_wp2_with fail
  refine (HR.out _ hL.out).mono ?_
  rintro _ w1 ⟨rfl, hb1⟩
  have hL1 := hidS (hL.out.trans (hb1.mono hL.out.size))
  have hG1 := hidS (blk_later HG.out hb1)
  clear hb1 hL HG HR
  go_wp2_with fail
  refine (packAns_x q err c _ (fun W hW => HCO.out W (hL1.out.trans (hW.mono hL1.out.size)))).mono ?_
  rintro _ w2 ⟨rfl, hb2⟩
  have hL2 := hidS (hL1.out.trans (hb2.mono hL1.out.size))
  have hG2 := blk_later hG1.out hb2
  clear hb2 hL1 hG1 HCO
  have c0 := blk_cell hG2
  have f0 := blk_free hG2
  clear hG2
  go_wp2_with fail
  refine bodyPost_ret (v := .agg #[.int .i64 q.src, .int .i64 q.dst, .int .i64 q.proto, .int .i64 q.a, .int .i64 q.b, .int .i64 q.kind, .int .i64 q.flags, .int .i64 q.seq, .int .i64 q.ack, .string q.body, .int .i64 (c)]) (by simp [results, Tryd.results12, go_sem, *]) rfl ⟨rfl, ?_⟩
  repeat (refine below_at ?_ (by omega))
  exact hL2.out

theorem implError_any {aF aS aY aM : Addr} (p : Pk) (f : Int) (w : World) (hs : p.body.size ≤ maxLen) (hS : Sent aF aS aY aM w) :
    Calls Tryd.prog 12 #[.agg #[.int .i64 p.src, .int .i64 p.dst, .int .i64 p.proto, .int .i64 p.a, .int .i64 p.b, .int .i64 p.kind, .int .i64 p.flags, .int .i64 p.seq, .int .i64 p.ack, .string p.body], .int .i64 f] w fun e w' => e = .returned (.agg #[.int .i64 (errP p f).src, .int .i64 (errP p f).dst, .int .i64 (errP p f).proto, .int .i64 (errP p f).a, .int .i64 (errP p f).b, .int .i64 (errP p f).kind, .int .i64 (errP p f).flags, .int .i64 (errP p f).seq, .int .i64 (errP p f).ack, .string (errP p f).body, .int .i64 (errC p f)]) ∧ Below w.heap.size w w' := by
  cases h : errB p f
  · have e1 : errC p f = 1 := if_neg (by rw [h]; simp)
    have e2 : errP p f = zeroPk := if_neg (by rw [h]; simp)
    rw [e1, e2]
    exact implError_gen p f w zeroPk _ 1 (fun W hW => tell_no p f W hs (hS.later hW) h) (fun W hW => codeOf_errForm W (hS.later hW))
  · have e1 : errC p f = 0 := if_pos h
    rw [e1]
    exact implError_gen p f w (errP p f) _ 0 (fun W hW => tell_yes p f W h) (fun W hW => codeOf_nil W (hS.later hW))
end Go.Proofs.YthfhbmiddillbagDoor
end

section
namespace Go.Proofs.YthfhbmiddillbagDoor
open Go.ChangeShapes Go.WideShapes Go.ChangeAt Go.RowKit
set_option linter.unusedVariables false

theorem sent_one {P : Program} {n nm : String} {text : List UInt8} {r : List (String × DataW Unit)} {W : World} {g : Nat} {ti tp te ts : TypeId} {ms : Array (String × TypeId)} {f : Field}
    (h : laidMet P ((n, .iface nm (.ptr (.agg [.lit (.string text)]))) :: r) W)
    (hg : P.globalNamed n = some g) (ht : (P.globals[g]?).map (·.type) = some ti) (hi : P.underlying ti = some (.interface ms)) (hrow : ∀ u, P.typeName? 3 u = some nm → u = tp)
    (hp : P.underlying tp = some (.pointer te)) (he : P.underlying te = some (.struct #[f])) (hft : f.type = ts) (hfo : f.offset = 0) (hs : P.underlying ts = some .string) (hc : P.cellsOf te = 1) (hcs : P.cellsOf ts = 1) :
    ∃ (a : Addr) (s : ByteArray), W.cell? ⟨g, 0, none⟩ = some (.iface tp (.pointer (some a))) ∧ W.cell? a = some (.string s) ∧ s.data.toList = text ∧ ErrAt a W := by
  obtain ⟨ps, ⟨g0, t0, cs0, f0, p0, q0, hg0, ht0, hv0, hd0, _, e0⟩, _, hrows⟩ := h
  obtain rfl := Option.some.inj (hg.symm.trans hg0)
  obtain rfl := Option.some.inj (ht.symm.trans ht0)
  subst e0
  obtain ⟨l0⟩ := cs0
  have ok0 : ∀ u v, l0 = [.iface u v] → Value.okWide P W .any 0 u v := fun u v e => by
    subst e
    exact (hrows g 0 (by simp [MemPlace.row])).2 u v (by simpa using World.var?_cell hg0 hv0 0)
  obtain ⟨a0, s0, rfl, hc0, hs0, hz0, hp0⟩ := errorString_of_trod hi hrow hp he hft hfo hs hc hcs hd0 ok0
  subst hp0
  exact ⟨a0, s0, by simpa using World.var?_cell hg0 hv0 0, hc0, hs0, (hrows a0.block a0.off (by simp [MemPlace.row])).1⟩
theorem sent_ne {W : World} {a b : Addr} {s t : ByteArray} {l m : List UInt8} (ha : W.cell? a = some (.string s)) (hs : s.data.toList = l) (hb : W.cell? b = some (.string t)) (ht : t.data.toList = m) (h : l ≠ m) : a ≠ b := by
  rintro rfl
  rw [ha] at hb
  injection hb with hb
  injection hb with hb
  subst hb
  exact h (hs.symm.trans ht)
theorem star_err : "*" ++ "errors.errorString" = "*errors.errorString" := by decide
theorem row_err (u : TypeId) (h : Tryd.prog.typeName? 3 u = some "*errors.errorString") : u = 134 :=
  typeName_ptr_named (nm := "errors.errorString") (by rw [star_err]; kernel_rfl) (by kernel_rfl) (by decide) u (by rw [star_err]; exact h)
theorem cells_es : Tryd.prog.cellsOf 136 = 1 := by kernel_rfl
theorem cells_st : Tryd.prog.cellsOf 9 = 1 := by kernel_rfl

theorem sents_of {W : World} (h : laidMet Tryd.prog [("loop.example/g00542/impl.errForm", Rows.laid_loop_example_g00542_impl_errForm), ("loop.example/g00542/impl.errShort", Rows.laid_loop_example_g00542_impl_errShort), ("loop.example/g00542/impl.errSyntax", Rows.laid_loop_example_g00542_impl_errSyntax), ("loop.example/g00542/impl.errSum", Rows.laid_loop_example_g00542_impl_errSum)] W) :
    ∃ aF aS aY aM, Sent aF aS aY aM W := by
  have h2 := h.tail
  have h3 := h2.tail
  have h4 := h3.tail
  obtain ⟨aF, sF, cF, dF, tF, bF⟩ := sent_one h (show Tryd.prog.globalNamed "loop.example/g00542/impl.errForm" = some 0 by kernel_rfl) (show (Tryd.prog.globals[0]?).map (·.type) = some 45 by kernel_rfl) Tryd.underlying45 row_err Tryd.underlying134 Tryd.underlying136 rfl rfl Tryd.underlying9 cells_es cells_st
  obtain ⟨aS, sS, cS, dS, tS, bS⟩ := sent_one h2 (show Tryd.prog.globalNamed "loop.example/g00542/impl.errShort" = some 2 by kernel_rfl) (show (Tryd.prog.globals[2]?).map (·.type) = some 45 by kernel_rfl) Tryd.underlying45 row_err Tryd.underlying134 Tryd.underlying136 rfl rfl Tryd.underlying9 cells_es cells_st
  obtain ⟨aY, sY, cY, dY, tY, bY⟩ := sent_one h3 (show Tryd.prog.globalNamed "loop.example/g00542/impl.errSyntax" = some 1 by kernel_rfl) (show (Tryd.prog.globals[1]?).map (·.type) = some 45 by kernel_rfl) Tryd.underlying45 row_err Tryd.underlying134 Tryd.underlying136 rfl rfl Tryd.underlying9 cells_es cells_st
  obtain ⟨aM, sM, cM, dM, tM, bM⟩ := sent_one h4 (show Tryd.prog.globalNamed "loop.example/g00542/impl.errSum" = some 3 by kernel_rfl) (show (Tryd.prog.globals[3]?).map (·.type) = some 45 by kernel_rfl) Tryd.underlying45 row_err Tryd.underlying134 Tryd.underlying136 rfl rfl Tryd.underlying9 cells_es cells_st
  exact ⟨aF, aS, aY, aM, cF, cS, cY, cM, bF, bS, bY, bM, sent_ne dF tF dS tS (by decide), sent_ne dF tF dY tY (by decide), sent_ne dF tF dM tM (by decide), sent_ne dS tS dY tY (by decide), sent_ne dS tS dM tM (by decide), sent_ne dY tY dM tM (by decide)⟩
end Go.Proofs.YthfhbmiddillbagDoor
end
