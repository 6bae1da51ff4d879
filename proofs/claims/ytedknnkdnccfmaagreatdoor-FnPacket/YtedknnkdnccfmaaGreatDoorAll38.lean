/- Proved here: which method 'bytes' of a part is called by its name (closed facts on the program's own table). · Proved here: impl.PacketBytes answers the bytes of a packet, or the empty text of one that is not right; all old memory stays (condition: the body is a string). · Proved here: errors.Is of errors of errors.New's make: the same one, none, another one; nothing changes (conditions: both lie in memory as a new one does). -/
import Derived.Test.YtedknnkdnccfmaaGreatDoorAll32
import Derived.Test.YtedknnkdnccfmaaGreatDoorBytesI
import Derived.Test.YtedknnkdnccfmaaGreatDoorPartBytes
import Derived.Test.YtedknnkdnccfmaaGreatDoorAll11
import Derived.Test.YtedknnkdnccfmaaGreatDoorRows
import Derived.WalkKit
import Derived.WalkSpells
import Derived.ProofKit
import Derived.LaidEql
import Derived.Stop.Asserts
import Derived.RowKitTokens
section
namespace Go.Proofs.YtedknnkdnccfmaaGreatDoor
open Go.ChangeShapes Go.WideShapes Go.ChangeAt Go.RowKit
set_option linter.unusedVariables false

theorem meth_tcp_bytes (v : Value) (W : World) : (method 327 109 v "loop.example/g00542/impl.bytes").run Tryz.prog W = .ok (182, v) W := by kernel_rfl
theorem enter_tcp_bytes (v : Value) (W : World) : (callFunc 182 #[v]).run Tryz.prog W = .ok (.enter 182 #[v]) W := by kernel_rfl
theorem meth_udp_bytes (v : Value) (W : World) : (method 327 111 v "loop.example/g00542/impl.bytes").run Tryz.prog W = .ok (185, v) W := by kernel_rfl
theorem enter_udp_bytes (v : Value) (W : World) : (callFunc 185 #[v]).run Tryz.prog W = .ok (.enter 185 #[v]) W := by kernel_rfl
theorem meth_err_bytes (v : Value) (W : World) : (method 327 113 v "loop.example/g00542/impl.bytes").run Tryz.prog W = .ok (188, v) W := by kernel_rfl
theorem enter_err_bytes (v : Value) (W : World) : (callFunc 188 #[v]).run Tryz.prog W = .ok (.enter 188 #[v]) W := by kernel_rfl
theorem meth_echo_bytes (v : Value) (W : World) : (method 327 115 v "loop.example/g00542/impl.bytes").run Tryz.prog W = .ok (191, v) W := by kernel_rfl
theorem enter_echo_bytes (v : Value) (W : World) : (callFunc 191 #[v]).run Tryz.prog W = .ok (.enter 191 #[v]) W := by kernel_rfl
end Go.Proofs.YtedknnkdnccfmaaGreatDoor
end

section
namespace Go.Proofs.YtedknnkdnccfmaaGreatDoor
open Go.ChangeShapes Go.WideShapes Go.ChangeAt Go.RowKit
open Go.ChangeMaps (open_string shut_string)
set_option linter.unusedVariables false
set_option maxRecDepth 100000

theorem over_mid (A B C m : List UInt8) (h : B.length = m.length) : over (A ++ B ++ C) A.length m = A ++ m ++ C := by
  unfold over
  rw [← h]
  congr 1
  · rw [List.append_assoc A B C, List.take_left]
  · have : A.length + B.length = (A ++ B).length := by simp
    rw [this, List.drop_left]
/-- what is around the check -/
def Around (p : Pk) (k : Nat) : Prop := ∃ A C : List UInt8, A.length + 20 = k ∧ ∀ c, (tailT p c).data.toList = A ++ (twoT c).data.toList ++ C
theorem Around.size {p : Pk} {k : Nat} (h : Around p k) (c : Nat) : (tailT p c).size = (tailT p 0).size := by
  obtain ⟨A, C, _, h⟩ := h
  have e : ∀ c, (tailT p c).size = (tailT p c).data.toList.length := fun c => by simp
  rw [e, e, h, h]; simp [two_list]
theorem around_tcp (p : Pk) (h6 : p.proto = 6) : Around p 36 := by
  refine ⟨(twoT p.a.toNat ++ twoT p.b.toNat ++ fourT p.seq.toNat ++ fourT p.ack.toNat ++ rowT [80, p.flags, 32, 0]).data.toList, (⟨#[0, 0]⟩ ++ p.body : ByteArray).data.toList, ?_, fun c => ?_⟩
  · have a1 := fourT_size p.seq.toNat
    have a2 := fourT_size p.ack.toNat
    have a3 := twoT_size p.a.toNat
    have a4 := twoT_size p.b.toNat
    have a5 : (rowT [80, p.flags, 32, 0]).size = 4 := rowT_size _
    simp [a1, a2, a3, a4, a5]
  · unfold tailT; rw [if_pos h6]; simp
theorem around_udp (p : Pk) (h17 : p.proto = 17) : Around p 26 := by
  refine ⟨(twoT p.a.toNat ++ twoT p.b.toNat ++ twoT (8 + (p.body.size : Int)).toNat).data.toList, p.body.data.toList, ?_, fun c => ?_⟩
  · have a3 := twoT_size p.a.toNat
    have a4 := twoT_size p.b.toNat
    have a5 := twoT_size (8 + (p.body.size : Int)).toNat
    simp [a3, a4, a5]
  · unfold tailT; rw [if_neg (by omega), if_pos h17]; simp
theorem around_ping (p : Pk) (h1 : p.proto = 1) : Around p 22 := by
  by_cases h3 : p.kind = 3
  · refine ⟨(rowT [p.kind, 1]).data.toList, (twoT p.a.toNat ++ twoT p.seq.toNat ++ p.body).data.toList, by have := rowT_size [p.kind, 1]; simpa using this, fun c => ?_⟩
    unfold tailT; rw [if_neg (by omega), if_neg (by omega), if_pos h3]; simp
  · refine ⟨(rowT [p.kind, 0]).data.toList, (twoT p.a.toNat ++ twoT p.seq.toNat ++ p.body).data.toList, by have := rowT_size [p.kind, 0]; simpa using this, fun c => ?_⟩
    unfold tailT; rw [if_neg (by omega), if_neg (by omega), if_neg h3]; simp
theorem bytes_put (p : Pk) (k : Nat) (h : Around p k) (hd : ByteArray) (h20 : hd.size = 20) (c : Nat) :
    (⟨(putAll (twoT c).data.toList (catT [hd, tailT p 0]).data.toList [k]).toArray⟩ : ByteArray) = hd ++ tailT p c := by
  obtain ⟨A, C, hA, hT⟩ := h
  have hh : hd.data.toList.length = 20 := by simpa using h20
  have e1 : (catT [hd, tailT p 0]).data.toList = (hd.data.toList ++ A) ++ (twoT 0).data.toList ++ C := by
    rw [cat2, ByteArray.data_append, Array.toList_append, hT 0]; simp
  have hk : k = (hd.data.toList ++ A).length := by simp [h20]; omega
  have hl : ((hd.data.toList ++ A) ++ (twoT 0).data.toList ++ C).length = k + 2 + C.length := by rw [List.length_append, List.length_append, ← hk]; rfl
  show (⟨(putAt (twoT c).data.toList (catT [hd, tailT p 0]).data.toList k).toArray⟩ : ByteArray) = _
  rw [e1]
  unfold putAt
  rw [if_pos (by omega), List.take_of_length_le (by rw [hl, two_list]; simp; omega), hk, over_mid _ _ _ _ (by simp [two_list])]
  refine ByteArray.ext ?_
  rw [ByteArray.data_append]
  apply Array.toList_inj.1
  rw [Array.toList_append, hT c]
  simp
theorem bytes_eq (p : Pk) (k : Nat) (h : Around p k) : headT p (tailT p 0).size (checkAns (headT p (tailT p 0).size 0)) ++ tailT p (checkT p).toNat = bytesOf p := by
  unfold bytesOf
  rw [h.size (checkT p).toNat]

theorem tail_tcp (p : Pk) (h6 : p.proto = 6) : catT [twoT p.a.toNat, twoT p.b.toNat, fourT p.seq.toNat, fourT p.ack.toNat, rowT [80, p.flags, 32, 0, 0, 0, 0, 0], p.body] = tailT p 0 := by
  unfold tailT; rw [if_pos h6]
  refine ByteArray.ext ?_
  apply Array.toList_inj.1
  have e : (rowT [80, p.flags, 32, 0, 0, 0, 0, 0]).data.toList = (rowT [80, p.flags, 32, 0]).data.toList ++ (twoT 0).data.toList ++ [0, 0] := rfl
  simp [catT, catL, e]
theorem tail_udp (p : Pk) (h17 : p.proto = 17) : catT [twoT p.a.toNat, twoT p.b.toNat, twoT (8 + (p.body.size : Int)).toNat, twoT 0, p.body] = tailT p 0 := by
  unfold tailT; rw [if_neg (by omega), if_pos h17]
  refine ByteArray.ext ?_
  apply Array.toList_inj.1
  simp [catT, catL]
theorem tail_err (p : Pk) (h1 : p.proto = 1) (h3 : p.kind = 3) (ha : p.a = 0) (hq : p.seq = 0) : catT [rowT [3, 1, 0, 0, 0, 0, 0, 0], p.body] = tailT p 0 := by
  unfold tailT; rw [if_neg (by omega), if_neg (by omega), if_pos h3, h3, ha, hq]
  refine ByteArray.ext ?_
  apply Array.toList_inj.1
  have e : (rowT [3, 1, 0, 0, 0, 0, 0, 0]).data.toList = (rowT [3, 1]).data.toList ++ (twoT 0).data.toList ++ (twoT 0).data.toList ++ (twoT 0).data.toList := rfl
  simp [catT, catL, e]
theorem tail_echo (p : Pk) (h1 : p.proto = 1) (h3 : p.kind ≠ 3) : catT [rowT [p.kind, 0, 0, 0], twoT p.a.toNat, twoT p.seq.toNat, p.body] = tailT p 0 := by
  unfold tailT; rw [if_neg (by omega), if_neg (by omega), if_neg h3]
  refine ByteArray.ext ?_
  apply Array.toList_inj.1
  have e : (rowT [p.kind, 0, 0, 0]).data.toList = (rowT [p.kind, 0]).data.toList ++ (twoT 0).data.toList := rfl
  simp [catT, catL, e]
theorem err_zero {p : Pk} (h : rightB p = true) (h1 : p.proto = 1) (h3 : p.kind = 3) : p.a = 0 ∧ p.seq = 0 := by
  unfold rightB pingB at h
  rw [if_neg (by omega), if_neg (by omega), if_pos h1, if_pos h3] at h
  simp only [Bool.and_eq_true, decide_eq_true_eq] at h
  exact ⟨h.2.2.1.1, h.2.2.1.2⟩

/-- a right packet's bytes, whatever its part -/
theorem implBytes_of (p : Pk) (T : TypeId) (val : Value) (fb : FuncId) (k : Nat) (w : World) (h : rightB p = true) (hA : Around p k) (hk : k ≤ 100)
    (hPT : ∀ W, Calls Tryz.prog 41 #[.agg #[.int .i64 p.src, .int .i64 p.dst, .int .i64 p.proto, .int .i64 p.a, .int .i64 p.b, .int .i64 p.kind, .int .i64 p.flags, .int .i64 p.seq, .int .i64 p.ack, .string p.body]] W fun e w' => e = .returned (.iface T val) ∧ Below W.heap.size W w')
    (hm1 : ∀ W, (method 327 T val "loop.example/g00542/impl.bytes").run Tryz.prog W = .ok (fb, val) W)
    (hc1 : ∀ W, (callFunc fb #[val]).run Tryz.prog W = .ok (.enter fb #[val]) W)
    (hB : ∀ W, Calls Tryz.prog fb #[val] W fun e w' => e = .returned (.string (tailT p 0)) ∧ Below W.heap.size W w')
    (hCP : ∀ W, Calls Tryz.prog 45 #[.agg #[.int .i64 p.src, .int .i64 p.dst, .int .i64 p.proto, .int .i64 p.a, .int .i64 p.b, .int .i64 p.kind, .int .i64 p.flags, .int .i64 p.seq, .int .i64 p.ack, .string p.body], .iface T val, .string (tailT p 0)] W fun e w' => e = .returned (.int .i64 (partC p (tailT p 0))) ∧ Below W.heap.size W w')
    (hCA : ∀ W, Calls Tryz.prog 46 #[.iface T val] W fun e w' => e = .returned (.int .i64 (k : Int)) ∧ Below W.heap.size W w') :
    Calls Tryz.prog 6 #[.agg #[.int .i64 p.src, .int .i64 p.dst, .int .i64 p.proto, .int .i64 p.a, .int .i64 p.b, .int .i64 p.kind, .int .i64 p.flags, .int .i64 p.seq, .int .i64 p.ack, .string p.body]] w fun e w' => e = .returned (.string (bytesOf p)) ∧ Below w.heap.size w w' := by
  have hs := (fine_of h).small 0
  have := implBytes_gen p T val fb (tailT p 0) k w h (by omega) hk hPT hm1 hc1 hB hCP hCA
  rw [bytes_put p k hA _ (headT_size _ _ _), partC_tail, bytes_eq p k hA] at this
  exact this

theorem implBytes_no (p : Pk) (w : World) (hs : p.body.size ≤ maxLen) (h : rightB p = false) :
    Calls Tryz.prog 6 #[.agg #[.int .i64 p.src, .int .i64 p.dst, .int .i64 p.proto, .int .i64 p.a, .int .i64 p.b, .int .i64 p.kind, .int .i64 p.flags, .int .i64 p.seq, .int .i64 p.ack, .string p.body]] w fun e w' => e = .returned (.string ⟨#[]⟩) ∧ Below w.heap.size w w' := by
  have hX := hidS (fun W => implRight_any p W hs)
  have hB1 := hidS ((Below.refl w.heap.size w).alloc (Nat.le_refl _) (.cells #[.int .i64 p.src, .int .i64 p.dst, .int .i64 p.proto, .int .i64 p.a, .int .i64 p.b, .int .i64 p.kind, .int .i64 p.flags, .int .i64 p.seq, .int .i64 p.ack, .string p.body] 24))
  go_enter Tryz.func6, Tryz.ntmps6
  go_wp2_with fail
  refine (hX.out _).mono ?_
  rintro _ w2 ⟨rfl, hb2⟩
  rw [h]
  have hL := hidS (hB1.out.trans (hb2.mono hB1.out.size))
  clear hB1 hb2 hX
  go_wp2_with fail
  go_ret
  exact ⟨rfl, hL.out⟩

theorem implBytes_any (p : Pk) (w : World) (hs : p.body.size ≤ maxLen) :
    Calls Tryz.prog 6 #[.agg #[.int .i64 p.src, .int .i64 p.dst, .int .i64 p.proto, .int .i64 p.a, .int .i64 p.b, .int .i64 p.kind, .int .i64 p.flags, .int .i64 p.seq, .int .i64 p.ack, .string p.body]] w fun e w' => e = .returned (.string (bytesAns p)) ∧ Below w.heap.size w w' := by
  cases h : rightB p
  · have e : bytesAns p = ⟨#[]⟩ := if_neg (by rw [h]; simp)
    rw [e]; exact implBytes_no p w hs h
  have e : bytesAns p = bytesOf p := if_pos h
  rw [e]
  have F := fine_of h
  have hb := F.body
  have hT := F.small 0
  have hf := flagB_iff.1 F.flags
  rcases F.proto with h6 | h17 | h1
  · exact implBytes_of p 109 _ 182 36 w h (around_tcp p h6) (by omega) (fun W => partOf_tcp p W h6) (meth_tcp_bytes _) (enter_tcp_bytes _)
      (fun W => by rw [← tail_tcp p h6]; exact tcpBytes_x p.a p.b p.seq p.ack p.flags p.body W F.a F.b F.seq F.ack (by omega) (by omega) (by omega)) (fun W => checkOfPart_tcp p _ _ W h6 F.src F.dst (by omega)) (fun W => checkAt_tcp _ W)
  · exact implBytes_of p 111 _ 185 26 w h (around_udp p h17) (by omega) (fun W => partOf_udp p W h17) (meth_udp_bytes _) (enter_udp_bytes _)
      (fun W => by rw [← tail_udp p h17]; exact udpBytes_x p.a p.b p.body W F.a F.b (by omega)) (fun W => checkOfPart_udp p _ _ W h17 F.src F.dst (by omega)) (fun W => checkAt_udp _ W)
  · by_cases h3 : p.kind = 3
    · obtain ⟨ha, hq⟩ := err_zero h h1 h3
      exact implBytes_of p 113 _ 188 22 w h (around_ping p h1) (by omega) (fun W => partOf_err p W h1 h3) (meth_err_bytes _) (enter_err_bytes _)
        (fun W => by rw [← tail_err p h1 h3 ha hq]; exact errBytes_x p.body W (by omega)) (fun W => checkOfPart_err p _ _ W h1 (by omega)) (fun W => checkAt_err _ W)
    · have k0 := F.kind0
      have k1 := F.kind1
      exact implBytes_of p 115 _ 191 22 w h (around_ping p h1) (by omega) (fun W => partOf_echo p W h1 h3) (meth_echo_bytes _) (enter_echo_bytes _)
        (fun W => by rw [← tail_echo p h1 h3]; exact echoBytes_x p.kind p.a p.seq p.body W F.a (F.seqW h1) (by omega) (by omega) (by omega)) (fun W => checkOfPart_echo p _ _ W h1 (by omega)) (fun W => checkAt_echo _ W)
end Go.Proofs.YtedknnkdnccfmaaGreatDoor
end

section
namespace Go.Proofs.YtedknnkdnccfmaaGreatDoor
open Go.RowKit Go.Extern.Stop Go.Stop Go.Extern
set_option linter.unusedVariables false

theorem isTypeOf (v : Value) (w : World) : (callFunc 140 #[.iface 186 v]).run Tryz.prog w = .ok (.value (.iface 175 (.agg #[typeHandle Tryz.prog 186]))) w := by kernel_rfl
theorem isComparable (w : World) : (callFunc 201 #[.agg #[typeHandle Tryz.prog 186]]).run Tryz.prog w = .ok (.value (.bool true)) w := by kernel_rfl
theorem isMethodComparable (v : Value) (w : World) : (Go.method 327 175 v "Comparable").run Tryz.prog w = .ok (201, v) w := by kernel_rfl
theorem isComp : (Tryz.prog.info? 186).map (·.comparable) = some true := by kernel_rfl
theorem isSize : (Tryz.prog.info? 188).map (·.size) = some 1 := by kernel_rfl
theorem noIsE (v : Value) (xT : TypeId) (w : World) : (Instr.typeAssert (.iface 186 v) xT 177 true).run Tryz.prog w = .ok (.tuple #[.nilIface, .bool false]) w := run_typeAssert_lacksB Tryz.underlying177 (by kernel_rfl) (by kernel_rfl) v xT w
theorem noUnwrapE (v : Value) (xT : TypeId) (w : World) : (Instr.typeAssert (.iface 186 v) xT 180 true).run Tryz.prog w = .ok (.tuple #[.nilIface, .bool false]) w := run_typeAssert_lacksB Tryz.underlying180 (by kernel_rfl) (by kernel_rfl) v xT w
theorem noUnwrapsE (v : Value) (xT : TypeId) (w : World) : (Instr.typeAssert (.iface 186 v) xT 182 true).run Tryz.prog w = .ok (.tuple #[.nilIface, .bool false]) w := run_typeAssert_lacksB Tryz.underlying182 (by kernel_rfl) (by kernel_rfl) v xT w

theorem is_same (a : Addr) (w : World) :
    Calls Tryz.prog 116 #[.iface 186 (.pointer (some a)), .iface 186 (.pointer (some a))] w fun e w' => e = .returned (.bool true) ∧ w' = w := by
  obtain ⟨i, hi, hcmp⟩ := Option.map_eq_some_iff.1 isComp
  obtain ⟨j, hj, hjs⟩ := Option.map_eq_some_iff.1 isSize
  have tT := isTypeOf
  have cT := isComparable
  have mR := isMethodComparable
  have heq := run_eql_iface_ptr_same (P := Tryz.prog) w a Tryz.underlying73 Tryz.underlying186 hi hcmp hj
  go_enter Tryz.func116, Tryz.ntmps116
  go_wp2
  refine wp_loop_rounds 1 ?_
  rw [rounds_succ]
  go_wp2
  go_ret
  exact ⟨rfl, rfl⟩

theorem is_nil (b : Addr) (w : World) :
    Calls Tryz.prog 116 #[.nilIface, .iface 186 (.pointer (some b))] w fun e w' => e = .returned (.bool false) ∧ w' = w := by
  have hn := run_eql_iface_nil_left (P := Tryz.prog) w 186 (.pointer (some b)) Tryz.underlying73
  go_enter Tryz.func116, Tryz.ntmps116
  go_wp2
  go_ret
  exact ⟨rfl, rfl⟩

theorem is_other (a b : Addr) (ca cb : Array Value) (ta tb : TypeId) (w : World) (hne : a ≠ b) (ha : w.heap[a.block]? = some (.cells ca ta (0, 0))) (hb : w.heap[b.block]? = some (.cells cb tb (0, 0))) :
    Calls Tryz.prog 116 #[.iface 186 (.pointer (some a)), .iface 186 (.pointer (some b))] w fun e w' => e = .returned (.bool false) ∧ w' = w := by
  obtain ⟨i, hi, hcmp⟩ := Option.map_eq_some_iff.1 isComp
  obtain ⟨j, hj, hjs⟩ := Option.map_eq_some_iff.1 isSize
  have tT := isTypeOf
  have cT := isComparable
  have mR := isMethodComparable
  have nE := noIsE
  have uE := noUnwrapE
  have vE := noUnwrapsE
  have heq := run_eql_iface_ptr_other (P := Tryz.prog) w Tryz.underlying73 Tryz.underlying186 hi hcmp hj (by rw [hjs]; decide) hne ha hb
  go_enter Tryz.func116, Tryz.ntmps116
  go_wp2
  refine wp_loop_rounds 1 ?_
  rw [rounds_succ]
  go_wp2
  go_ret
  exact ⟨rfl, rfl⟩
end Go.Proofs.YtedknnkdnccfmaaGreatDoor
end
