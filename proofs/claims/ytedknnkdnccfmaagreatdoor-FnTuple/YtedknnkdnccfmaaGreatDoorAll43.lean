/- Proved here: impl.PacketRight answers whether a packet is right; all old memory stays (condition: the body is a string). · Proved here: impl.PacketRight answers whether a packet is right, whatever its Proto; all old memory stays (condition: the body is a string). · Proved here: impl.isError answers whether a packet tells an error; all old memory stays (no conditions). -/
import Derived.Test.YtedknnkdnccfmaaGreatDoorAll42
import Derived.Test.YtedknnkdnccfmaaGreatDoorAll4
import Derived.Test.YtedknnkdnccfmaaGreatDoorAll1
section
namespace Go.Proofs.YtedknnkdnccfmaaGreatDoor
open Go.ChangeShapes Go.WideShapes Go.ChangeAt Go.RowKit
open Go.ChangeMaps (open_string shut_string)
set_option linter.unusedVariables false

theorem ret_bool {a b : Bool} (h : b = a) : Ending.returned (.bool a) = .returned (.bool b) := by rw [h]

set_option maxRecDepth 100000 in
set_option maxHeartbeats 2000000 in
theorem implRight_gen (p : Pk) (qa qb qk qf qs qc : Int) (T : TypeId) (val : Value) (fr ff : FuncId) (b : Bool) (w : World) (hs : p.body.size ≤ maxLen)
    (hPT : ∀ W, Calls Tryz.prog 41 #[.agg #[.int .i64 p.src, .int .i64 p.dst, .int .i64 p.proto, .int .i64 p.a, .int .i64 p.b, .int .i64 p.kind, .int .i64 p.flags, .int .i64 p.seq, .int .i64 p.ack, .string p.body]] W fun e w' => e = .returned (.iface T val) ∧ Below W.heap.size W w')
    (hm1 : ∀ W, (method 327 T val "loop.example/g00542/impl.right").run Tryz.prog W = .ok (fr, val) W)
    (hm2 : ∀ W, (method 327 T val "loop.example/g00542/impl.fields").run Tryz.prog W = .ok (ff, val) W)
    (hc1 : ∀ W, (callFunc fr #[val]).run Tryz.prog W = .ok (.enter fr #[val]) W)
    (hc2 : ∀ W, (callFunc ff #[val]).run Tryz.prog W = .ok (.enter ff #[val]) W)
    (hR : ∀ W, Calls Tryz.prog fr #[val] W fun e w' => e = .returned (.bool b) ∧ Below W.heap.size W w')
    (hF : ∀ W, Calls Tryz.prog ff #[val] W fun e w' => e = .returned (.agg #[.int .i64 0, .int .i64 0, .int .i64 p.proto, .int .i64 qa, .int .i64 qb, .int .i64 qk, .int .i64 qf, .int .i64 qs, .int .i64 qc, .string p.body]) ∧ Below W.heap.size W w')
    (hno : allA [p.src, p.dst] = false ∨ 100 < p.body.size ∨ b = false → rightB p = false)
    (hyes : allA [p.src, p.dst] = true → p.body.size ≤ 100 → b = true → rightB p = decide (qa = p.a ∧ qb = p.b ∧ qk = p.kind ∧ qf = p.flags ∧ qs = p.seq ∧ qc = p.ack)) :
    Calls Tryz.prog 14 #[.agg #[.int .i64 p.src, .int .i64 p.dst, .int .i64 p.proto, .int .i64 p.a, .int .i64 p.b, .int .i64 p.kind, .int .i64 p.flags, .int .i64 p.seq, .int .i64 p.ack, .string p.body]] w fun e w' => e = .returned (.bool (rightB p)) ∧ Below w.heap.size w w' := by
  have hs' : p.body.size ≤ 2 ^ 63 - 1 := hs
  have hB1 := hidS ((Below.refl w.heap.size w).alloc (Nat.le_refl _) (.cells #[.int .i64 p.src, .int .i64 p.dst, .int .i64 p.proto, .int .i64 p.a, .int .i64 p.b, .int .i64 p.kind, .int .i64 p.flags, .int .i64 p.seq, .int .i64 p.ack, .string p.body] 24))
  have HP := hidS (heap_newG w (.cells #[.int .i64 p.src, .int .i64 p.dst, .int .i64 p.proto, .int .i64 p.a, .int .i64 p.b, .int .i64 p.kind, .int .i64 p.flags, .int .i64 p.seq, .int .i64 p.ack, .string p.body] 24))
  have HPT := hidS hPT
  have HM1 := hidS hm1
  have HM2 := hidS hm2
  have HR := hidS hR
  have HF := hidS hF
  have HC1 := hidS hc1
  have HC2 := hidS hc2
  have HN := hidS hno
  have HY := hidS hyes
  clear hPT hm1 hm2 hR hF hc1 hc2 hno hyes
  cases h1 : allA [p.src, p.dst]
  · have e0 : Hid (rightB p = false) := HN.out (.inl h1)
    go_enter Tryz.func14, Tryz.ntmps14
    go_wp2_with fail
    refine (HPT.out _).mono ?_
    rintro e w2 ⟨rfl, hb2⟩
    have hG := blk_later HP.out hb2
    have hL := hidS (hB1.out.trans (hb2.mono hB1.out.size))
    clear hB1 HP hb2 HPT
    have c0 := blk_cell hG 0
    have c1 := blk_cell hG 1
    simp at c0 c1
    go_wp2_with fail
    refine (areAddrs_any w2.heap.size [p.src, p.dst] _ (two_cells _ _ _ _) (by simp)).mono ?_
    rintro e w3 ⟨rfl, rfl⟩
    rw [h1]
    have hL3 := hidS (hL.out.alloc hL.out.size (.cells #[.int .i64 p.src, .int .i64 p.dst] 2))
    generalize w2.alloc (.cells #[.int .i64 p.src, .int .i64 p.dst] 2) = w3 at hL3 ⊢
    go_wp2_with fail
    go_ret
    exact ⟨ret_bool e0.out, hL3.out⟩
  by_cases h2 : 100 < p.body.size
  · have e0 : Hid (rightB p = false) := HN.out (.inr (.inl h2))
    go_enter Tryz.func14, Tryz.ntmps14
    go_wp2_with fail
    refine (HPT.out _).mono ?_
    rintro e w2 ⟨rfl, hb2⟩
    have hG := blk_later HP.out hb2
    have hL := hidS (hB1.out.trans (hb2.mono hB1.out.size))
    clear hB1 HP hb2 HPT
    have c0 := blk_cell hG 0
    have c1 := blk_cell hG 1
    simp at c0 c1
    go_wp2_with fail
    refine (areAddrs_any w2.heap.size [p.src, p.dst] _ (two_cells _ _ _ _) (by simp)).mono ?_
    rintro e w3 ⟨rfl, rfl⟩
    rw [h1]
    have hG3 := blk_alloc hG (.cells #[.int .i64 p.src, .int .i64 p.dst] 2)
    have hL3 := hidS (hL.out.alloc hL.out.size (.cells #[.int .i64 p.src, .int .i64 p.dst] 2))
    generalize w2.alloc (.cells #[.int .i64 p.src, .int .i64 p.dst] 2) = w3 at hG3 hL3 ⊢
    clear hG hL c0 c1
    have c9 := blk_cell hG3 9
    simp at c9
    go_wp2_with fail
    go_ret
    exact ⟨ret_bool e0.out, hL3.out⟩
  have h2' : decide ((100 : Int) < (p.body.size : Int)) = false := by simp; omega
  go_enter Tryz.func14, Tryz.ntmps14
  go_wp2_with fail
  refine (HPT.out _).mono ?_
  rintro e w2 ⟨rfl, hb2⟩
  have hG := blk_later HP.out hb2
  have hL := hidS (hB1.out.trans (hb2.mono hB1.out.size))
  clear hB1 HP hb2 HPT
  have c0 := blk_cell hG 0
  have c1 := blk_cell hG 1
  simp at c0 c1
  go_wp2_with fail
  refine (areAddrs_any w2.heap.size [p.src, p.dst] _ (two_cells _ _ _ _) (by simp)).mono ?_
  rintro e w3 ⟨rfl, rfl⟩
  rw [h1]
  have hG3 := blk_alloc hG (.cells #[.int .i64 p.src, .int .i64 p.dst] 2)
  have hL3 := hidS (hL.out.alloc hL.out.size (.cells #[.int .i64 p.src, .int .i64 p.dst] 2))
  generalize w2.alloc (.cells #[.int .i64 p.src, .int .i64 p.dst] 2) = w3 at hG3 hL3 ⊢
  clear hG hL c0 c1
  have c9 := blk_cell hG3 9
  simp at c9
  go_wp2_with fail
  rw [HM1.out]
  go_wp2_with fail
  rw [HC1.out, Oper.upon_enter]
  refine (HR.out _).mono ?_
  rintro e w4 ⟨rfl, hb4⟩
  cases b
  · have e0 : Hid (rightB p = false) := HN.out (.inr (.inr rfl))
    have hL4 := hidS (hL3.out.trans (hb4.mono hL3.out.size))
    clear hG3 hL3 hb4 c9
    go_wp2_with fail
    go_ret
    exact ⟨ret_bool e0.out, hL4.out⟩
  have hG4 := blk_later hG3 hb4
  have hL4 := hidS (hL3.out.trans (hb4.mono hL3.out.size))
  clear hG3 hL3 hb4 c9
  go_wp2_with fail
  rw [HM2.out]
  go_wp2_with fail
  rw [HC2.out, Oper.upon_enter]
  refine (HF.out _).mono ?_
  rintro e w5 ⟨rfl, hb5⟩
  have hG5 := blk_later hG4 hb5
  have hL5 := hidS (hL4.out.trans (hb5.mono hL4.out.size))
  clear hG4 hL4 hb5 HM1 HM2 HF HC1 HC2 HR
  have hlt := blk_lt hG5
  have hL6 := fun o => hidS (hL5.out.alloc hL5.out.size o).drew
  clear hL5
  have c0 := blk_cell hG5 0
  have c1 := blk_cell hG5 1
  simp at c0 c1
  go_wp2_with fail
  go_region
  have c2 := blk_cell hG5 2
  have c3 := blk_cell hG5 3
  have c4 := blk_cell hG5 4
  have c5 := blk_cell hG5 5
  have c6 := blk_cell hG5 6
  have c7 := blk_cell hG5 7
  have c8 := blk_cell hG5 8
  have c9 := blk_cell hG5 9
  simp at c2 c3 c4 c5 c6 c7 c8 c9
  have HE := hidS (HY.out h1 (by omega) (by simp))
  clear hG5 HY HN
  go_wp2_with fail
  all_goals
    go_ret
    refine ⟨ret_bool ?_, (hL6 _).out⟩
    rw [HE.out]
    first
      | exact decide_eq_true ⟨by assumption, by assumption, by assumption, by assumption, by assumption, by assumption⟩
      | exact decide_eq_false (by rintro ⟨g1, g2, g3, g4, g5, g6⟩; contradiction)
end Go.Proofs.YtedknnkdnccfmaaGreatDoor
end

section
namespace Go.Proofs.YtedknnkdnccfmaaGreatDoor
open Go.ChangeShapes Go.WideShapes Go.ChangeAt Go.RowKit
open Go.ChangeMaps (open_string shut_string)
set_option linter.unusedVariables false

theorem allA2 (a b : Int) : allA [a, b] = (addrB a && addrB b) := by simp [allA]
theorem allW2 (a b : Int) : allW [a, b] = (wordB a && wordB b) := by simp [allW]

theorem right_tcp_no (p : Pk) (h6 : p.proto = 6) : allA [p.src, p.dst] = false ∨ 100 < p.body.size ∨ (allW [p.a, p.b] && allA [p.seq, p.ack] && flagB p.flags) = false → rightB p = false := by
  rw [allA2, allW2, allA2]
  rintro (h | h | h)
  · unfold rightB; rw [h]; simp
  · unfold rightB; rw [show decide (p.body.size ≤ 100) = false from by simp; omega]; simp
  · unfold rightB tcpB; rw [if_pos h6]; grind
theorem right_tcp_yes (p : Pk) (h6 : p.proto = 6) : allA [p.src, p.dst] = true → p.body.size ≤ 100 → (allW [p.a, p.b] && allA [p.seq, p.ack] && flagB p.flags) = true → rightB p = decide (p.a = p.a ∧ p.b = p.b ∧ 0 = p.kind ∧ p.flags = p.flags ∧ p.seq = p.seq ∧ p.ack = p.ack) := by
  rw [allA2, allW2, allA2]
  intro h1 h2 h3
  unfold rightB tcpB; rw [if_pos h6, h1, decide_eq_true h2]; grind
theorem right_udp_no (p : Pk) (h17 : p.proto = 17) : allA [p.src, p.dst] = false ∨ 100 < p.body.size ∨ (allW [p.a, p.b]) = false → rightB p = false := by
  rw [allA2, allW2]
  rintro (h | h | h)
  · unfold rightB; rw [h]; simp
  · unfold rightB; rw [show decide (p.body.size ≤ 100) = false from by simp; omega]; simp
  · unfold rightB udpB; rw [if_neg (by omega), if_pos h17]; grind
theorem right_udp_yes (p : Pk) (h17 : p.proto = 17) : allA [p.src, p.dst] = true → p.body.size ≤ 100 → (allW [p.a, p.b]) = true → rightB p = decide (p.a = p.a ∧ p.b = p.b ∧ 0 = p.kind ∧ 0 = p.flags ∧ 0 = p.seq ∧ 0 = p.ack) := by
  rw [allA2, allW2]
  intro h1 h2 h3
  unfold rightB udpB; rw [if_neg (by omega), if_pos h17, h1, decide_eq_true h2]; grind
theorem right_err_no (p : Pk) (h1 : p.proto = 1) (h3 : p.kind = 3) : allA [p.src, p.dst] = false ∨ 100 < p.body.size ∨ (decide (28 ≤ p.body.size)) = false → rightB p = false := by
  rw [allA2]
  rintro (h | h | h)
  · unfold rightB; rw [h]; simp
  · unfold rightB; rw [show decide (p.body.size ≤ 100) = false from by simp; omega]; simp
  · unfold rightB pingB; rw [if_neg (by omega), if_neg (by omega), if_pos h1, if_pos h3, h]; simp
theorem right_err_yes (p : Pk) (h1 : p.proto = 1) (h3 : p.kind = 3) : allA [p.src, p.dst] = true → p.body.size ≤ 100 → (decide (28 ≤ p.body.size)) = true → rightB p = decide (0 = p.a ∧ 0 = p.b ∧ 3 = p.kind ∧ 0 = p.flags ∧ 0 = p.seq ∧ 0 = p.ack) := by
  rw [allA2]
  intro g1 g2 g3
  unfold rightB pingB; rw [if_neg (by omega), if_neg (by omega), if_pos h1, if_pos h3, g1, g3, decide_eq_true g2]; grind
theorem right_echo_no (p : Pk) (h1 : p.proto = 1) (h3 : p.kind ≠ 3) : allA [p.src, p.dst] = false ∨ 100 < p.body.size ∨ ((decide (p.kind = 8) || decide (p.kind = 0)) && allW [p.a, p.seq]) = false → rightB p = false := by
  rw [allA2, allW2]
  rintro (h | h | h)
  · unfold rightB; rw [h]; simp
  · unfold rightB; rw [show decide (p.body.size ≤ 100) = false from by simp; omega]; simp
  · unfold rightB pingB; rw [if_neg (by omega), if_neg (by omega), if_pos h1, if_neg h3]; grind
theorem right_echo_yes (p : Pk) (h1 : p.proto = 1) (h3 : p.kind ≠ 3) : allA [p.src, p.dst] = true → p.body.size ≤ 100 → ((decide (p.kind = 8) || decide (p.kind = 0)) && allW [p.a, p.seq]) = true → rightB p = decide (p.a = p.a ∧ 0 = p.b ∧ p.kind = p.kind ∧ 0 = p.flags ∧ p.seq = p.seq ∧ 0 = p.ack) := by
  rw [allA2, allW2]
  intro g1 g2 g3
  unfold rightB pingB; rw [if_neg (by omega), if_neg (by omega), if_pos h1, if_neg h3, g1, decide_eq_true g2]; grind
theorem right_none (p : Pk) (h6 : p.proto ≠ 6) (h17 : p.proto ≠ 17) (h1 : p.proto ≠ 1) : rightB p = false := by
  unfold rightB; rw [if_neg h6, if_neg h17, if_neg h1]; simp

theorem implRight_none (p : Pk) (w : World) (h6 : p.proto ≠ 6) (h17 : p.proto ≠ 17) (h1 : p.proto ≠ 1) :
    Calls Tryz.prog 14 #[.agg #[.int .i64 p.src, .int .i64 p.dst, .int .i64 p.proto, .int .i64 p.a, .int .i64 p.b, .int .i64 p.kind, .int .i64 p.flags, .int .i64 p.seq, .int .i64 p.ack, .string p.body]] w fun e w' => e = .returned (.bool (rightB p)) ∧ Below w.heap.size w w' := by
  have e0 : Hid (rightB p = false) := right_none p h6 h17 h1
  have hB1 := hidS ((Below.refl w.heap.size w).alloc (Nat.le_refl _) (.cells #[.int .i64 p.src, .int .i64 p.dst, .int .i64 p.proto, .int .i64 p.a, .int .i64 p.b, .int .i64 p.kind, .int .i64 p.flags, .int .i64 p.seq, .int .i64 p.ack, .string p.body] 24))
  have hPT := hidS (fun W => partOf_none p W h6 h17 h1)
  clear h6 h17 h1
  go_enter Tryz.func14, Tryz.ntmps14
  go_wp2_with fail
  refine (hPT.out _).mono ?_
  rintro e w2 ⟨rfl, hb2⟩
  have hL := hidS (hB1.out.trans (hb2.mono hB1.out.size))
  clear hB1 hb2 hPT
  go_wp2_with fail
  go_ret
  exact ⟨ret_bool e0.out, hL.out⟩

theorem implRight_any (p : Pk) (w : World) (hs : p.body.size ≤ maxLen) :
    Calls Tryz.prog 14 #[.agg #[.int .i64 p.src, .int .i64 p.dst, .int .i64 p.proto, .int .i64 p.a, .int .i64 p.b, .int .i64 p.kind, .int .i64 p.flags, .int .i64 p.seq, .int .i64 p.ack, .string p.body]] w fun e w' => e = .returned (.bool (rightB p)) ∧ Below w.heap.size w w' := by
  by_cases h6 : p.proto = 6
  · exact implRight_gen p p.a p.b 0 p.flags p.seq p.ack 109 (.agg #[.int .i64 p.a, .int .i64 p.b, .int .i64 p.seq, .int .i64 p.ack, .int .i64 p.flags, .string p.body]) 184 183 _ w hs
      (fun W => partOf_tcp p W h6) (meth_tcp_right _) (meth_tcp_fields _) (enter_tcp_right _) (enter_tcp_fields _) (fun W => tcpRight_any p.a p.b p.seq p.ack p.flags p.body W) (fun W => by rw [h6]; exact tcpFields_any p.a p.b p.seq p.ack p.flags p.body W) (right_tcp_no p h6) (right_tcp_yes p h6)
  by_cases h17 : p.proto = 17
  · exact implRight_gen p p.a p.b 0 0 0 0 111 (.agg #[.int .i64 p.a, .int .i64 p.b, .string p.body]) 187 186 _ w hs
      (fun W => partOf_udp p W h17) (meth_udp_right _) (meth_udp_fields _) (enter_udp_right _) (enter_udp_fields _) (fun W => udpRight_any p.a p.b p.body W) (fun W => by rw [h17]; exact udpFields_any p.a p.b p.body W) (right_udp_no p h17) (right_udp_yes p h17)
  by_cases h1 : p.proto = 1
  · by_cases h3 : p.kind = 3
    · exact implRight_gen p 0 0 3 0 0 0 113 (.agg #[.string p.body]) 190 189 _ w hs
        (fun W => partOf_err p W h1 h3) (meth_err_right _) (meth_err_fields _) (enter_err_right _) (enter_err_fields _) (fun W => errRight_any p.body W hs) (fun W => by rw [h1]; exact errFields_any p.body W) (right_err_no p h1 h3) (right_err_yes p h1 h3)
    · exact implRight_gen p p.a 0 p.kind 0 p.seq 0 115 (.agg #[.int .i64 p.kind, .int .i64 p.a, .int .i64 p.seq, .string p.body]) 193 192 _ w hs
        (fun W => partOf_echo p W h1 h3) (meth_echo_right _) (meth_echo_fields _) (enter_echo_right _) (enter_echo_fields _) (fun W => echoRight_any p.kind p.a p.seq p.body W) (fun W => by rw [h1]; exact echoFields_any p.kind p.a p.seq p.body W) (right_echo_no p h1 h3) (right_echo_yes p h1 h3)
  · exact implRight_none p w h6 h17 h1
end Go.Proofs.YtedknnkdnccfmaaGreatDoor
end

section
namespace Go.Proofs.YtedknnkdnccfmaaGreatDoor
open Go.ChangeShapes Go.WideShapes Go.ChangeAt Go.RowKit
set_option linter.unusedVariables false

theorem isError_any (p : Pk) (w : World) :
    Calls Tryz.prog 83 #[.agg #[.int .i64 p.src, .int .i64 p.dst, .int .i64 p.proto, .int .i64 p.a, .int .i64 p.b, .int .i64 p.kind, .int .i64 p.flags, .int .i64 p.seq, .int .i64 p.ack, .string p.body]] w fun e w' => e = .returned (.bool (p.proto == 1 && p.kind == 3)) ∧ Below w.heap.size w w' := by
  have HB := fun o => hidS ((Below.refl w.heap.size w).alloc (Nat.le_refl _) o)
  cases h1 : (p.proto == 1)
  · go_enter Tryz.func83, Tryz.ntmps83
    go_wp2
    go_ret
    exact ⟨rfl, (HB _).out⟩
  · go_enter Tryz.func83, Tryz.ntmps83
    go_wp2
    go_ret
    exact ⟨rfl, (HB _).out⟩

end Go.Proofs.YtedknnkdnccfmaaGreatDoor
end
