/- Proved here: impl.PacketRight answers whether a packet is right, whatever its Proto; all old memory stays (condition: the body is a string). -/
import Derived.Test.YtbhemimhmkgfiaaDoorRightI
namespace Go.Proofs.YtbhemimhmkgfiaaDoor
open Go.ChangeShapes Go.WideShapes Go.ChangeAt Go.RowKit
open Go.ChangeMaps (open_string shut_string)
set_option linter.unusedVariables false

theorem allA2 (a b : Int) : allA [a, b] = (addrB a && addrB b) := by simp [allA]
theorem allW2 (a b : Int) : allW [a, b] = (wordB a && wordB b) := by simp [allW]

theorem right_tcp_no (p : Pk) (h6 : p.proto = 6) : allA [p.src, p.dst] = false ∨ 100 < p.body.size ∨ (allW [p.a, p.b] && allA [p.seq, p.ack] && flagB p.flags) = false → rightB p = false := by
  rw [allA2, allW2, allA2]
  rintro (h | h | h)
  · unfold rightB; rw [h]; simp
  · unfold rightB; rw [show decide (p.body.size ≤ 100) = false from by simp; omega]; simp
  · unfold rightB tcpB; rw [if_pos h6]; grind
theorem right_tcp_yes (p : Pk) (h6 : p.proto = 6) : allA [p.src, p.dst] = true → p.body.size ≤ 100 → (allW [p.a, p.b] && allA [p.seq, p.ack] && flagB p.flags) = true → rightB p = decide (p.a = p.a ∧ p.b = p.b ∧ 0 = p.kind ∧ p.flags = p.flags ∧ p.seq = p.seq ∧ p.ack = p.ack) := by
  rw [allA2, allW2, allA2]
  intro h1 h2 h3
  unfold rightB tcpB; rw [if_pos h6, h1, decide_eq_true h2]; grind
theorem right_udp_no (p : Pk) (h17 : p.proto = 17) : allA [p.src, p.dst] = false ∨ 100 < p.body.size ∨ (allW [p.a, p.b]) = false → rightB p = false := by
  rw [allA2, allW2]
  rintro (h | h | h)
  · unfold rightB; rw [h]; simp
  · unfold rightB; rw [show decide (p.body.size ≤ 100) = false from by simp; omega]; simp
  · unfold rightB udpB; rw [if_neg (by omega), if_pos h17]; grind
theorem right_udp_yes (p : Pk) (h17 : p.proto = 17) : allA [p.src, p.dst] = true → p.body.size ≤ 100 → (allW [p.a, p.b]) = true → rightB p = decide (p.a = p.a ∧ p.b = p.b ∧ 0 = p.kind ∧ 0 = p.flags ∧ 0 = p.seq ∧ 0 = p.ack) := by
  rw [allA2, allW2]
  intro h1 h2 h3
  unfold rightB udpB; rw [if_neg (by omega), if_pos h17, h1, decide_eq_true h2]; grind
theorem right_err_no (p : Pk) (h1 : p.proto = 1) (h3 : p.kind = 3) : allA [p.src, p.dst] = false ∨ 100 < p.body.size ∨ (decide (28 ≤ p.body.size)) = false → rightB p = false := by
  rw [allA2]
  rintro (h | h | h)
  · unfold rightB; rw [h]; simp
  · unfold rightB; rw [show decide (p.body.size ≤ 100) = false from by simp; omega]; simp
  · unfold rightB pingB; rw [if_neg (by omega), if_neg (by omega), if_pos h1, if_pos h3, h]; simp
theorem right_err_yes (p : Pk) (h1 : p.proto = 1) (h3 : p.kind = 3) : allA [p.src, p.dst] = true → p.body.size ≤ 100 → (decide (28 ≤ p.body.size)) = true → rightB p = decide (0 = p.a ∧ 0 = p.b ∧ 3 = p.kind ∧ 0 = p.flags ∧ 0 = p.seq ∧ 0 = p.ack) := by
  rw [allA2]
  intro g1 g2 g3
  unfold rightB pingB; rw [if_neg (by omega), if_neg (by omega), if_pos h1, if_pos h3, g1, g3, decide_eq_true g2]; grind
theorem right_echo_no (p : Pk) (h1 : p.proto = 1) (h3 : p.kind ≠ 3) : allA [p.src, p.dst] = false ∨ 100 < p.body.size ∨ ((decide (p.kind = 8) || decide (p.kind = 0)) && allW [p.a, p.seq]) = false → rightB p = false := by
  rw [allA2, allW2]
  rintro (h | h | h)
  · unfold rightB; rw [h]; simp
  · unfold rightB; rw [show decide (p.body.size ≤ 100) = false from by simp; omega]; simp
  · unfold rightB pingB; rw [if_neg (by omega), if_neg (by omega), if_pos h1, if_neg h3]; grind
theorem right_echo_yes (p : Pk) (h1 : p.proto = 1) (h3 : p.kind ≠ 3) : allA [p.src, p.dst] = true → p.body.size ≤ 100 → ((decide (p.kind = 8) || decide (p.kind = 0)) && allW [p.a, p.seq]) = true → rightB p = decide (p.a = p.a ∧ 0 = p.b ∧ p.kind = p.kind ∧ 0 = p.flags ∧ p.seq = p.seq ∧ 0 = p.ack) := by
  rw [allA2, allW2]
  intro g1 g2 g3
  unfold rightB pingB; rw [if_neg (by omega), if_neg (by omega), if_pos h1, if_neg h3, g1, decide_eq_true g2]; grind
theorem right_none (p : Pk) (h6 : p.proto ≠ 6) (h17 : p.proto ≠ 17) (h1 : p.proto ≠ 1) : rightB p = false := by
  unfold rightB; rw [if_neg h6, if_neg h17, if_neg h1]; simp

theorem implRight_none (p : Pk) (w : World) (h6 : p.proto ≠ 6) (h17 : p.proto ≠ 17) (h1 : p.proto ≠ 1) :
    Calls Tryd.prog 55 #[.agg #[.int .i64 p.src, .int .i64 p.dst, .int .i64 p.proto, .int .i64 p.a, .int .i64 p.b, .int .i64 p.kind, .int .i64 p.flags, .int .i64 p.seq, .int .i64 p.ack, .string p.body]] w fun e w' => e = .returned (.bool (rightB p)) ∧ Below w.heap.size w w' := by
  have e0 : Hid (rightB p = false) := right_none p h6 h17 h1
  have hB1 := hidS ((Below.refl w.heap.size w).alloc (Nat.le_refl _) (.cells #[.int .i64 p.src, .int .i64 p.dst, .int .i64 p.proto, .int .i64 p.a, .int .i64 p.b, .int .i64 p.kind, .int .i64 p.flags, .int .i64 p.seq, .int .i64 p.ack, .string p.body] 29))
  have hPT := hidS (fun W => partOf_none p W h6 h17 h1)
  clear h6 h17 h1
  go_enter Tryd.func55, Tryd.ntmps55
  go_wp2_with fail
  refine (hPT.out _).mono ?_
  rintro e w2 ⟨rfl, hb2⟩
  have hL := hidS (hB1.out.trans (hb2.mono hB1.out.size))
  clear hB1 hb2 hPT
  go_wp2_with fail
  go_ret
  exact ⟨ret_bool e0.out, hL.out⟩

theorem implRight_any (p : Pk) (w : World) (hs : p.body.size ≤ maxLen) :
    Calls Tryd.prog 55 #[.agg #[.int .i64 p.src, .int .i64 p.dst, .int .i64 p.proto, .int .i64 p.a, .int .i64 p.b, .int .i64 p.kind, .int .i64 p.flags, .int .i64 p.seq, .int .i64 p.ack, .string p.body]] w fun e w' => e = .returned (.bool (rightB p)) ∧ Below w.heap.size w w' := by
  by_cases h6 : p.proto = 6
  · exact implRight_gen p p.a p.b 0 p.flags p.seq p.ack 87 (.agg #[.int .i64 p.a, .int .i64 p.b, .int .i64 p.seq, .int .i64 p.ack, .int .i64 p.flags, .string p.body]) 110 109 _ w hs
      (fun W => partOf_tcp p W h6) (meth_tcp_right _) (meth_tcp_fields _) (enter_tcp_right _) (enter_tcp_fields _) (fun W => tcpRight_any p.a p.b p.seq p.ack p.flags p.body W) (fun W => by rw [h6]; exact tcpFields_any p.a p.b p.seq p.ack p.flags p.body W) (right_tcp_no p h6) (right_tcp_yes p h6)
  by_cases h17 : p.proto = 17
  · exact implRight_gen p p.a p.b 0 0 0 0 89 (.agg #[.int .i64 p.a, .int .i64 p.b, .string p.body]) 113 112 _ w hs
      (fun W => partOf_udp p W h17) (meth_udp_right _) (meth_udp_fields _) (enter_udp_right _) (enter_udp_fields _) (fun W => udpRight_any p.a p.b p.body W) (fun W => by rw [h17]; exact udpFields_any p.a p.b p.body W) (right_udp_no p h17) (right_udp_yes p h17)
  by_cases h1 : p.proto = 1
  · by_cases h3 : p.kind = 3
    · exact implRight_gen p 0 0 3 0 0 0 91 (.agg #[.string p.body]) 116 115 _ w hs
        (fun W => partOf_err p W h1 h3) (meth_err_right _) (meth_err_fields _) (enter_err_right _) (enter_err_fields _) (fun W => errRight_any p.body W hs) (fun W => by rw [h1]; exact errFields_any p.body W) (right_err_no p h1 h3) (right_err_yes p h1 h3)
    · exact implRight_gen p p.a 0 p.kind 0 p.seq 0 93 (.agg #[.int .i64 p.kind, .int .i64 p.a, .int .i64 p.seq, .string p.body]) 119 118 _ w hs
        (fun W => partOf_echo p W h1 h3) (meth_echo_right _) (meth_echo_fields _) (enter_echo_right _) (enter_echo_fields _) (fun W => echoRight_any p.kind p.a p.seq p.body W) (fun W => by rw [h1]; exact echoFields_any p.kind p.a p.seq p.body W) (right_echo_no p h1 h3) (right_echo_yes p h1 h3)
  · exact implRight_none p w h6 h17 h1
end Go.Proofs.YtbhemimhmkgfiaaDoor
