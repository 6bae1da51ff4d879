/- Proved here: what the parts' methods right and fields answer; all old memory stays (condition: a body is a string). · Proved here: which method of a part is called by its name (closed facts on the program's own table). · Proved here: impl.PacketRight answers whether a packet is right; all old memory stays (condition: the body is a string). -/
import Derived.Test.YtedknnkdnccfmaaGreatDoorAll31
import Derived.Test.YtedknnkdnccfmaaGreatDoorAll28
import Derived.Test.YtedknnkdnccfmaaGreatDoorAll3
section
namespace Go.Proofs.YtedknnkdnccfmaaGreatDoor
open Go.ChangeShapes Go.WideShapes Go.ChangeAt Go.RowKit
open Go.ChangeMaps (open_string shut_string)
set_option linter.unusedVariables false

set_option maxHeartbeats 1000000 in
theorem tcpRight_any (a b q k f : Int) (s : ByteArray) (w : World) :
    Calls Tryz.prog 184 #[.agg #[.int .i64 a, .int .i64 b, .int .i64 q, .int .i64 k, .int .i64 f, .string s]] w fun e w' => e = .returned (.bool (allW [a, b] && allA [q, k] && flagB f)) ∧ Below w.heap.size w w' := by
  have HB := fun o => hidS ((Below.refl w.heap.size w).alloc (Nat.le_refl _) o)
  have HB2 := fun o o2 => hidS (((Below.refl w.heap.size w).alloc (Nat.le_refl _) o).alloc (by simp) o2)
  have HB3 := fun o o2 o3 => hidS ((((Below.refl w.heap.size w).alloc (Nat.le_refl _) o).alloc (by simp) o2).alloc (by simp; omega) o3)
  cases h1 : allW [a, b]
  · go_enter Tryz.func184, Tryz.ntmps184
    go_wp2_with fail
    refine (areWords_any (w.heap.size + 1) [a, b] _ (two_cells1 _ _ _ _ _) (by simp)).mono ?_
    rintro e w1 ⟨rfl, rfl⟩
    rw [h1]
    go_wp2
    go_ret
    exact ⟨rfl, (HB2 _ _).out⟩
  cases h2 : allA [q, k]
  · go_enter Tryz.func184, Tryz.ntmps184
    go_wp2_with fail
    refine (areWords_any (w.heap.size + 1) [a, b] _ (two_cells1 _ _ _ _ _) (by simp)).mono ?_
    rintro e w1 ⟨rfl, rfl⟩
    rw [h1]
    go_wp2_with fail
    refine (areAddrs_any (w.heap.size + 2) [q, k] _ (two_cells2 _ _ _ _ _ _) (by simp)).mono ?_
    rintro e w1 ⟨rfl, rfl⟩
    rw [h2]
    go_wp2
    go_ret
    exact ⟨rfl, (HB3 _ _ _).out⟩
  by_cases h3 : 0 ≤ f
  · by_cases h4 : f ≤ 63
    · have e : Hid (flagB f = true) := flagB_iff.2 ⟨h3, h4⟩
      go_enter Tryz.func184, Tryz.ntmps184
      go_wp2_with fail
      refine (areWords_any (w.heap.size + 1) [a, b] _ (two_cells1 _ _ _ _ _) (by simp)).mono ?_
      rintro e w1 ⟨rfl, rfl⟩
      rw [h1]
      go_wp2_with fail
      refine (areAddrs_any (w.heap.size + 2) [q, k] _ (two_cells2 _ _ _ _ _ _) (by simp)).mono ?_
      rintro e w1 ⟨rfl, rfl⟩
      rw [h2]
      go_wp2
      go_ret
      exact ⟨by rw [e.out]; rfl, (HB3 _ _ _).out⟩
    · have e : Hid (flagB f = false) := by show _ = _; simp [flagB]; omega
      have h4' : decide (f ≤ 63) = false := by simpa using h4
      go_enter Tryz.func184, Tryz.ntmps184
      go_wp2_with fail
      refine (areWords_any (w.heap.size + 1) [a, b] _ (two_cells1 _ _ _ _ _) (by simp)).mono ?_
      rintro e w1 ⟨rfl, rfl⟩
      rw [h1]
      go_wp2_with fail
      refine (areAddrs_any (w.heap.size + 2) [q, k] _ (two_cells2 _ _ _ _ _ _) (by simp)).mono ?_
      rintro e w1 ⟨rfl, rfl⟩
      rw [h2]
      go_wp2
      go_ret
      exact ⟨by rw [e.out]; rfl, (HB3 _ _ _).out⟩
  · have e : Hid (flagB f = false) := by show _ = _; simp [flagB]; omega
    have h3' : decide (0 ≤ f) = false := by simpa using h3
    go_enter Tryz.func184, Tryz.ntmps184
    go_wp2_with fail
    refine (areWords_any (w.heap.size + 1) [a, b] _ (two_cells1 _ _ _ _ _) (by simp)).mono ?_
    rintro e w1 ⟨rfl, rfl⟩
    rw [h1]
    go_wp2_with fail
    refine (areAddrs_any (w.heap.size + 2) [q, k] _ (two_cells2 _ _ _ _ _ _) (by simp)).mono ?_
    rintro e w1 ⟨rfl, rfl⟩
    rw [h2]
    go_wp2
    go_ret
    exact ⟨by rw [e.out]; rfl, (HB3 _ _ _).out⟩

theorem udpRight_any (a b : Int) (s : ByteArray) (w : World) :
    Calls Tryz.prog 187 #[.agg #[.int .i64 a, .int .i64 b, .string s]] w fun e w' => e = .returned (.bool (allW [a, b])) ∧ Below w.heap.size w w' := by
  have HB2 := fun o o2 => hidS (((Below.refl w.heap.size w).alloc (Nat.le_refl _) o).alloc (by simp) o2)
  go_enter Tryz.func187, Tryz.ntmps187
  go_wp2_with fail
  refine (areWords_any (w.heap.size + 1) [a, b] _ (two_cells1 _ _ _ _ _) (by simp)).mono ?_
  rintro e w1 ⟨rfl, rfl⟩
  go_wp2
  go_ret
  exact ⟨rfl, (HB2 _ _).out⟩

theorem errRight_any (s : ByteArray) (w : World) (hs : s.size ≤ maxLen) :
    Calls Tryz.prog 190 #[.agg #[.string s]] w fun e w' => e = .returned (.bool (decide (28 ≤ s.size))) ∧ Below w.heap.size w w' := by
  have hs' : s.size ≤ 2 ^ 63 - 1 := hs
  have HB := fun o => hidS ((Below.refl w.heap.size w).alloc (Nat.le_refl _) o)
  have e : Hid (decide ((28 : Int) ≤ (s.size : Int)) = decide (28 ≤ s.size)) := by show _ = _; rw [decide_eq_decide]; omega
  go_enter Tryz.func190, Tryz.ntmps190
  go_wp2
  go_ret
  exact ⟨by rw [← e.out]; rfl, (HB _).out⟩

theorem echoRight_any (c a q : Int) (s : ByteArray) (w : World) :
    Calls Tryz.prog 193 #[.agg #[.int .i64 c, .int .i64 a, .int .i64 q, .string s]] w fun e w' => e = .returned (.bool ((decide (c = 8) || decide (c = 0)) && allW [a, q])) ∧ Below w.heap.size w w' := by
  have HB := fun o => hidS ((Below.refl w.heap.size w).alloc (Nat.le_refl _) o)
  have HB2 := fun o o2 => hidS (((Below.refl w.heap.size w).alloc (Nat.le_refl _) o).alloc (by simp) o2)
  have HE := hidS (isEcho_any c)
  show Calls Tryz.prog 193 #[.agg #[.int .i64 c, .int .i64 a, .int .i64 q, .string s]] w fun e w' => e = .returned (.bool (echoB c && allW [a, q])) ∧ Below w.heap.size w w'
  cases h : echoB c
  · rw [h] at HE
    go_enter Tryz.func193, Tryz.ntmps193
    go_wp2_with fail
    refine (HE.out _).mono ?_
    rintro _ w1 ⟨rfl, rfl⟩
    go_wp2_with fail
    go_ret
    exact ⟨rfl, (HB _).out⟩
  · rw [h] at HE
    go_enter Tryz.func193, Tryz.ntmps193
    go_wp2_with fail
    refine (HE.out _).mono ?_
    rintro _ w1 ⟨rfl, rfl⟩
    go_wp2_with fail
    refine (areWords_any (w.heap.size + 1) [a, q] _ (two_cells1 _ _ _ _ _) (by simp)).mono ?_
    rintro e w1 ⟨rfl, rfl⟩
    go_wp2
    go_ret
    exact ⟨by simp, (HB2 _ _).out⟩

theorem tcpFields_any (a b q k f : Int) (s : ByteArray) (w : World) :
    Calls Tryz.prog 183 #[.agg #[.int .i64 a, .int .i64 b, .int .i64 q, .int .i64 k, .int .i64 f, .string s]] w fun e w' => e = .returned (.agg #[.int .i64 0, .int .i64 0, .int .i64 6, .int .i64 a, .int .i64 b, .int .i64 0, .int .i64 f, .int .i64 q, .int .i64 k, .string s]) ∧ Below w.heap.size w w' := by
  go_enter Tryz.func183, Tryz.ntmps183
  go_wp2
  go_returns
  exact ⟨rfl, by go_grown⟩
theorem udpFields_any (a b : Int) (s : ByteArray) (w : World) :
    Calls Tryz.prog 186 #[.agg #[.int .i64 a, .int .i64 b, .string s]] w fun e w' => e = .returned (.agg #[.int .i64 0, .int .i64 0, .int .i64 17, .int .i64 a, .int .i64 b, .int .i64 0, .int .i64 0, .int .i64 0, .int .i64 0, .string s]) ∧ Below w.heap.size w w' := by
  go_enter Tryz.func186, Tryz.ntmps186
  go_wp2
  go_returns
  exact ⟨rfl, by go_grown⟩
theorem errFields_any (s : ByteArray) (w : World) :
    Calls Tryz.prog 189 #[.agg #[.string s]] w fun e w' => e = .returned (.agg #[.int .i64 0, .int .i64 0, .int .i64 1, .int .i64 0, .int .i64 0, .int .i64 3, .int .i64 0, .int .i64 0, .int .i64 0, .string s]) ∧ Below w.heap.size w w' := by
  go_enter Tryz.func189, Tryz.ntmps189
  go_wp2
  go_returns
  exact ⟨rfl, by go_grown⟩
theorem echoFields_any (c a q : Int) (s : ByteArray) (w : World) :
    Calls Tryz.prog 192 #[.agg #[.int .i64 c, .int .i64 a, .int .i64 q, .string s]] w fun e w' => e = .returned (.agg #[.int .i64 0, .int .i64 0, .int .i64 1, .int .i64 a, .int .i64 0, .int .i64 c, .int .i64 0, .int .i64 q, .int .i64 0, .string s]) ∧ Below w.heap.size w w' := by
  go_enter Tryz.func192, Tryz.ntmps192
  go_wp2
  go_returns
  exact ⟨rfl, by go_grown⟩
end Go.Proofs.YtedknnkdnccfmaaGreatDoor
end

section
namespace Go.Proofs.YtedknnkdnccfmaaGreatDoor
open Go.ChangeShapes Go.WideShapes Go.ChangeAt Go.RowKit
set_option linter.unusedVariables false

theorem meth_tcp_right (v : Value) (W : World) : (method 327 109 v "loop.example/g00542/impl.right").run Tryz.prog W = .ok (184, v) W := by kernel_rfl
theorem meth_tcp_fields (v : Value) (W : World) : (method 327 109 v "loop.example/g00542/impl.fields").run Tryz.prog W = .ok (183, v) W := by kernel_rfl
theorem meth_udp_right (v : Value) (W : World) : (method 327 111 v "loop.example/g00542/impl.right").run Tryz.prog W = .ok (187, v) W := by kernel_rfl
theorem meth_udp_fields (v : Value) (W : World) : (method 327 111 v "loop.example/g00542/impl.fields").run Tryz.prog W = .ok (186, v) W := by kernel_rfl
theorem meth_err_right (v : Value) (W : World) : (method 327 113 v "loop.example/g00542/impl.right").run Tryz.prog W = .ok (190, v) W := by kernel_rfl
theorem meth_err_fields (v : Value) (W : World) : (method 327 113 v "loop.example/g00542/impl.fields").run Tryz.prog W = .ok (189, v) W := by kernel_rfl
theorem meth_echo_right (v : Value) (W : World) : (method 327 115 v "loop.example/g00542/impl.right").run Tryz.prog W = .ok (193, v) W := by kernel_rfl
theorem meth_echo_fields (v : Value) (W : World) : (method 327 115 v "loop.example/g00542/impl.fields").run Tryz.prog W = .ok (192, v) W := by kernel_rfl
theorem enter_tcp_right (v : Value) (W : World) : (callFunc 184 #[v]).run Tryz.prog W = .ok (.enter 184 #[v]) W := by kernel_rfl
theorem enter_tcp_fields (v : Value) (W : World) : (callFunc 183 #[v]).run Tryz.prog W = .ok (.enter 183 #[v]) W := by kernel_rfl
theorem enter_udp_right (v : Value) (W : World) : (callFunc 187 #[v]).run Tryz.prog W = .ok (.enter 187 #[v]) W := by kernel_rfl
theorem enter_udp_fields (v : Value) (W : World) : (callFunc 186 #[v]).run Tryz.prog W = .ok (.enter 186 #[v]) W := by kernel_rfl
theorem enter_err_right (v : Value) (W : World) : (callFunc 190 #[v]).run Tryz.prog W = .ok (.enter 190 #[v]) W := by kernel_rfl
theorem enter_err_fields (v : Value) (W : World) : (callFunc 189 #[v]).run Tryz.prog W = .ok (.enter 189 #[v]) W := by kernel_rfl
theorem enter_echo_right (v : Value) (W : World) : (callFunc 193 #[v]).run Tryz.prog W = .ok (.enter 193 #[v]) W := by kernel_rfl
theorem enter_echo_fields (v : Value) (W : World) : (callFunc 192 #[v]).run Tryz.prog W = .ok (.enter 192 #[v]) W := by kernel_rfl
end Go.Proofs.YtedknnkdnccfmaaGreatDoor
end

section
namespace Go.Proofs.YtedknnkdnccfmaaGreatDoor
open Go.ChangeShapes Go.WideShapes Go.ChangeAt Go.RowKit
open Go.ChangeMaps (open_string shut_string)
set_option linter.unusedVariables false

theorem ret_bool {a b : Bool} (h : b = a) : Ending.returned (.bool a) = .returned (.bool b) := by rw [h]

set_option maxRecDepth 100000 in
set_option maxHeartbeats 2000000 in
theorem implRight_gen (p : Pk) (qa qb qk qf qs qc : Int) (T : TypeId) (val : Value) (fr ff : FuncId) (b : Bool) (w : World) (hs : p.body.size ≤ maxLen)
    (hPT : ∀ W, Calls Tryz.prog 41 #[.agg #[.int .i64 p.src, .int .i64 p.dst, .int .i64 p.proto, .int .i64 p.a, .int .i64 p.b, .int .i64 p.kind, .int .i64 p.flags, .int .i64 p.seq, .int .i64 p.ack, .string p.body]] W fun e w' => e = .returned (.iface T val) ∧ Below W.heap.size W w')
    (hm1 : ∀ W, (method 327 T val "loop.example/g00542/impl.right").run Tryz.prog W = .ok (fr, val) W)
    (hm2 : ∀ W, (method 327 T val "loop.example/g00542/impl.fields").run Tryz.prog W = .ok (ff, val) W)
    (hc1 : ∀ W, (callFunc fr #[val]).run Tryz.prog W = .ok (.enter fr #[val]) W)
    (hc2 : ∀ W, (callFunc ff #[val]).run Tryz.prog W = .ok (.enter ff #[val]) W)
    (hR : ∀ W, Calls Tryz.prog fr #[val] W fun e w' => e = .returned (.bool b) ∧ Below W.heap.size W w')
    (hF : ∀ W, Calls Tryz.prog ff #[val] W fun e w' => e = .returned (.agg #[.int .i64 0, .int .i64 0, .int .i64 p.proto, .int .i64 qa, .int .i64 qb, .int .i64 qk, .int .i64 qf, .int .i64 qs, .int .i64 qc, .string p.body]) ∧ Below W.heap.size W w')
    (hno : allA [p.src, p.dst] = false ∨ 100 < p.body.size ∨ b = false → rightB p = false)
    (hyes : allA [p.src, p.dst] = true → p.body.size ≤ 100 → b = true → rightB p = decide (qa = p.a ∧ qb = p.b ∧ qk = p.kind ∧ qf = p.flags ∧ qs = p.seq ∧ qc = p.ack)) :
    Calls Tryz.prog 14 #[.agg #[.int .i64 p.src, .int .i64 p.dst, .int .i64 p.proto, .int .i64 p.a, .int .i64 p.b, .int .i64 p.kind, .int .i64 p.flags, .int .i64 p.seq, .int .i64 p.ack, .string p.body]] w fun e w' => e = .returned (.bool (rightB p)) ∧ Below w.heap.size w w' := by
  have hs' : p.body.size ≤ 2 ^ 63 - 1 := hs
  have hB1 := hidS ((Below.refl w.heap.size w).alloc (Nat.le_refl _) (.cells #[.int .i64 p.src, .int .i64 p.dst, .int .i64 p.proto, .int .i64 p.a, .int .i64 p.b, .int .i64 p.kind, .int .i64 p.flags, .int .i64 p.seq, .int .i64 p.ack, .string p.body] 24))
  have HP := hidS (heap_newG w (.cells #[.int .i64 p.src, .int .i64 p.dst, .int .i64 p.proto, .int .i64 p.a, .int .i64 p.b, .int .i64 p.kind, .int .i64 p.flags, .int .i64 p.seq, .int .i64 p.ack, .string p.body] 24))
  have HPT := hidS hPT
  have HM1 := hidS hm1
  have HM2 := hidS hm2
  have HR := hidS hR
  have HF := hidS hF
  have HC1 := hidS hc1
  have HC2 := hidS hc2
  have HN := hidS hno
  have HY := hidS hyes
  clear hPT hm1 hm2 hR hF hc1 hc2 hno hyes
  cases h1 : allA [p.src, p.dst]
  · have e0 : Hid (rightB p = false) := HN.out (.inl h1)
    go_enter Tryz.func14, Tryz.ntmps14
    go_wp2_with fail
    refine (HPT.out _).mono ?_
    rintro e w2 ⟨rfl, hb2⟩
    have hG := blk_later HP.out hb2
    have hL := hidS (hB1.out.trans (hb2.mono hB1.out.size))
    clear hB1 HP hb2 HPT
    have c0 := blk_cell hG 0
    have c1 := blk_cell hG 1
    simp at c0 c1
    go_wp2_with fail
    refine (areAddrs_any w2.heap.size [p.src, p.dst] _ (two_cells _ _ _ _) (by simp)).mono ?_
    rintro e w3 ⟨rfl, rfl⟩
    rw [h1]
    have hL3 := hidS (hL.out.alloc hL.out.size (.cells #[.int .i64 p.src, .int .i64 p.dst] 2))
    generalize w2.alloc (.cells #[.int .i64 p.src, .int .i64 p.dst] 2) = w3 at hL3 ⊢
    go_wp2_with fail
    go_ret
    exact ⟨ret_bool e0.out, hL3.out⟩
  by_cases h2 : 100 < p.body.size
  · have e0 : Hid (rightB p = false) := HN.out (.inr (.inl h2))
    go_enter Tryz.func14, Tryz.ntmps14
    go_wp2_with fail
    refine (HPT.out _).mono ?_
    rintro e w2 ⟨rfl, hb2⟩
    have hG := blk_later HP.out hb2
    have hL := hidS (hB1.out.trans (hb2.mono hB1.out.size))
    clear hB1 HP hb2 HPT
    have c0 := blk_cell hG 0
    have c1 := blk_cell hG 1
    simp at c0 c1
    go_wp2_with fail
    refine (areAddrs_any w2.heap.size [p.src, p.dst] _ (two_cells _ _ _ _) (by simp)).mono ?_
    rintro e w3 ⟨rfl, rfl⟩
    rw [h1]
    have hG3 := blk_alloc hG (.cells #[.int .i64 p.src, .int .i64 p.dst] 2)
    have hL3 := hidS (hL.out.alloc hL.out.size (.cells #[.int .i64 p.src, .int .i64 p.dst] 2))
    generalize w2.alloc (.cells #[.int .i64 p.src, .int .i64 p.dst] 2) = w3 at hG3 hL3 ⊢
    clear hG hL c0 c1
    have c9 := blk_cell hG3 9
    simp at c9
    go_wp2_with fail
    go_ret
    exact ⟨ret_bool e0.out, hL3.out⟩
  have h2' : decide ((100 : Int) < (p.body.size : Int)) = false := by simp; omega
  go_enter Tryz.func14, Tryz.ntmps14
  go_wp2_with fail
  refine (HPT.out _).mono ?_
  rintro e w2 ⟨rfl, hb2⟩
  have hG := blk_later HP.out hb2
  have hL := hidS (hB1.out.trans (hb2.mono hB1.out.size))
  clear hB1 HP hb2 HPT
  have c0 := blk_cell hG 0
  have c1 := blk_cell hG 1
  simp at c0 c1
  go_wp2_with fail
  refine (areAddrs_any w2.heap.size [p.src, p.dst] _ (two_cells _ _ _ _) (by simp)).mono ?_
  rintro e w3 ⟨rfl, rfl⟩
  rw [h1]
  have hG3 := blk_alloc hG (.cells #[.int .i64 p.src, .int .i64 p.dst] 2)
  have hL3 := hidS (hL.out.alloc hL.out.size (.cells #[.int .i64 p.src, .int .i64 p.dst] 2))
  generalize w2.alloc (.cells #[.int .i64 p.src, .int .i64 p.dst] 2) = w3 at hG3 hL3 ⊢
  clear hG hL c0 c1
  have c9 := blk_cell hG3 9
  simp at c9
  go_wp2_with fail
  rw [HM1.out]
  go_wp2_with fail
  rw [HC1.out, Oper.upon_enter]
  refine (HR.out _).mono ?_
  rintro e w4 ⟨rfl, hb4⟩
  cases b
  · have e0 : Hid (rightB p = false) := HN.out (.inr (.inr rfl))
    have hL4 := hidS (hL3.out.trans (hb4.mono hL3.out.size))
    clear hG3 hL3 hb4 c9
    go_wp2_with fail
    go_ret
    exact ⟨ret_bool e0.out, hL4.out⟩
  have hG4 := blk_later hG3 hb4
  have hL4 := hidS (hL3.out.trans (hb4.mono hL3.out.size))
  clear hG3 hL3 hb4 c9
  go_wp2_with fail
  rw [HM2.out]
  go_wp2_with fail
  rw [HC2.out, Oper.upon_enter]
  refine (HF.out _).mono ?_
  rintro e w5 ⟨rfl, hb5⟩
  have hG5 := blk_later hG4 hb5
  have hL5 := hidS (hL4.out.trans (hb5.mono hL4.out.size))
  clear hG4 hL4 hb5 HM1 HM2 HF HC1 HC2 HR
  have hlt := blk_lt hG5
  have hL6 := fun o => hidS (hL5.out.alloc hL5.out.size o).drew
  clear hL5
  have c0 := blk_cell hG5 0
  have c1 := blk_cell hG5 1
  simp at c0 c1
  go_wp2_with fail
  go_region
  have c2 := blk_cell hG5 2
  have c3 := blk_cell hG5 3
  have c4 := blk_cell hG5 4
  have c5 := blk_cell hG5 5
  have c6 := blk_cell hG5 6
  have c7 := blk_cell hG5 7
  have c8 := blk_cell hG5 8
  have c9 := blk_cell hG5 9
  simp at c2 c3 c4 c5 c6 c7 c8 c9
  have HE := hidS (HY.out h1 (by omega) (by simp))
  clear hG5 HY HN
  go_wp2_with fail
  all_goals
    go_ret
    refine ⟨ret_bool ?_, (hL6 _).out⟩
    rw [HE.out]
    first
      | exact decide_eq_true ⟨by assumption, by assumption, by assumption, by assumption, by assumption, by assumption⟩
      | exact decide_eq_false (by rintro ⟨g1, g2, g3, g4, g5, g6⟩; contradiction)
end Go.Proofs.YtedknnkdnccfmaaGreatDoor
end
