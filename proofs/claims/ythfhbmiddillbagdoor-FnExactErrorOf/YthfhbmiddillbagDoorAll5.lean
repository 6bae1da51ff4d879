/- Proved here: what the parts' methods right and fields answer; all old memory stays (condition: a body is a string). · Proved here: which method of a part is called by its name (closed facts on the program's own table). · Proved here: impl.PacketRight answers whether a packet is right; all old memory stays (condition: the body is a string). · Proved here: impl.PacketRight answers whether a packet is right, whatever its Proto; all old memory stays (condition: the body is a string). · Proved here: small facts on byte slices of a call's own: what is written stays, a byte appended, the slice turned into a string. · Proved here: impl.joinTexts of two texts returns the one followed by the other, and leaves all old memory alone (condition: the list of parts has these two strings, together of at most 2^40 bytes). · Proved here: impl.joinTexts returns its texts, one behind another, and leaves all old memory alone (condition: the list holds these strings, at most 1000 of at most 100000 bytes). · Proved here: what WordText answers, of impl; all old memory stays (no conditions). · Proved here: impl.longText answers the four bytes of a number; all old memory stays (condition: the number is an address). · Proved here: a row of bytes that may be written, and what 'copy' of a string leaves of it (no program of its own). · Proved here: the law on regions that draw their order, where the last operation copies a string into a row of bytes that is known (no program of its own but its types). -/
import Derived.Test.YthfhbmiddillbagDoorAll4
import Derived.Test.YthfhbmiddillbagDoorRows
import Derived.WalkKit
import Derived.WalkSpells
import Derived.ProofKit
import Derived.OpenShut
import Derived.ShutString
import Derived.Handy
import Derived.Below
import Derived.Laws.BitsAllLaws
import Derived.Laws.IdiomStrings
import Derived.Lib.LazyBuf
import Derived.Lib.SlBuf
import Derived.Test.YthfhbmiddillbagDoorAll0
import Derived.Deep.Upon
section
namespace Go.Proofs.YthfhbmiddillbagDoor
open Go.ChangeShapes Go.WideShapes Go.ChangeAt Go.RowKit
open Go.ChangeMaps (open_string shut_string)
set_option linter.unusedVariables false

theorem two_cells1 (W : World) (o : Obj) (a b : Int) (t : TypeId) : ∀ j, (h : j < [a, b].length) → ((W.alloc o).alloc (.cells #[.int .i64 a, .int .i64 b] t)).cell? ⟨W.heap.size + 1, j, none⟩ = some (.int .i64 [a, b][j]) := by
  have := two_cells (W.alloc o) a b t
  simpa using this
theorem two_cells2 (W : World) (o o2 : Obj) (a b : Int) (t : TypeId) : ∀ j, (h : j < [a, b].length) → (((W.alloc o).alloc o2).alloc (.cells #[.int .i64 a, .int .i64 b] t)).cell? ⟨W.heap.size + 2, j, none⟩ = some (.int .i64 [a, b][j]) := by
  have := two_cells ((W.alloc o).alloc o2) a b t
  simpa using this

set_option maxHeartbeats 1000000 in
theorem tcpRight_any (a b q k f : Int) (s : ByteArray) (w : World) :
    Calls Tryd.prog 139 #[.agg #[.int .i64 a, .int .i64 b, .int .i64 q, .int .i64 k, .int .i64 f, .string s]] w fun e w' => e = .returned (.bool (allW [a, b] && allA [q, k] && flagB f)) ∧ Below w.heap.size w w' := by
  have HB := fun o => hidS ((Below.refl w.heap.size w).alloc (Nat.le_refl _) o)
  have HB2 := fun o o2 => hidS (((Below.refl w.heap.size w).alloc (Nat.le_refl _) o).alloc (by simp) o2)
  have HB3 := fun o o2 o3 => hidS ((((Below.refl w.heap.size w).alloc (Nat.le_refl _) o).alloc (by simp) o2).alloc (by simp; omega) o3)
  cases h1 : allW [a, b]
  · go_enter Tryd.func139, Tryd.ntmps139
    go_wp2_with fail
    refine (areWords_any (w.heap.size + 1) [a, b] _ (two_cells1 _ _ _ _ _) (by simp)).mono ?_
    rintro e w1 ⟨rfl, rfl⟩
    rw [h1]
    go_wp2
    go_ret
    exact ⟨rfl, (HB2 _ _).out⟩
  cases h2 : allA [q, k]
  · go_enter Tryd.func139, Tryd.ntmps139
    go_wp2_with fail
    refine (areWords_any (w.heap.size + 1) [a, b] _ (two_cells1 _ _ _ _ _) (by simp)).mono ?_
    rintro e w1 ⟨rfl, rfl⟩
    rw [h1]
    go_wp2_with fail
    refine (areAddrs_any (w.heap.size + 2) [q, k] _ (two_cells2 _ _ _ _ _ _) (by simp)).mono ?_
    rintro e w1 ⟨rfl, rfl⟩
    rw [h2]
    go_wp2
    go_ret
    exact ⟨rfl, (HB3 _ _ _).out⟩
  by_cases h3 : 0 ≤ f
  · by_cases h4 : f ≤ 63
    · have e : Hid (flagB f = true) := flagB_iff.2 ⟨h3, h4⟩
      go_enter Tryd.func139, Tryd.ntmps139
      go_wp2_with fail
      refine (areWords_any (w.heap.size + 1) [a, b] _ (two_cells1 _ _ _ _ _) (by simp)).mono ?_
      rintro e w1 ⟨rfl, rfl⟩
      rw [h1]
      go_wp2_with fail
      refine (areAddrs_any (w.heap.size + 2) [q, k] _ (two_cells2 _ _ _ _ _ _) (by simp)).mono ?_
      rintro e w1 ⟨rfl, rfl⟩
      rw [h2]
      go_wp2
      go_ret
      exact ⟨by rw [e.out]; rfl, (HB3 _ _ _).out⟩
    · have e : Hid (flagB f = false) := by show _ = _; simp [flagB]; omega
      have h4' : decide (f ≤ 63) = false := by simpa using h4
      go_enter Tryd.func139, Tryd.ntmps139
      go_wp2_with fail
      refine (areWords_any (w.heap.size + 1) [a, b] _ (two_cells1 _ _ _ _ _) (by simp)).mono ?_
      rintro e w1 ⟨rfl, rfl⟩
      rw [h1]
      go_wp2_with fail
      refine (areAddrs_any (w.heap.size + 2) [q, k] _ (two_cells2 _ _ _ _ _ _) (by simp)).mono ?_
      rintro e w1 ⟨rfl, rfl⟩
      rw [h2]
      go_wp2
      go_ret
      exact ⟨by rw [e.out]; rfl, (HB3 _ _ _).out⟩
  · have e : Hid (flagB f = false) := by show _ = _; simp [flagB]; omega
    have h3' : decide (0 ≤ f) = false := by simpa using h3
    go_enter Tryd.func139, Tryd.ntmps139
    go_wp2_with fail
    refine (areWords_any (w.heap.size + 1) [a, b] _ (two_cells1 _ _ _ _ _) (by simp)).mono ?_
    rintro e w1 ⟨rfl, rfl⟩
    rw [h1]
    go_wp2_with fail
    refine (areAddrs_any (w.heap.size + 2) [q, k] _ (two_cells2 _ _ _ _ _ _) (by simp)).mono ?_
    rintro e w1 ⟨rfl, rfl⟩
    rw [h2]
    go_wp2
    go_ret
    exact ⟨by rw [e.out]; rfl, (HB3 _ _ _).out⟩

theorem udpRight_any (a b : Int) (s : ByteArray) (w : World) :
    Calls Tryd.prog 142 #[.agg #[.int .i64 a, .int .i64 b, .string s]] w fun e w' => e = .returned (.bool (allW [a, b])) ∧ Below w.heap.size w w' := by
  have HB2 := fun o o2 => hidS (((Below.refl w.heap.size w).alloc (Nat.le_refl _) o).alloc (by simp) o2)
  go_enter Tryd.func142, Tryd.ntmps142
  go_wp2_with fail
  refine (areWords_any (w.heap.size + 1) [a, b] _ (two_cells1 _ _ _ _ _) (by simp)).mono ?_
  rintro e w1 ⟨rfl, rfl⟩
  go_wp2
  go_ret
  exact ⟨rfl, (HB2 _ _).out⟩

theorem errRight_any (s : ByteArray) (w : World) (hs : s.size ≤ maxLen) :
    Calls Tryd.prog 145 #[.agg #[.string s]] w fun e w' => e = .returned (.bool (decide (28 ≤ s.size))) ∧ Below w.heap.size w w' := by
  have hs' : s.size ≤ 2 ^ 63 - 1 := hs
  have HB := fun o => hidS ((Below.refl w.heap.size w).alloc (Nat.le_refl _) o)
  have e : Hid (decide ((28 : Int) ≤ (s.size : Int)) = decide (28 ≤ s.size)) := by show _ = _; rw [decide_eq_decide]; omega
  go_enter Tryd.func145, Tryd.ntmps145
  go_wp2
  go_ret
  exact ⟨by rw [← e.out]; rfl, (HB _).out⟩

theorem echoRight_any (c a q : Int) (s : ByteArray) (w : World) :
    Calls Tryd.prog 148 #[.agg #[.int .i64 c, .int .i64 a, .int .i64 q, .string s]] w fun e w' => e = .returned (.bool ((decide (c = 8) || decide (c = 0)) && allW [a, q])) ∧ Below w.heap.size w w' := by
  have HB := fun o => hidS ((Below.refl w.heap.size w).alloc (Nat.le_refl _) o)
  have HB2 := fun o o2 => hidS (((Below.refl w.heap.size w).alloc (Nat.le_refl _) o).alloc (by simp) o2)
  by_cases h8 : c = 8
  · subst h8
    go_enter Tryd.func148, Tryd.ntmps148
    go_wp2_with fail
    refine (areWords_any (w.heap.size + 1) [a, q] _ (two_cells1 _ _ _ _ _) (by simp)).mono ?_
    rintro e w1 ⟨rfl, rfl⟩
    go_wp2
    go_ret
    exact ⟨by simp, (HB2 _ _).out⟩
  · by_cases h0 : c = 0
    · subst h0
      go_enter Tryd.func148, Tryd.ntmps148
      go_wp2_with fail
      refine (areWords_any (w.heap.size + 1) [a, q] _ (two_cells1 _ _ _ _ _) (by simp)).mono ?_
      rintro e w1 ⟨rfl, rfl⟩
      go_wp2
      go_ret
      exact ⟨by simp, (HB2 _ _).out⟩
    · have h8' : (c == 8) = false := by simpa using h8
      have h0' : (c == 0) = false := by simpa using h0
      go_enter Tryd.func148, Tryd.ntmps148
      go_wp2
      go_ret
      exact ⟨by simp [h8, h0], (HB _).out⟩

theorem tcpFields_any (a b q k f : Int) (s : ByteArray) (w : World) :
    Calls Tryd.prog 138 #[.agg #[.int .i64 a, .int .i64 b, .int .i64 q, .int .i64 k, .int .i64 f, .string s]] w fun e w' => e = .returned (.agg #[.int .i64 0, .int .i64 0, .int .i64 6, .int .i64 a, .int .i64 b, .int .i64 0, .int .i64 f, .int .i64 q, .int .i64 k, .string s]) ∧ Below w.heap.size w w' := by
  go_enter Tryd.func138, Tryd.ntmps138
  go_wp2
  go_returns
  exact ⟨rfl, by go_grown⟩
theorem udpFields_any (a b : Int) (s : ByteArray) (w : World) :
    Calls Tryd.prog 141 #[.agg #[.int .i64 a, .int .i64 b, .string s]] w fun e w' => e = .returned (.agg #[.int .i64 0, .int .i64 0, .int .i64 17, .int .i64 a, .int .i64 b, .int .i64 0, .int .i64 0, .int .i64 0, .int .i64 0, .string s]) ∧ Below w.heap.size w w' := by
  go_enter Tryd.func141, Tryd.ntmps141
  go_wp2
  go_returns
  exact ⟨rfl, by go_grown⟩
theorem errFields_any (s : ByteArray) (w : World) :
    Calls Tryd.prog 144 #[.agg #[.string s]] w fun e w' => e = .returned (.agg #[.int .i64 0, .int .i64 0, .int .i64 1, .int .i64 0, .int .i64 0, .int .i64 3, .int .i64 0, .int .i64 0, .int .i64 0, .string s]) ∧ Below w.heap.size w w' := by
  go_enter Tryd.func144, Tryd.ntmps144
  go_wp2
  go_returns
  exact ⟨rfl, by go_grown⟩
theorem echoFields_any (c a q : Int) (s : ByteArray) (w : World) :
    Calls Tryd.prog 147 #[.agg #[.int .i64 c, .int .i64 a, .int .i64 q, .string s]] w fun e w' => e = .returned (.agg #[.int .i64 0, .int .i64 0, .int .i64 1, .int .i64 a, .int .i64 0, .int .i64 c, .int .i64 0, .int .i64 q, .int .i64 0, .string s]) ∧ Below w.heap.size w w' := by
  go_enter Tryd.func147, Tryd.ntmps147
  go_wp2
  go_returns
  exact ⟨rfl, by go_grown⟩
end Go.Proofs.YthfhbmiddillbagDoor
end

section
namespace Go.Proofs.YthfhbmiddillbagDoor
open Go.ChangeShapes Go.WideShapes Go.ChangeAt Go.RowKit
set_option linter.unusedVariables false

theorem meth_tcp_right (v : Value) (W : World) : (method 297 106 v "loop.example/g00542/impl.right").run Tryd.prog W = .ok (139, v) W := by kernel_rfl
theorem meth_tcp_fields (v : Value) (W : World) : (method 297 106 v "loop.example/g00542/impl.fields").run Tryd.prog W = .ok (138, v) W := by kernel_rfl
theorem meth_udp_right (v : Value) (W : World) : (method 297 108 v "loop.example/g00542/impl.right").run Tryd.prog W = .ok (142, v) W := by kernel_rfl
theorem meth_udp_fields (v : Value) (W : World) : (method 297 108 v "loop.example/g00542/impl.fields").run Tryd.prog W = .ok (141, v) W := by kernel_rfl
theorem meth_err_right (v : Value) (W : World) : (method 297 110 v "loop.example/g00542/impl.right").run Tryd.prog W = .ok (145, v) W := by kernel_rfl
theorem meth_err_fields (v : Value) (W : World) : (method 297 110 v "loop.example/g00542/impl.fields").run Tryd.prog W = .ok (144, v) W := by kernel_rfl
theorem meth_echo_right (v : Value) (W : World) : (method 297 112 v "loop.example/g00542/impl.right").run Tryd.prog W = .ok (148, v) W := by kernel_rfl
theorem meth_echo_fields (v : Value) (W : World) : (method 297 112 v "loop.example/g00542/impl.fields").run Tryd.prog W = .ok (147, v) W := by kernel_rfl
theorem enter_tcp_right (v : Value) (W : World) : (callFunc 139 #[v]).run Tryd.prog W = .ok (.enter 139 #[v]) W := by kernel_rfl
theorem enter_tcp_fields (v : Value) (W : World) : (callFunc 138 #[v]).run Tryd.prog W = .ok (.enter 138 #[v]) W := by kernel_rfl
theorem enter_udp_right (v : Value) (W : World) : (callFunc 142 #[v]).run Tryd.prog W = .ok (.enter 142 #[v]) W := by kernel_rfl
theorem enter_udp_fields (v : Value) (W : World) : (callFunc 141 #[v]).run Tryd.prog W = .ok (.enter 141 #[v]) W := by kernel_rfl
theorem enter_err_right (v : Value) (W : World) : (callFunc 145 #[v]).run Tryd.prog W = .ok (.enter 145 #[v]) W := by kernel_rfl
theorem enter_err_fields (v : Value) (W : World) : (callFunc 144 #[v]).run Tryd.prog W = .ok (.enter 144 #[v]) W := by kernel_rfl
theorem enter_echo_right (v : Value) (W : World) : (callFunc 148 #[v]).run Tryd.prog W = .ok (.enter 148 #[v]) W := by kernel_rfl
theorem enter_echo_fields (v : Value) (W : World) : (callFunc 147 #[v]).run Tryd.prog W = .ok (.enter 147 #[v]) W := by kernel_rfl
end Go.Proofs.YthfhbmiddillbagDoor
end

section
namespace Go.Proofs.YthfhbmiddillbagDoor
open Go.ChangeShapes Go.WideShapes Go.ChangeAt Go.RowKit
open Go.ChangeMaps (open_string shut_string)
set_option linter.unusedVariables false

theorem ret_bool {a b : Bool} (h : b = a) : Ending.returned (.bool a) = .returned (.bool b) := by rw [h]

set_option maxRecDepth 100000 in
set_option maxHeartbeats 2000000 in
theorem implRight_gen (p : Pk) (qa qb qk qf qs qc : Int) (T : TypeId) (val : Value) (fr ff : FuncId) (b : Bool) (w : World) (hs : p.body.size ≤ maxLen)
    (hPT : ∀ W, Calls Tryd.prog 52 #[.agg #[.int .i64 p.src, .int .i64 p.dst, .int .i64 p.proto, .int .i64 p.a, .int .i64 p.b, .int .i64 p.kind, .int .i64 p.flags, .int .i64 p.seq, .int .i64 p.ack, .string p.body]] W fun e w' => e = .returned (.iface T val) ∧ Below W.heap.size W w')
    (hm1 : ∀ W, (method 297 T val "loop.example/g00542/impl.right").run Tryd.prog W = .ok (fr, val) W)
    (hm2 : ∀ W, (method 297 T val "loop.example/g00542/impl.fields").run Tryd.prog W = .ok (ff, val) W)
    (hc1 : ∀ W, (callFunc fr #[val]).run Tryd.prog W = .ok (.enter fr #[val]) W)
    (hc2 : ∀ W, (callFunc ff #[val]).run Tryd.prog W = .ok (.enter ff #[val]) W)
    (hR : ∀ W, Calls Tryd.prog fr #[val] W fun e w' => e = .returned (.bool b) ∧ Below W.heap.size W w')
    (hF : ∀ W, Calls Tryd.prog ff #[val] W fun e w' => e = .returned (.agg #[.int .i64 0, .int .i64 0, .int .i64 p.proto, .int .i64 qa, .int .i64 qb, .int .i64 qk, .int .i64 qf, .int .i64 qs, .int .i64 qc, .string p.body]) ∧ Below W.heap.size W w')
    (hno : allA [p.src, p.dst] = false ∨ 100 < p.body.size ∨ b = false → rightB p = false)
    (hyes : allA [p.src, p.dst] = true → p.body.size ≤ 100 → b = true → rightB p = decide (qa = p.a ∧ qb = p.b ∧ qk = p.kind ∧ qf = p.flags ∧ qs = p.seq ∧ qc = p.ack)) :
    Calls Tryd.prog 43 #[.agg #[.int .i64 p.src, .int .i64 p.dst, .int .i64 p.proto, .int .i64 p.a, .int .i64 p.b, .int .i64 p.kind, .int .i64 p.flags, .int .i64 p.seq, .int .i64 p.ack, .string p.body]] w fun e w' => e = .returned (.bool (rightB p)) ∧ Below w.heap.size w w' := by
  have hs' : p.body.size ≤ 2 ^ 63 - 1 := hs
  have hB1 := hidS ((Below.refl w.heap.size w).alloc (Nat.le_refl _) (.cells #[.int .i64 p.src, .int .i64 p.dst, .int .i64 p.proto, .int .i64 p.a, .int .i64 p.b, .int .i64 p.kind, .int .i64 p.flags, .int .i64 p.seq, .int .i64 p.ack, .string p.body] 30))
  have HP := hidS (heap_newG w (.cells #[.int .i64 p.src, .int .i64 p.dst, .int .i64 p.proto, .int .i64 p.a, .int .i64 p.b, .int .i64 p.kind, .int .i64 p.flags, .int .i64 p.seq, .int .i64 p.ack, .string p.body] 30))
  have HPT := hidS hPT
  have HM1 := hidS hm1
  have HM2 := hidS hm2
  have HR := hidS hR
  have HF := hidS hF
  have HC1 := hidS hc1
  have HC2 := hidS hc2
  have HN := hidS hno
  have HY := hidS hyes
  clear hPT hm1 hm2 hR hF hc1 hc2 hno hyes
  cases h1 : allA [p.src, p.dst]
  · have e0 : Hid (rightB p = false) := HN.out (.inl h1)
    go_enter Tryd.func43, Tryd.ntmps43
    go_wp2_with fail
    refine (HPT.out _).mono ?_
    rintro e w2 ⟨rfl, hb2⟩
    have hG := blk_later HP.out hb2
    have hL := hidS (hB1.out.trans (hb2.mono hB1.out.size))
    clear hB1 HP hb2 HPT
    have c0 := blk_cell hG 0
    have c1 := blk_cell hG 1
    simp at c0 c1
    go_wp2_with fail
    refine (areAddrs_any w2.heap.size [p.src, p.dst] _ (two_cells _ _ _ _) (by simp)).mono ?_
    rintro e w3 ⟨rfl, rfl⟩
    rw [h1]
    have hL3 := hidS (hL.out.alloc hL.out.size (.cells #[.int .i64 p.src, .int .i64 p.dst] 2))
    generalize w2.alloc (.cells #[.int .i64 p.src, .int .i64 p.dst] 2) = w3 at hL3 ⊢
    go_wp2_with fail
    go_ret
    exact ⟨ret_bool e0.out, hL3.out⟩
  by_cases h2 : 100 < p.body.size
  · have e0 : Hid (rightB p = false) := HN.out (.inr (.inl h2))
    go_enter Tryd.func43, Tryd.ntmps43
    go_wp2_with fail
    refine (HPT.out _).mono ?_
    rintro e w2 ⟨rfl, hb2⟩
    have hG := blk_later HP.out hb2
    have hL := hidS (hB1.out.trans (hb2.mono hB1.out.size))
    clear hB1 HP hb2 HPT
    have c0 := blk_cell hG 0
    have c1 := blk_cell hG 1
    simp at c0 c1
    go_wp2_with fail
    refine (areAddrs_any w2.heap.size [p.src, p.dst] _ (two_cells _ _ _ _) (by simp)).mono ?_
    rintro e w3 ⟨rfl, rfl⟩
    rw [h1]
    have hG3 := blk_alloc hG (.cells #[.int .i64 p.src, .int .i64 p.dst] 2)
    have hL3 := hidS (hL.out.alloc hL.out.size (.cells #[.int .i64 p.src, .int .i64 p.dst] 2))
    generalize w2.alloc (.cells #[.int .i64 p.src, .int .i64 p.dst] 2) = w3 at hG3 hL3 ⊢
    clear hG hL c0 c1
    have c9 := blk_cell hG3 9
    simp at c9
    go_wp2_with fail
    go_ret
    exact ⟨ret_bool e0.out, hL3.out⟩
  have h2' : decide ((100 : Int) < (p.body.size : Int)) = false := by simp; omega
  go_enter Tryd.func43, Tryd.ntmps43
  go_wp2_with fail
  refine (HPT.out _).mono ?_
  rintro e w2 ⟨rfl, hb2⟩
  have hG := blk_later HP.out hb2
  have hL := hidS (hB1.out.trans (hb2.mono hB1.out.size))
  clear hB1 HP hb2 HPT
  have c0 := blk_cell hG 0
  have c1 := blk_cell hG 1
  simp at c0 c1
  go_wp2_with fail
  refine (areAddrs_any w2.heap.size [p.src, p.dst] _ (two_cells _ _ _ _) (by simp)).mono ?_
  rintro e w3 ⟨rfl, rfl⟩
  rw [h1]
  have hG3 := blk_alloc hG (.cells #[.int .i64 p.src, .int .i64 p.dst] 2)
  have hL3 := hidS (hL.out.alloc hL.out.size (.cells #[.int .i64 p.src, .int .i64 p.dst] 2))
  generalize w2.alloc (.cells #[.int .i64 p.src, .int .i64 p.dst] 2) = w3 at hG3 hL3 ⊢
  clear hG hL c0 c1
  have c9 := blk_cell hG3 9
  simp at c9
  go_wp2_with fail
  rw [HM1.out]
  go_wp2_with fail
  rw [HC1.out, Oper.upon_enter]
  refine (HR.out _).mono ?_
  rintro e w4 ⟨rfl, hb4⟩
  cases b
  · have e0 : Hid (rightB p = false) := HN.out (.inr (.inr rfl))
    have hL4 := hidS (hL3.out.trans (hb4.mono hL3.out.size))
    clear hG3 hL3 hb4 c9
    go_wp2_with fail
    go_ret
    exact ⟨ret_bool e0.out, hL4.out⟩
  have hG4 := blk_later hG3 hb4
  have hL4 := hidS (hL3.out.trans (hb4.mono hL3.out.size))
  clear hG3 hL3 hb4 c9
  go_wp2_with fail
  rw [HM2.out]
  go_wp2_with fail
  rw [HC2.out, Oper.upon_enter]
  refine (HF.out _).mono ?_
  rintro e w5 ⟨rfl, hb5⟩
  have hG5 := blk_later hG4 hb5
  have hL5 := hidS (hL4.out.trans (hb5.mono hL4.out.size))
  clear hG4 hL4 hb5 HM1 HM2 HF HC1 HC2 HR
  have hlt := blk_lt hG5
  have hL6 := fun o => hidS (hL5.out.alloc hL5.out.size o).drew
  clear hL5
  have c0 := blk_cell hG5 0
  have c1 := blk_cell hG5 1
  simp at c0 c1
  go_wp2_with fail
  go_region
  have c2 := blk_cell hG5 2
  have c3 := blk_cell hG5 3
  have c4 := blk_cell hG5 4
  have c5 := blk_cell hG5 5
  have c6 := blk_cell hG5 6
  have c7 := blk_cell hG5 7
  have c8 := blk_cell hG5 8
  have c9 := blk_cell hG5 9
  simp at c2 c3 c4 c5 c6 c7 c8 c9
  have HE := hidS (HY.out h1 (by omega) (by simp))
  clear hG5 HY HN
  go_wp2_with fail
  all_goals
    go_ret
    refine ⟨ret_bool ?_, (hL6 _).out⟩
    rw [HE.out]
    first
      | exact decide_eq_true ⟨by assumption, by assumption, by assumption, by assumption, by assumption, by assumption⟩
      | exact decide_eq_false (by rintro ⟨g1, g2, g3, g4, g5, g6⟩; contradiction)
end Go.Proofs.YthfhbmiddillbagDoor
end

section
namespace Go.Proofs.YthfhbmiddillbagDoor
open Go.ChangeShapes Go.WideShapes Go.ChangeAt Go.RowKit
open Go.ChangeMaps (open_string shut_string)
set_option linter.unusedVariables false

theorem allA2 (a b : Int) : allA [a, b] = (addrB a && addrB b) := by simp [allA]
theorem allW2 (a b : Int) : allW [a, b] = (wordB a && wordB b) := by simp [allW]

theorem right_tcp_no (p : Pk) (h6 : p.proto = 6) : allA [p.src, p.dst] = false ∨ 100 < p.body.size ∨ (allW [p.a, p.b] && allA [p.seq, p.ack] && flagB p.flags) = false → rightB p = false := by
  rw [allA2, allW2, allA2]
  rintro (h | h | h)
  · unfold rightB; rw [h]; simp
  · unfold rightB; rw [show decide (p.body.size ≤ 100) = false from by simp; omega]; simp
  · unfold rightB tcpB; rw [if_pos h6]; grind
theorem right_tcp_yes (p : Pk) (h6 : p.proto = 6) : allA [p.src, p.dst] = true → p.body.size ≤ 100 → (allW [p.a, p.b] && allA [p.seq, p.ack] && flagB p.flags) = true → rightB p = decide (p.a = p.a ∧ p.b = p.b ∧ 0 = p.kind ∧ p.flags = p.flags ∧ p.seq = p.seq ∧ p.ack = p.ack) := by
  rw [allA2, allW2, allA2]
  intro h1 h2 h3
  unfold rightB tcpB; rw [if_pos h6, h1, decide_eq_true h2]; grind
theorem right_udp_no (p : Pk) (h17 : p.proto = 17) : allA [p.src, p.dst] = false ∨ 100 < p.body.size ∨ (allW [p.a, p.b]) = false → rightB p = false := by
  rw [allA2, allW2]
  rintro (h | h | h)
  · unfold rightB; rw [h]; simp
  · unfold rightB; rw [show decide (p.body.size ≤ 100) = false from by simp; omega]; simp
  · unfold rightB udpB; rw [if_neg (by omega), if_pos h17]; grind
theorem right_udp_yes (p : Pk) (h17 : p.proto = 17) : allA [p.src, p.dst] = true → p.body.size ≤ 100 → (allW [p.a, p.b]) = true → rightB p = decide (p.a = p.a ∧ p.b = p.b ∧ 0 = p.kind ∧ 0 = p.flags ∧ 0 = p.seq ∧ 0 = p.ack) := by
  rw [allA2, allW2]
  intro h1 h2 h3
  unfold rightB udpB; rw [if_neg (by omega), if_pos h17, h1, decide_eq_true h2]; grind
theorem right_err_no (p : Pk) (h1 : p.proto = 1) (h3 : p.kind = 3) : allA [p.src, p.dst] = false ∨ 100 < p.body.size ∨ (decide (28 ≤ p.body.size)) = false → rightB p = false := by
  rw [allA2]
  rintro (h | h | h)
  · unfold rightB; rw [h]; simp
  · unfold rightB; rw [show decide (p.body.size ≤ 100) = false from by simp; omega]; simp
  · unfold rightB pingB; rw [if_neg (by omega), if_neg (by omega), if_pos h1, if_pos h3, h]; simp
theorem right_err_yes (p : Pk) (h1 : p.proto = 1) (h3 : p.kind = 3) : allA [p.src, p.dst] = true → p.body.size ≤ 100 → (decide (28 ≤ p.body.size)) = true → rightB p = decide (0 = p.a ∧ 0 = p.b ∧ 3 = p.kind ∧ 0 = p.flags ∧ 0 = p.seq ∧ 0 = p.ack) := by
  rw [allA2]
  intro g1 g2 g3
  unfold rightB pingB; rw [if_neg (by omega), if_neg (by omega), if_pos h1, if_pos h3, g1, g3, decide_eq_true g2]; grind
theorem right_echo_no (p : Pk) (h1 : p.proto = 1) (h3 : p.kind ≠ 3) : allA [p.src, p.dst] = false ∨ 100 < p.body.size ∨ ((decide (p.kind = 8) || decide (p.kind = 0)) && allW [p.a, p.seq]) = false → rightB p = false := by
  rw [allA2, allW2]
  rintro (h | h | h)
  · unfold rightB; rw [h]; simp
  · unfold rightB; rw [show decide (p.body.size ≤ 100) = false from by simp; omega]; simp
  · unfold rightB pingB; rw [if_neg (by omega), if_neg (by omega), if_pos h1, if_neg h3]; grind
theorem right_echo_yes (p : Pk) (h1 : p.proto = 1) (h3 : p.kind ≠ 3) : allA [p.src, p.dst] = true → p.body.size ≤ 100 → ((decide (p.kind = 8) || decide (p.kind = 0)) && allW [p.a, p.seq]) = true → rightB p = decide (p.a = p.a ∧ 0 = p.b ∧ p.kind = p.kind ∧ 0 = p.flags ∧ p.seq = p.seq ∧ 0 = p.ack) := by
  rw [allA2, allW2]
  intro g1 g2 g3
  unfold rightB pingB; rw [if_neg (by omega), if_neg (by omega), if_pos h1, if_neg h3, g1, decide_eq_true g2]; grind
theorem right_none (p : Pk) (h6 : p.proto ≠ 6) (h17 : p.proto ≠ 17) (h1 : p.proto ≠ 1) : rightB p = false := by
  unfold rightB; rw [if_neg h6, if_neg h17, if_neg h1]; simp

theorem implRight_none (p : Pk) (w : World) (h6 : p.proto ≠ 6) (h17 : p.proto ≠ 17) (h1 : p.proto ≠ 1) :
    Calls Tryd.prog 43 #[.agg #[.int .i64 p.src, .int .i64 p.dst, .int .i64 p.proto, .int .i64 p.a, .int .i64 p.b, .int .i64 p.kind, .int .i64 p.flags, .int .i64 p.seq, .int .i64 p.ack, .string p.body]] w fun e w' => e = .returned (.bool (rightB p)) ∧ Below w.heap.size w w' := by
  have e0 : Hid (rightB p = false) := right_none p h6 h17 h1
  have hB1 := hidS ((Below.refl w.heap.size w).alloc (Nat.le_refl _) (.cells #[.int .i64 p.src, .int .i64 p.dst, .int .i64 p.proto, .int .i64 p.a, .int .i64 p.b, .int .i64 p.kind, .int .i64 p.flags, .int .i64 p.seq, .int .i64 p.ack, .string p.body] 30))
  have hPT := hidS (fun W => partOf_none p W h6 h17 h1)
  clear h6 h17 h1
  go_enter Tryd.func43, Tryd.ntmps43
  go_wp2_with fail
  refine (hPT.out _).mono ?_
  rintro e w2 ⟨rfl, hb2⟩
  have hL := hidS (hB1.out.trans (hb2.mono hB1.out.size))
  clear hB1 hb2 hPT
  go_wp2_with fail
  go_ret
  exact ⟨ret_bool e0.out, hL.out⟩

theorem implRight_any (p : Pk) (w : World) (hs : p.body.size ≤ maxLen) :
    Calls Tryd.prog 43 #[.agg #[.int .i64 p.src, .int .i64 p.dst, .int .i64 p.proto, .int .i64 p.a, .int .i64 p.b, .int .i64 p.kind, .int .i64 p.flags, .int .i64 p.seq, .int .i64 p.ack, .string p.body]] w fun e w' => e = .returned (.bool (rightB p)) ∧ Below w.heap.size w w' := by
  by_cases h6 : p.proto = 6
  · exact implRight_gen p p.a p.b 0 p.flags p.seq p.ack 106 (.agg #[.int .i64 p.a, .int .i64 p.b, .int .i64 p.seq, .int .i64 p.ack, .int .i64 p.flags, .string p.body]) 139 138 _ w hs
      (fun W => partOf_tcp p W h6) (meth_tcp_right _) (meth_tcp_fields _) (enter_tcp_right _) (enter_tcp_fields _) (fun W => tcpRight_any p.a p.b p.seq p.ack p.flags p.body W) (fun W => by rw [h6]; exact tcpFields_any p.a p.b p.seq p.ack p.flags p.body W) (right_tcp_no p h6) (right_tcp_yes p h6)
  by_cases h17 : p.proto = 17
  · exact implRight_gen p p.a p.b 0 0 0 0 108 (.agg #[.int .i64 p.a, .int .i64 p.b, .string p.body]) 142 141 _ w hs
      (fun W => partOf_udp p W h17) (meth_udp_right _) (meth_udp_fields _) (enter_udp_right _) (enter_udp_fields _) (fun W => udpRight_any p.a p.b p.body W) (fun W => by rw [h17]; exact udpFields_any p.a p.b p.body W) (right_udp_no p h17) (right_udp_yes p h17)
  by_cases h1 : p.proto = 1
  · by_cases h3 : p.kind = 3
    · exact implRight_gen p 0 0 3 0 0 0 110 (.agg #[.string p.body]) 145 144 _ w hs
        (fun W => partOf_err p W h1 h3) (meth_err_right _) (meth_err_fields _) (enter_err_right _) (enter_err_fields _) (fun W => errRight_any p.body W hs) (fun W => by rw [h1]; exact errFields_any p.body W) (right_err_no p h1 h3) (right_err_yes p h1 h3)
    · exact implRight_gen p p.a 0 p.kind 0 p.seq 0 112 (.agg #[.int .i64 p.kind, .int .i64 p.a, .int .i64 p.seq, .string p.body]) 148 147 _ w hs
        (fun W => partOf_echo p W h1 h3) (meth_echo_right _) (meth_echo_fields _) (enter_echo_right _) (enter_echo_fields _) (fun W => echoRight_any p.kind p.a p.seq p.body W) (fun W => by rw [h1]; exact echoFields_any p.kind p.a p.seq p.body W) (right_echo_no p h1 h3) (right_echo_yes p h1 h3)
  · exact implRight_none p w h6 h17 h1
end Go.Proofs.YthfhbmiddillbagDoor
end

section
namespace Go.Proofs.YthfhbmiddillbagDoor
open Go.ChangeShapes Go.WideShapes Go.ChangeAt Go.RowKit
open Go.ChangeMaps (open_string shut_string)
set_option linter.unusedVariables false

theorem ret_int' {k : IntKind} {a b : Int} (h : a = b) : Ending.returned (.int k a) = .returned (.int k b) := by rw [h]
theorem val_int' {k : IntKind} {a b : Int} (h : a = b) : Value.int k a = .int k b := by rw [h]

def bytesV (l : List UInt8) : List Value := l.map fun c => .int .u8 (c.toNat : Int)
theorem bytesV_snoc (l : List UInt8) (c : UInt8) : bytesV (l ++ [c]) = bytesV l ++ [.int .u8 (c.toNat : Int)] := by simp [bytesV]

theorem Tryd.infoU8 : (Tryd.prog.info? 5).map (fun i => (i.zero, i.size, i.bytes)) = some (some (.int .u8 0), 1, 1) := by kernel_rfl

theorem heap_new (w : World) (o : Obj) : (w.alloc o).heap[w.heap.size]? = some o := by show (w.heap.push o)[w.heap.size]? = _; simp

/-- a slice that owns the bytes l, as a string -/
theorem conv_own {w : World} {B : Nat} {v : Value} {l : List UInt8} (h : w.ownsRow B 5 1 v l.length (bytesV l)) :
    (convert 72 9 v).run Tryd.prog w = .ok (.string ⟨l.toArray⟩) w := by
  have h0 := h
  rcases h.2 with ⟨rfl, hn⟩ | ⟨g, cap, cur, rfl, hg, hh, hnc, hcp, hcs, htake⟩
  · obtain rfl : l = [] := List.length_eq_zero_iff.1 hn
    rw [run_convert_bytes_string w 72 9 5 none 0 0 Tryd.underlying72 Tryd.underlying5 Tryd.underlying9]
    simp [Conv.bytesToString]
    rfl
  · exact run_convert_bytes_back (P := Tryd.prog) w 72 9 5 ⟨g, 0, none⟩ cap l Tryd.underlying72 Tryd.underlying5 Tryd.underlying9 (fun j hj => by
      rw [Addr.add_lit, Nat.zero_add, h0.cellAt j (by omega)]
      simp [bytesV, hj])

theorem own_snoc {w : World} {B : Nat} {v : Value} {l : List UInt8} {c : UInt8} {x : Int} (hx : x = (c.toNat : Int)) (h : w.ownsRow B 5 1 v (l.length + 1) (bytesV l ++ [.int .u8 x])) :
    w.ownsRow B 5 1 v (l ++ [c]).length (bytesV (l ++ [c])) := by
  rw [bytesV_snoc, List.length_append, ← hx]; exact h

/-- behind a byte that was appended to a slice of the call's own -/
theorem below_app {B : Nat} {w wr w1 : World} {v : Value} {n : Nat} {xs : List Value} {o : Obj} (hbel : Below B w wr) (hB : B ≤ wr.heap.size) (hown : wr.ownsRow B 5 1 v n xs) (hg : (wr.alloc o).grownBy w1 v.ownBlock) : Below B w w1 :=
  (hbel.alloc hB o).grown hg (by simp; omega) (fun k hk => (hown.lt k hk).1)
end Go.Proofs.YthfhbmiddillbagDoor
end

section
namespace Go.Proofs.YthfhbmiddillbagDoor
open Go.ChangeShapes Go.WideShapes Go.ChangeAt Go.RowKit
open Go.ChangeMaps (open_string shut_string)
set_option linter.unusedVariables false

set_option maxRecDepth 1000000 in
theorem Tryd.sizeU8 (w : World) : (Go.sizeOf 5).run Tryd.prog w = .ok 1 w := by rfl

/-- 'copy(b[bp:], s)', s a string, bp = how much is filled -/
theorem copy_text (w0 wr : World) (h N : Nat) (acc : List UInt8) (s : ByteArray) (ty : TypeId) (hh : w0.heap.size ≤ h)
    (hb : Lib.Buf w0 wr h N acc) (hfit : acc.length + s.size ≤ N) :
    ∃ wr', (Builtin.copy_ #[72, 9] ty #[Lib.tailV h N acc.length, .string s]).run Tryd.prog wr = .ok (.int .i64 (s.size : Int)) wr' ∧ Lib.Buf w0 wr' h N (acc ++ s.data.toList) := by
  have hsl : s.data.toList.length = s.size := by simp
  by_cases hl : s.size = 0
  · have he : s.data.toList = [] := List.length_eq_zero_iff.1 (by rw [hsl]; exact hl)
    refine ⟨wr, ?_, by rw [he]; simpa using hb⟩
    unfold Lib.tailV
    have := run_copy_string (P := Tryd.prog) wr 72 9 ty 5 h (if N = acc.length then 0 else acc.length) (N - acc.length) (N - acc.length) s Tryd.underlying72 Tryd.sizeU8 (by omega) (fun j hj => by omega) (fun j hj => by omega)
    rw [he] at this
    split <;> simp_all [World.setCells, goInt]
  · have hne : ¬ N = acc.length := by omega
    have hr := run_copy_string (P := Tryd.prog) wr 72 9 ty 5 h acc.length (N - acc.length) (N - acc.length) s Tryd.underlying72 Tryd.sizeU8 (by omega)
      (fun j hj => hb.there _ (by omega)) (fun j hj => hb.free _ (by omega))
    refine ⟨_, by unfold Lib.tailV; rw [if_neg hne]; exact hr, ?_⟩
    have hin := World.cell?_setCells_in h (s.data.toList.map fun x => Value.int .u8 (x.toNat : Int)) acc.length wr (fun j hj => by rw [List.length_map, hsl] at hj; exact hb.there _ (by omega))
    have hout := World.cell?_setCells_out h (s.data.toList.map fun x => Value.int .u8 (x.toNat : Int)) acc.length wr
    refine ⟨?_, ?_, ?_, ?_, by rw [List.length_append, hsl]; exact hfit⟩
    · exact Lib.below_setCells h (Nat.le_refl _) _ _ hb.below
    · intro j hj
      by_cases h1 : acc.length ≤ j ∧ j < acc.length + s.size
      · obtain ⟨d, rfl⟩ : ∃ d, j = acc.length + d := ⟨j - acc.length, by omega⟩
        rw [hin d (by rw [List.length_map, hsl]; omega)]
        rfl
      · rw [hout ⟨h, j, none⟩ (fun _ _ => by rw [List.length_map, hsl]; show j < _ ∨ _ ≤ j; omega)]
        exact hb.there j hj
    · intro j hj
      rw [World.frozen?_setCells]
      exact hb.free j hj
    · intro j x hx
      by_cases h1 : j < acc.length
      · rw [List.getElem?_append_left h1] at hx
        rw [hout ⟨h, j, none⟩ (fun _ _ => Or.inl h1)]
        exact hb.holds j x hx
      · rw [List.getElem?_append_right (by omega)] at hx
        obtain ⟨d, rfl⟩ : ∃ d, j = acc.length + d := ⟨j - acc.length, by omega⟩
        rw [Nat.add_sub_cancel_left] at hx
        have hd : d < s.data.toList.length := (List.getElem?_eq_some_iff.1 hx).1
        rw [hin d (by rw [List.length_map]; exact hd)]
        simp only [List.getElem_map]
        rw [(List.getElem?_eq_some_iff.1 hx).2]

/-- the buffer filled, as a string -/
theorem conv_buf {w0 wr : World} {h N : Nat} {acc : List UInt8} (hb : Lib.Buf w0 wr h N acc) (hN : acc.length = N) :
    (convert 72 9 (.slice (some ⟨h, 0, none⟩) N N)).run Tryd.prog wr = .ok (.string ⟨acc.toArray⟩) wr := by
  subst hN
  exact run_convert_bytes_back (P := Tryd.prog) wr 72 9 5 ⟨h, 0, none⟩ acc.length acc Tryd.underlying72 Tryd.underlying5 Tryd.underlying9 (fun j hj => by
      rw [Addr.add_lit, Nat.zero_add]
      exact hb.holds j _ (List.getElem?_eq_getElem hj))

set_option maxRecDepth 100000 in
set_option maxHeartbeats 1000000 in
theorem joinTexts_two (a b : ByteArray) (k : Nat) (w : World) (ha : w.cell? ⟨k, 0, none⟩ = some (.string a)) (hb : w.cell? ⟨k, 1, none⟩ = some (.string b)) (hs : a.size + b.size ≤ 1099511627776) :
    Calls Tryd.prog 73 #[.slice (some ⟨k, 0, none⟩) 2 2] w fun e w' => e = .returned (.string (a ++ b)) ∧ Below w.heap.size w w' := by
  obtain ⟨N, hN⟩ : ∃ N, N = a.size + b.size := ⟨_, rfl⟩
  have hmk : ∀ W, (Instr.makeSlice 72 (.int .i64 ((a.size : Int) + (b.size : Int))) (.int .i64 ((a.size : Int) + (b.size : Int)))).run Tryd.prog W = .ok (.slice (some ⟨W.heap.size, 0, none⟩) N N) (W.alloc (.cells (madeCells #[.int .u8 0] N) 5)) := by
    intro W
    have := run_make_row' (P := Tryd.prog) 72 5 (.int .u8 0) 1 Tryd.underlying72 Tryd.infoU8 rfl .i64 .i64 N (by omega) (by omega) W
    rw [show ((N : Nat) : Int) = (a.size : Int) + (b.size : Int) from by omega] at this
    exact this
  have hsl0 : ∀ W, (Instr.slice 72 (.slice (some ⟨w.heap.size, 0, none⟩) N N) (some (.int .i64 0)) none none).run Tryd.prog W = .ok (Lib.tailV w.heap.size N 0) W := fun W => Lib.run_slice_tailV W 72 5 Tryd.underlying72 Tryd.sizeU8 w.heap.size N 0 (by omega)
  have hsl1 : ∀ W, (Instr.slice 72 (.slice (some ⟨w.heap.size, 0, none⟩) N N) (some (.int .i64 (a.size : Int))) none none).run Tryd.prog W = .ok (Lib.tailV w.heap.size N a.size) W := fun W => Lib.run_slice_tailV W 72 5 Tryd.underlying72 Tryd.sizeU8 w.heap.size N a.size (by omega)
  have hk : k < w.heap.size := World.block_lt_of_cell? w ⟨k, 0, none⟩ ha
  have hbuf0 : Lib.Buf w (w.alloc (.cells (madeCells #[.int .u8 0] N) 5)) w.heap.size N [] := Lib.Buf.start w _ 5 N 0 (by rw [size_madeCells]; omega)
  obtain ⟨w1, hr1, hbuf1⟩ := copy_text w _ w.heap.size N [] a 3 (Nat.le_refl _) hbuf0 (by simp; omega)
  obtain ⟨w2, hr2, hbuf2⟩ := copy_text w w1 w.heap.size N _ b 3 (Nat.le_refl _) hbuf1 (by simp; omega)
  have hlen : ([] ++ a.data.toList).length = a.size := by simp
  rw [hlen] at hr2
  have hb1 : w1.cell? ⟨k, 1, none⟩ = some (.string b) := (hbuf1.below.cell (p := ⟨k, 1, none⟩) hk).trans hb
  have hcv := conv_buf hbuf2 (by simp; omega)
  have hend : (⟨(([] ++ a.data.toList) ++ b.data.toList).toArray⟩ : ByteArray) = a ++ b := ByteArray.ext (by simp)
  rw [hend] at hcv
  have hbel : Below w.heap.size w w2 := hbuf2.below
  have HN : Hid (N = a.size + b.size) := hN
  clear hN hbuf0 hbuf1 hbuf2 hlen hend
  simp only [List.length_nil] at hr1
  go_enter Tryd.func73, Tryd.ntmps73
  go_wp2
  refine wp_loop_rounds 3 ?_
  rw [rounds_succ]
  go_wp2
  rw [rounds_succ]
  go_wp2
  rw [rounds_succ]
  go_wp2
  refine wp_loop_rounds 3 ?_
  rw [rounds_succ]
  go_wp2
  rw [rounds_succ]
  go_wp2
  rw [rounds_succ]
  go_wp2
  go_ret
  exact ⟨rfl, hbel⟩
end Go.Proofs.YthfhbmiddillbagDoor
end

section
namespace Go.Proofs.YthfhbmiddillbagDoor
open Go.ChangeShapes Go.WideShapes Go.ChangeAt Go.RowKit
open Go.ChangeMaps (open_string shut_string)
set_option linter.unusedVariables false

/-- several texts, one behind another -/
def catL (ts : List ByteArray) : List UInt8 := ts.flatMap fun t => t.data.toList
def catT (ts : List ByteArray) : ByteArray := ⟨(catL ts).toArray⟩
theorem catL_snoc (ts : List ByteArray) (t : ByteArray) : catL (ts ++ [t]) = catL ts ++ t.data.toList := by simp [catL]
theorem catL_take_succ (ts : List ByteArray) (k : Nat) (h : k < ts.length) : catL (ts.take (k + 1)) = catL (ts.take k) ++ ts[k].data.toList := by rw [List.take_succ_eq_append_getElem h, catL_snoc]
theorem catL_take_le (ts : List ByteArray) (k : Nat) : (catL (ts.take k)).length ≤ (catL ts).length := by
  have : catL ts = catL (ts.take k) ++ catL (ts.drop k) := by unfold catL; rw [← List.flatMap_append, List.take_append_drop]
  rw [this, List.length_append]; omega
theorem catL_len (n : Nat) (ts : List ByteArray) (h : ∀ t ∈ ts, t.size ≤ 100000) (hl : ts.length ≤ n) : (catL ts).length ≤ 100000 * n := by
  induction ts generalizing n with
  | nil => simp [catL]
  | cons t ts ih =>
    cases n with
    | zero => simp at hl
    | succ n =>
      have h1 := ih n (fun x hx => h x (List.mem_cons_of_mem _ hx)) (by simpa using hl)
      have h3 := h t List.mem_cons_self
      have h4 : t.data.toList.length = t.size := by simp
      have e : catL (t :: ts) = t.data.toList ++ catL ts := rfl
      rw [e, List.length_append]
      omega

set_option maxRecDepth 100000 in
set_option maxHeartbeats 1000000 in
theorem joinTexts_any (g : Nat) (ts : List ByteArray) (w : World) (hc : ∀ j, (h : j < ts.length) → w.cell? ⟨g, j, none⟩ = some (.string ts[j])) (hg : g < w.heap.size) (hl : ts.length ≤ 1000) (hs : ∀ t ∈ ts, t.size ≤ 100000) :
    Calls Tryd.prog 73 #[.slice (some ⟨g, 0, none⟩) ts.length ts.length] w fun e w' => e = .returned (.string (catT ts)) ∧ Below w.heap.size w w' := by
  have HC := hidS hc
  have HS := hidS hs
  clear hc hs
  obtain ⟨N, hN⟩ : ∃ N, N = (catL ts).length := ⟨_, rfl⟩
  have hNle : (N : Int) ≤ 100000000 := by have := catL_len 1000 ts HS.out hl; omega
  have hmk : ∀ W, (Instr.makeSlice 72 (.int .i64 (N : Int)) (.int .i64 (N : Int))).run Tryd.prog W = .ok (.slice (some ⟨W.heap.size, 0, none⟩) N N) (W.alloc (.cells (madeCells #[.int .u8 0] N) 5)) := fun W =>
    run_make_row' (P := Tryd.prog) 72 5 (.int .u8 0) 1 Tryd.underlying72 Tryd.infoU8 rfl .i64 .i64 N (by omega) (by omega) W
  have hsl := fun W (k : Nat) (hk : k ≤ N) => Lib.run_slice_tailV (P := Tryd.prog) W 72 5 Tryd.underlying72 Tryd.sizeU8 w.heap.size N k (by omega)
  have HN : Hid (N = (catL ts).length) := hN
  have HSL := hidS hsl
  clear hN hsl
  have hbuf0 : Lib.Buf w (w.alloc (.cells (madeCells #[.int .u8 0] N) 5)) w.heap.size N [] := Lib.Buf.start w _ 5 N 0 (by rw [size_madeCells]; omega)
  have HB0 := hidS hbuf0
  clear hbuf0
  go_enter Tryd.func73, Tryd.ntmps73
  go_wp2
  go_loop [3, 12] (fun v i => ∃ k x : Nat, k ≤ ts.length ∧ i = .int .i64 k ∧ v = .int .i64 x ∧ (x : Int) ≤ 100000000 ∧ Hid (x = (catL (ts.take k)).length)) (fun _ i => ts.length - (intOf i).toNat)
  case atStart => exact ⟨0, 0, by omega, rfl, rfl, by omega, rfl⟩
  case round =>
    obtain ⟨k, x, hk, rfl, rfl, hx, hX⟩ := hrel
    by_cases h : k < ts.length
    · have h' : (k : Int) < (ts.length : Int) := by omega
      have hck := HC.out k h
      have hE : Hid (x + ts[k].size = (catL (ts.take (k + 1))).length) := by show _ = _; rw [catL_take_succ ts k h, List.length_append, ← hX.out]; simp
      have hle : x + ts[k].size ≤ N := by rw [hE.out, HN.out]; exact catL_take_le ts (k + 1)
      generalize ts[k] = t at *
      clear hX
      go_wp2
      go_round
      case rel => exact ⟨k + 1, x + t.size, by omega, by go_num, by go_num, by omega, hE⟩
      case measure => simp [intOf]; omega
    · have h' : ¬ (k : Int) < (ts.length : Int) := by omega
      obtain rfl : x = N := by have := hX.out; rw [List.take_of_length_le (by omega)] at this; rw [HN.out]; exact this
      clear hX
      go_wp2
      have HCW : Hid (∀ j, (h : j < ts.length) → ∀ wr, Below w.heap.size w wr → wr.cell? ⟨g, j, none⟩ = some (.string ts[j])) := fun j h wr hb => (hb.cell (p := ⟨g, j, none⟩) hg).trans (HC.out j h)
      clear HC hmk
      go_loopw [7, 25] (fun v i wr => ∃ k : Nat, k ≤ ts.length ∧ i = .int .i64 k ∧ v = .int .i64 ((catL (ts.take k)).length : Nat) ∧ Hid (Lib.Buf w wr w.heap.size x (catL (ts.take k)))) (fun _ i _ => ts.length - (intOf i).toNat)
      case atStart => exact ⟨0, by omega, rfl, rfl, HB0⟩
      case round =>
        obtain ⟨k, hk, rfl, rfl, hBuf⟩ := hrel
        by_cases h : k < ts.length
        · have h' : (k : Int) < (ts.length : Int) := by omega
          have hck := HCW.out k h wr hBuf.out.below
          have hle : (catL (ts.take k)).length + ts[k].size ≤ x := by
            have := catL_take_le ts (k + 1)
            rw [catL_take_succ ts k h, List.length_append, ← HN.out] at this
            simpa using this
          have hsl := HSL.out wr (catL (ts.take k)).length (by omega)
          obtain ⟨w1, hr1, hbuf1⟩ := copy_text w wr w.heap.size x (catL (ts.take k)) ts[k] 3 (Nat.le_refl _) hBuf.out hle
          have HB1 : Hid (Lib.Buf w w1 w.heap.size x (catL (ts.take (k + 1)))) := by rw [catL_take_succ ts k h]; exact hbuf1
          have hE : Hid ((catL (ts.take (k + 1))).length = (catL (ts.take k)).length + ts[k].size) := by show _ = _; rw [catL_take_succ ts k h, List.length_append]; simp
          clear hbuf1 hBuf
          generalize ts[k] = t at *
          generalize (catL (ts.take k)).length = m at *
          go_wp2
          go_roundw
          case rel => exact ⟨k + 1, by omega, by go_num, by rw [hE.out]; go_num, HB1⟩
          case measure => simp [intOf]; omega
        · have h' : ¬ (k : Int) < (ts.length : Int) := by omega
          have hB2 : Lib.Buf w wr w.heap.size x (catL ts) := by have := hBuf.out; rw [List.take_of_length_le (by omega)] at this; exact this
          have hcv := conv_buf hB2 HN.out.symm
          have hbel := hidS hB2.below
          clear hB2 hBuf
          go_wp2
          go_ret
          exact ⟨rfl, hbel.out⟩
end Go.Proofs.YthfhbmiddillbagDoor
end

section
namespace Go.Proofs.YthfhbmiddillbagDoor
open Go.ChangeShapes Go.WideShapes Go.ChangeAt Go.RowKit
open Go.ChangeMaps (open_string shut_string)
set_option linter.unusedVariables false

theorem implWordText_any (n : Int) (w : World) :
    Calls Tryd.prog 77 #[.int .i64 n] w fun e w' => e = .returned (.string (wordT n)) ∧ Below w.heap.size w w' := by
  have hB := fun o => (Below.refl w.heap.size w).alloc (Nat.le_refl _) o
  have HB := hidS hB
  clear hB
  by_cases h : allW [n] = true
  · have h1 : wordB n = true := by simpa [allW] using h
    have e : Hid (wordT n = ⟨#[UInt8.ofNat (n.toNat / 256), UInt8.ofNat (n.toNat % 256)]⟩) := if_pos h1
    obtain ⟨m, rfl⟩ : ∃ m : Nat, n = m := ⟨n.toNat, by have := wordB_iff.1 h1; omega⟩
    have hm := (wordB_iff.1 h1).2
    clear h1
    go_enter Tryd.func77, Tryd.ntmps77
    go_wp2_with fail
    refine (areWords_any w.heap.size [(m : Int)] _ (one_cell _ _ _) (by simp)).mono ?_
    rintro e w1 ⟨rfl, rfl⟩
    rw [h]
    have hcv := conv_two ((w.alloc (.cells #[.int .i64 (m : Int)] 2)).alloc (.cells #[.int .u8 ((m : Int) / 256), .int .u8 ((m : Int) % 256)] 5)) (w.heap.size + 1) m (by omega) (cell_at1 _ _ _ _) (cell_at1 _ _ _ _)
    have hbb := hidS ((HB.out (.cells #[.int .i64 (m : Int)] 2)).alloc (by simp) (.cells #[.int .u8 ((m : Int) / 256), .int .u8 ((m : Int) % 256)] 5))
    go_wp2
    go_ret
    exact ⟨by rw [e.out]; rfl, hbb.out⟩
  · have e : Hid (wordT n = ⟨#[]⟩) := if_neg (fun g => h (by simpa [allW] using g))
    have h' : allW [n] = false := by simpa using h
    clear h
    go_enter Tryd.func77, Tryd.ntmps77
    go_wp2_with fail
    refine (areWords_any w.heap.size [n] _ (one_cell _ _ _) (by simp)).mono ?_
    rintro e w1 ⟨rfl, rfl⟩
    rw [h']
    go_wp2
    go_ret
    exact ⟨by rw [e.out]; rfl, HB.out _⟩
end Go.Proofs.YthfhbmiddillbagDoor
end

section
namespace Go.Proofs.YthfhbmiddillbagDoor
open Go.ChangeShapes Go.WideShapes Go.ChangeAt Go.RowKit
open Go.ChangeMaps (open_string shut_string)
set_option linter.unusedVariables false
set_option maxRecDepth 100000

theorem wordT_two {x : Int} (h : wordB x = true) : wordT x = twoT x.toNat := if_pos h
theorem implWord_x (x : Int) (w : World) (h : wordB x = true) :
    Calls Tryd.prog 77 #[.int .i64 x] w fun e w' => e = .returned (.string (twoT x.toNat)) ∧ Below w.heap.size w w' := by
  rw [← wordT_two h]; exact implWordText_any x w
theorem implWord_of {x : Int} (n : Nat) (w : World) (hx : x = (n : Int)) (hn : n ≤ 65535) :
    Calls Tryd.prog 77 #[.int .i64 x] w fun e w' => e = .returned (.string (twoT n)) ∧ Below w.heap.size w w' := by
  subst hx; exact implWord_x (n : Int) w (wordB_iff.2 ⟨by omega, by omega⟩)
theorem cat2 (a b : ByteArray) : catT [a, b] = a ++ b := ByteArray.ext (by simp [catT, catL])

set_option maxHeartbeats 1000000 in
theorem longText_x (x : Int) (w : World) (h : addrB x = true) :
    Calls Tryd.prog 93 #[.int .i64 x] w fun e w' => e = .returned (.string (fourT x.toNat)) ∧ Below w.heap.size w w' := by
  obtain ⟨n, rfl⟩ : ∃ n : Nat, x = n := ⟨x.toNat, by have := addrB_iff.1 h; omega⟩
  have hn : n ≤ 4294967295 := by have := (addrB_iff.1 h).2; omega
  have hlow := i64_low16 n (by omega)
  clear h
  go_enter Tryd.func93, Tryd.ntmps93
  go_wp2_with fail
  refine (implWord_of (n / 65536) _ (by omega) (by omega)).mono ?_
  rintro _ w1 ⟨rfl, hb1⟩
  go_wp2_with fail
  refine (implWord_of (n % 65536) _ (by omega) (by omega)).mono ?_
  rintro _ w2 ⟨rfl, hb2⟩
  have hL := hidS (hb1.trans (hb2.mono hb1.size))
  clear hb1 hb2
  have hv := vals_at (W := w2) [.string (twoT (n / 65536)), .string (twoT (n % 65536))] 9
  have hA := hidS (hL.out.alloc hL.out.size (.cells #[.string (twoT (n / 65536)), .string (twoT (n % 65536))] 9))
  have hj := joinTexts_any w2.heap.size [twoT (n / 65536), twoT (n % 65536)] _ (ValsAt.strs (ts := [twoT (n / 65536), twoT (n % 65536)]) hv) hv.1 (by simp) (by simp [twoT_size])
  have HJ := hidS hj
  clear hv hj hL
  go_wp2_with fail
  refine HJ.out.mono ?_
  rintro _ w3 ⟨rfl, hb3⟩
  have hE := hidS (hA.out.trans (hb3.mono hA.out.size))
  rw [cat2]
  clear hb3 hA HJ
  go_wp2_with fail
  go_ret
  exact ⟨rfl, hE.out⟩
end Go.Proofs.YthfhbmiddillbagDoor
end

section
namespace Go.Proofs.YthfhbmiddillbagDoor
open Go.ChangeShapes Go.WideShapes Go.ChangeAt Go.RowKit
set_option linter.unusedVariables false

/-- a row of bytes that may be written -/
def Row8 (g : Nat) (l : List UInt8) (W : World) : Prop := g < W.heap.size ∧ ∀ j, (h : j < l.length) → W.cell? ⟨g, j, none⟩ = some (.int .u8 (l[j].toNat : Int)) ∧ W.frozen? ⟨g, j, none⟩ = false
theorem Row8.later {g : Nat} {l : List UInt8} {W W' : World} (h : Row8 g l W) (hb : Below W.heap.size W W') : Row8 g l W' := ⟨Nat.lt_of_lt_of_le h.1 hb.size, fun j hj => ⟨(hb.cell (p := ⟨g, j, none⟩) h.1).trans (h.2 j hj).1, (hb.frozen (p := ⟨g, j, none⟩) h.1).trans (h.2 j hj).2⟩⟩
theorem Row8.bytes {g : Nat} {l : List UInt8} {W : World} (h : Row8 g l W) : BytesAt g l W := ⟨h.1, fun j hj => (h.2 j hj).1⟩
/-- some bytes over others -/
def over (l : List UInt8) (o : Nat) (m : List UInt8) : List UInt8 := l.take o ++ m ++ l.drop (o + m.length)
theorem over_length {l : List UInt8} {o : Nat} {m : List UInt8} (h : o + m.length ≤ l.length) : (over l o m).length = l.length := by simp [over]; omega
theorem over_in {l : List UInt8} {o : Nat} {m : List UInt8} (h : o + m.length ≤ l.length) (j : Nat) (hj : j < m.length) : (over l o m)[o + j]'(by rw [over_length h]; omega) = m[j] := by
  simp only [over]
  rw [List.getElem_append_left (by simp; omega), List.getElem_append_right (by simp; omega)]
  have e : o + j - (l.take o).length = j := by simp; omega
  simp only [e]
theorem over_out {l : List UInt8} {o : Nat} {m : List UInt8} (h : o + m.length ≤ l.length) (j : Nat) (hj : j < l.length) (hd : j < o ∨ o + m.length ≤ j) : (over l o m)[j]'(by rw [over_length h]; exact hj) = l[j] := by
  simp only [over]
  rcases hd with hd | hd
  · rw [List.getElem_append_left (by simp; omega), List.getElem_append_left (by simp; omega)]
    simp
  · rw [List.getElem_append_right (by simp; omega)]
    simp only [List.getElem_drop]
    congr 1
    simp; omega
theorem getv_cast {l : List UInt8} {i j : Nat} (hi : i < l.length) (e : i = j) : l[i] = l[j]'(e ▸ hi) := by subst e; rfl

/-- 'copy(row[o:], s)' -/
theorem Row8.copy {g : Nat} {l : List UInt8} {W : World} (h : Row8 g l W) (ty : TypeId) (o dLen dCap : Nat) (s : ByteArray) (hle : s.size ≤ dLen) (hfit : o + s.size ≤ l.length) :
    ∃ W', (Builtin.copy_ #[72, 9] ty #[.slice (some ⟨g, o, none⟩) dLen dCap, .string s]).run Tryd.prog W = .ok (.int .i64 (s.size : Int)) W' ∧ Row8 g (over l o s.data.toList) W' ∧
      (∀ B a, B ≤ g → Below B a W → Below B a W') ∧ (∀ b, b < W.heap.size → b ≠ g → W'.heap[b]? = W.heap[b]?) := by
  have hsl : s.data.toList.length = s.size := by simp
  have hml : (s.data.toList.map fun x => Value.int .u8 (x.toNat : Int)).length = s.size := by rw [List.length_map, hsl]
  have hcell : ∀ j, j < s.size → W.cell? ⟨g, o + j, none⟩ = some (.int .u8 (l[o + j]!.toNat : Int)) := fun j hj => by
    rw [(h.2 (o + j) (by omega)).1, getElem!_pos l (o + j) (by omega)]
  have hr := run_copy_string (P := Tryd.prog) W 72 9 ty 5 g o dLen dCap s Tryd.underlying72 Tryd.sizeU8 hle
    (fun j hj => by rw [hcell j hj]; rfl) (fun j hj => (h.2 (o + j) (by omega)).2)
  refine ⟨_, hr, ⟨?_, fun j hj => ?_⟩, fun B a hB hb => below_setCells hB _ _ _ hb, fun b hb hne => World.heap_setCells_other W g o _ hb hne⟩
  · exact Nat.lt_of_lt_of_le h.1 (below_setCells (B := g) (Nat.le_refl g) _ _ _ (Below.refl g W)).size
  · rw [over_length (by rw [hsl]; exact hfit)] at hj
    refine ⟨?_, (World.frozen?_setCells g _ o W _).trans (h.2 j hj).2⟩
    by_cases hd : o ≤ j ∧ j < o + s.size
    · obtain ⟨k, rfl⟩ : ∃ k, j = o + k := ⟨j - o, by omega⟩
      have hk : k < s.size := by omega
      rw [World.cell?_setCells_in g _ o W (fun i hi => by rw [hcell i (by rw [← hml]; exact hi)]; rfl) k (by rw [hml]; exact hk)]
      rw [over_in (by rw [hsl]; exact hfit) k (by rw [hsl]; exact hk)]
      simp
    · rw [World.cell?_setCells_out g _ o W ⟨g, j, none⟩ (fun _ _ => by rw [hml]; show j < o ∨ o + s.size ≤ j; omega), (h.2 j hj).1]
      rw [over_out (by rw [hsl]; exact hfit) j hj (by rw [hsl]; omega)]
end Go.Proofs.YthfhbmiddillbagDoor
end

section
namespace Go.Proofs.YthfhbmiddillbagDoor
open Go.ChangeShapes Go.WideShapes Go.ChangeAt Go.RowKit
set_option linter.unusedVariables false


/-- 'copy(row[o:], s)', as much of s as the row has room for -/
theorem Row8.copyc {g : Nat} {l : List UInt8} {W : World} (h : Row8 g l W) (ty : TypeId) (o dLen dCap : Nat) (s : ByteArray) (hfit : o + dLen = l.length) :
    ∃ W', (Builtin.copy_ #[72, 9] ty #[.slice (some ⟨g, o, none⟩) dLen dCap, .string s]).run Tryd.prog W = .ok (.int .i64 (Nat.min s.size dLen : Int)) W' ∧ Row8 g (over l o (s.data.toList.take dLen)) W' ∧
      (∀ B a, B ≤ g → Below B a W → Below B a W') ∧ (∀ b, b < W.heap.size → b ≠ g → W'.heap[b]? = W.heap[b]?) := by
  have hsl : s.data.toList.length = s.size := by simp
  by_cases hle : s.size ≤ dLen
  · have := h.copy ty o dLen dCap s hle (by omega)
    rw [List.take_of_length_le (by rw [hsl]; exact hle), show Nat.min s.size dLen = s.size from Nat.min_eq_left hle]
    exact this
  · have hmin : Nat.min s.size dLen = dLen := Nat.min_eq_right (by omega)
    have hel : (s.data.toList.take dLen).length = dLen := by rw [List.length_take, hsl]; omega
    obtain ⟨W', h1, h2, h3, h4⟩ := h.copy ty o dLen dCap ⟨(s.data.toList.take dLen).toArray⟩ (by show (s.data.toList.take dLen).toArray.size ≤ dLen; simp; omega) (by show o + (s.data.toList.take dLen).toArray.size ≤ l.length; simp; omega)
    have hsz : (⟨(s.data.toList.take dLen).toArray⟩ : ByteArray).size = dLen := by show (s.data.toList.take dLen).toArray.size = dLen; simpa using hel
    refine ⟨W', ?_, by simpa using h2, h3, h4⟩
    rw [hmin]
    rw [hsz] at h1
    rw [← h1]
    simp [Builtin.copy_, run_underlying Tryd.underlying72, Builtin.lenOf, Builtin.firstCells, hmin, hsz, List.map_take, List.take_take]

section
variable {ops : Array Oper} {a0 : Act} {Q : Exit → Act → World → Prop}
theorem grow_copy {id : Nat} {w0 : World} (m : Nat) (last : Oper) (ks : List Kd) (jx jy : Nat) (dx dy : Tmp) (g off dLen dCap : Nat) (s : ByteArray) (l : List UInt8)
    (hsz : ops.size = m + 1) (hl : ops[m]? = some last) (hlg : last.guard = none) (hlB : lastB ops m = true) (hm : (Tryd.prog).follows .mixedOrders = true) (hT : tidyB ops a0.tmps.size = true)
    (ho : last.op = Op.call { callee := Callee.builtin Builtin.copy, args := #[.tmp dx, .tmp dy], argTypes := #[72, 9] }) (hx : (ops[jx]?).bind (·.dst) = some dx) (hy : (ops[jy]?).bind (·.dst) = some dy) (hjx : jx < m) (hjy : jy < m)
    (hkx : ks.getD jx .any = .is (.slice (some ⟨g, off, none⟩) dLen dCap)) (hky : ks.getD jy .any = .is (.string s)) (hrow : Row8 g l w0) (hle : s.size ≤ dLen) (hfit : off + s.size ≤ l.length)
    (hstep : StepsFrom (StepU Tryd.prog ops (fun W => Below w0.heap.size w0 W) (fun w w' => Below w.heap.size w w') (kdOf ks) a0) 0 (ops.toList.take m))
    (hend : ∀ (v : Nat → Value) (W : World), (∀ B, B ≤ g → Below B w0 W) → (∀ b, b < w0.heap.size → b ≠ g → W.heap[b]? = w0.heap[b]?) → Row8 g (over l off s.data.toList) W → (∀ i x, i < m → ks.getD i .any = .is x → v i = x) → Q .normal ((upto ops v a0 m).put last.dst (.int .i64 (s.size : Int))) W) :
    (Code.region id ops true).wp Tryd.prog Q a0 w0 := by
  refine grow_store m last ks hsz hl hlg hlB hm hT hstep (fun v w hC hall => ?_)
  have T := tidy_of hT
  have hU := InF.upto (v := v) T m (by omega)
  have hxk := hall jx hjx
  have hyk := hall jy hjy
  unfold kdOf at hxk hyk
  rw [hkx] at hxk
  rw [hky] at hyk
  have e1 : v jx = .slice (some ⟨g, off, none⟩) dLen dCap := hxk
  have e2 : v jy = .string s := hyk
  have ev : ∀ j d, j < m → (ops[j]?).bind (·.dst) = some d → (upto ops v a0 m).eval (.tmp d) = v j := fun j d hj hjd => by
    obtain ⟨oj, hoj, hdj⟩ := Option.bind_eq_some_iff.1 hjd
    simp only [Act.eval, Array.getD_eq_getD_getElem?, hU.done j oj d hoj hdj hj, Option.getD_some]
  obtain ⟨W', hrun, hrow', hbel, hoth⟩ := (hrow.later hC).copy last.type off dLen dCap s hle hfit
  have ex := (ev jx dx hjx hx).trans e1
  have ey := (ev jy dy hjy hy).trans e2
  unfold Oper.wp
  simp [execOp, ho, resolve, invoke, builtin, ex, ey, hrun, Result.andThen]
  refine hend v W' (fun B hB => hbel B w0 hB (hC.mono (by have := hrow.1; omega))) (fun b hb hne => (hoth b (Nat.lt_of_lt_of_le hb hC.size) hne).trans (hC.block b hb)) hrow' (fun i x hi hk => ?_)
  have := hall i hi
  unfold kdOf at this
  rw [hk] at this
  exact this
theorem grow_copyc {id : Nat} {w0 : World} (m : Nat) (last : Oper) (ks : List Kd) (jx jy : Nat) (dx dy : Tmp) (g off dLen dCap : Nat) (s : ByteArray) (l : List UInt8)
    (hsz : ops.size = m + 1) (hl : ops[m]? = some last) (hlg : last.guard = none) (hlB : lastB ops m = true) (hm : (Tryd.prog).follows .mixedOrders = true) (hT : tidyB ops a0.tmps.size = true)
    (ho : last.op = Op.call { callee := Callee.builtin Builtin.copy, args := #[.tmp dx, .tmp dy], argTypes := #[72, 9] }) (hx : (ops[jx]?).bind (·.dst) = some dx) (hy : (ops[jy]?).bind (·.dst) = some dy) (hjx : jx < m) (hjy : jy < m)
    (hkx : ks.getD jx .any = .is (.slice (some ⟨g, off, none⟩) dLen dCap)) (hky : ks.getD jy .any = .is (.string s)) (hrow : Row8 g l w0) (hfit : off + dLen = l.length)
    (hstep : StepsFrom (StepU Tryd.prog ops (fun W => Below w0.heap.size w0 W) (fun w w' => Below w.heap.size w w') (kdOf ks) a0) 0 (ops.toList.take m))
    (hend : ∀ (v : Nat → Value) (W : World), (∀ B, B ≤ g → Below B w0 W) → (∀ b, b < w0.heap.size → b ≠ g → W.heap[b]? = w0.heap[b]?) → Row8 g (over l off (s.data.toList.take dLen)) W → (∀ i x, i < m → ks.getD i .any = .is x → v i = x) → Q .normal ((upto ops v a0 m).put last.dst (.int .i64 (Nat.min s.size dLen : Int))) W) :
    (Code.region id ops true).wp Tryd.prog Q a0 w0 := by
  refine grow_store m last ks hsz hl hlg hlB hm hT hstep (fun v w hC hall => ?_)
  have T := tidy_of hT
  have hU := InF.upto (v := v) T m (by omega)
  have hxk := hall jx hjx
  have hyk := hall jy hjy
  unfold kdOf at hxk hyk
  rw [hkx] at hxk
  rw [hky] at hyk
  have e1 : v jx = .slice (some ⟨g, off, none⟩) dLen dCap := hxk
  have e2 : v jy = .string s := hyk
  have ev : ∀ j d, j < m → (ops[j]?).bind (·.dst) = some d → (upto ops v a0 m).eval (.tmp d) = v j := fun j d hj hjd => by
    obtain ⟨oj, hoj, hdj⟩ := Option.bind_eq_some_iff.1 hjd
    simp only [Act.eval, Array.getD_eq_getD_getElem?, hU.done j oj d hoj hdj hj, Option.getD_some]
  obtain ⟨W', hrun, hrow', hbel, hoth⟩ := (hrow.later hC).copyc last.type off dLen dCap s hfit
  have ex := (ev jx dx hjx hx).trans e1
  have ey := (ev jy dy hjy hy).trans e2
  unfold Oper.wp
  simp [execOp, ho, resolve, invoke, builtin, ex, ey, hrun, Result.andThen]
  refine hend v W' (fun B hB => hbel B w0 hB (hC.mono (by have := hrow.1; omega))) (fun b hb hne => (hoth b (Nat.lt_of_lt_of_le hb hC.size) hne).trans (hC.block b hb)) hrow' (fun i x hi hk => ?_)
  have := hall i hi
  unfold kdOf at this
  rw [hk] at this
  exact this
end
end Go.Proofs.YthfhbmiddillbagDoor
end
