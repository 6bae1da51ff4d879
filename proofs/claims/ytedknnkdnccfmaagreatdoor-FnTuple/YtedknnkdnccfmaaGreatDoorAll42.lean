/- Proved here: spec.TupleText answers a tuple's text (else the empty text); all old memory stays (no conditions). · Proved here: impl.partOf answers what stands behind a packet's head, by its Proto; all old memory stays (no conditions). · Proved here: what the parts' methods right and fields answer; all old memory stays (condition: a body is a string). · Proved here: which method of a part is called by its name (closed facts on the program's own table). -/
import Derived.Test.YtedknnkdnccfmaaGreatDoorTextSpec
import Derived.Test.YtedknnkdnccfmaaGreatDoorAll1
import Derived.Test.YtedknnkdnccfmaaGreatDoorAll25
import Derived.Test.YtedknnkdnccfmaaGreatDoorAll30
section
namespace Go.Proofs.YtedknnkdnccfmaaGreatDoor
open Go.ChangeShapes Go.WideShapes Go.ChangeAt Go.RowKit
set_option linter.unusedVariables false
set_option maxRecDepth 100000
set_option linter.unusedSimpArgs false

theorem specText_any (t : Tp) (w : World) :
    Calls Tryz.prog 38 #[.agg #[.int .i64 t.proto, .int .i64 t.src, .int .i64 t.sport, .int .i64 t.dst, .int .i64 t.dport, .int .i64 t.kind]] w fun e w' => e = .returned (.string (textAns t)) ∧ Below w.heap.size w w' := by
  have HR := hidS (fun W => specTRight_any t W)
  cases hr : rightT t
  · have e : textAns t = ⟨#[]⟩ := if_neg (by rw [hr]; simp)
    rw [e]
    clear e
    have hGP0 : Hid ((w.alloc (.cells #[.int .i64 t.proto, .int .i64 t.src, .int .i64 t.sport, .int .i64 t.dst, .int .i64 t.dport, .int .i64 t.kind] 40)).heap[w.heap.size]? = some (.cells #[.int .i64 t.proto, .int .i64 t.src, .int .i64 t.sport, .int .i64 t.dst, .int .i64 t.dport, .int .i64 t.kind] 40)) := by
      show _ = _
      have := heap_newG w (.cells #[.int .i64 t.proto, .int .i64 t.src, .int .i64 t.sport, .int .i64 t.dst, .int .i64 t.dport, .int .i64 t.kind] 40)
      simpa using this
    have hL0 := hidS ((Below.refl w.heap.size w).alloc (Nat.le_refl _) (.cells #[.int .i64 t.proto, .int .i64 t.src, .int .i64 t.sport, .int .i64 t.dst, .int .i64 t.dport, .int .i64 t.kind] 40))
    go_enter Tryz.func38, Tryz.ntmps38
    go_wp2_with fail
    refine (HR.out _).mono ?_
    rintro _ w1 ⟨rfl, hb1⟩
    have hGP1 := hidS (blk_later hGP0.out hb1)
    have hL1 := hidS (hL0.out.trans (hb1.mono hL0.out.size))
    clear hb1 hL0 hGP0
    rw [hr]
    go_wp2_with fail
    go_ret
    exact ⟨rfl, hL1.out⟩
  · have e : textAns t = tupT t := if_pos hr
    rw [e]
    clear e
    have HX := hidS (fun W => l04Text_any t W hr)
    generalize tupT t = q at *
    have hGP0 : Hid ((w.alloc (.cells #[.int .i64 t.proto, .int .i64 t.src, .int .i64 t.sport, .int .i64 t.dst, .int .i64 t.dport, .int .i64 t.kind] 40)).heap[w.heap.size]? = some (.cells #[.int .i64 t.proto, .int .i64 t.src, .int .i64 t.sport, .int .i64 t.dst, .int .i64 t.dport, .int .i64 t.kind] 40)) := by
      show _ = _
      have := heap_newG w (.cells #[.int .i64 t.proto, .int .i64 t.src, .int .i64 t.sport, .int .i64 t.dst, .int .i64 t.dport, .int .i64 t.kind] 40)
      simpa using this
    have hL0 := hidS ((Below.refl w.heap.size w).alloc (Nat.le_refl _) (.cells #[.int .i64 t.proto, .int .i64 t.src, .int .i64 t.sport, .int .i64 t.dst, .int .i64 t.dport, .int .i64 t.kind] 40))
    go_enter Tryz.func38, Tryz.ntmps38
    go_wp2_with fail
    refine (HR.out _).mono ?_
    rintro _ w1 ⟨rfl, hb1⟩
    have hGP1 := hidS (blk_later hGP0.out hb1)
    have hL1 := hidS (hL0.out.trans (hb1.mono hL0.out.size))
    clear hb1 hL0 hGP0
    rw [hr]
    have cP0 := blk_cell hGP1.out 0
    have cP1 := blk_cell hGP1.out 1
    have cP2 := blk_cell hGP1.out 2
    have cP3 := blk_cell hGP1.out 3
    have cP4 := blk_cell hGP1.out 4
    have cP5 := blk_cell hGP1.out 5
    simp at cP0 cP1 cP2 cP3 cP4 cP5
    go_wp2_with fail
    refine (HX.out _).mono ?_
    rintro _ w2 ⟨rfl, hb2⟩
    clear cP0 cP1 cP2 cP3 cP4 cP5
    have hGP2 := hidS (blk_later hGP1.out hb2)
    have hL2 := hidS (hL1.out.trans (hb2.mono hL1.out.size))
    clear hb2 hL1 hGP1
    go_wp2_with fail
    go_ret
    exact ⟨rfl, hL2.out⟩
end Go.Proofs.YtedknnkdnccfmaaGreatDoor
end

section
namespace Go.Proofs.YtedknnkdnccfmaaGreatDoor
open Go.ChangeShapes Go.WideShapes Go.ChangeAt Go.RowKit
open Go.ChangeMaps (open_string shut_string)
set_option linter.unusedVariables false

/-- what partOf answers -/
def tcpV (p : Pk) : Value := .iface 109 (.agg #[.int .i64 p.a, .int .i64 p.b, .int .i64 p.seq, .int .i64 p.ack, .int .i64 p.flags, .string p.body])
def udpV (p : Pk) : Value := .iface 111 (.agg #[.int .i64 p.a, .int .i64 p.b, .string p.body])
def errV (p : Pk) : Value := .iface 113 (.agg #[.string p.body])
def echoV (p : Pk) : Value := .iface 115 (.agg #[.int .i64 p.kind, .int .i64 p.a, .int .i64 p.seq, .string p.body])

theorem partOf_tcp (p : Pk) (w : World) (h6 : p.proto = 6) :
    Calls Tryz.prog 41 #[.agg #[.int .i64 p.src, .int .i64 p.dst, .int .i64 p.proto, .int .i64 p.a, .int .i64 p.b, .int .i64 p.kind, .int .i64 p.flags, .int .i64 p.seq, .int .i64 p.ack, .string p.body]] w fun e w' => e = .returned (tcpV p) ∧ Below w.heap.size w w' := by
  have HB := fun o => hidS ((Below.refl w.heap.size w).alloc (Nat.le_refl _) o)
  go_enter Tryz.func41, Tryz.ntmps41
  go_wp2
  go_ret
  exact ⟨rfl, (HB _).out⟩
theorem partOf_udp (p : Pk) (w : World) (h17 : p.proto = 17) :
    Calls Tryz.prog 41 #[.agg #[.int .i64 p.src, .int .i64 p.dst, .int .i64 p.proto, .int .i64 p.a, .int .i64 p.b, .int .i64 p.kind, .int .i64 p.flags, .int .i64 p.seq, .int .i64 p.ack, .string p.body]] w fun e w' => e = .returned (udpV p) ∧ Below w.heap.size w w' := by
  have HB := fun o => hidS ((Below.refl w.heap.size w).alloc (Nat.le_refl _) o)
  go_enter Tryz.func41, Tryz.ntmps41
  go_wp2
  go_ret
  exact ⟨rfl, (HB _).out⟩
theorem partOf_err (p : Pk) (w : World) (h1 : p.proto = 1) (h3 : p.kind = 3) :
    Calls Tryz.prog 41 #[.agg #[.int .i64 p.src, .int .i64 p.dst, .int .i64 p.proto, .int .i64 p.a, .int .i64 p.b, .int .i64 p.kind, .int .i64 p.flags, .int .i64 p.seq, .int .i64 p.ack, .string p.body]] w fun e w' => e = .returned (errV p) ∧ Below w.heap.size w w' := by
  have HB := fun o => hidS ((Below.refl w.heap.size w).alloc (Nat.le_refl _) o)
  go_enter Tryz.func41, Tryz.ntmps41
  go_wp2
  go_ret
  exact ⟨rfl, (HB _).out⟩
theorem partOf_echo (p : Pk) (w : World) (h1 : p.proto = 1) (h3 : p.kind ≠ 3) :
    Calls Tryz.prog 41 #[.agg #[.int .i64 p.src, .int .i64 p.dst, .int .i64 p.proto, .int .i64 p.a, .int .i64 p.b, .int .i64 p.kind, .int .i64 p.flags, .int .i64 p.seq, .int .i64 p.ack, .string p.body]] w fun e w' => e = .returned (echoV p) ∧ Below w.heap.size w w' := by
  have HB := fun o => hidS ((Below.refl w.heap.size w).alloc (Nat.le_refl _) o)
  go_enter Tryz.func41, Tryz.ntmps41
  go_wp2
  go_ret
  exact ⟨rfl, (HB _).out⟩
theorem partOf_none (p : Pk) (w : World) (h6 : p.proto ≠ 6) (h17 : p.proto ≠ 17) (h1 : p.proto ≠ 1) :
    Calls Tryz.prog 41 #[.agg #[.int .i64 p.src, .int .i64 p.dst, .int .i64 p.proto, .int .i64 p.a, .int .i64 p.b, .int .i64 p.kind, .int .i64 p.flags, .int .i64 p.seq, .int .i64 p.ack, .string p.body]] w fun e w' => e = .returned (.nilIface) ∧ Below w.heap.size w w' := by
  have HB := fun o => hidS ((Below.refl w.heap.size w).alloc (Nat.le_refl _) o)
  go_enter Tryz.func41, Tryz.ntmps41
  go_wp2
  go_ret
  exact ⟨rfl, (HB _).out⟩
end Go.Proofs.YtedknnkdnccfmaaGreatDoor
end

section
namespace Go.Proofs.YtedknnkdnccfmaaGreatDoor
open Go.ChangeShapes Go.WideShapes Go.ChangeAt Go.RowKit
open Go.ChangeMaps (open_string shut_string)
set_option linter.unusedVariables false

set_option maxHeartbeats 1000000 in
theorem tcpRight_any (a b q k f : Int) (s : ByteArray) (w : World) :
    Calls Tryz.prog 184 #[.agg #[.int .i64 a, .int .i64 b, .int .i64 q, .int .i64 k, .int .i64 f, .string s]] w fun e w' => e = .returned (.bool (allW [a, b] && allA [q, k] && flagB f)) ∧ Below w.heap.size w w' := by
  have HB := fun o => hidS ((Below.refl w.heap.size w).alloc (Nat.le_refl _) o)
  have HB2 := fun o o2 => hidS (((Below.refl w.heap.size w).alloc (Nat.le_refl _) o).alloc (by simp) o2)
  have HB3 := fun o o2 o3 => hidS ((((Below.refl w.heap.size w).alloc (Nat.le_refl _) o).alloc (by simp) o2).alloc (by simp; omega) o3)
  cases h1 : allW [a, b]
  · go_enter Tryz.func184, Tryz.ntmps184
    go_wp2_with fail
    refine (areWords_any (w.heap.size + 1) [a, b] _ (two_cells1 _ _ _ _ _) (by simp)).mono ?_
    rintro e w1 ⟨rfl, rfl⟩
    rw [h1]
    go_wp2
    go_ret
    exact ⟨rfl, (HB2 _ _).out⟩
  cases h2 : allA [q, k]
  · go_enter Tryz.func184, Tryz.ntmps184
    go_wp2_with fail
    refine (areWords_any (w.heap.size + 1) [a, b] _ (two_cells1 _ _ _ _ _) (by simp)).mono ?_
    rintro e w1 ⟨rfl, rfl⟩
    rw [h1]
    go_wp2_with fail
    refine (areAddrs_any (w.heap.size + 2) [q, k] _ (two_cells2 _ _ _ _ _ _) (by simp)).mono ?_
    rintro e w1 ⟨rfl, rfl⟩
    rw [h2]
    go_wp2
    go_ret
    exact ⟨rfl, (HB3 _ _ _).out⟩
  by_cases h3 : 0 ≤ f
  · by_cases h4 : f ≤ 63
    · have e : Hid (flagB f = true) := flagB_iff.2 ⟨h3, h4⟩
      go_enter Tryz.func184, Tryz.ntmps184
      go_wp2_with fail
      refine (areWords_any (w.heap.size + 1) [a, b] _ (two_cells1 _ _ _ _ _) (by simp)).mono ?_
      rintro e w1 ⟨rfl, rfl⟩
      rw [h1]
      go_wp2_with fail
      refine (areAddrs_any (w.heap.size + 2) [q, k] _ (two_cells2 _ _ _ _ _ _) (by simp)).mono ?_
      rintro e w1 ⟨rfl, rfl⟩
      rw [h2]
      go_wp2
      go_ret
      exact ⟨by rw [e.out]; rfl, (HB3 _ _ _).out⟩
    · have e : Hid (flagB f = false) := by show _ = _; simp [flagB]; omega
      have h4' : decide (f ≤ 63) = false := by simpa using h4
      go_enter Tryz.func184, Tryz.ntmps184
      go_wp2_with fail
      refine (areWords_any (w.heap.size + 1) [a, b] _ (two_cells1 _ _ _ _ _) (by simp)).mono ?_
      rintro e w1 ⟨rfl, rfl⟩
      rw [h1]
      go_wp2_with fail
      refine (areAddrs_any (w.heap.size + 2) [q, k] _ (two_cells2 _ _ _ _ _ _) (by simp)).mono ?_
      rintro e w1 ⟨rfl, rfl⟩
      rw [h2]
      go_wp2
      go_ret
      exact ⟨by rw [e.out]; rfl, (HB3 _ _ _).out⟩
  · have e : Hid (flagB f = false) := by show _ = _; simp [flagB]; omega
    have h3' : decide (0 ≤ f) = false := by simpa using h3
    go_enter Tryz.func184, Tryz.ntmps184
    go_wp2_with fail
    refine (areWords_any (w.heap.size + 1) [a, b] _ (two_cells1 _ _ _ _ _) (by simp)).mono ?_
    rintro e w1 ⟨rfl, rfl⟩
    rw [h1]
    go_wp2_with fail
    refine (areAddrs_any (w.heap.size + 2) [q, k] _ (two_cells2 _ _ _ _ _ _) (by simp)).mono ?_
    rintro e w1 ⟨rfl, rfl⟩
    rw [h2]
    go_wp2
    go_ret
    exact ⟨by rw [e.out]; rfl, (HB3 _ _ _).out⟩

theorem udpRight_any (a b : Int) (s : ByteArray) (w : World) :
    Calls Tryz.prog 187 #[.agg #[.int .i64 a, .int .i64 b, .string s]] w fun e w' => e = .returned (.bool (allW [a, b])) ∧ Below w.heap.size w w' := by
  have HB2 := fun o o2 => hidS (((Below.refl w.heap.size w).alloc (Nat.le_refl _) o).alloc (by simp) o2)
  go_enter Tryz.func187, Tryz.ntmps187
  go_wp2_with fail
  refine (areWords_any (w.heap.size + 1) [a, b] _ (two_cells1 _ _ _ _ _) (by simp)).mono ?_
  rintro e w1 ⟨rfl, rfl⟩
  go_wp2
  go_ret
  exact ⟨rfl, (HB2 _ _).out⟩

theorem errRight_any (s : ByteArray) (w : World) (hs : s.size ≤ maxLen) :
    Calls Tryz.prog 190 #[.agg #[.string s]] w fun e w' => e = .returned (.bool (decide (28 ≤ s.size))) ∧ Below w.heap.size w w' := by
  have hs' : s.size ≤ 2 ^ 63 - 1 := hs
  have HB := fun o => hidS ((Below.refl w.heap.size w).alloc (Nat.le_refl _) o)
  have e : Hid (decide ((28 : Int) ≤ (s.size : Int)) = decide (28 ≤ s.size)) := by show _ = _; rw [decide_eq_decide]; omega
  go_enter Tryz.func190, Tryz.ntmps190
  go_wp2
  go_ret
  exact ⟨by rw [← e.out]; rfl, (HB _).out⟩

theorem echoRight_any (c a q : Int) (s : ByteArray) (w : World) :
    Calls Tryz.prog 193 #[.agg #[.int .i64 c, .int .i64 a, .int .i64 q, .string s]] w fun e w' => e = .returned (.bool ((decide (c = 8) || decide (c = 0)) && allW [a, q])) ∧ Below w.heap.size w w' := by
  have HB := fun o => hidS ((Below.refl w.heap.size w).alloc (Nat.le_refl _) o)
  have HB2 := fun o o2 => hidS (((Below.refl w.heap.size w).alloc (Nat.le_refl _) o).alloc (by simp) o2)
  have HE := hidS (isEcho_any c)
  show Calls Tryz.prog 193 #[.agg #[.int .i64 c, .int .i64 a, .int .i64 q, .string s]] w fun e w' => e = .returned (.bool (echoB c && allW [a, q])) ∧ Below w.heap.size w w'
  cases h : echoB c
  · rw [h] at HE
    go_enter Tryz.func193, Tryz.ntmps193
    go_wp2_with fail
    refine (HE.out _).mono ?_
    rintro _ w1 ⟨rfl, rfl⟩
    go_wp2_with fail
    go_ret
    exact ⟨rfl, (HB _).out⟩
  · rw [h] at HE
    go_enter Tryz.func193, Tryz.ntmps193
    go_wp2_with fail
    refine (HE.out _).mono ?_
    rintro _ w1 ⟨rfl, rfl⟩
    go_wp2_with fail
    refine (areWords_any (w.heap.size + 1) [a, q] _ (two_cells1 _ _ _ _ _) (by simp)).mono ?_
    rintro e w1 ⟨rfl, rfl⟩
    go_wp2
    go_ret
    exact ⟨by simp, (HB2 _ _).out⟩

theorem tcpFields_any (a b q k f : Int) (s : ByteArray) (w : World) :
    Calls Tryz.prog 183 #[.agg #[.int .i64 a, .int .i64 b, .int .i64 q, .int .i64 k, .int .i64 f, .string s]] w fun e w' => e = .returned (.agg #[.int .i64 0, .int .i64 0, .int .i64 6, .int .i64 a, .int .i64 b, .int .i64 0, .int .i64 f, .int .i64 q, .int .i64 k, .string s]) ∧ Below w.heap.size w w' := by
  go_enter Tryz.func183, Tryz.ntmps183
  go_wp2
  go_returns
  exact ⟨rfl, by go_grown⟩
theorem udpFields_any (a b : Int) (s : ByteArray) (w : World) :
    Calls Tryz.prog 186 #[.agg #[.int .i64 a, .int .i64 b, .string s]] w fun e w' => e = .returned (.agg #[.int .i64 0, .int .i64 0, .int .i64 17, .int .i64 a, .int .i64 b, .int .i64 0, .int .i64 0, .int .i64 0, .int .i64 0, .string s]) ∧ Below w.heap.size w w' := by
  go_enter Tryz.func186, Tryz.ntmps186
  go_wp2
  go_returns
  exact ⟨rfl, by go_grown⟩
theorem errFields_any (s : ByteArray) (w : World) :
    Calls Tryz.prog 189 #[.agg #[.string s]] w fun e w' => e = .returned (.agg #[.int .i64 0, .int .i64 0, .int .i64 1, .int .i64 0, .int .i64 0, .int .i64 3, .int .i64 0, .int .i64 0, .int .i64 0, .string s]) ∧ Below w.heap.size w w' := by
  go_enter Tryz.func189, Tryz.ntmps189
  go_wp2
  go_returns
  exact ⟨rfl, by go_grown⟩
theorem echoFields_any (c a q : Int) (s : ByteArray) (w : World) :
    Calls Tryz.prog 192 #[.agg #[.int .i64 c, .int .i64 a, .int .i64 q, .string s]] w fun e w' => e = .returned (.agg #[.int .i64 0, .int .i64 0, .int .i64 1, .int .i64 a, .int .i64 0, .int .i64 c, .int .i64 0, .int .i64 q, .int .i64 0, .string s]) ∧ Below w.heap.size w w' := by
  go_enter Tryz.func192, Tryz.ntmps192
  go_wp2
  go_returns
  exact ⟨rfl, by go_grown⟩
end Go.Proofs.YtedknnkdnccfmaaGreatDoor
end

section
namespace Go.Proofs.YtedknnkdnccfmaaGreatDoor
open Go.ChangeShapes Go.WideShapes Go.ChangeAt Go.RowKit
set_option linter.unusedVariables false

theorem meth_tcp_right (v : Value) (W : World) : (method 327 109 v "loop.example/g00542/impl.right").run Tryz.prog W = .ok (184, v) W := by kernel_rfl
theorem meth_tcp_fields (v : Value) (W : World) : (method 327 109 v "loop.example/g00542/impl.fields").run Tryz.prog W = .ok (183, v) W := by kernel_rfl
theorem meth_udp_right (v : Value) (W : World) : (method 327 111 v "loop.example/g00542/impl.right").run Tryz.prog W = .ok (187, v) W := by kernel_rfl
theorem meth_udp_fields (v : Value) (W : World) : (method 327 111 v "loop.example/g00542/impl.fields").run Tryz.prog W = .ok (186, v) W := by kernel_rfl
theorem meth_err_right (v : Value) (W : World) : (method 327 113 v "loop.example/g00542/impl.right").run Tryz.prog W = .ok (190, v) W := by kernel_rfl
theorem meth_err_fields (v : Value) (W : World) : (method 327 113 v "loop.example/g00542/impl.fields").run Tryz.prog W = .ok (189, v) W := by kernel_rfl
theorem meth_echo_right (v : Value) (W : World) : (method 327 115 v "loop.example/g00542/impl.right").run Tryz.prog W = .ok (193, v) W := by kernel_rfl
theorem meth_echo_fields (v : Value) (W : World) : (method 327 115 v "loop.example/g00542/impl.fields").run Tryz.prog W = .ok (192, v) W := by kernel_rfl
theorem enter_tcp_right (v : Value) (W : World) : (callFunc 184 #[v]).run Tryz.prog W = .ok (.enter 184 #[v]) W := by kernel_rfl
theorem enter_tcp_fields (v : Value) (W : World) : (callFunc 183 #[v]).run Tryz.prog W = .ok (.enter 183 #[v]) W := by kernel_rfl
theorem enter_udp_right (v : Value) (W : World) : (callFunc 187 #[v]).run Tryz.prog W = .ok (.enter 187 #[v]) W := by kernel_rfl
theorem enter_udp_fields (v : Value) (W : World) : (callFunc 186 #[v]).run Tryz.prog W = .ok (.enter 186 #[v]) W := by kernel_rfl
theorem enter_err_right (v : Value) (W : World) : (callFunc 190 #[v]).run Tryz.prog W = .ok (.enter 190 #[v]) W := by kernel_rfl
theorem enter_err_fields (v : Value) (W : World) : (callFunc 189 #[v]).run Tryz.prog W = .ok (.enter 189 #[v]) W := by kernel_rfl
theorem enter_echo_right (v : Value) (W : World) : (callFunc 193 #[v]).run Tryz.prog W = .ok (.enter 193 #[v]) W := by kernel_rfl
theorem enter_echo_fields (v : Value) (W : World) : (callFunc 192 #[v]).run Tryz.prog W = .ok (.enter 192 #[v]) W := by kernel_rfl
end Go.Proofs.YtedknnkdnccfmaaGreatDoor
end
